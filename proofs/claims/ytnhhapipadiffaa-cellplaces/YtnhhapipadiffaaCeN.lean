/-
  Layer 10, the landed cell: isNoughts, Place, Number.
  Layer 10, the landed cell: bytes in a block of their own; lay, take.
  Layer 10, the landed cell: the iterator that goes through a page's cells.
-/
import Derived.Test.YtnhhapipadiffaaCeG
import Derived.Test.YtnhhapipadiffaaRng
namespace Go.Proofs.Ytnhhapipadiffaa
open Go.RowKit

theorem zerosB_no {xs : List Nat} {i : Nat} (h : i < xs.length) (hx : xs.getD i 0 ≠ 0) : zerosB xs = false := by
  unfold zerosB
  rw [List.all_eq_false]
  refine ⟨xs.getD i 0, ?_, by simpa using hx⟩
  simp [List.getD, h]
theorem zerosB_yes {xs : List Nat} (h : ∀ i, i < xs.length → xs.getD i 0 = 0) : zerosB xs = true := by
  unfold zerosB
  rw [List.all_eq_true]
  intro x hx
  obtain ⟨i, hi, e⟩ := List.mem_iff_getElem.1 hx
  have := h i hi
  simp [List.getD, hi] at this
  simp [← e, this]

set_option maxHeartbeats 4000000 in
theorem isNC_any (w : World) (x : Nat) : Calls Try.prog 35 #[.int .u8 ((x : Nat) : Int)] w fun e w' => e = .returned (.bool (!(x == 0))) ∧ w' = w := by
  by_cases h : x = 0
  · subst h
    go_enter Try.func35, Try.ntmps35
    go_wp2_with fail
    go_ret
    exact ⟨rfl, rfl⟩
  · have i1 : ¬ ((x : Nat) : Int) = 0 := by omega
    have i2 : (x == 0) = false := by simp [h]
    rw [i2]
    go_enter Try.func35, Try.ntmps35
    go_wp2_with fail
    go_ret
    exact ⟨by simp [h], rfl⟩

set_option maxHeartbeats 4000000 in
theorem idxNC_any (w : World) (a : Option Addr) (len cap : Nat) (xs : List Nat) (h : Bs w a len xs) (hbig : len ≤ 1000000) :
    Calls Try.prog 53 #[.slice a len cap, .func (.func 35) #[] #[]] w fun e w' => (∃ z, e = .returned (.int .i64 z) ∧ decide (0 ≤ z) = !(zerosB xs)) ∧ w' = w := by
  have HG := hide h
  have HL := hide h.1
  clear h
  go_enter Try.func53, Try.ntmps53
  go_wp2_with fail
  go_loopw [8] (fun iv wr => wr = w ∧ ∃ i : Nat, i ≤ len ∧ iv = .int .i64 (i : Nat) ∧ Hid (∀ j, j < i → xs.getD j 0 = 0)) (fun iv _ => len - (intOf iv).toNat)
  case atStart => exact ⟨rfl, 0, Nat.zero_le _, rfl, fun _ h => absurd h (Nat.not_lt_zero _)⟩
  case round =>
    obtain ⟨rfl, i, hi, rfl, hix⟩ := hrel
    rcases Nat.lt_or_ge i len with hlt | hge
    · have i1 : ((i : Nat) : Int) < ((len : Nat) : Int) := by omega
      obtain ⟨bb, oo, ha, c0⟩ := HG.out.2.2 i hlt
      subst ha
      obtain ⟨x, hx⟩ : ∃ x, x = xs.getD i 0 := ⟨_, rfl⟩
      rw [← hx] at c0
      have HX := hide hx
      have HCL := hide (isNC_any wr x)
      clear hx
      by_cases h0 : x = 0
      · rw [h0] at HCL c0
        have HE : Hid (∀ j, j < i + 1 → xs.getD j 0 = 0) := by
          intro j hj
          by_cases e : j = i
          · rw [e, ← HX.out]; exact h0
          · exact hix.out j (by omega)
        clear hix HX h0
        go_wp2_with fail
        refine HCL.out.mono ?_
        rintro e w1 ⟨rfl, hw⟩
        obtain rfl := hw.symm
        go_wp2_with fail
        go_roundw
        case rel => exact ⟨trivial, i + 1, by omega, by go_num, HE⟩
        case measure => simp only [intOf]; omega
      · have hb : (!(x == 0)) = true := by simp [h0]
        rw [hb] at HCL
        have HE : Hid (decide (0 ≤ ((i : Nat) : Int)) = !(zerosB xs)) := by
          show _ = _
          rw [zerosB_no (i := i) (by rw [HL.out]; exact hlt) (by rw [← HX.out]; exact h0)]
          simp
        clear hix HX h0 hb
        go_wp2_with fail
        refine HCL.out.mono ?_
        rintro e w1 ⟨rfl, hw⟩
        obtain rfl := hw.symm
        go_wp2_with fail
        go_ret
        exact ⟨⟨_, rfl, HE.out⟩, rfl⟩
    · have i1 : ¬ ((i : Nat) : Int) < ((len : Nat) : Int) := by omega
      have HE : Hid (decide (0 ≤ (-1 : Int)) = !(zerosB xs)) := by
        show _ = _
        rw [zerosB_yes (fun j hj => hix.out j (by rw [HL.out] at hj; omega))]
        rfl
      clear hix
      go_wp2_with fail
      go_ret
      exact ⟨⟨_, rfl, HE.out⟩, rfl⟩

set_option maxHeartbeats 4000000 in
theorem noughtsC_any (w : World) (a : Option Addr) (len cap : Nat) (xs : List Nat) (h : Bs w a len xs) (hbig : len ≤ 1000000) :
    Calls Try.prog 21 #[.slice a len cap] w fun e w' => e = .returned (.bool (zerosB xs)) ∧ w' = w := by
  have HX := hide (idxNC_any w a len cap xs h hbig)
  obtain ⟨b, hb⟩ : ∃ b, b = zerosB xs := ⟨_, rfl⟩
  rw [← hb] at HX
  rw [← hb]
  clear h hb
  have HC : Hid (Calls Try.prog 34 #[.slice a len cap, .func (.func 35) #[] #[]] w fun e w' => e = .returned (.bool (!b)) ∧ w' = w) := by
    show Calls _ _ _ _ _
    go_enter Try.func34, Try.ntmps34
    go_wp2_with fail
    refine HX.out.mono ?_
    rintro e w1 ⟨⟨z, rfl, hz⟩, hw⟩
    obtain rfl := hw.symm
    have HZ := hide hz
    clear hz
    go_wp2_with fail
    go_ret
    exact ⟨by rw [← HZ.out]; rfl, rfl⟩
  clear HX
  go_enter Try.func21, Try.ntmps21
  go_wp2_with fail
  refine HC.out.mono ?_
  rintro e w1 ⟨rfl, hw⟩
  obtain rfl := hw.symm
  cases b with
  | true =>
    go_wp2_with fail
    go_ret
    exact ⟨rfl, rfl⟩
  | false =>
    go_wp2_with fail
    go_ret
    exact ⟨rfl, rfl⟩

set_option maxHeartbeats 4000000 in
theorem plaC_holds : PlaC := by
  intro n w hn
  by_cases h1 : n < 1
  · have e1 : plP n = -1 := by unfold plP; rw [if_neg (by omega)]
    have e2 : plA n = -1 := by unfold plA; rw [if_neg (by omega)]
    rw [e1, e2]
    go_enter Try.func14, Try.ntmps14
    go_wp2_with fail
    go_ret2
    exact ⟨rfl, Below.refl _ _⟩
  · by_cases h2 : 65535 < n
    · have e1 : plP n = -1 := by unfold plP; rw [if_neg (by omega)]
      have e2 : plA n = -1 := by unfold plA; rw [if_neg (by omega)]
      have h1' : 1 ≤ n := by omega
      rw [e1, e2]
      go_enter Try.func14, Try.ntmps14
      go_wp2_with fail
      go_ret2
      exact ⟨rfl, Below.refl _ _⟩
    · have h1' : 1 ≤ n := by omega
      have h2' : n ≤ 65535 := by omega
      have e1 : plP n = (n - 1) / 6 := by unfold plP; rw [if_pos ⟨h1', h2'⟩]
      have e2 : plA n = (n - 1) % 6 := by unfold plA; rw [if_pos ⟨h1', h2'⟩]
      rw [e1, e2]
      clear e1 e2
      go_enter Try.func14, Try.ntmps14
      go_wp2_with fail
      go_ret2
      exact ⟨rfl, Below.refl _ _⟩

set_option maxHeartbeats 4000000 in
theorem nuC_holds : NuC := by
  intro p a w hp ha
  by_cases h : 0 ≤ p ∧ p ≤ 10922 ∧ 0 ≤ a ∧ a ≤ 5
  · obtain ⟨h1, h2, h3, h4⟩ := h
    by_cases h5 : 6 * p + a ≤ 65534
    · have e : nuC p a = 6 * p + a + 1 := by unfold nuC; rw [if_pos ⟨h1, h2, h3, h4, h5⟩]
      rw [e]
      clear e
      go_enter Try.func15, Try.ntmps15
      go_wp2_with fail
      go_ret
      refine ⟨?_, Below.refl _ _⟩
      rw [show (6 * p + a + 1 : Int) = 1 + p * 6 + a by omega]
      rfl
    · have e : nuC p a = 0 := by unfold nuC; rw [if_neg (by omega)]
      rw [e]
      clear e
      go_enter Try.func15, Try.ntmps15
      go_wp2_with fail
      go_ret
      exact ⟨rfl, Below.refl _ _⟩
  · have e : nuC p a = 0 := by unfold nuC; rw [if_neg (by omega)]
    rw [e]
    clear e
    by_cases h1 : p < 0
    · go_enter Try.func15, Try.ntmps15
      go_wp2_with fail
      go_ret
      exact ⟨rfl, Below.refl _ _⟩
    · have h1' : 0 ≤ p := by omega
      by_cases h2 : 10922 < p
      · go_enter Try.func15, Try.ntmps15
        go_wp2_with fail
        go_ret
        exact ⟨rfl, Below.refl _ _⟩
      · have h2' : p ≤ 10922 := by omega
        by_cases h3 : a < 0
        · go_enter Try.func15, Try.ntmps15
          go_wp2_with fail
          go_ret
          exact ⟨rfl, Below.refl _ _⟩
        · have h3' : 0 ≤ a := by omega
          have h4 : 6 ≤ a := by omega
          go_enter Try.func15, Try.ntmps15
          go_wp2_with fail
          go_ret
          exact ⟨rfl, Below.refl _ _⟩

end Go.Proofs.Ytnhhapipadiffaa

namespace Go.Proofs.Ytnhhapipadiffaa
open Go.RowKit

/-- Bytes that fill a block. -/
def Blk (w : World) (g : Nat) (t : List Nat) : Prop := w.heap[g]? = some (Obj.cells (vals t).toArray 5 (0, 0))

theorem Blk.lt {w : World} {g : Nat} {t : List Nat} (h : Blk w g t) : g < w.heap.size := (Array.getElem?_eq_some_iff.1 h).1
theorem Blk.keep {w w' : World} {g : Nat} {t : List Nat} (h : Blk w g t) (hb : Below w.heap.size w w') : Blk w' g t := (hb.block g h.lt).trans h
theorem Blk.cell {w : World} {g : Nat} {t : List Nat} (h : Blk w g t) {i : Nat} (hi : i < t.length) : w.cell? ⟨g, i, none⟩ = some (.int .u8 (t.getD i 0 : Nat)) := by
  rw [cell_of_row _ _ _ _ _ _ h]
  simpa using vals_get hi
theorem Blk.fz {w : World} {g : Nat} {t : List Nat} (h : Blk w g t) (i : Nat) : w.frozen? ⟨g, i, none⟩ = false := frozen_of_row w g _ _ _ h
theorem Blk.came {w : World} {g : Nat} {t : List Nat} (h : Blk w g t) (hb : Bytes t) (o n cap : Nat) (h1 : o + n ≤ t.length) (h2 : n ≤ cap) (h3 : n ≤ 1000000) : Came w (some ⟨g, o, none⟩) n cap ((t.drop o).take n) := by
  refine ⟨⟨by rw [List.length_take, List.length_drop]; omega, fun x hx => hb x (List.mem_of_mem_drop (List.mem_of_mem_take hx)), fun i hi => ⟨g, o, rfl, ?_⟩⟩, (fun e => by cases e), h2, by omega⟩
  rw [h.cell (by omega)]
  simp [List.getD, hi]

theorem Blk.set {w : World} {g : Nat} {t : List Nat} (h : Blk w g t) (o n : Nat) (ho : o < t.length) : ∃ W, (Instr.storeAt 5 (.pointer (some ⟨g, o, none⟩)) (.int .u8 ((n : Nat) : Int))).run Try.prog w = .ok () W ∧ Blk W g (t.set o n) ∧ Frm (fun k => k = g) w W ∧ W.heap.size = w.heap.size := by
  have c0 := h.cell ho
  have f0 := h.fz o
  refine ⟨w.setCell ⟨g, o, none⟩ (.int .u8 ((n : Nat) : Int)), by simp [go_sem, Instr.storeAt, stored, c0, f0], ?_, Frm.setCell (F := fun k => k = g) (Frm.refl _ w) (p := ⟨g, o, none⟩) rfl _, setCell_size _ _ _⟩
  unfold Blk
  rw [← vals_set]
  have := heap_setCell_same w g o _ 5 (.int .u8 ((n : Nat) : Int)) h
  rw [this]
  simp

theorem Blk.copy {w : World} {g : Nat} {t : List Nat} (h : Blk w g t) (o dl dc : Nat) (ho : o + dl ≤ t.length) (a : Option Addr) (len cap : Nat) (ys : List Nat) (hy : Came w a len cap ys) (h0 : 0 < len) (hl : len ≤ dl) :
    ∃ v W, (∀ ty, (Builtin.copy_ #[32, 32] ty #[.slice (some ⟨g, o, none⟩) dl dc, .slice a len cap]).run Try.prog w = .ok v W) ∧ Blk W g (splice t o ys) ∧ Frm (fun k => k = g) w W := by
  have hinfo : (Try.prog.info? 5).map (·.size) = some 1 := by kernel_rfl
  have hyl := hy.bs.1
  obtain ⟨b, of', rfl, _⟩ := hy.bs.2.2 0 h0
  have hsrc : ∀ j v, (vals ys)[j]? = some v → w.cell? ((⟨b, of', none⟩ : Addr).add j) = some v := by
    intro j v hj
    have hjl : j < ys.length := by
      have := (List.getElem?_eq_some_iff.1 hj).1
      simpa [vals] using this
    rw [Addr.add_lit, hy.bs.at j (by omega)]
    rw [vals_get hjl] at hj
    exact hj
  have hlen : (vals ys).length = Nat.min len dl := by
    rw [vals_length, hyl]
    exact (Nat.min_eq_left hl).symm
  have hfit : o + (vals ys).length ≤ (vals t).toArray.size := by
    rw [vals_length, List.size_toArray, vals_length]
    omega
  obtain ⟨hf1, hf2⟩ := setRow_frm h ((vals t).toArray.toList.take o ++ vals ys ++ (vals t).toArray.toList.drop (o + (vals ys).length)).toArray
  refine ⟨_, _, fun ty => run_copy_row (P := Try.prog) w 32 32 ty 5 g o dl dc ⟨b, of', none⟩ len cap (vals t).toArray 5 (vals ys) Try.underlying32 hinfo h hlen hsrc hfit (vals_one ys), ?_, hf1⟩
  unfold Blk
  rw [hf2, ← vals_splice]
  rfl

/-- An undoing laid into a cell. -/
def putC (t : List Nat) (o : Nat) (u : Un) : List Nat := t.take o ++ (cellB u ++ t.drop (o + 72))

/-- The cell at o is empty, or it is u's already. -/
def RoomOk (t : List Nat) (o : Nat) (u : Un) : Prop := (t.drop o).take 72 = List.replicate 72 0 ∨ (t.drop o).take 72 = cellB u

theorem putC_zero {t : List Nat} {o : Nat} {u : Un} (hz : RoomOk t o u) (hs : u.same zeroU = true) : putC t o u = t := by
  have e : cellB u = List.replicate 72 0 := by
    unfold cellB
    rw [Un.cellX_zero hs]
    rfl
  have hz' : (t.drop o).take 72 = cellB u := by
    rcases hz with h | h
    · rw [h, e]
    · exact h
  unfold putC
  rw [← hz', ← List.drop_drop, List.take_append_drop, List.take_append_drop]

theorem putC_some {t : List Nat} {o : Nat} {u : Un} (hz : RoomOk t o u) (ho : o + 72 ≤ t.length) (hm : u.may = true) : splice (t.set o u.bytes.length) (o + 1) u.bytes = putC t o u := by
  have h66 := Un.bytes_66 hm
  have hx : u.cellX = u.bytes := Un.cellX_some (Un.may_ne hm)
  unfold splice putC cellB
  rw [hx]
  have e1 : (t.set o u.bytes.length).take (o + 1) = t.take o ++ [u.bytes.length] := by
    rw [List.take_add_one, List.take_set_of_le (Nat.le_refl _), List.getElem?_set_self (by omega)]
    rfl
  have e2 : (t.set o u.bytes.length).drop (o + 1 + u.bytes.length) = List.replicate (71 - u.bytes.length) 0 ++ t.drop (o + 72) := by
    rw [List.drop_set_of_lt (by omega)]
    have : t.drop (o + 1 + u.bytes.length) = ((t.drop o).take 72).drop (1 + u.bytes.length) ++ t.drop (o + 72) := by
      rw [List.drop_take, List.drop_drop, ← Nat.add_assoc]
      have := (List.take_append_drop (72 - (1 + u.bytes.length)) (t.drop (o + 1 + u.bytes.length))).symm
      rw [List.drop_drop, show o + 1 + u.bytes.length + (72 - (1 + u.bytes.length)) = o + 72 by omega] at this
      exact this
    rw [this]
    congr 1
    rcases hz with h | h
    · rw [h, List.drop_replicate]
      congr 1
      omega
    · rw [h]
      unfold cellB
      rw [hx, Nat.add_comm, List.drop_succ_cons, List.drop_left]
  rw [e1, e2]
  simp

theorem putC_len {t : List Nat} {o : Nat} {u : Un} (ho : o + 72 ≤ t.length) (hi : u.inC = true) : (putC t o u).length = t.length := by
  unfold putC
  simp only [List.length_append, List.length_take, List.length_drop]
  rw [cellB_len hi]
  omega

theorem putC_bytes {t : List Nat} {o : Nat} {u : Un} (hb : Bytes t) (hi : u.inC = true) : Bytes (putC t o u) := by
  intro x hx
  unfold putC at hx
  rcases List.mem_append.1 hx with h | h
  · exact hb x (List.mem_of_mem_take h)
  · rcases List.mem_append.1 h with h | h
    · exact cellB_bytes hi x h
    · exact hb x (List.mem_of_mem_drop h)

theorem encodeU_far (u : Un) (a : Option Addr) (len cap : Nat) (w : World) (h : Fs w a len cap u.row.xs) (hf : u.fits) (hm : u.may = true) :
    Calls Try.prog 32 #[u.val (.slice a len cap)] w fun e w' => ∃ (b n c : Nat), e = .returned (.tuple #[.slice (some ⟨b, 0, none⟩) n c, .int .i64 0]) ∧ Below w.heap.size w w' ∧ w.heap.size ≤ b ∧ Enc w' (some ⟨b, 0, none⟩) n c u := by
  refine (encodeU_any u a len cap w h hf).mono ?_
  rintro e w' ⟨v, rfl, hb, ho, _⟩
  have h66 := Un.bytes_66 hm
  obtain ⟨x, c, rfl, hc⟩ := (ho hm).cameN (Un.bytes_bytes hm) rfl (by omega)
  obtain ⟨g, cp, hv, hbase, _⟩ := (ho hm).pos (by have := Un.bytes_len u; omega)
  simp only [Value.slice.injEq] at hv
  obtain ⟨rfl, _, rfl⟩ := hv
  rw [hm]
  exact ⟨g, _, c, rfl, hb, hbase, hc, rfl, h66⟩

theorem Came.other {w W : World} {b o n c g : Nat} {ys : List Nat} (h : Came w (some ⟨b, o, none⟩) n c ys) (hf : Frm (fun k => k = g) w W) (hb : b ≠ g) : Came W (some ⟨b, o, none⟩) n c ys := by
  refine ⟨⟨h.bs.1, h.bs.2.1, fun i hi => ?_⟩, h.nil, h.le, h.big⟩
  obtain ⟨b', off, ha, hc⟩ := h.bs.2.2 i hi
  refine ⟨b', off, ha, ?_⟩
  cases ha
  rw [← hc]
  have e := hf.block b (World.block_lt_of_cell? _ _ hc) hb
  simp only [World.cell?, e]

/-- What lay tells. -/
def LayTold (g o : Nat) (t : List Nat) (u : Un) (w : World) (e : Ending) (w' : World) : Prop :=
  (u.inC = true ∧ e = .returned (.int .i64 0) ∧ Blk w' g (putC t o u) ∧ Frm (fun k => k = g) w w') ∨ (u.inC = false ∧ e = .returned (.int .i64 1) ∧ Below w.heap.size w w')

set_option maxHeartbeats 4000000 in
set_option maxRecDepth 100000 in
theorem layC_any (g o cap : Nat) (t : List Nat) (x : Ux) (w : World) (hg : Blk w g t) (ho : o + 72 ≤ t.length) (hcap : 72 ≤ cap) (hz : RoomOk t o x.u) (hx : Fs w x.a x.n x.c x.u.row.xs) (hf : x.u.fits) :
    Calls Try.prog 18 #[.slice (some ⟨g, o, none⟩) 72 cap, x.val] w (LayTold g o t x.u w) := by
  have HG := hide hg
  have HZ := hide hz
  have HO := hide ho
  have HFS := hide hx
  have HF := hide hf
  have HS : Hid (∀ w', Below w.heap.size w w' → Calls Try.prog 31 #[x.u.val (.slice x.a x.n x.c), .agg #[.int .i64 0, .int .i64 0, .int .i64 0, .int .i64 0, .int .i64 0, .int .i64 0, .float .f64 0, .bool false, .slice none 0 0, .int .i64 0, .int .i64 0, .int .i64 0]] w' fun e w'' => e = .returned (.bool (x.u.same zeroU)) ∧ Below w'.heap.size w' w'') := fun w' hb => unSame_any x.u zeroU x.a x.n x.c none 0 0 w' (hx.keep hb (Nat.le_refl _)) (fs_nil w')
  have HX := hide (unBlk_new w x.u (.slice x.a x.n x.c))
  have HW : Hid (∀ o, Below w.heap.size w (w.alloc o)) := below_alloc w
  clear hg hz ho hx hf
  unfold Ux.val
  cases hs : x.u.same zeroU
  · rw [hs] at HS
    have HNS := hide hs
    clear hs
    unfold Un.val at HS ⊢
    go_enter Try.func18, Try.ntmps18
    go_wp2_with fail
    refine (HS.out _ (HW.out _)).mono ?_
    rintro e w2 ⟨rfl, hb2⟩
    have HW2 := hide (rBelow (HW.out _) hb2)
    have HLD := hide (load_un w.heap.size x.u (.slice x.a x.n x.c) ⟨_, _, _, rfl⟩ w2 (HX.out.keep hb2))
    clear hb2 HS HW HX
    cases hm : x.u.may
    · have HE := hide (encodeU_no x.u x.a x.n x.c w2 (HFS.out.keep HW2.out (Nat.le_refl _)) HF.out hm)
      have HI : Hid (x.u.inC = false) := by show _ = _; unfold Un.inC; rw [HNS.out, hm]; rfl
      clear hm
      go_wp2_with (refine wpList_load _ rfl 30 (.tmp 3) rfl (.pointer (some ⟨w.heap.size, 0, none⟩)) (x.u.val (.slice x.a x.n x.c)) rfl HLD.out ?_)
      refine HE.out.mono ?_
      rintro e w3 ⟨rfl, hb3⟩
      have HW3 := hide (rBelow HW2.out hb3)
      clear hb3 HLD HE
      go_wp2_with fail
      go_ret
      exact .inr ⟨HI.out, rfl, HW3.out⟩
    · have HE := hide (encodeU_far x.u x.a x.n x.c w2 (HFS.out.keep HW2.out (Nat.le_refl _)) HF.out hm)
      have HI : Hid (x.u.inC = true) := Un.may_inC hm
      have HM := hide hm
      clear hm
      go_wp2_with (refine wpList_load _ rfl 30 (.tmp 3) rfl (.pointer (some ⟨w.heap.size, 0, none⟩)) (x.u.val (.slice x.a x.n x.c)) rfl HLD.out ?_)
      refine HE.out.mono ?_
      rintro e w3 ⟨p, n, c, rfl, hb3, hp3, henc⟩
      have HW3 := hide (rBelow HW2.out hb3)
      have hg3 := HG.out.keep HW3.out
      have hn66 := henc.few
      have hnl := henc.len
      have hbl := Un.bytes_len x.u
      have hpg : p ≠ g := by have := HG.out.lt; have := HW2.out.size; omega
      obtain ⟨w4, hst4, hg4, hf4, _⟩ := hg3.set o n (by have := HO.out; omega)
      have hc4 := henc.came.other hf4 hpg
      obtain ⟨v5, w5, hcp5, hg5, hf5⟩ := hg4.copy (o + 1) 71 (cap - 1) (by have := HO.out; rw [List.length_set]; omega) (some ⟨p, 0, none⟩) n c x.u.bytes hc4 (by omega) (by omega)
      rw [hnl, putC_some HZ.out HO.out HM.out] at hg5
      have HB5 := hide hg5
      have HF5 : Hid (Frm (fun k => k = g) w w5) := ((Frm.ofBelow HW3.out).trans hf4 (fun _ _ h => h)).trans hf5 (fun _ _ h => h)
      have HST := hide hst4
      have HCP := hide hcp5
      have HSL : Hid ((Instr.sliceAt 32 (.slice (some ⟨g, o, none⟩) 72 cap) (some (.int .i64 1)) none none).run Try.prog w4 = .ok (.slice (some ⟨g, o + 1, none⟩) 71 (cap - 1)) w4) := by
        have h := slice_from (some ⟨g, o, none⟩) 72 cap 1 (by omega) w4
        have e : fromA (some ⟨g, o, none⟩) cap 1 = some ⟨g, o + 1, none⟩ := by unfold fromA; rw [if_neg (by omega)]; rfl
        rw [e] at h
        exact h
      clear hb3 hp3 henc hg3 hbl hpg hst4 hg4 hf4 hc4 hcp5 hg5 hf5 hnl HLD HE
      go_wp2_with (first | refine wpList_store _ rfl rfl 5 (.tmp 22) (.tmp 21) rfl (.pointer (some ⟨g, o, none⟩)) (.int .u8 ((n : Nat) : Int)) rfl rfl w4 HST.out ?_ | refine wpList_slice _ rfl 32 (.tmp 23) (some (.const (.int .i64 1))) none rfl (.slice (some ⟨g, o + 1, none⟩) 71 (cap - 1)) HSL.out ?_ | refine wpList_copy _ rfl 32 (.tmp 24) (.tmp 25) rfl v5 w5 HCP.out ?_)
      go_ret
      exact .inl ⟨HI.out, rfl, HB5.out, HF5.out⟩
  · rw [hs] at HS
    have HNS := hide hs
    clear hs
    have HI : Hid (x.u.inC = true) := by show _ = _; unfold Un.inC; rw [HNS.out]; rfl
    unfold Un.val at HS ⊢
    go_enter Try.func18, Try.ntmps18
    go_wp2_with fail
    refine (HS.out _ (HW.out _)).mono ?_
    rintro e w2 ⟨rfl, hb2⟩
    have HW2 := hide (rBelow (HW.out _) hb2)
    clear hb2 HS HW HX
    go_wp2_with fail
    go_ret
    refine .inl ⟨HI.out, rfl, ?_, Frm.ofBelow HW2.out⟩
    rw [putC_zero HZ.out HNS.out]
    exact HG.out.keep HW2.out

end Go.Proofs.Ytnhhapipadiffaa

namespace Go.Proofs.Ytnhhapipadiffaa
open Go.RowKit Go.Shelf

attribute [local go_sem] Oper.semAt_some

/-- Which cell. -/
abbrev Six := { i : Nat // i < 6 }
/-- What a round is told: which cell, and its bytes. -/
def roomV (g cap : Nat) (x : Six) : Array Value := #[.int .i64 ((x.1 : Nat) : Int), .slice (some ⟨g, 1 + 72 * x.1, none⟩) 72 (cap - (1 + 72 * x.1))]
/-- The first k cells. -/
def uptoC (k : Nat) (h : k ≤ 6) : List Six := (List.range k).attach.map fun x => ⟨x.1, by have := List.mem_range.1 x.2; omega⟩
theorem uptoC_len (k : Nat) (h : k ≤ 6) : (uptoC k h).length = k := by simp [uptoC]
theorem uptoC_vals (k : Nat) (h : k ≤ 6) : (uptoC k h).map (·.1) = List.range k := by
  unfold uptoC
  rw [List.map_map]
  exact List.attach_map_subtype_val _
theorem uptoC_succ (k : Nat) (h : k + 1 ≤ 6) : uptoC (k + 1) h = uptoC k (by omega) ++ [⟨k, by omega⟩] := by
  have hinj : ∀ {a b : List Six}, a.map (·.1) = b.map (·.1) → a = b := fun {a b} e => (List.map_inj_right (fun x y h => Subtype.ext h)).1 e
  apply hinj
  rw [List.map_append, uptoC_vals, uptoC_vals, List.range_succ]
  rfl

/-- The box that the iterator's maker laid. -/
def BoxS (w : World) (b : Nat) (v : Value) : Prop := w.heap[b]? = some (Obj.cells #[v] 32 (0, 0))
theorem BoxS.cell {w : World} {b : Nat} {v : Value} (h : BoxS w b v) : w.cell? ⟨b, 0, none⟩ = some v := by rw [cell_of_row _ _ _ _ _ _ h]; rfl

set_option maxHeartbeats 2000000 in
theorem rooms_any (a : Option Addr) (len cap : Nat) (w : World) :
    Calls Try.prog 17 #[.slice a len cap] w fun e w' => e = .returned (.func (.func 30) #[] #[.pointer (some ⟨w.heap.size, 0, none⟩)]) ∧ w' = w.alloc (.cells #[.slice a len cap] 32) := by
  have hmf : ∀ (fn : Fn) (first cap : Array Value) (w : World), (Instr.makeFunc fn first cap).run Try.prog w = .ok (.func fn first cap) w := fun _ _ _ _ => rfl
  go_enter Try.func17, Try.ntmps17
  go_wp2_with fail
  go_ret
  exact ⟨rfl, rfl⟩

set_option maxRecDepth 100000 in
set_option maxHeartbeats 2000000 in
/-- The iterator: for every loop body that keeps its box. -/
theorem rooms1_in (n l B g cap : Nat) (hcap : 508 ≤ cap) (J Jx : List Six → World → Prop)
    (hY : ∀ pre x W, J pre W → pre.length < 6 → YieldAt Fence.wide (n - 1) Try.prog l (roomV g cap x) W fun e W' =>
      (e = .returned (.bool true) ∧ J (pre ++ [x]) W' ∧ KeptBox B W W') ∨ (e = .returned (.bool false) ∧ Jx (pre ++ [x]) W'))
    (W : World) (hB : BoxS W B (.slice (some ⟨g, 0, none⟩) 508 cap)) (h0 : J [] W) :
    CallsIn Fence.wide n Try.prog 30 #[.func (.yield l) #[] #[], .pointer (some ⟨B, 0, none⟩)] W fun e W' => (∃ v, e = .returned v) ∧
      ((∃ ys, ys = uptoC 6 (Nat.le_refl 6) ∧ J ys W') ∨ (∃ pre, True ∧ Jx pre W')) := by
  have HSL : Hid (∀ (k : Nat) (w : World), k < 6 → (Instr.sliceAt 32 (.slice (some ⟨g, 0, none⟩) 508 cap) (some (.int .i64 (1 + (k : Int) * 72))) (some (.int .i64 (1 + (k : Int) * 72 + 72))) none).run Try.prog w = .ok (.slice (some ⟨g, 1 + 72 * k, none⟩) 72 (cap - (1 + 72 * k))) w) := by
    intro k w hk
    have h := slice_mid (some ⟨g, 0, none⟩) 508 cap (1 + 72 * k) (1 + 72 * k + 72) (by omega) (by omega) hcap w
    have e : fromA (some ⟨g, 0, none⟩) cap (1 + 72 * k) = some ⟨g, 1 + 72 * k, none⟩ := by
      unfold fromA
      rw [if_neg (by omega)]
      simp [Addr.add_lit]
    rw [e, show 1 + 72 * k + 72 - (1 + 72 * k) = 72 by omega, show ((1 + 72 * k : Nat) : Int) = 1 + (k : Int) * 72 by omega, show ((1 + 72 * k + 72 : Nat) : Int) = 1 + (k : Int) * 72 + 72 by omega] at h
    exact h
  have HB := hide hB
  clear hB
  refine callsIn_of_wp Try.func30 rfl trivial ?_ rfl
  simp only [Try.ntmps30, List.size_toArray, List.length_cons, List.length_nil, Nat.reduceAdd, Nat.reduceSub, Array.replicate_succ, Array.replicate_zero, List.push_toArray, List.append_toArray, List.nil_append, List.cons_append]
  gi_wp2
  gi_loopw [5] (fun i wr => ∃ (k : Nat) (hk : k ≤ 6), i = .int .i64 k ∧ Hid (J (uptoC k hk) wr) ∧ Hid (BoxS wr B (.slice (some ⟨g, 0, none⟩) 508 cap)))
    (fun i _ => 6 - (intOf i).toNat)
  case atStart => exact ⟨0, Nat.zero_le _, rfl, h0, HB⟩
  case round =>
    obtain ⟨k, hk, rfl, hJs, hbx⟩ := hrel
    have hcb := hbx.out.cell
    by_cases hlt : k < 6
    · obtain ⟨fn, tmps, assign, body, hy, hR⟩ := hY _ ⟨k, hlt⟩ wr hJs.out (by rw [uptoC_len]; exact hlt)
      unfold roomV at hy
      dsimp only at hy
      have hsl := HSL.out k wr hlt
      have i1 : ((k : Nat) : Int) < 6 := by omega
      gi_wp2
      refine ⟨(fun h => by cases h), hR.mono ?_⟩
      rintro e W3 (⟨rfl, hJ3, hk3⟩ | ⟨rfl, hJx3⟩)
      · have HJ3 : Hid (J (uptoC (k + 1) (by omega)) W3) := by show J _ W3; rw [uptoC_succ]; exact hJ3
        have HB3 : Hid (BoxS W3 B (.slice (some ⟨g, 0, none⟩) 508 cap)) := hk3.trans hbx.out
        clear hJ3 hk3
        gi_wp2
        go_roundw
        case rel => exact ⟨k + 1, by omega, by simp, HJ3, HB3⟩
        case measure => simp [intOf]; omega
      · gi_wp2
        refine bodyPost_ret (results_none rfl _ _ _) rfl ?_
        exact ⟨⟨_, rfl⟩, .inr ⟨_, trivial, hJx3⟩⟩
    · have i1 : ¬ ((k : Nat) : Int) < 6 := by omega
      have e6 : k = 6 := by omega
      gi_wp2
      go_end0
      subst e6
      exact ⟨⟨_, rfl⟩, .inl hJs.out⟩

/-- What rooms hands back. -/
theorem rooms_stops (n B g cap : Nat) (hcap : 508 ≤ cap) (w : World) (hB : BoxS w B (.slice (some ⟨g, 0, none⟩) 508 cap)) :
    SeqStopsK Fence.wide n Try.prog 30 #[.pointer (some ⟨B, 0, none⟩)] (roomV g cap) (KeptBox B) (fun ys => ys = uptoC 6 (Nat.le_refl 6)) (fun _ => True) 6 w := fun l J Jx W hW _ _ hY h0 =>
  rooms1_in n l B g cap hcap J Jx hY W ((hW.block B (Array.getElem?_eq_some_iff.1 hB).1).trans hB) h0

end Go.Proofs.Ytnhhapipadiffaa
