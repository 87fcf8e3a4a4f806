/-
  The landed undo's Drop, Get.
-/
import Derived.Test.YtpdkeghmpnanpaaUdG
namespace Go.Proofs.Ytpdkeghmpnanpaa
open Go.RowKit

set_option maxRecDepth 100000 in
theorem zeroCells_un : Builtin.zeroCells (Value.agg #[.int .i64 0, .int .i64 0, .int .i64 0, .int .i64 0, .int .i64 0, .int .i64 0, .float .f64 0, .bool false, .slice none 0 0, .int .i64 0, .int .i64 0, .int .i64 0]).cells 1 = Ux.zero.cells.toArray := by kernel_rfl

theorem Ud.clear {w0 w : World} {s : Sl} {l : List Ux} (h : Ud w0 w s l) {g off : Nat} (ha : s.a = some ⟨g, off, none⟩) (i : Nat) (hi : i < l.length) (c : Nat) :
    ∃ W, (∀ ty, (Builtin.clear_ #[22] ty #[.slice (some ⟨g, off + i * 12, none⟩) 1 c]).run Try.prog w = .ok (.tuple #[]) W) ∧ Ud w0 W s (l.set i Ux.zero) ∧ Frm (fun k => k = g) w W := by
  obtain ⟨W, hrun, hud, hfr⟩ := h.set ha i hi Ux.zero (Col.zero _ _) zeroU_fits
  have hsf : ∀ (w : World) (a : Addr) (m : Mode) (x : Nat), (store a (.float .f64 x) m).run Try.prog w = stored Try.prog w a (.float .f64 x) m := fun w a m x => run_store Try.prog w a _ m rfl
  have hat := h.own.unAt ha i hi
  have c0 := hat.c0
  have c1 := hat.c1
  have c2 := hat.c2
  have c3 := hat.c3
  have c4 := hat.c4
  have c5 := hat.c5
  have c6 := hat.c6
  have c7 := hat.c7
  have c8 := hat.c8
  have c9 := hat.c9
  have c10 := hat.c10
  have c11 := hat.c11
  have f0 := h.own.frozenAt ha
  have e1 : (Instr.storeAt 30 (.pointer (some ⟨g, off + i * 12, none⟩)) Ux.zero.val).run Try.prog w = .ok () (setAt w g (off + i * 12) Ux.zero) := by simp [go_sem, Instr.storeAt, hsf, stored, c0, c1, c2, c3, c4, c5, c6, c7, c8, c9, c10, c11, f0, Ux.val, Un.val, setAt]
  rw [hrun] at e1
  have e2 : W = setAt w g (off + i * 12) Ux.zero := by injection e1
  refine ⟨W, fun ty => ?_, hud, hfr⟩
  rw [e2]
  have hst := run_storeCells_cells (P := Try.prog) g (off + i * 12) Ux.zero.cells 0 w (fun j hj => by
    have hlt : j < (l.getD i Ux.zero).cells.length := hj
    have := h.own.cell ha (i * 12 + j) ((l.getD i Ux.zero).cells[j]) (by rw [cellsU_get l i j hi hj, List.getElem?_eq_getElem hlt])
    rw [Addr.add_lit, ← Nat.add_assoc] at this
    rw [Nat.add_zero, this]; rfl) (fun j hj => f0 _) (fun v hv => cellsU_one [Ux.zero] v (by simpa [cellsU] using hv))
  simp only [Nat.add_zero] at hst
  simp [Builtin.clear_, run_underlying Try.underlying22, Try.zeroValue30]
  rw [zeroCells_un]
  simp only [hst]
  rfl

set_option maxHeartbeats 4000000 in
set_option maxRecDepth 100000 in
theorem dropL_no (a : Option Addr) (n cap : Nat) (l : List Ux) (w : World) (h : Us w a n l) (hbig : n ≤ 1000000) (c : Int) (hm : MayU (uns l) = false) :
    Calls Try.prog 10 #[.slice a n cap, .int .i64 c] w fun e w' => e = .returned (.tuple #[.slice none 0 0, .int .i64 1]) ∧ Below w.heap.size w w' := by
  have HCK := hide (checkL_any a n cap l w h hbig)
  rw [hm] at HCK
  clear h hm
  go_enter Try.func10, Try.ntmps10
  go_wp2_with fail
  refine HCK.out.mono ?_
  rintro e w1 ⟨rfl, hb1⟩
  have HW1 := hide hb1
  clear hb1
  simp only [chk]
  go_wp2_with fail
  go_ret2
  exact ⟨rfl, HW1.out⟩

set_option maxHeartbeats 4000000 in
set_option maxRecDepth 100000 in
theorem dropL_ok (a : Option Addr) (n cap : Nat) (l : List Ux) (w : World) (h : Us w a n l) (hbig : n ≤ 1000000) (c : Int) (hm : MayU (uns l) = true) :
    Calls Try.prog 10 #[.slice a n cap, .int .i64 c] w fun e w' => ∃ s : Sl, e = .returned (.tuple #[s.val, .int .i64 (dropU (uns l) c).2]) ∧ RowT w w' s (dropU (uns l) c).1 ∧ Below w.heap.size w w' := by
  have HCK := hide (checkL_any a n cap l w h hbig)
  rw [hm] at HCK
  have hP := (mayU_iff _).1 hm
  have hul : (uns l).length = n := by rw [uns_len, h.len]
  have HN0 : Hid (0 < n) := by have := hP.lo; show _ < _; omega
  have HN1 : Hid (n ≤ 1000) := by have := hP.hi; show _ ≤ _; omega
  have HCO := hide hP.cols
  have HUL := hide hul
  have HE := hide h
  clear h hm hP hul
  cases hem : (atU (uns l) c).emp with
  | true =>
    have hd : dropU (uns l) c = (uns l, 3) := by unfold dropU; rw [if_pos hem]
    rw [hd]
    have HEM := hide hem
    clear hd hem
    go_enter Try.func10, Try.ntmps10
    go_wp2_with fail
    refine HCK.out.mono ?_
    rintro e w1 ⟨rfl, hb1⟩
    have HW1 := hide hb1
    clear hb1 HCK
    simp only [chk]
    have HCP := hide (copyOf_any a n cap l w1 (HE.out.keep HW1.out (Nat.le_refl _)) HN0.out HN1.out HCO.out)
    go_wp2_with fail
    refine HCP.out.mono ?_
    rintro e w2 ⟨⟨sa, sl, sc⟩, rfl, l2, hud2, huns2, htyp2⟩
    have HUD2 := hide hud2
    have HUN2 := hide huns2
    have HTY2 := hide htyp2
    have HW2 := hide (rBelow HW1.out hud2.below)
    have HIU := hide (isUsed_any w2 a n cap l (HE.out.keep HW2.out (Nat.le_refl _)) hbig c)
    rw [HEM.out] at HIU
    clear hud2 huns2 htyp2 HCP
    simp only [Sl.val]
    go_wp2_with fail
    refine HIU.out.mono ?_
    rintro e w3 ⟨rfl, hb3⟩
    have HW3 := hide (rBelow HW2.out hb3)
    have HUD3 := hide (HUD2.out.keep hb3)
    have HTY3 : Hid (∀ x ∈ l2, Typ w3 x) := fun x hx => (HTY2.out x hx).keep hb3
    clear hb3 HIU HUD2
    go_wp2_with fail
    go_ret2
    exact ⟨⟨sa, sl, sc⟩, rfl, RowT.lower ⟨l2, HUD3.out, HUN2.out, HTY3.out⟩ HW1.out, HW3.out⟩
  | false =>
    have hc := atU_used hem
    rw [HUL.out] at hc
    have hd : dropU (uns l) c = ((uns l).set (c - 1).toNat zeroU, 0) := by unfold dropU; rw [if_neg (by rw [hem]; decide)]
    rw [hd]
    have HEM := hide hem
    clear hd hem
    obtain ⟨k, rfl⟩ : ∃ k : Nat, c = (k : Int) + 1 := ⟨(c - 1).toNat, by omega⟩
    have ek : ((k : Int) + 1 - 1).toNat = k := by omega
    rw [ek]
    have hk : k < n := by omega
    clear hc ek
    go_enter Try.func10, Try.ntmps10
    go_wp2_with fail
    refine HCK.out.mono ?_
    rintro e w1 ⟨rfl, hb1⟩
    have HW1 := hide hb1
    clear hb1 HCK
    simp only [chk]
    have HCP := hide (copyOf_any a n cap l w1 (HE.out.keep HW1.out (Nat.le_refl _)) HN0.out HN1.out HCO.out)
    go_wp2_with fail
    refine HCP.out.mono ?_
    rintro e w2 ⟨⟨sa, sl, sc⟩, rfl, l2, hud2, huns2, htyp2⟩
    have HUD2 := hide hud2
    have HUN2 := hide huns2
    have HTY2 := hide htyp2
    have HW2 := hide (rBelow HW1.out hud2.below)
    have HIU := hide (isUsed_any w2 a n cap l (HE.out.keep HW2.out (Nat.le_refl _)) hbig ((k : Int) + 1))
    rw [HEM.out] at HIU
    clear hud2 huns2 htyp2 HCP
    simp only [Sl.val]
    go_wp2_with fail
    refine HIU.out.mono ?_
    rintro e w3 ⟨rfl, hb3⟩
    have HW3 := hide (rBelow HW2.out hb3)
    have HUD3 := hide (HUD2.out.keep hb3)
    have HTY3 : Hid (∀ x ∈ l2, Typ w3 x) := fun x hx => (HTY2.out x hx).keep hb3
    clear hb3 HIU HUD2
    have hlen5 : l2.length = n := by rw [← uns_len, HUN2.out]; exact HUL.out
    have hsl : l2.length = sl := HUD3.out.len
    obtain rfl : sl = n := by omega
    obtain ⟨g, off, ha5, _⟩ := HUD3.out.us.at' 0 HN0.out
    replace ha5 : sa = some ⟨g, off, none⟩ := ha5
    subst ha5
    have hlc : sl ≤ sc := HUD3.out.own.lecap
    obtain ⟨W7, hrun7, hud7, hfr7⟩ := HUD3.out.clear (g := g) (off := off) rfl k (by omega) (sc - k)
    have HR7 := hide hrun7
    have HUD7 := hide hud7
    have HTY7 : Hid (∀ x' ∈ l2.set k Ux.zero, Typ W7 x') := fun x' hx' => by
      have hk : ∃ C fr, w3.heap[g]? = some (Obj.cells C 30 fr) := by
        obtain ⟨cur, hcur⟩ := HUD3.out.own.kind (k := g) rfl
        exact ⟨cur, _, hcur⟩
      rcases List.mem_or_eq_of_mem_set hx' with hx' | rfl
      · exact (HTY3.out x' hx').turned hk hfr7
      · exact Typ.zero _
    have HW7 := hide (rBelow HW1.out hud7.below)
    clear hlen5 hsl hrun7 hud7 hfr7 HUD3
    have hr7 := HR7.out 0
    clear HR7
    go_wp2_with fail
    go_ret2
    exact ⟨⟨some ⟨g, off, none⟩, sl, sc⟩, rfl, RowT.lower ⟨_, HUD7.out, uns_put l2 k _ zeroU _ HUN2.out rfl, HTY7.out⟩ HW1.out, HW7.out⟩

set_option maxHeartbeats 4000000 in
set_option maxRecDepth 100000 in
/-- What is got. -/
theorem getL_any (a : Option Addr) (n cap : Nat) (l : List Ux) (w : World) (h : Us w a n l) (hbig : n ≤ 1000000) (c m : Int) :
    Calls Try.prog 20 #[.slice a n cap, .agg #[.int .i64 c, .int .i64 m]] w fun e w' => ∃ x : Ux, e = .returned (.tuple #[x.val, .bool (if MayU (uns l) = true then getU (uns l) c m else (zeroU, false)).2]) ∧ x.u = (if MayU (uns l) = true then getU (uns l) c m else (zeroU, false)).1 ∧ Fs w' x.a x.n x.c x.u.row.xs ∧ Below w.heap.size w w' := by
  have HA := hide (below_two w (.cells #[.int .i64 c, .int .i64 m] 26) (.cells #[.int .i64 0, .int .i64 0, .int .i64 0, .int .i64 0, .int .i64 0, .int .i64 0, .float .f64 0, .bool false, .slice none 0 0, .int .i64 0, .int .i64 0, .int .i64 0] 30))
  have hz0 := unBlk_new (w.alloc (.cells #[.int .i64 c, .int .i64 m] 26)) zeroU (.slice none 0 0)
  rw [show (w.alloc (.cells #[.int .i64 c, .int .i64 m] 26)).heap.size = w.heap.size + 1 by simp] at hz0
  have HZ0 : Hid (UnBlk ((w.alloc (.cells #[.int .i64 c, .int .i64 m] 26)).alloc (.cells #[.int .i64 0, .int .i64 0, .int .i64 0, .int .i64 0, .int .i64 0, .int .i64 0, .float .f64 0, .bool false, .slice none 0 0, .int .i64 0, .int .i64 0, .int .i64 0] 30)) (w.heap.size + 1) zeroU (.slice none 0 0)) := hz0
  have HRB : Hid (((w.alloc (.cells #[.int .i64 c, .int .i64 m] 26)).alloc (.cells #[.int .i64 0, .int .i64 0, .int .i64 0, .int .i64 0, .int .i64 0, .int .i64 0, .float .f64 0, .bool false, .slice none 0 0, .int .i64 0, .int .i64 0, .int .i64 0] 30)).heap[w.heap.size]? = some (.cells #[.int .i64 c, .int .i64 m] 26)) := by
    show _ = _
    have h1 := heap_alloc_new w (.cells #[.int .i64 c, .int .i64 m] 26)
    have h2 := (below_alloc (w.alloc (.cells #[.int .i64 c, .int .i64 m] 26)) (.cells #[.int .i64 0, .int .i64 0, .int .i64 0, .int .i64 0, .int .i64 0, .int .i64 0, .float .f64 0, .bool false, .slice none 0 0, .int .i64 0, .int .i64 0, .int .i64 0] 30)).block w.heap.size (by simp)
    exact h2.trans h1
  have HCK : Hid (∀ w', Below w.heap.size w w' → Calls Try.prog 12 #[.slice a n cap] w' fun e w'' => e = .returned (.int .i64 (chk (MayU (uns l)))) ∧ Below w'.heap.size w' w'') := fun w' hb => checkL_any a n cap l w' (h.keep hb (Nat.le_refl _)) hbig
  have HIU : Hid (∀ w', Below w.heap.size w w' → Calls Try.prog 32 #[.slice a n cap, .int .i64 c] w' fun e w'' => e = .returned (.bool (!(atU (uns l) c).emp)) ∧ Below w'.heap.size w' w'') := fun w' hb => isUsed_any w' a n cap l (h.keep hb (Nat.le_refl _)) hbig c
  have HUL : Hid ((uns l).length = n) := by show _ = _; rw [uns_len, h.len]
  have HE := hide h
  clear h hz0
  cases hm : MayU (uns l) with
  | false =>
    rw [hm] at HCK
    rw [if_neg (by decide)]
    simp only
    clear hm HIU
    go_enter Try.func20, Try.ntmps20
    go_wp2_with fail
    refine (HCK.out _ HA.out).mono ?_
    rintro e w1 ⟨rfl, hb1⟩
    have HW1 := hide (rBelow HA.out hb1)
    have HZ1 := hide (HZ0.out.keep hb1)
    have HSZ := hide (store_un HZ1.out zeroU none 0 0)
    have hrb := (hb1.block w.heap.size (Array.getElem?_eq_some_iff.1 HRB.out).1).trans HRB.out
    have r0 : w1.cell? ⟨w.heap.size, 0, none⟩ = some (.int .i64 c) := by rw [cell_of_row _ _ _ _ _ _ hrb]; rfl
    have r1 : w1.cell? ⟨w.heap.size, 1, none⟩ = some (.int .i64 m) := by rw [cell_of_row _ _ _ _ _ _ hrb]; rfl
    clear hb1 hrb
    simp only [chk]
    go_wp2_with (refine wpList_store _ rfl rfl 30 (.tmp 4) (.tmp 17) rfl (.pointer (some ⟨w.heap.size + 1, 0, none⟩)) (zeroU.val (.slice none 0 0)) rfl rfl _ HSZ.out ?_)
    refine un_end2 rfl HZ1.out zeroU (.slice none 0 0) (.bool false) ⟨_, _, _, rfl⟩ (by rfl) (by rfl) (by rfl) ?_
    exact ⟨Ux.zero, rfl, rfl, fs_nil _, setUn_below HW1.out (Nat.le_succ _) _ _⟩
  | true =>
    have hP := (mayU_iff _).1 hm
    rw [hm] at HCK
    rw [if_pos rfl]
    clear hm
    cases hem : (atU (uns l) c).emp with
    | true =>
      have hg : getU (uns l) c m = (zeroU, false) := by unfold getU; rw [if_pos (.inl hem)]
      rw [hg]
      simp only
      rw [hem] at HIU
      clear hg hem hP
      go_enter Try.func20, Try.ntmps20
      go_wp2_with fail
      refine (HCK.out _ HA.out).mono ?_
      rintro e w1 ⟨rfl, hb1⟩
      have HW1 := hide (rBelow HA.out hb1)
      have HZ1 := hide (HZ0.out.keep hb1)
      have HSZ := hide (store_un HZ1.out zeroU none 0 0)
      have hrb := (hb1.block w.heap.size (Array.getElem?_eq_some_iff.1 HRB.out).1).trans HRB.out
      have r0 : w1.cell? ⟨w.heap.size, 0, none⟩ = some (.int .i64 c) := by rw [cell_of_row _ _ _ _ _ _ hrb]; rfl
      have r1 : w1.cell? ⟨w.heap.size, 1, none⟩ = some (.int .i64 m) := by rw [cell_of_row _ _ _ _ _ _ hrb]; rfl
      clear hb1 hrb
      simp only [chk]
      go_wp2_with fail
      refine (HIU.out _ HW1.out).mono ?_
      rintro e w2 ⟨rfl, hb2⟩
      have HW2 := hide (rBelow HW1.out hb2)
      have HZ2 := hide (HZ1.out.keep hb2)
      have HSZ2 := hide (store_un HZ2.out zeroU none 0 0)
      have s0 := (hb2.cell (p := ⟨w.heap.size, 0, none⟩) (World.block_lt_of_cell? _ _ r0)).trans r0
      have s1 := (hb2.cell (p := ⟨w.heap.size, 1, none⟩) (World.block_lt_of_cell? _ _ r1)).trans r1
      clear hb2 r0 r1
      go_wp2_with (refine wpList_store _ rfl rfl 30 (.tmp 4) (.tmp 17) rfl (.pointer (some ⟨w.heap.size + 1, 0, none⟩)) (zeroU.val (.slice none 0 0)) rfl rfl _ HSZ2.out ?_)
      refine un_end2 rfl HZ2.out zeroU (.slice none 0 0) (.bool false) ⟨_, _, _, rfl⟩ (by rfl) (by rfl) (by rfl) ?_
      exact ⟨Ux.zero, rfl, rfl, fs_nil _, setUn_below HW2.out (Nat.le_succ _) _ _⟩
    | false =>
      have hc := atU_used hem
      rw [HUL.out] at hc
      rw [hem] at HIU
      have HEM := hide hem
      have HCO := hide hP.cols
      clear hP hem
      obtain ⟨k, rfl⟩ : ∃ k : Nat, c = (k : Int) + 1 := ⟨(c - 1).toNat, by omega⟩
      have hk : k < n := by omega
      have hat : atU (uns l) ((k : Int) + 1) = (l.getD k Ux.zero).u := by rw [atU_at _ (by rw [HUL.out]; exact hk), uns_get]
      rw [hat] at HEM
      have hgu : getU (uns l) ((k : Int) + 1) m = if (l.getD k Ux.zero).u.no ≠ m then (zeroU, false) else ((l.getD k Ux.zero).u, true) := by
        unfold getU
        rw [hat, HEM.out]
        simp
      rw [hgu]
      have HMEM := hide (HE.out.mem hk)
      have HAT := hide (HE.out.at' k hk)
      have hi1 : ((k : Nat) : Int) < ((n : Nat) : Int) := by omega
      clear hat hgu hc
      generalize l.getD k Ux.zero = y at *
      have HCY : Hid (y.n ≤ 1000) := by
        have h1 := HCO.out y.u (List.mem_map.2 ⟨y, HMEM.out, rfl⟩)
        have h2 := (HE.out.cols _ HMEM.out).len
        show _ ≤ _
        omega
      by_cases hno : y.u.no = m
      · rw [if_neg (by simpa using hno)]
        simp only
        go_enter Try.func20, Try.ntmps20
        go_wp2_with fail
        refine (HCK.out _ HA.out).mono ?_
        rintro e w1 ⟨rfl, hb1⟩
        have HW1 := hide (rBelow HA.out hb1)
        have HZ1 := hide (HZ0.out.keep hb1)
        have HSZ := hide (store_un HZ1.out zeroU none 0 0)
        have hrb := (hb1.block w.heap.size (Array.getElem?_eq_some_iff.1 HRB.out).1).trans HRB.out
        have r0 : w1.cell? ⟨w.heap.size, 0, none⟩ = some (.int .i64 ((k : Int) + 1)) := by rw [cell_of_row _ _ _ _ _ _ hrb]; rfl
        have r1 : w1.cell? ⟨w.heap.size, 1, none⟩ = some (.int .i64 m) := by rw [cell_of_row _ _ _ _ _ _ hrb]; rfl
        clear hb1 hrb
        simp only [chk]
        go_wp2_with fail
        refine (HIU.out _ HW1.out).mono ?_
        rintro e w2 ⟨rfl, hb2⟩
        have HW2 := hide (rBelow HW1.out hb2)
        have HZ2 := hide (HZ1.out.keep hb2)
        have HSZ2 := hide (store_un HZ2.out zeroU none 0 0)
        have s0 := (hb2.cell (p := ⟨w.heap.size, 0, none⟩) (World.block_lt_of_cell? _ _ r0)).trans r0
        have s1 := (hb2.cell (p := ⟨w.heap.size, 1, none⟩) (World.block_lt_of_cell? _ _ r1)).trans r1
        clear hb2 r0 r1
        obtain ⟨b1, off, rfl, hat0⟩ := HAT.out
        have HLD := hide (load_unAt b1 (off + k * 12) y w2 (hat0.keep HW2.out (Nat.le_refl _)))
        obtain ⟨W3, hst3, hblk3, hb3⟩ := box_un w2 y
        have HST := hide hst3
        have HW3 := hide (rBelow HW2.out hb3)
        have HZ3 := hide (HZ2.out.keep hb3)
        have HL3 := hide (load_un _ y.u (.slice y.a y.n y.c) ⟨_, _, _, rfl⟩ W3 hblk3)
        have y1 := hblk3.c1
        have u0 := (hb3.cell (p := ⟨w.heap.size, 0, none⟩) (World.block_lt_of_cell? _ _ s0)).trans s0
        have u1 := (hb3.cell (p := ⟨w.heap.size, 1, none⟩) (World.block_lt_of_cell? _ _ s1)).trans s1
        have hval : y.u.val (.slice y.a y.n y.c) = y.val := rfl
        rw [hval] at HL3
        clear hat0 hst3 hblk3 hb3 hval
        have hno' : (y.u.no == m) = true := by simp [hno]
        clear hno
        have HOW := hide (ownU_any y W3 ((HE.out.cols _ HMEM.out).keep HW3.out (Nat.le_refl _)) HCY.out)
        go_wp2_with (first | refine wpList_load _ rfl 30 (.tmp 22) rfl (.pointer (some ⟨b1, off + k * 12, none⟩)) y.val rfl HLD.out ?_ | refine wpList_store _ rfl rfl 30 (.tmp 6) (.tmp 23) rfl (.pointer (some ⟨w2.heap.size, 0, none⟩)) y.val rfl rfl W3 HST.out ?_ | refine wpList_load _ rfl 30 (.tmp 6) rfl (.pointer (some ⟨w2.heap.size, 0, none⟩)) y.val rfl HL3.out ?_)
        refine HOW.out.mono ?_
        rintro e w4 ⟨a4, c4, rfl, ho4, hf4, hb4⟩
        have HZ4 := hide (HZ3.out.keep hb4)
        have HST4 := hide (store_un HZ4.out y.u a4 y.n c4)
        have HF4 := hide ho4
        have HFT := hide hf4.fit
        have HFB := hide hf4.len
        have HW4 := hide (rBelow HW3.out hb4)
        clear ho4 hf4 hb4
        go_wp2_with (refine wpList_store _ rfl rfl 30 (.tmp 4) (.tmp 31) rfl (.pointer (some ⟨w.heap.size + 1, 0, none⟩)) (y.u.val (.slice a4 y.n c4)) rfl rfl _ HST4.out ?_)
        refine un_end2 rfl HZ4.out y.u (.slice a4 y.n c4) (.bool true) ⟨_, _, _, rfl⟩ (by rfl) (by rfl) (by rfl) ?_
        refine ⟨⟨y.u, a4, y.n, c4⟩, rfl, rfl, ?_, setUn_below HW4.out (Nat.le_succ _) _ _⟩
        exact (HF4.out.stay (stay_frm HZ4.out (setUn_frm _ _ _ _)) (by decide)).fsAt HFT.out (by rw [HFB.out]; have := HCY.out; omega)
      · rw [if_pos (by simpa using hno)]
        simp only
        go_enter Try.func20, Try.ntmps20
        go_wp2_with fail
        refine (HCK.out _ HA.out).mono ?_
        rintro e w1 ⟨rfl, hb1⟩
        have HW1 := hide (rBelow HA.out hb1)
        have HZ1 := hide (HZ0.out.keep hb1)
        have HSZ := hide (store_un HZ1.out zeroU none 0 0)
        have hrb := (hb1.block w.heap.size (Array.getElem?_eq_some_iff.1 HRB.out).1).trans HRB.out
        have r0 : w1.cell? ⟨w.heap.size, 0, none⟩ = some (.int .i64 ((k : Int) + 1)) := by rw [cell_of_row _ _ _ _ _ _ hrb]; rfl
        have r1 : w1.cell? ⟨w.heap.size, 1, none⟩ = some (.int .i64 m) := by rw [cell_of_row _ _ _ _ _ _ hrb]; rfl
        clear hb1 hrb
        simp only [chk]
        go_wp2_with fail
        refine (HIU.out _ HW1.out).mono ?_
        rintro e w2 ⟨rfl, hb2⟩
        have HW2 := hide (rBelow HW1.out hb2)
        have HZ2 := hide (HZ1.out.keep hb2)
        have HSZ2 := hide (store_un HZ2.out zeroU none 0 0)
        have s0 := (hb2.cell (p := ⟨w.heap.size, 0, none⟩) (World.block_lt_of_cell? _ _ r0)).trans r0
        have s1 := (hb2.cell (p := ⟨w.heap.size, 1, none⟩) (World.block_lt_of_cell? _ _ r1)).trans r1
        clear hb2 r0 r1
        obtain ⟨b1, off, rfl, hat0⟩ := HAT.out
        have HLD := hide (load_unAt b1 (off + k * 12) y w2 (hat0.keep HW2.out (Nat.le_refl _)))
        obtain ⟨W3, hst3, hblk3, hb3⟩ := box_un w2 y
        have HST := hide hst3
        have HW3 := hide (rBelow HW2.out hb3)
        have HZ3 := hide (HZ2.out.keep hb3)
        have HL3 := hide (load_un _ y.u (.slice y.a y.n y.c) ⟨_, _, _, rfl⟩ W3 hblk3)
        have y1 := hblk3.c1
        have u0 := (hb3.cell (p := ⟨w.heap.size, 0, none⟩) (World.block_lt_of_cell? _ _ s0)).trans s0
        have u1 := (hb3.cell (p := ⟨w.heap.size, 1, none⟩) (World.block_lt_of_cell? _ _ s1)).trans s1
        have hval : y.u.val (.slice y.a y.n y.c) = y.val := rfl
        rw [hval] at HL3
        clear hat0 hst3 hblk3 hb3 hval
        have hno' : (y.u.no == m) = false := beq_eq_false_iff_ne.2 hno
        have HSZ3 := hide (store_un HZ3.out zeroU none 0 0)
        clear hno
        go_wp2_with (first | refine wpList_load _ rfl 30 (.tmp 22) rfl (.pointer (some ⟨b1, off + k * 12, none⟩)) y.val rfl HLD.out ?_ | refine wpList_store _ rfl rfl 30 (.tmp 6) (.tmp 23) rfl (.pointer (some ⟨w2.heap.size, 0, none⟩)) y.val rfl rfl W3 HST.out ?_ | refine wpList_store _ rfl rfl 30 (.tmp 4) (.tmp 29) rfl (.pointer (some ⟨w.heap.size + 1, 0, none⟩)) (zeroU.val (.slice none 0 0)) rfl rfl _ HSZ3.out ?_)
        refine un_end2 rfl HZ3.out zeroU (.slice none 0 0) (.bool false) ⟨_, _, _, rfl⟩ (by rfl) (by rfl) (by rfl) ?_
        exact ⟨Ux.zero, rfl, rfl, fs_nil _, setUn_below HW3.out (Nat.le_succ _) _ _⟩

end Go.Proofs.Ytpdkeghmpnanpaa
