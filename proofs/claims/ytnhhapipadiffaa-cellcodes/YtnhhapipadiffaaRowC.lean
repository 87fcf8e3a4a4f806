/-
  A row's items and bytes: row's own, and the document's.
-/
import Derived.Test.YtnhhapipadiffaaRowB
namespace Go.Proofs.Ytnhhapipadiffaa
open Go.RowKit

def headK : List Int := [1, 4, 3, 2, 3, 1]
def headI (k : Int) : It := ⟨k, 0, 0, noS⟩
def numI (x : Nat) : It := ⟨4, 0, x, noS⟩
def Rw.head (r : Rw) : List It := [⟨1, if r.dead then 1 else 0, 0, noS⟩, ⟨4, 0, r.key, noS⟩, ⟨3, r.wr, 0, noS⟩, ⟨2, r.cell, 0, noS⟩, ⟨3, r.no, 0, noS⟩, ⟨1, r.xs.length, 0, noS⟩]
/-- A row's items. -/
def Rw.items (r : Rw) : List It := r.head ++ r.xs.map numI

theorem ks_blk {w : World} {p : Nat} {ks : List Int} {fr : Nat × Nat} (h : w.heap[p]? = some (Obj.cells (kVals ks).toArray 3 fr)) : Ks w (some ⟨p, 0, none⟩) ks.length ks := by
  refine ⟨rfl, fun j hj => ⟨p, 0, rfl, ?_⟩⟩
  rw [Nat.zero_add]
  simp only [World.cell?, h]
  simp [kVals, List.getD, hj]

theorem headKinds_any (w : World) : Calls Try.prog 83 #[] w fun e w' => e = .returned (.slice (some ⟨w.heap.size, 0, none⟩) 6 6) ∧ w'.heap[w.heap.size]? = some (Obj.cells (kVals headK).toArray 3 (0, 0)) ∧ Below w.heap.size w w' := by
  have HK := hide (heap_alloc_new w (.cells (kVals headK).toArray 3))
  have HW := hide (below_alloc w (.cells #[.int .i64 1, .int .i64 4, .int .i64 3, .int .i64 2, .int .i64 3, .int .i64 1] 3))
  go_enter Try.func83, Try.ntmps83
  go_wp2_with fail
  go_ret
  exact ⟨rfl, HK.out, HW.out⟩

theorem RwBlk.stayI {w w' : World} {p : Nat} {r : Rw} {c : Value} (h : RwBlk w p r c) (hs : StayI w w') : RwBlk w' p r c := (hs p _ _ _ h (by decide)).trans h

theorem head_fits (k : Int) (hk : -9223372036854775808 ≤ k ∧ k ≤ 9223372036854775807) : (headI k).fits := ⟨fits_i64 hk.1 hk.2, fits_i64 (n := 0) (by decide) (by decide), (by decide : (0 : Nat) < 18446744073709551616), Nat.zero_le _⟩
theorem num_fits (x : Nat) (hx : x < 18446744073709551616) : (numI x).fits := ⟨fits_i64 (n := 4) (by decide) (by decide), fits_i64 (n := 0) (by decide) (by decide), hx, Nat.zero_le _⟩

theorem OwnsI.pos {w : World} {base : Nat} {v : Value} {l : List It} (h : OwnsI w base v l) (hp : 0 < l.length) : ∃ g cap, v = .slice (some ⟨g, 0, none⟩) l.length cap ∧ base ≤ g ∧ l.length ≤ cap := by
  rcases h.2 with ⟨hv, h0⟩ | ⟨g, cap, cur, hv, hbg, hg, hle, hr⟩
  · omega
  · exact ⟨g, cap, hv, hbg, hle⟩

theorem OwnsI.store {w : World} {base g n cap : Nat} {l m : List It} (h : OwnsI w base (.slice (some ⟨g, 0, none⟩) n cap) l) (hn : n = l.length) (i : Nat) (u : Value) (hm : (itVals l).set i u = itVals m) (hl : m.length = l.length) : OwnsI (w.setCell ⟨g, i, none⟩ u) base (.slice (some ⟨g, 0, none⟩) n cap) m := by
  subst hn
  have := (World.ownsRow.stored h i u).1
  unfold OwnsI
  rw [hl, ← hm]
  exact this

theorem OwnsI.cell {w : World} {base g n cap : Nat} {l : List It} (h : OwnsI w base (.slice (some ⟨g, 0, none⟩) n cap) l) (hn : n = l.length) (i : Nat) (hi : i < l.length * 4) : w.cell? ⟨g, i, none⟩ = (itVals l)[i]? := by
  subst hn
  exact World.ownsRow.cellAt h i (by omega)

theorem head_store {w : World} {base g cp : Nat} {d : Int} {key : Nat} {wt cell no n : Int} (h : OwnsI w base (.slice (some ⟨g, 0, none⟩) 6 cp) (⟨1, d, 0, noS⟩ :: headK.tail.map headI)) :
    OwnsI (((((w.setCell ⟨g, 6, none⟩ (.float .f64 key)).setCell ⟨g, 9, none⟩ (.int .i64 wt)).setCell ⟨g, 13, none⟩ (.int .i64 cell)).setCell ⟨g, 17, none⟩ (.int .i64 no)).setCell ⟨g, 21, none⟩ (.int .i64 n)) base (.slice (some ⟨g, 0, none⟩) 6 cp)
      [⟨1, d, 0, noS⟩, ⟨4, 0, key, noS⟩, ⟨3, wt, 0, noS⟩, ⟨2, cell, 0, noS⟩, ⟨3, no, 0, noS⟩, ⟨1, n, 0, noS⟩] := by
  have h1 := h.store (m := [⟨1, d, 0, noS⟩, ⟨4, 0, key, noS⟩, ⟨3, 0, 0, noS⟩, ⟨2, 0, 0, noS⟩, ⟨3, 0, 0, noS⟩, ⟨1, 0, 0, noS⟩]) rfl 6 (.float .f64 key) rfl rfl
  have h2 := h1.store (m := [⟨1, d, 0, noS⟩, ⟨4, 0, key, noS⟩, ⟨3, wt, 0, noS⟩, ⟨2, 0, 0, noS⟩, ⟨3, 0, 0, noS⟩, ⟨1, 0, 0, noS⟩]) rfl 9 (.int .i64 wt) rfl rfl
  have h3 := h2.store (m := [⟨1, d, 0, noS⟩, ⟨4, 0, key, noS⟩, ⟨3, wt, 0, noS⟩, ⟨2, cell, 0, noS⟩, ⟨3, 0, 0, noS⟩, ⟨1, 0, 0, noS⟩]) rfl 13 (.int .i64 cell) rfl rfl
  have h4 := h3.store (m := [⟨1, d, 0, noS⟩, ⟨4, 0, key, noS⟩, ⟨3, wt, 0, noS⟩, ⟨2, cell, 0, noS⟩, ⟨3, no, 0, noS⟩, ⟨1, 0, 0, noS⟩]) rfl 17 (.int .i64 no) rfl rfl
  exact h4.store rfl 21 (.int .i64 n) rfl rfl

theorem head_below {B g : Nat} {w0 w : World} (hb : Below B w0 w) (hg : B ≤ g) (a b c d e : Value) :
    Below B w0 (((((w.setCell ⟨g, 6, none⟩ a).setCell ⟨g, 9, none⟩ b).setCell ⟨g, 13, none⟩ c).setCell ⟨g, 17, none⟩ d).setCell ⟨g, 21, none⟩ e) :=
  ((((hb.setCell (p := ⟨g, 6, none⟩) hg _).setCell (p := ⟨g, 9, none⟩) hg _).setCell (p := ⟨g, 13, none⟩) hg _).setCell (p := ⟨g, 17, none⟩) hg _).setCell (p := ⟨g, 21, none⟩) hg _

set_option maxHeartbeats 4000000 in
set_option maxRecDepth 100000 in
theorem items_any (r : Rw) (a : Option Addr) (len cap : Nat) (w : World) (h : Fs w a len cap r.xs) (h4 : len ≤ 4) :
    Calls Try.prog 92 #[r.val (.slice a len cap)] w fun e w' => ∃ v, e = .returned v ∧ OwnsI w' w.heap.size v r.items ∧ Below w.heap.size w w' := by
  obtain ⟨key, dead, xs, wt, cell, no⟩ := r
  have H := hide h
  have HL := hide h.len
  have HX := hide (rwBlk_new w ⟨key, dead, xs, wt, cell, no⟩ (.slice a len cap))
  have HO := hide (OwnsI.new (w.alloc (.cells #[.float .f64 key, .bool dead, .slice a len cap, .int .i64 wt, .int .i64 cell, .int .i64 no] 28)))
  have HW := hide (below_two w (.cells #[.float .f64 key, .bool dead, .slice a len cap, .int .i64 wt, .int .i64 cell, .int .i64 no] 28) (.cells #[] 73))
  have HWa := hide (below_alloc (w.alloc (.cells #[.float .f64 key, .bool dead, .slice a len cap, .int .i64 wt, .int .i64 cell, .int .i64 no] 28)) (.cells #[] 73))
  have HH := hide headKinds_any
  clear h
  simp only at HX
  unfold Rw.val
  simp only
  go_enter Try.func92, Try.ntmps92
  go_wp2_with fail
  refine (HH.out _).mono ?_
  rintro e w1 ⟨rfl, hk1, hb1⟩
  have HW1 := hide (rBelow HW.out hb1)
  have HX1 := hide ((HX.out.keep HWa.out).keep hb1)
  have HO1 : Hid (OwnsI w1 w.heap.size (.slice (some ⟨w.heap.size + 1, 0, none⟩) 0 0) []) := by
    have := ((HO.out.keep hb1 (Nat.le_refl _)).lower (b' := w.heap.size) (by simp))
    exact hide (by simpa using this)
  have hg1 : ((w.alloc (.cells #[.float .f64 key, .bool dead, .slice a len cap, .int .i64 wt, .int .i64 cell, .int .i64 no] 28)).alloc (.cells #[] 73)).heap.size = w.heap.size + 2 := by simp
  rw [hg1] at hk1 ⊢
  have HK1 := hide hk1
  clear hk1 hb1 hg1 HX HO HW HWa HH
  go_wp2_with fail
  go_loopw [3, 11] (fun v i wr' => ∃ k : Nat, k ≤ 6 ∧ i = .int .i64 k ∧ Hid (OwnsI wr' w.heap.size v ((headK.map headI).take k)) ∧ Hid (Below w.heap.size w wr') ∧ Hid (RwBlk wr' w.heap.size ⟨key, dead, xs, wt, cell, no⟩ (.slice a len cap)) ∧ Hid (wr'.heap[w.heap.size + 2]? = some (Obj.cells (kVals headK).toArray 3 (0, 0)))) (fun _ i _ => 6 - (intOf i).toNat)
  case atStart => exact ⟨0, by omega, rfl, HO1, HW1, HX1, HK1⟩
  case round =>
    obtain ⟨k, hk, rfl, hown, hWr, hXr, hKr⟩ := hrel
    rcases Nat.lt_or_ge k 6 with hlt | hge
    · obtain ⟨kd, hkd⟩ : ∃ kd, kd = headK.getD k 0 := ⟨_, rfl⟩
      have hc : wr.cell? ⟨w.heap.size + 2, k, none⟩ = some (.int .i64 kd) := by
        obtain ⟨_, _, e, hc⟩ := (ks_blk hKr.out).2 k hlt
        simp only [Option.some.injEq, Addr.mk.injEq, and_true] at e
        obtain ⟨rfl, rfl⟩ := e
        rw [Nat.zero_add] at hc
        rw [hc, hkd]
      have hkr : 1 ≤ kd ∧ kd ≤ 4 := by
        rw [hkd]
        have : k = 0 ∨ k = 1 ∨ k = 2 ∨ k = 3 ∨ k = 4 ∨ k = 5 := by omega
        rcases this with rfl | rfl | rfl | rfl | rfl | rfl <;> decide
      have HKD := hide hkd
      have HOk := hide (hown.out.keep (below_alloc wr (.cells #[.int .i64 kd, .int .i64 0, .float .f64 0, .string ⟨#[]⟩] 73)) (Nat.le_refl _))
      have HXk := hide (hXr.out.keep (below_alloc wr (.cells #[.int .i64 kd, .int .i64 0, .float .f64 0, .string ⟨#[]⟩] 73)))
      have HKk := hide (((below_alloc wr (.cells #[.int .i64 kd, .int .i64 0, .float .f64 0, .string ⟨#[]⟩] 73)).block _ (Array.getElem?_eq_some_iff.1 hKr.out).1).trans hKr.out)
      have HWk := hide (rBelow hWr.out (below_alloc wr (.cells #[.int .i64 kd, .int .i64 0, .float .f64 0, .string ⟨#[]⟩] 73)))
      have HI := hide (is_one wr (headI kd) (head_fits kd (by omega)))
      unfold headI noS at HI
      simp only at HI
      have HLEN : Hid (((headK.map headI).take k).length + 1 ≤ 1000000) := by show _ ≤ _; simp [headK]; omega
      clear hkd hkr
      go_wp2_with (at_builtin; refine wpList_append_items _ rfl (.tmp 15) (.tmp 18) rfl w.heap.size _ _ rfl HOk.out _ _ _ _ rfl HI.out (fun h => by cases h) HLEN.out HWk.out.size ?_)
      intro v5 w5 ho5 hb5 hs5
      have HO5 := hide ho5
      have HW5 := hide (HWk.out.trans hb5)
      have HX5 := hide (HXk.out.stayI hs5)
      have HK5 := hide ((hs5 _ _ _ _ HKk.out (by decide)).trans HKk.out)
      clear ho5 hb5 hs5 HOk HI HXk HKk
      go_wp2
      go_roundw
      case rel =>
        refine ⟨k + 1, by omega, by go_num, ?_, HW5, HX5, HK5⟩
        have e : (headK.map headI).take (k + 1) = (headK.map headI).take k ++ [⟨kd, 0, 0, ⟨#[]⟩⟩] := by
          rw [List.take_succ_eq_append_getElem (by simpa [headK] using hlt), HKD.out]
          simp [headI, noS, List.getD, show k < headK.length from hlt]
        rw [e]
        exact HO5
      case measure => simp only [intOf]; omega
    · have hk6 : k = 6 := by omega
      have ho6 : OwnsI wr w.heap.size u3 (headK.map headI) := by
        have := hown.out
        rw [hk6] at this
        exact this
      clear hk6
      obtain ⟨g, cp, hv, hbg, hcp⟩ := ho6.pos (by decide)
      have hl6 : (headK.map headI).length = 6 := rfl
      rw [hl6] at hv hcp
      subst hv
      have HO6 := hide ho6
      have hz := fun i => World.ownsRow.frozenAt ho6 i
      have e1 := ho6.cell rfl 1 (by decide)
      have e6 := ho6.cell rfl 6 (by decide)
      have e9 := ho6.cell rfl 9 (by decide)
      have e13 := ho6.cell rfl 13 (by decide)
      have e17 := ho6.cell rfl 17 (by decide)
      have e21 := ho6.cell rfl 21 (by decide)
      have hsf : ∀ (w : World) (a : Addr) (m : Mode) (x : Nat), (store a (.float .f64 x) m).run Try.prog w = stored Try.prog w a (.float .f64 x) m := fun w a m x => run_store Try.prog w a _ m rfl
      simp only [show (itVals (headK.map headI))[1]? = some (.int .i64 0) from rfl] at e1
      simp only [show (itVals (headK.map headI))[6]? = some (.float .f64 0) from rfl] at e6
      simp only [show (itVals (headK.map headI))[9]? = some (.int .i64 0) from rfl] at e9
      simp only [show (itVals (headK.map headI))[13]? = some (.int .i64 0) from rfl] at e13
      simp only [show (itVals (headK.map headI))[17]? = some (.int .i64 0) from rfl] at e17
      simp only [show (itVals (headK.map headI))[21]? = some (.int .i64 0) from rfl] at e21
      have x0 := hXr.out.c0
      have x1 := hXr.out.c1
      have x2 := hXr.out.c2
      have x3 := hXr.out.c3
      have x4 := hXr.out.c4
      have x5 := hXr.out.c5
      simp only at x0 x1 x2 x3 x4 x5
      have z1 := hz 1
      have z6 := hz 6
      have z9 := hz 9
      have z13 := hz 13
      have z17 := hz 17
      have z21 := hz 21
      clear hz hown ho6 hl6 hcp
      have hX2 := hXr
      clear hXr hKr HK1 HX1 HO1
      cases dead
      · have HOf := hide (head_store (key := key) (wt := wt) (cell := cell) (no := no) (n := (len : Nat)) HO6.out)
        have HWf := hide (head_below hWr.out hbg (.float .f64 key) (.int .i64 wt) (.int .i64 cell) (.int .i64 no) (.int .i64 (len : Nat)))
        go_wp2_with fail
        go_loopw [3, 57] (fun v i wr' => ∃ k : Nat, k ≤ len ∧ i = .int .i64 k ∧ Hid (OwnsI wr' w.heap.size v ([⟨1, 0, 0, noS⟩, ⟨4, 0, key, noS⟩, ⟨3, wt, 0, noS⟩, ⟨2, cell, 0, noS⟩, ⟨3, no, 0, noS⟩, ⟨1, len, 0, noS⟩] ++ (xs.map numI).take k)) ∧ Hid (Below w.heap.size w wr')) (fun _ i _ => len - (intOf i).toNat)
        case atStart => exact ⟨0, by omega, rfl, HOf, HWf⟩
        case round =>
          obtain ⟨k, hk, rfl, hown, hWr⟩ := hrel
          rcases Nat.lt_or_ge k len with hlt | hge
          · obtain ⟨b, off, rfl, hc, hmem, hx⟩ := (H.out.keep hWr.out (Nat.le_refl _)).at k hlt
            obtain ⟨x, hxe⟩ : ∃ x, x = xs.getD k 0 := ⟨_, rfl⟩
            rw [← hxe] at hc hmem hx
            have HXE := hide hxe
            have HOk := hide (hown.out.keep (below_alloc wr (.cells #[.int .i64 4, .int .i64 0, .float .f64 x, .string ⟨#[]⟩] 73)) (Nat.le_refl _))
            have HWk := hide (rBelow hWr.out (below_alloc wr (.cells #[.int .i64 4, .int .i64 0, .float .f64 x, .string ⟨#[]⟩] 73)))
            have HI := hide (is_one wr (numI x) (num_fits x hx))
            unfold numI noS at HI
            simp only at HI
            have HLEN : Hid ((([⟨1, 0, 0, noS⟩, ⟨4, 0, key, noS⟩, ⟨3, wt, 0, noS⟩, ⟨2, cell, 0, noS⟩, ⟨3, no, 0, noS⟩, ⟨1, (len : Nat), 0, noS⟩] : List It) ++ (xs.map numI).take k).length + 1 ≤ 1000000) := by show _ ≤ _; simp; omega
            clear hxe hmem hx
            go_wp2_with (at_builtin; refine wpList_append_items _ rfl (.tmp 61) (.tmp 64) rfl w.heap.size _ _ rfl HOk.out _ _ _ _ rfl HI.out (fun h => by cases h) HLEN.out HWk.out.size ?_)
            intro v7 w7 ho7 hb7 _
            have HO7 := hide ho7
            have HW7 := hide (HWk.out.trans hb7)
            clear ho7 hb7 HOk HI HLEN
            go_wp2
            go_roundw
            case rel =>
              have hk' : k < xs.length := by rw [HL.out]; exact hlt
              refine ⟨k + 1, by omega, by go_num, ?_, HW7⟩
              have e : (xs.map numI).take (k + 1) = (xs.map numI).take k ++ [⟨4, 0, x, ⟨#[]⟩⟩] := by
                rw [List.take_succ_eq_append_getElem (by simpa using hk'), HXE.out]
                simp [numI, noS, List.getD, hk']
              rw [e, ← List.append_assoc]
              exact HO7
            case measure => simp only [intOf]; omega
          · have htk : (xs.map numI).take k = xs.map numI := List.take_of_length_le (by rw [List.length_map, HL.out]; omega)
            rw [htk] at hown
            have HFin : Hid (OwnsI wr w.heap.size u3 (Rw.items ⟨key, false, xs, wt, cell, no⟩)) := by
              have e : Rw.items ⟨key, false, xs, wt, cell, no⟩ = [⟨1, 0, 0, noS⟩, ⟨4, 0, key, noS⟩, ⟨3, wt, 0, noS⟩, ⟨2, cell, 0, noS⟩, ⟨3, no, 0, noS⟩, ⟨1, len, 0, noS⟩] ++ xs.map numI := by
                unfold Rw.items Rw.head
                simp only [HL.out]
                rfl
              show OwnsI _ _ _ _
              rw [e]
              exact hown.out
            clear htk hown
            go_wp2_with fail
            go_ret
            exact ⟨_, rfl, HFin.out, hWr.out⟩
      · have HO7 := hide (HO6.out.store (m := ⟨1, 1, 0, noS⟩ :: headK.tail.map headI) rfl 1 (.int .i64 1) rfl rfl)
        have HOf := hide (head_store (key := key) (wt := wt) (cell := cell) (no := no) (n := (len : Nat)) HO7.out)
        have HWf := hide (head_below (hWr.out.setCell (p := ⟨g, 1, none⟩) hbg (.int .i64 1)) hbg (.float .f64 key) (.int .i64 wt) (.int .i64 cell) (.int .i64 no) (.int .i64 (len : Nat)))
        go_wp2_with fail
        go_loopw [3, 57] (fun v i wr' => ∃ k : Nat, k ≤ len ∧ i = .int .i64 k ∧ Hid (OwnsI wr' w.heap.size v ([⟨1, 1, 0, noS⟩, ⟨4, 0, key, noS⟩, ⟨3, wt, 0, noS⟩, ⟨2, cell, 0, noS⟩, ⟨3, no, 0, noS⟩, ⟨1, len, 0, noS⟩] ++ (xs.map numI).take k)) ∧ Hid (Below w.heap.size w wr')) (fun _ i _ => len - (intOf i).toNat)
        case atStart => exact ⟨0, by omega, rfl, HOf, HWf⟩
        case round =>
          obtain ⟨k, hk, rfl, hown, hWr⟩ := hrel
          rcases Nat.lt_or_ge k len with hlt | hge
          · obtain ⟨b, off, rfl, hc, hmem, hx⟩ := (H.out.keep hWr.out (Nat.le_refl _)).at k hlt
            obtain ⟨x, hxe⟩ : ∃ x, x = xs.getD k 0 := ⟨_, rfl⟩
            rw [← hxe] at hc hmem hx
            have HXE := hide hxe
            have HOk := hide (hown.out.keep (below_alloc wr (.cells #[.int .i64 4, .int .i64 0, .float .f64 x, .string ⟨#[]⟩] 73)) (Nat.le_refl _))
            have HWk := hide (rBelow hWr.out (below_alloc wr (.cells #[.int .i64 4, .int .i64 0, .float .f64 x, .string ⟨#[]⟩] 73)))
            have HI := hide (is_one wr (numI x) (num_fits x hx))
            unfold numI noS at HI
            simp only at HI
            have HLEN : Hid ((([⟨1, 1, 0, noS⟩, ⟨4, 0, key, noS⟩, ⟨3, wt, 0, noS⟩, ⟨2, cell, 0, noS⟩, ⟨3, no, 0, noS⟩, ⟨1, (len : Nat), 0, noS⟩] : List It) ++ (xs.map numI).take k).length + 1 ≤ 1000000) := by show _ ≤ _; simp; omega
            clear hxe hmem hx
            go_wp2_with (at_builtin; refine wpList_append_items _ rfl (.tmp 61) (.tmp 64) rfl w.heap.size _ _ rfl HOk.out _ _ _ _ rfl HI.out (fun h => by cases h) HLEN.out HWk.out.size ?_)
            intro v7 w7 ho7 hb7 _
            have HO7 := hide ho7
            have HW7 := hide (HWk.out.trans hb7)
            clear ho7 hb7 HOk HI HLEN
            go_wp2
            go_roundw
            case rel =>
              have hk' : k < xs.length := by rw [HL.out]; exact hlt
              refine ⟨k + 1, by omega, by go_num, ?_, HW7⟩
              have e : (xs.map numI).take (k + 1) = (xs.map numI).take k ++ [⟨4, 0, x, ⟨#[]⟩⟩] := by
                rw [List.take_succ_eq_append_getElem (by simpa using hk'), HXE.out]
                simp [numI, noS, List.getD, hk']
              rw [e, ← List.append_assoc]
              exact HO7
            case measure => simp only [intOf]; omega
          · have htk : (xs.map numI).take k = xs.map numI := List.take_of_length_le (by rw [List.length_map, HL.out]; omega)
            rw [htk] at hown
            have HFin : Hid (OwnsI wr w.heap.size u3 (Rw.items ⟨key, true, xs, wt, cell, no⟩)) := by
              have e : Rw.items ⟨key, true, xs, wt, cell, no⟩ = [⟨1, 1, 0, noS⟩, ⟨4, 0, key, noS⟩, ⟨3, wt, 0, noS⟩, ⟨2, cell, 0, noS⟩, ⟨3, no, 0, noS⟩, ⟨1, len, 0, noS⟩] ++ xs.map numI := by
                unfold Rw.items Rw.head
                simp only [HL.out]
                rfl
              show OwnsI _ _ _ _
              rw [e]
              exact hown.out
            clear htk hown
            go_wp2_with fail
            go_ret
            exact ⟨_, rfl, HFin.out, hWr.out⟩

end Go.Proofs.Ytnhhapipadiffaa
