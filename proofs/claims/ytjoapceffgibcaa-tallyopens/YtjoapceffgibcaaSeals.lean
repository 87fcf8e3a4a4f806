/-
  What is sealed: the document's bytes and the program's own.
-/
import Derived.Test.YtjoapceffgibcaaMade
namespace Go.Proofs.Ytjoapceffgibcaa
open Go.RowKit

theorem hide {p : Prop} (h : p) : Hid p := h

theorem below_alloc (w : World) (o : Obj) : Below w.heap.size w (w.alloc o) := (Below.refl _ _).alloc (Nat.le_refl _) o

set_option maxHeartbeats 400000 in
theorem rseal_any (a : Option Addr) (len cap : Nat) (xs : List Nat) (w : World) (h : Bs w a len xs) (hn : a = none → cap = 0) (hm : len ≤ 3000) :
    Calls Try.prog 13 #[.slice a len cap] w fun e w' => ∃ v, e = .returned v ∧ Owns w' w.heap.size v (fourB (Ta.sum xs) ++ xs) ∧ Below w.heap.size w w' := by
  obtain ⟨s, hs⟩ : ∃ s, s = Ta.sum xs := ⟨_, rfl⟩
  have hsl : s < 4294967296 := by rw [hs]; exact Ta.sum_lt h.2.1
  have H11 := rsum_any a len cap xs w h (by omega)
  rw [← hs] at H11 ⊢
  have H11 := hide H11
  have H15 := hide (four_any s hsl w)
  have HO : Hid (Owns (w.alloc (.cells (vals (fourB s)).toArray 5)) w.heap.size (.slice (some ⟨w.heap.size, 0, none⟩) 4 4) (fourB s)) := Owns.lit w w.heap.size (fourB s) (Nat.le_refl _) (by simp [fourB])
  have HB : Hid (Bs (w.alloc (.cells (vals (fourB s)).toArray 5)) a len xs) := h.keep (below_alloc w _) (Nat.le_refl _)
  have HN : Hid (a = none → cap = 0) := hn
  have HL : Hid ((fourB s).length + len ≤ 1000000) := by show 4 + len ≤ 1000000; omega
  have HS : Hid (w.heap.size ≤ (w.alloc (.cells (vals (fourB s)).toArray 5)).heap.size) := (below_alloc w _).size
  have HW : Hid (Below w.heap.size w (w.alloc (.cells (vals (fourB s)).toArray 5))) := below_alloc w _
  clear hs hsl h hn hm
  go_enter Try.func13, Try.ntmps13
  go_wp2_with fail
  refine H11.out.mono ?_
  rintro e w' ⟨rfl, hw⟩
  obtain rfl := hw.symm
  go_wp2_with fail
  refine H15.out.mono ?_
  rintro e w' ⟨rfl, rfl⟩
  go_wp2_with (at_builtin; refine wpList_append_bytes _ rfl _ _ rfl w.heap.size _ (fourB s) rfl HO.out a len cap xs rfl HB.out HN.out HL.out HS.out ?_)
  intro v' w' ho hb
  go_wp2
  go_ret
  exact ⟨_, rfl, ho, HW.out.trans hb⟩

set_option maxHeartbeats 400000 in
theorem seal_any (a : Option Addr) (len cap : Nat) (xs : List Nat) (w : World) (h : Bs w a len xs) (hn : a = none → cap = 0) (hm : len ≤ 3000) :
    Calls Try.prog 8 #[.slice a len cap] w fun e w' => ∃ v, e = .returned v ∧ Owns w' w.heap.size v (fourB (Ta.sum xs) ++ xs) ∧ Below w.heap.size w w' := by
  obtain ⟨s, hs⟩ : ∃ s, s = Ta.sum xs := ⟨_, rfl⟩
  have hsl : s < 4294967296 := by rw [hs]; exact Ta.sum_lt h.2.1
  have H10 := sum_any a len cap xs w h (by omega)
  rw [← hs] at H10 ⊢
  have H10 := hide H10
  have HN : Hid (a = none → cap = 0) := hn
  have HX : Hid (Bs w a len xs) := h
  clear hs h hn
  obtain ⟨i0, hi, hz0, hz1, hz2⟩ := info_parts info5
  go_enter Try.func8, Try.ntmps8
  go_wp2_with fail
  refine H10.out.mono ?_
  rintro e w' ⟨rfl, hw⟩
  obtain rfl := hw.symm
  go_wp2_with (at_make; refine wpList_make_own _ rfl _ _ 22 rfl w.heap.size 5 i0 (.int .u8 0) 1 Try.underlying22 hi hz0 hz1 _ _ _ (4 + len) rfl rfl (by omega) ?b2 ?b3 (Nat.le_refl _) ?_)
  case b2 => rw [hz2]; omega
  case b3 => unfold maxLen; omega
  intro w0 hown0 hgrow0
  have HW : Hid (Below w.heap.size w w0) := (Below.refl w.heap.size w).grown hgrow0 (Nat.le_refl _) (fun k hk => by cases hk)
  have HO : Hid (Owns w0 w.heap.size (.slice (some ⟨w.heap.size, 0, none⟩) 0 (4 + len)) []) := hown0
  clear hown0 hgrow0
  have HB4 : Hid (Bs (w0.alloc (.cells (vals (fourB s)).toArray 5)) (some ⟨w0.heap.size, 0, none⟩) 4 (fourB s)) := bs_marked w0 (fourB s) (0, 0) (fourB_bytes hsl)
  have HO2 : Hid (Owns (w0.alloc (.cells (vals (fourB s)).toArray 5)) w.heap.size (.slice (some ⟨w.heap.size, 0, none⟩) 0 (4 + len)) []) := HO.out.keep (below_alloc w0 _) (Nat.le_refl _)
  have HS : Hid (w.heap.size ≤ (w0.alloc (.cells (vals (fourB s)).toArray 5)).heap.size) := Nat.le_trans HW.out.size (below_alloc w0 _).size
  have HW2 : Hid (Below w.heap.size w (w0.alloc (.cells (vals (fourB s)).toArray 5))) := HW.out.trans ((below_alloc w0 _).mono HW.out.size)
  go_wp2_with (at_builtin; refine wpList_append_bytes _ rfl (.tmp 11) (.tmp 23) rfl w.heap.size _ [] rfl HO2.out (some ⟨w0.heap.size, 0, none⟩) 4 4 (fourB s) rfl HB4.out (fun e => by cases e) (by simp) HS.out ?_)
  intro v1 w1 ho1 hb1
  have HW3 : Hid (Below w.heap.size w w1) := HW2.out.trans hb1
  have HO3 : Hid (Owns w1 w.heap.size v1 (fourB s)) := ho1
  have HB : Hid (Bs w1 a len xs) := HX.out.keep HW3.out (Nat.le_refl _)
  have HL : Hid ((fourB s).length + len ≤ 1000000) := by show 4 + len ≤ 1000000; omega
  clear ho1 hb1
  go_wp2_with (at_builtin; refine wpList_append_bytes _ rfl (.tmp 25) (.tmp 26) rfl w.heap.size _ (fourB s) rfl HO3.out a len cap xs rfl HB.out HN.out HL.out HW3.out.size ?_)
  intro v2 w2 ho2 hb2
  go_wp2
  go_ret
  exact ⟨_, rfl, ho2, HW3.out.trans hb2⟩
end Go.Proofs.Ytjoapceffgibcaa
