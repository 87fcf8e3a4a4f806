/-
  The landed undo's Check: numbers gathered, sorted, compacted.
-/
import Derived.Test.YtpdkeghmpnanpaaUdC
import Derived.Test.YtpdkeghmpnanpaaUdLy
namespace Go.Proofs.Ytpdkeghmpnanpaa
open Go.RowKit Go.Sort Go.Lib

def srt (ks : List Int) : List Int := ks.mergeSort fun x y => decide (x ≤ y)
theorem srt_perm (ks : List Int) : (srt ks).Perm ks := List.mergeSort_perm _ _
theorem srt_len (ks : List Int) : (srt ks).length = ks.length := (srt_perm ks).length_eq
theorem srt_le (ks : List Int) {i j : Nat} (hij : i < j) (hj : j < (srt ks).length) : (srt ks)[i]'(by omega) ≤ (srt ks)[j] := by
  have h : (srt ks).Pairwise (fun a b => decide (a ≤ b) = true) := List.pairwise_mergeSort (fun a b c h1 h2 => by simp only [decide_eq_true_eq] at *; exact Int.le_trans h1 h2) (fun a b => by simp only [Bool.or_eq_true, decide_eq_true_eq]; exact Int.le_total a b) ks
  have := List.pairwise_iff_getElem.1 h i j (by omega) hj hij
  simpa using this

theorem keeps_iff (d : List Int) (j : Nat) (h0 : 0 < j) (hj : j < d.length) : keeps d.toArray j = true ↔ d[j] ≠ d[j - 1]'(by omega) := by
  unfold keeps
  rw [decide_eq_true_eq, getElem!_pos d.toArray j (by simpa using hj), getElem!_pos d.toArray (j - 1) (by simp; omega)]
  simp only [List.getElem_toArray]
  constructor
  · rintro (h | h)
    · omega
    · exact h
  · exact .inr

theorem compact_lt (ks : List Int) : decide ((compactUpTo (srt ks).toArray (srt ks).toArray.size).length < ks.length) = !decide ks.Nodup := by
  have hsz : (srt ks).toArray.size = ks.length := by simp [srt_len]
  rw [hsz]
  by_cases hall : ∀ j, j < ks.length → keeps (srt ks).toArray j = true
  · have hn : ks.Nodup := by
      rw [← (srt_perm ks).nodup_iff]
      refine List.pairwise_iff_getElem.2 fun i j hi hj hij => ?_
      have hk := (keeps_iff (srt ks) j (by omega) hj).1 (hall j (by rw [← srt_len]; exact hj))
      have h2 := srt_le ks (i := j - 1) (j := j) (by omega) hj
      by_cases e : i = j - 1
      · subst e; exact fun h => hk h.symm
      · have h1 := srt_le ks (i := i) (j := j - 1) (by omega) (by omega)
        intro h
        omega
    rw [compactUpTo_all _ _ hall]
    simp [hn]
  · have hn : ¬ ks.Nodup := by
      intro hn
      apply hall
      intro j hj
      rcases Nat.eq_zero_or_pos j with rfl | h0
      · exact keeps_lt_one _ 0 (by omega)
      · rw [keeps_iff (srt ks) j h0 (by rw [srt_len]; exact hj)]
        have := List.pairwise_iff_getElem.1 ((srt_perm ks).nodup_iff.2 hn) (j - 1) j (by rw [srt_len]; omega) (by rw [srt_len]; exact hj) (by omega)
        exact fun h => this h.symm
    have hl : (compactUpTo (srt ks).toArray ks.length).length < ks.length := by
      unfold compactUpTo
      rw [List.length_map]
      have : ((List.range ks.length).filter (keeps (srt ks).toArray)).length < (List.range ks.length).length := by
        rw [List.length_filter_lt_length_iff_exists]
        have : ∃ j, ¬ (j < ks.length → keeps (srt ks).toArray j = true) := Classical.not_forall.1 hall
        obtain ⟨j, hj⟩ := this
        rw [Classical.not_imp] at hj
        exact ⟨j, List.mem_range.2 hj.1, hj.2⟩
      simpa using this
    rw [decide_eq_true hl, decide_eq_false hn]
    rfl

theorem sort_below {w : World} {B g n : Nat} {os : Array Obj} (d : Array Int) (hg : B ≤ g) (hB : B ≤ w.heap.size) : Below B w (grow (putRow (Value.int .i64) (Sort.ahead w n) g 0 d) os) := by
  refine ⟨rfl, rfl, rfl, by simp, fun k hk => ?_⟩
  rw [heap_grow_old _ _ (by simp; omega)]
  have : g ≠ k := by omega
  simp [putRow, mapBlock, Sort.ahead, Array.getElem?_modify, this]

theorem holds_ints {w : World} {g : Nat} {cur : Array Value} {e : TypeId} {ks : List Int} (hg : w.heap[g]? = some (.cells cur e (0, 0))) (ht : cur.toList.take ks.length = kVals ks) : Holds (Value.int .i64) w g 0 ks.toArray := by
  intro j hj
  have hj' : j < ks.length := by simpa using hj
  refine ⟨?_, frozen_of_row w g _ _ e hg⟩
  rw [Nat.zero_add, cell_of_row _ _ _ _ _ _ hg, ← Array.getElem?_toList]
  have : (cur.toList.take ks.length)[j]? = cur.toList[j]? := List.getElem?_take_of_lt hj'
  rw [← this, ht, getElem!_pos ks.toArray j hj]
  simp [kVals, hj']

set_option maxHeartbeats 4000000 in
set_option maxRecDepth 100000 in
theorem hasTwice_any (v : Value) (ks : List Int) (w : World) (base : Nat) (hb : base ≤ w.heap.size) (h : OwnsV 3 w base v (kVals ks)) (hl : ks.length ≤ 1000) :
    Calls Try.prog 36 #[v] w fun e w' => e = .returned (.bool (!decide ks.Nodup)) ∧ Below base w w' := by
  have hkl : (kVals ks).length = ks.length := by simp [kVals]
  rcases h.2 with ⟨rfl, h0⟩ | ⟨g, cap, cur, rfl, hg, hh, hle, hcm, hcs, ht⟩
  · rw [hkl] at h0
    have : ks = [] := List.eq_nil_of_length_eq_zero h0
    subst this
    have HS := hide (Go.Proofs.AnyM.slices_Sort_int_none sortA none 0 w)
    have HW := hide (Below.refl base w)
    have HC : Hid (Calls Try.prog 47 #[.slice none 0 0] w fun e w' => e = .returned (.slice none 0 0) ∧ w' = w) := by
      clear h hb hl hkl h0 HS HW
      go_enter Try.func47, Try.ntmps47
      go_wp2_with fail
      go_ret
      exact ⟨rfl, rfl⟩
    change Hid (Calls Try.prog 46 _ _ _) at HS
    rw [show (!decide ([] : List Int).Nodup) = false by decide]
    clear h hb hl hkl h0
    go_enter Try.func36, Try.ntmps36
    go_wp2_with fail
    refine HS.out.mono ?_
    rintro e w' ⟨rfl, hw⟩
    obtain rfl := hw.symm
    go_wp2_with fail
    refine HC.out.mono ?_
    rintro e w' ⟨rfl, hw⟩
    obtain rfl := hw.symm
    go_wp2_with fail
    go_ret
    exact ⟨rfl, HW.out⟩
  · rw [hkl] at hle ht ⊢
    rw [Nat.mul_one] at ht
    have hH := holds_ints hh ht
    have hgl : g < w.heap.size := (Array.getElem?_eq_some_iff.1 hh).1
    have HS := hide (Go.Proofs.AnyM.slices_Sort_int sortA g 0 cap ks w hH hgl (by omega))
    change Hid (Calls Try.prog 46 _ _ _) at HS
    have HC : Hid (∀ W, Holds (Value.int .i64) W g 0 (srt ks).toArray → base ≤ W.heap.size → Calls Try.prog 47 #[.slice (some ⟨g, 0, none⟩) ks.length cap] W fun e w' => e = .returned (.slice (some ⟨g, 0, none⟩) (compactUpTo (srt ks).toArray (srt ks).toArray.size).length cap) ∧ Below base W w') := by
      intro W hW hBW
      have hsz : (srt ks).toArray.size = ks.length := by simp [srt_len]
      have hc := Go.Proofs.AnyE.slices_Compact compactA (Value.int .i64) (fun _ => rfl) (EqlAt.intD _ _ .i64) (NeqAt.intD _ _ .i64) 0 Try.zeroValue3 g 0 cap (srt ks).toArray W hW (by rw [hsz]; omega) (by rw [hsz]; exact hle)
      change Calls Try.prog 47 _ _ _ at hc
      rw [hsz] at hc ⊢
      refine hc.mono ?_
      rintro e w' ⟨rfl, q, rfl⟩
      refine ⟨rfl, ?_⟩
      have := sort_below (n := q) (os := #[]) (compactUpTo (srt ks).toArray ks.length ++ List.replicate (ks.length - (compactUpTo (srt ks).toArray ks.length).length) 0).toArray hg hBW
      rwa [grow_empty] at this
    have HH := hide hH
    have HG := hide hg
    have HGL := hide hgl
    have HB := hide hb
    have HCL := hide (compact_lt ks)
    rw [← compact_lt ks]
    generalize (compactUpTo (srt ks).toArray (srt ks).toArray.size).length = m at *
    clear h hkl hg hh hle hcm hcs ht hH hgl hb HCL
    by_cases hm : m < ks.length
    · rw [decide_eq_true hm]
      go_enter Try.func36, Try.ntmps36
      go_wp2_with fail
      refine HS.out.mono ?_
      rintro e w1 ⟨rfl, n, os, hw1⟩
      have hW1 : Below base w w1 := by rw [hw1]; exact sort_below _ HG.out HB.out
      have hH1 : Holds (Value.int .i64) w1 g 0 (srt ks).toArray := by
        rw [hw1]
        exact holds_grow _ _ _ _ _ _ (by simpa using HGL.out) (holds_putRow _ _ _ _ ks.toArray _ (holds_ahead _ _ _ _ _ _ HH.out) (by simp))
      have HC1 := hide (HC.out w1 hH1 (Nat.le_trans HB.out hW1.size))
      have HW1 := hide hW1
      clear hw1 hW1 hH1 HS HC
      go_wp2_with fail
      refine HC1.out.mono ?_
      rintro e w2 ⟨rfl, hb2⟩
      have HW2 := hide (HW1.out.trans hb2)
      clear hb2
      go_wp2_with fail
      go_ret
      exact ⟨rfl, HW2.out⟩
    · rw [decide_eq_false hm]
      go_enter Try.func36, Try.ntmps36
      go_wp2_with fail
      refine HS.out.mono ?_
      rintro e w1 ⟨rfl, n, os, hw1⟩
      have hW1 : Below base w w1 := by rw [hw1]; exact sort_below _ HG.out HB.out
      have hH1 : Holds (Value.int .i64) w1 g 0 (srt ks).toArray := by
        rw [hw1]
        exact holds_grow _ _ _ _ _ _ (by simpa using HGL.out) (holds_putRow _ _ _ _ ks.toArray _ (holds_ahead _ _ _ _ _ _ HH.out) (by simp))
      have HC1 := hide (HC.out w1 hH1 (Nat.le_trans HB.out hW1.size))
      have HW1 := hide hW1
      clear hw1 hW1 hH1 HS HC
      go_wp2_with fail
      refine HC1.out.mono ?_
      rintro e w2 ⟨rfl, hb2⟩
      have HW2 := hide (HW1.out.trans hb2)
      clear hb2
      go_wp2_with fail
      go_ret
      exact ⟨rfl, HW2.out⟩

end Go.Proofs.Ytpdkeghmpnanpaa
