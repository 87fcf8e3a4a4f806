/-
  The landed pool: pools that New did not give; all that it says.
-/
import Derived.Test.YtenaonnijpnnaaaBl
import Derived.Test.YtenaonnijpnnaaaPoN
namespace Go.Proofs.Ytenaonnijpnnaaa
open Go.RowKit Go.Maps Go.Sort Go.Shelf
set_option linter.unusedVariables false

theorem zeroPo_is : zeroPo = #[.pointer none, .slice none 0 0, .int .i64 0, .map none, .int .i64 0] := by kernel_rfl
theorem nobN (w : World) : Dead w (.pointer none) := .inl rfl

set_option maxHeartbeats 4000000 in
theorem nob_has (w : World) (v : Value) (h : Nob w v) : Calls Try.prog 25 #[v, .int .i64 0] w fun e w' => e = .returned (.bool false) ∧ w' = w := by
  rcases h with rfl | ⟨q, rfl, hq⟩
  · go_enter Try.func25, Try.ntmps25
    go_wp2_with fail
    go_ret
    exact ⟨rfl, rfl⟩
  · rw [zeroPo_is] at hq
    have c0 : w.cell? ⟨q, 0, none⟩ = some (.pointer none) := (Addr.cell0 hq).trans rfl
    have HP := hide (dead_pages w _ (nobN w))
    clear hq
    go_enter Try.func25, Try.ntmps25
    go_wp2_with fail
    refine HP.out.mono ?_
    rintro e w' ⟨rfl, hw'⟩
    obtain rfl := hw'.symm
    go_wp2_with fail
    go_ret
    exact ⟨rfl, rfl⟩
set_option maxHeartbeats 4000000 in
theorem nob_read (w : World) (v : Value) (h : Nob w v) : Calls Try.prog 15 #[v, .int .i64 0] w fun e w' => e = .returned (.tuple #[.slice none 0 0, .int .i64 3]) ∧ Below w.heap.size w w' := by
  have HH := hide (nob_has w v h)
  have HB := hide (Below.refl w.heap.size w)
  clear h
  go_enter Try.func15, Try.ntmps15
  go_wp2_with fail
  refine HH.out.mono ?_
  rintro e w' ⟨rfl, hw'⟩
  obtain rfl := hw'.symm
  go_wp2_with fail
  go_ret2
  exact ⟨rfl, HB.out⟩
set_option maxHeartbeats 4000000 in
theorem nob_put (w : World) (v x : Value) (h : Nob w v) : Calls Try.prog 11 #[v, .int .i64 0, x, .int .i64 0] w fun e w' => e = .returned (.int .i64 3) ∧ Below w.heap.size w w' := by
  have HH := hide (nob_has w v h)
  have HB := hide (Below.refl w.heap.size w)
  clear h
  go_enter Try.func11, Try.ntmps11
  go_wp2_with fail
  refine HH.out.mono ?_
  rintro e w' ⟨rfl, hw'⟩
  obtain rfl := hw'.symm
  go_wp2_with fail
  go_ret
  exact ⟨rfl, HB.out⟩
set_option maxHeartbeats 4000000 in
theorem nob_evict (w : World) (v : Value) (h : Nob w v) : Calls Try.prog 14 #[v, .int .i64 0] w fun e w' => e = .returned (.int .i64 3) ∧ Below w.heap.size w w' := by
  rcases h with rfl | ⟨q, rfl, hq⟩
  · have HB := hide (Below.refl w.heap.size w)
    go_enter Try.func14, Try.ntmps14
    go_wp2_with fail
    go_ret
    exact ⟨rfl, HB.out⟩
  · rw [zeroPo_is] at hq
    have c3 : w.cell? ⟨q, 3, none⟩ = some (.map none) := (Addr.cell0 hq).trans rfl
    have hlook := Maps.look_nil true keyT mapT (zeroFr_is w) (key_is (k := 0) (by decide))
    simp only [if_true, zeroFr] at hlook
    have HB := hide (below_alloc w (.cells #[.slice none 0 0, .bool false, .int .i64 0] 69))
    clear hq
    go_enter Try.func14, Try.ntmps14
    go_wp2_with fail
    go_ret
    exact ⟨rfl, HB.out⟩
theorem setCell_same {w : World} {a : Addr} {v : Value} {C : Array Value} {t : TypeId} (hq : w.heap[a.block]? = some (.cells C t (0, 0))) (hs : a.spot = none) (hc : C[a.off]? = some v) : Below w.heap.size w (w.setCell a v) := by
  obtain ⟨b, o, s⟩ := a
  simp only at hs hq hc
  subst hs
  have h1 := heap_setCell_same w b o _ t v hq
  refine ⟨rfl, rfl, rfl, by rw [setCell_size]; exact Nat.le_refl _, fun i hi => ?_⟩
  by_cases e : i = b
  · subst e
    rw [h1, hq]
    congr 2
    apply Array.ext_getElem?
    intro j
    by_cases hj : o = j
    · subst hj
      rw [hc]
      have := (Array.getElem?_eq_some_iff.1 hc).1
      simp [this]
    · simp [hj]
  · exact Below.heap_setCell _ _ _ _ e
set_option maxHeartbeats 4000000 in
theorem nob_synced (w : World) (v : Value) (h : Nob w v) : Calls Try.prog 20 #[v] w fun e w' => e = .returned (.tuple #[]) ∧ Below w.heap.size w w' := by
  rcases h with rfl | ⟨q, rfl, hq⟩
  · have HB := hide (Below.refl w.heap.size w)
    go_enter Try.func20, Try.ntmps20
    go_wp2_with fail
    refine bodyPost_ret (results_none rfl _ _ _) rfl ?_
    exact ⟨rfl, HB.out⟩
  · rw [zeroPo_is] at hq
    have c0 : w.cell? ⟨q, 0, none⟩ = some (.pointer none) := (Addr.cell0 hq).trans rfl
    have c4 : w.cell? ⟨q, 4, none⟩ = some (.int .i64 0) := (Addr.cell0 hq).trans rfl
    have f4 : w.frozen? ⟨q, 4, none⟩ = false := frozen_of_row w q _ _ 54 hq
    have HP := hide (dead_stream w _ (nobN w))
    have HB := hide (setCell_same (a := ⟨q, 4, none⟩) (v := .int .i64 0) hq rfl rfl)
    have HST : Hid ((Instr.storeAt 3 (.pointer (some ⟨q, 4, none⟩)) (.int .i64 0)).run Try.prog w = .ok () (w.setCell ⟨q, 4, none⟩ (.int .i64 0))) := by
      show _ = _
      simp [go_sem, Instr.storeAt, c4, f4]
    clear hq c4 f4
    go_enter Try.func20, Try.ntmps20
    go_wp2_with fail
    refine HP.out.mono ?_
    rintro e w' ⟨rfl, hw'⟩
    obtain rfl := hw'.symm
    go_wp2_with (refine wpList_store _ rfl rfl 3 (.tmp 20) (.tmp 18) rfl (.pointer (some ⟨q, 4, none⟩)) (.int .i64 0) rfl rfl _ HST.out ?_)
    go_end0
    exact ⟨rfl, HB.out⟩
set_option maxHeartbeats 1000000 in
/-- slices.Sorted, of no map's keys. -/
theorem sortedN (w : World) : Calls Try.prog 35 #[.func (.func 51) #[] #[.pointer (some ⟨w.heap.size, 0, none⟩)]] (w.alloc (.cells #[.map none] 52)) fun e w' => e = .returned (.slice none 0 0) ∧ Below (w.alloc (.cells #[.map none] 52)).heap.size (w.alloc (.cells #[.map none] 52)) w' := by
  have hseq : SeqGives Fence.wide 2 Try.prog 51 #[.pointer (some ⟨w.heap.size, 0, none⟩)] encZ (fun ss : List Int => ss = []) 0 (w.alloc (.cells #[.map none] 52)) :=
    AnyZI.keys_gives_nil (ρ := keysA_ren) { keysA with } Fence.wide _ trivial rfl w.heap.size _ (by simp) (by simp)
  have cS := AnyZI.sorted_in sortedA Fence.wide 5 trivial trivial trivial trivial rfl (by omega) (sortsP _) (enters_of Try.func50 (by kernel_rfl) rfl) 51 #[.pointer (some ⟨w.heap.size, 0, none⟩)] trivial (enters_of Try.func51 (by kernel_rfl) rfl) _ 0 (Nat.zero_le _) (by omega) _ hseq
  change CallsIn _ _ Try.prog 35 _ _ _ at cS
  refine ((callsIn_wide (n := 5)).1 cS).mono ?_
  rintro e w' ⟨v, ss, rfl, rfl, hrow, hnil, hb⟩
  obtain rfl : v = .slice none 0 0 := hnil.2 rfl
  exact ⟨rfl, hb⟩
set_option maxHeartbeats 4000000 in
theorem nob_inn (w : World) (v : Value) (h : Nob w v) : Calls Try.prog 21 #[v] w fun e w' => e = .returned (.slice none 0 0) ∧ Below w.heap.size w w' := by
  rcases h with rfl | ⟨q, rfl, hq⟩
  · have HB := hide (Below.refl w.heap.size w)
    go_enter Try.func21, Try.ntmps21
    go_wp2_with fail
    go_ret
    exact ⟨rfl, HB.out⟩
  · rw [zeroPo_is] at hq
    have c3 : w.cell? ⟨q, 3, none⟩ = some (.map none) := (Addr.cell0 hq).trans rfl
    have HK := hide (keysP none w)
    have HS := hide (sortedN w)
    have HA := hide (below_alloc w (.cells #[.map none] 52))
    clear hq
    go_enter Try.func21, Try.ntmps21
    go_wp2_with fail
    refine HK.out.mono ?_
    rintro e w1 ⟨rfl, hw1⟩
    subst hw1
    go_wp2_with fail
    refine HS.out.mono ?_
    rintro e w2 ⟨rfl, hb⟩
    have HB := hide (HA.out.trans (hb.mono HA.out.size))
    clear hb
    go_wp2_with fail
    go_ret
    exact ⟨rfl, HB.out⟩
set_option maxHeartbeats 4000000 in
theorem nob_dirty (w : World) (v : Value) (h : Nob w v) : Calls Try.prog 22 #[v] w fun e w' => e = .returned (.slice none 0 0) ∧ Below w.heap.size w w' := by
  have HA := hide (below_alloc w (.cells #[v] 27))
  have HI := hide (nob_inn _ v (h.keep HA.out))
  have hmf : ∀ (fn : Fn) (first cap : Array Value) (w : World), (Instr.makeFunc fn first cap).run Try.prog w = .ok (.func fn first cap) w := fun _ _ _ _ => rfl
  have hv : ∃ o, v = .pointer o := by
    rcases h with rfl | ⟨q, rfl, _⟩
    · exact ⟨_, rfl⟩
    · exact ⟨_, rfl⟩
  obtain ⟨o, rfl⟩ := hv
  clear h
  go_enter Try.func22, Try.ntmps22
  go_wp2_with fail
  refine HI.out.mono ?_
  rintro e w2 ⟨rfl, hb2⟩
  have HB := hide (HA.out.trans (hb2.mono HA.out.size))
  clear hb2
  go_wp2_with fail
  refine (delf_none _ _ _ _).mono ?_
  rintro e w' ⟨rfl, hw'⟩
  obtain rfl := hw'.symm
  go_wp2_with fail
  go_ret
  exact ⟨rfl, HB.out⟩
set_option maxHeartbeats 4000000 in
theorem nob_flush (w : World) (v : Value) (h : Nob w v) : Calls Try.prog 13 #[v] w fun e w' => e = .returned (.int .i64 0) ∧ Below w.heap.size w w' := by
  have HD := hide (nob_dirty w v h)
  clear h
  go_enter Try.func13, Try.ntmps13
  go_wp2_with fail
  refine HD.out.mono ?_
  rintro e w1 ⟨rfl, hb1⟩
  have HB := hide hb1
  clear hb1
  go_wp2_with fail
  go_loopw [10] (fun i wr => i = .int .i64 0 ∧ wr = w1) (fun _ _ => 0)
  case atStart => exact ⟨rfl, rfl⟩
  case round =>
    obtain ⟨rfl, hw⟩ := hrel
    obtain rfl := hw.symm
    go_wp2_with fail
    go_ret
    exact ⟨rfl, HB.out⟩
theorem poolN_holds : PoolN :=
  ⟨nob_synced, nob_read, nob_put, nob_flush, nob_evict, fun w v h => (nob_inn w v h).mono (fun e w' ⟨h1, h2⟩ => ⟨⟨none, 0, h1⟩, h2⟩), fun w v h => (nob_dirty w v h).mono (fun e w' ⟨h1, h2⟩ => ⟨⟨none, 0, h1⟩, h2⟩)⟩
end Go.Proofs.Ytenaonnijpnnaaa
