/-
  Nobody's device; the walk of the law on it.
-/
import Derived.Test.YtokdeilcfkobfaaLdN
namespace Go.Proofs.Ytokdeilcfkobfaa
open Go.RowKit

/-- Nobody's device: no pointer, or one to a device that New did not give. -/
def Dead (w : World) (v : Value) : Prop := v = .pointer none ∨ ∃ p, v = .pointer (some ⟨p, 0, none⟩) ∧ w.cell? ⟨p, 0, none⟩ = some (.slice none 0 0)
theorem Dead.keep {w w' : World} {v : Value} (h : Dead w v) (hb : Below w.heap.size w w') : Dead w' v := by
  rcases h with h | ⟨p, h, hc⟩
  · exact .inl h
  · exact .inr ⟨p, h, (hb.cell (World.block_lt_of_cell? w _ hc)).trans hc⟩

set_option maxHeartbeats 1000000 in
theorem dead_pages (w : World) (v : Value) (h : Dead w v) : Calls Try.prog 11 #[v] w fun e w' => e = .returned (.int .i64 0) ∧ w' = w := by
  rcases h with rfl | ⟨p, rfl, c0⟩
  · have hnil : ∀ w : World, (binOp .eql 23 (.pointer none) (.pointer none)).run Try.prog w = .ok (.bool true) w := fun _ => rfl
    go_enter Try.func11, Try.ntmps11
    go_wp2_with fail
    go_ret
    exact ⟨rfl, rfl⟩
  · have hnil : ∀ w : World, (binOp .eql 23 (.pointer (some ⟨p, 0, none⟩)) (.pointer none)).run Try.prog w = .ok (.bool false) w := fun _ => rfl
    go_enter Try.func11, Try.ntmps11
    go_wp2_with fail
    go_ret
    exact ⟨rfl, rfl⟩

set_option maxHeartbeats 1000000 in
theorem dead_given (w : World) (v : Value) (h : Dead w v) : Calls Try.prog 35 #[v] w fun e w' => e = .returned (.bool false) ∧ w' = w := by
  have HP := hide (dead_pages w v h)
  clear h
  go_enter Try.func35, Try.ntmps35
  go_wp2_with fail
  refine HP.out.mono ?_
  rintro e w' ⟨rfl, hw⟩
  obtain rfl := hw.symm
  go_wp2_with fail
  go_ret
  exact ⟨rfl, rfl⟩

set_option maxHeartbeats 1000000 in
theorem dead_has (w : World) (v : Value) (h : Dead w v) : Calls Try.prog 32 #[v, .int .i64 0] w fun e w' => e = .returned (.bool false) ∧ w' = w := by
  have HP := hide (dead_pages w v h)
  clear h
  go_enter Try.func32, Try.ntmps32
  go_wp2_with fail
  refine HP.out.mono ?_
  rintro e w' ⟨rfl, hw⟩
  obtain rfl := hw.symm
  go_wp2_with fail
  go_ret
  exact ⟨rfl, rfl⟩

set_option maxHeartbeats 1000000 in
theorem dead_sync (w : World) (v : Value) (h : Dead w v) : Calls Try.prog 20 #[v] w fun e w' => e = .returned (.tuple #[]) ∧ w' = w := by
  have HP := hide (dead_given w v h)
  clear h
  go_enter Try.func20, Try.ntmps20
  go_wp2_with fail
  refine HP.out.mono ?_
  rintro e w' ⟨rfl, hw⟩
  obtain rfl := hw.symm
  go_wp2_with fail
  refine bodyPost_ret (results_none rfl _ _ _) rfl ?_
  exact ⟨rfl, rfl⟩

set_option maxHeartbeats 1000000 in
theorem dead_arm (w : World) (v : Value) (h : Dead w v) (n : Int) : Calls Try.prog 22 #[v, .int .i64 n] w fun e w' => e = .returned (.tuple #[]) ∧ w' = w := by
  have HP := hide (dead_given w v h)
  clear h
  go_enter Try.func22, Try.ntmps22
  go_wp2_with fail
  refine HP.out.mono ?_
  rintro e w' ⟨rfl, hw⟩
  obtain rfl := hw.symm
  go_wp2_with fail
  refine bodyPost_ret (results_none rfl _ _ _) rfl ?_
  exact ⟨rfl, rfl⟩

set_option maxHeartbeats 1000000 in
theorem dead_crash (w : World) (v : Value) (h : Dead w v) (x y : Value) : Calls Try.prog 24 #[v, x, y] w fun e w' => e = .returned (.tuple #[]) ∧ w' = w := by
  have HP := hide (dead_given w v h)
  clear h
  go_enter Try.func24, Try.ntmps24
  go_wp2_with fail
  refine HP.out.mono ?_
  rintro e w' ⟨rfl, hw⟩
  obtain rfl := hw.symm
  go_wp2_with fail
  refine bodyPost_ret (results_none rfl _ _ _) rfl ?_
  exact ⟨rfl, rfl⟩

set_option maxHeartbeats 1000000 in
theorem dead_read (w : World) (v : Value) (h : Dead w v) : Calls Try.prog 29 #[v, .int .i64 0] w fun e w' => e = .returned (.tuple #[.slice none 0 0, .int .i64 3]) ∧ w' = w := by
  have HP := hide (dead_has w v h)
  clear h
  go_enter Try.func29, Try.ntmps29
  go_wp2_with fail
  refine HP.out.mono ?_
  rintro e w' ⟨rfl, hw⟩
  obtain rfl := hw.symm
  go_wp2_with fail
  go_ret2
  exact ⟨rfl, rfl⟩

set_option maxHeartbeats 1000000 in
theorem dead_stream (w : World) (v : Value) (h : Dead w v) : Calls Try.prog 27 #[v] w fun e w' => e = .returned (.tuple #[.int .i64 0, .slice none 0 0]) ∧ w' = w := by
  have HP := hide (dead_given w v h)
  clear h
  go_enter Try.func27, Try.ntmps27
  go_wp2_with fail
  refine HP.out.mono ?_
  rintro e w' ⟨rfl, hw⟩
  obtain rfl := hw.symm
  go_wp2_with fail
  go_ret2
  exact ⟨rfl, rfl⟩

set_option maxHeartbeats 1000000 in
theorem dead_pending (w : World) (v : Value) (h : Dead w v) : Calls Try.prog 30 #[v] w fun e w' => e = .returned (.tuple #[.int .i64 0, .int .i64 0]) ∧ w' = w := by
  have HP := hide (dead_given w v h)
  clear h
  go_enter Try.func30, Try.ntmps30
  go_wp2_with fail
  refine HP.out.mono ?_
  rintro e w' ⟨rfl, hw⟩
  obtain rfl := hw.symm
  go_wp2_with fail
  go_ret2
  exact ⟨rfl, rfl⟩

set_option maxHeartbeats 1000000 in
theorem dead_write (w : World) (v : Value) (h : Dead w v) (x : Value) : Calls Try.prog 13 #[v, .int .i64 0, x] w fun e w' => e = .returned (.int .i64 3) ∧ w' = w := by
  have HP := hide (dead_has w v h)
  clear h
  go_enter Try.func13, Try.ntmps13
  go_wp2_with fail
  refine HP.out.mono ?_
  rintro e w' ⟨rfl, hw⟩
  obtain rfl := hw.symm
  go_wp2_with fail
  go_ret
  exact ⟨rfl, rfl⟩

set_option maxHeartbeats 1000000 in
theorem dead_append (w : World) (v : Value) (h : Dead w v) (x : Value) : Calls Try.prog 16 #[v, x] w fun e w' => e = .returned (.int .i64 1) ∧ w' = w := by
  have HP := hide (dead_given w v h)
  clear h
  go_enter Try.func16, Try.ntmps16
  go_wp2_with fail
  refine HP.out.mono ?_
  rintro e w' ⟨rfl, hw⟩
  obtain rfl := hw.symm
  go_wp2_with fail
  go_ret
  exact ⟨rfl, rfl⟩

set_option maxHeartbeats 1000000 in
theorem dead_trim (w : World) (v : Value) (h : Dead w v) : Calls Try.prog 18 #[v, .int .i64 0] w fun e w' => e = .returned (.int .i64 1) ∧ w' = w := by
  have HP := hide (dead_given w v h)
  clear h
  go_enter Try.func18, Try.ntmps18
  go_wp2_with fail
  refine HP.out.mono ?_
  rintro e w' ⟨rfl, hw⟩
  obtain rfl := hw.symm
  go_wp2_with fail
  go_ret
  exact ⟨rfl, rfl⟩

set_option maxHeartbeats 1000000 in
theorem dead_gone (w : World) (v : Value) (h : Dead w v) : Calls Try.prog 31 #[v] w fun e w' => e = .returned (.bool false) ∧ w' = w := by
  have HP := hide (dead_given w v h)
  clear h
  go_enter Try.func31, Try.ntmps31
  go_wp2_with fail
  refine HP.out.mono ?_
  rintro e w' ⟨rfl, hw⟩
  obtain rfl := hw.symm
  go_wp2_with fail
  go_ret
  exact ⟨rfl, rfl⟩

/-- An act. -/
structure Ac where
  do_ : Int
  pg : Int
  n : Int
def Ac.cells (x : Ac) (b q : Sl) : Array Value := #[.int .i64 x.do_, .int .i64 x.pg, b.val, .int .i64 x.n, q.val]
def AcBlk (w : World) (p : Nat) (x : Ac) (b q : Sl) : Prop := w.heap[p]? = some (.cells (x.cells b q) 39 (0, 0))
theorem AcBlk.keep {w w' : World} {p : Nat} {x : Ac} {b q : Sl} (h : AcBlk w p x b q) (hb : Below w.heap.size w w') : AcBlk w' p x b q := (hb.block p (Array.getElem?_eq_some_iff.1 h).1).trans h
theorem AcBlk.c2 {w : World} {p : Nat} {x : Ac} {b q : Sl} (h : AcBlk w p x b q) : w.cell? ⟨p, 2, none⟩ = some (.slice b.a b.len b.cap) := (Addr.cell0 h).trans rfl
theorem AcBlk.c3 {w : World} {p : Nat} {x : Ac} {b q : Sl} (h : AcBlk w p x b q) : w.cell? ⟨p, 3, none⟩ = some (.int .i64 x.n) := (Addr.cell0 h).trans rfl
theorem AcBlk.c4 {w : World} {p : Nat} {x : Ac} {b q : Sl} (h : AcBlk w p x b q) : w.cell? ⟨p, 4, none⟩ = some (.slice q.a q.len q.cap) := (Addr.cell0 h).trans rfl

set_option maxHeartbeats 8000000 in
set_option maxRecDepth 100000 in
theorem nobody_walk (w : World) (x : Ac) (b q : Sl) : Calls Try.prog 6 #[.agg (x.cells b q)] w fun e w' => e = .returned (.bool true) ∧ Below w.heap.size w w' := by
  have HAW : Hid (∀ w', Calls Try.prog 9 #[] w' fun e w2 => e = .returned (.bool true) ∧ Below w'.heap.size w' w2) := awake_any
  have HFU : Hid (∀ w', Calls Try.prog 28 #[.int .u8 1] w' fun e w2 => Below w'.heap.size w' w2 ∧ e = .returned (.slice (some ⟨w'.heap.size, 0, none⟩) 512 512)) := fun w' => (full_any w' 1 (by omega)).mono fun e w2 h => ⟨h.1, h.2.1⟩
  have HB0 := hide (below_alloc w (.cells (x.cells b q) 39))
  have HQ0 : Hid (AcBlk (w.alloc (.cells (x.cells b q) 39)) w.heap.size x b q) := heap_alloc_new w _
  unfold Ac.cells at HB0 HQ0
  unfold Ac.cells
  go_enter Try.func6, Try.ntmps6
  go_wp2_with fail
  go_loopw [3] (fun i wr => ∃ j : Nat, j ≤ 2 ∧ i = .int .i64 j ∧ Hid (AcBlk wr w.heap.size x b q) ∧ Hid (Below w.heap.size w wr)) (fun i _ => 2 - (intOf i).toNat)
  case atStart => exact ⟨0, by omega, rfl, HQ0, HB0⟩
  case round =>
    obtain ⟨j, hj, rfl, hQ, hB⟩ := hrel
    have hj3 : j = 0 ∨ j = 1 ∨ j = 2 := by omega
    rcases hj3 with rfl | rfl | rfl
    · have HD : Hid (Dead wr (.pointer none)) := .inl rfl
      have HQ := hQ
      have HB := hB
      go_wp2_with fail
      have c3 := HQ.out.c3
      have c4 := HQ.out.c4
      refine (dead_sync wr (.pointer none) HD.out).mono ?_
      rintro e w' ⟨rfl, hw⟩
      obtain rfl := hw.symm
      go_wp2_with fail
      refine (dead_arm wr (.pointer none) HD.out _).mono ?_
      rintro e w' ⟨rfl, hw⟩
      obtain rfl := hw.symm
      go_wp2_with fail
      refine (dead_crash wr (.pointer none) HD.out _ _).mono ?_
      rintro e w' ⟨rfl, hw⟩
      obtain rfl := hw.symm
      go_wp2_with fail
      refine (dead_read wr (.pointer none) HD.out).mono ?_
      rintro e w' ⟨rfl, hw⟩
      obtain rfl := hw.symm
      go_wp2_with fail
      refine (dead_stream wr (.pointer none) HD.out).mono ?_
      rintro e w' ⟨rfl, hw⟩
      obtain rfl := hw.symm
      go_wp2_with fail
      refine (dead_pending wr (.pointer none) HD.out).mono ?_
      rintro e w' ⟨rfl, hw⟩
      obtain rfl := hw.symm
      go_wp2_with fail
      refine (dead_pages wr (.pointer none) HD.out).mono ?_
      rintro e w' ⟨rfl, hw⟩
      obtain rfl := hw.symm
      go_wp2_with fail
      refine (HFU.out wr).mono ?_
      rintro e w2 ⟨hb2, rfl⟩
      have HD2 := hide (HD.out.keep hb2)
      have HQ2 := hide (HQ.out.keep hb2)
      have HB2 := hide (rBelow HB.out hb2)
      have d2 := HQ2.out.c2
      clear hb2
      go_wp2_with fail
      refine (dead_write w2 (.pointer none) HD2.out _).mono ?_
      rintro e w' ⟨rfl, hw⟩
      obtain rfl := hw.symm
      go_wp2_with fail
      refine (dead_append w2 (.pointer none) HD2.out _).mono ?_
      rintro e w' ⟨rfl, hw⟩
      obtain rfl := hw.symm
      go_wp2_with fail
      refine (dead_trim w2 (.pointer none) HD2.out).mono ?_
      rintro e w' ⟨rfl, hw⟩
      obtain rfl := hw.symm
      go_wp2_with fail
      refine (dead_gone w2 (.pointer none) HD2.out).mono ?_
      rintro e w' ⟨rfl, hw⟩
      obtain rfl := hw.symm
      go_wp2_with fail
      go_roundw
      case rel => exact ⟨1, by omega, by go_num, HQ2, HB2⟩
      case measure => simp only [intOf]; omega
    · have HBA := hide (below_alloc wr (.cells #[.slice none 0 0, .int .i64 0, .slice none 0 0, .slice none 0 0, .int .i64 0, .slice none 0 0, .slice none 0 0, .slice none 0 0, .slice none 0 0, .bool false, .int .i64 0, .bool false] 69))
      obtain ⟨W, hW⟩ : ∃ W, W = wr.alloc (.cells #[.slice none 0 0, .int .i64 0, .slice none 0 0, .slice none 0 0, .int .i64 0, .slice none 0 0, .slice none 0 0, .slice none 0 0, .slice none 0 0, .bool false, .int .i64 0, .bool false] 69) := ⟨_, rfl⟩
      rw [← hW] at HBA
      have HD : Hid (Dead W (.pointer (some ⟨wr.heap.size, 0, none⟩))) := .inr ⟨_, rfl, by rw [hW]; exact (Addr.cell0 (heap_alloc_new wr _)).trans rfl⟩
      have HQ := hide (hQ.out.keep HBA.out)
      have HB := hide (rBelow hB.out HBA.out)
      have HWE := hide hW
      clear hW
      go_wp2_with fail
      rw [← HWE.out]
      have c3 := HQ.out.c3
      have c4 := HQ.out.c4
      refine (dead_sync W (.pointer (some ⟨wr.heap.size, 0, none⟩)) HD.out).mono ?_
      rintro e w' ⟨rfl, hw⟩
      obtain rfl := hw.symm
      go_wp2_with fail
      refine (dead_arm W (.pointer (some ⟨wr.heap.size, 0, none⟩)) HD.out _).mono ?_
      rintro e w' ⟨rfl, hw⟩
      obtain rfl := hw.symm
      go_wp2_with fail
      refine (dead_crash W (.pointer (some ⟨wr.heap.size, 0, none⟩)) HD.out _ _).mono ?_
      rintro e w' ⟨rfl, hw⟩
      obtain rfl := hw.symm
      go_wp2_with fail
      refine (dead_read W (.pointer (some ⟨wr.heap.size, 0, none⟩)) HD.out).mono ?_
      rintro e w' ⟨rfl, hw⟩
      obtain rfl := hw.symm
      go_wp2_with fail
      refine (dead_stream W (.pointer (some ⟨wr.heap.size, 0, none⟩)) HD.out).mono ?_
      rintro e w' ⟨rfl, hw⟩
      obtain rfl := hw.symm
      go_wp2_with fail
      refine (dead_pending W (.pointer (some ⟨wr.heap.size, 0, none⟩)) HD.out).mono ?_
      rintro e w' ⟨rfl, hw⟩
      obtain rfl := hw.symm
      go_wp2_with fail
      refine (dead_pages W (.pointer (some ⟨wr.heap.size, 0, none⟩)) HD.out).mono ?_
      rintro e w' ⟨rfl, hw⟩
      obtain rfl := hw.symm
      go_wp2_with fail
      refine (HFU.out W).mono ?_
      rintro e w2 ⟨hb2, rfl⟩
      have HD2 := hide (HD.out.keep hb2)
      have HQ2 := hide (HQ.out.keep hb2)
      have HB2 := hide (rBelow HB.out hb2)
      have d2 := HQ2.out.c2
      clear hb2
      go_wp2_with fail
      refine (dead_write w2 (.pointer (some ⟨wr.heap.size, 0, none⟩)) HD2.out _).mono ?_
      rintro e w' ⟨rfl, hw⟩
      obtain rfl := hw.symm
      go_wp2_with fail
      refine (dead_append w2 (.pointer (some ⟨wr.heap.size, 0, none⟩)) HD2.out _).mono ?_
      rintro e w' ⟨rfl, hw⟩
      obtain rfl := hw.symm
      go_wp2_with fail
      refine (dead_trim w2 (.pointer (some ⟨wr.heap.size, 0, none⟩)) HD2.out).mono ?_
      rintro e w' ⟨rfl, hw⟩
      obtain rfl := hw.symm
      go_wp2_with fail
      refine (dead_gone w2 (.pointer (some ⟨wr.heap.size, 0, none⟩)) HD2.out).mono ?_
      rintro e w' ⟨rfl, hw⟩
      obtain rfl := hw.symm
      go_wp2_with fail
      go_roundw
      case rel => exact ⟨2, by omega, by go_num, HQ2, HB2⟩
      case measure => simp only [intOf]; omega
    · go_wp2_with fail
      refine (HAW.out wr).mono ?_
      rintro e w9 ⟨rfl, hb9⟩
      have HB9 := hide (rBelow hB.out hb9)
      clear hb9
      go_wp2_with fail
      go_ret
      exact ⟨rfl, HB9.out⟩

end Go.Proofs.Ytokdeilcfkobfaa
