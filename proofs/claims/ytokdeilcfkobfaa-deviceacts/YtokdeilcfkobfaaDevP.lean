/-
  The document's device: Sync and Arm.
-/
import Derived.Test.YtokdeilcfkobfaaDevO
namespace Go.Proofs.Ytokdeilcfkobfaa
open Go.RowKit
variable {K : Home}

theorem next_new (w : World) (o : Obj) (k0 : Value) (k1 : Int) (k2 n0 : Value) (n1 : Int) (n2 dd : Value) (g : Bool) (a : Int) : DvBlk ((w.alloc o).alloc (.cells #[k0, .int .i64 k1, k2, n0, .int .i64 n1, n2, dd, .bool g, .int .i64 a] 35)) (w.heap.size + 1) k0 k1 k2 n0 n1 n2 dd g a := by
  have := dvBlk_new (w.alloc o) k0 k1 k2 n0 n1 n2 dd g a
  simpa using this

def Dv.sync (d : Dv) : Dv := if d.gone = true then d else ⟨d.now, d.now, [], false, d.armed⟩
def Dv.arm (d : Dv) (n : Int) : Dv := if d.gone = true then d else ⟨d.kept, d.now, d.done, false, if n < 0 then -1 else n⟩

set_option maxHeartbeats 4000000 in
set_option maxRecDepth 100000 in
theorem refSync_any (d : Dv) (L : DvL) (w : World) (h : DvIn K w d L) :
    Calls Try.prog 21 #[d.val L] w fun e w' => Below w.heap.size w w' ∧ ∃ L', e = .returned (d.sync.val L') ∧ DvIn K w' d.sync L' := by
  have H := hide h
  clear h
  cases hg : d.gone
  · have e : d.sync = ⟨d.now, d.now, [], false, d.armed⟩ := by unfold Dv.sync; rw [if_neg (by rw [hg]; decide)]
    rw [e]
    obtain ⟨kept, now, done, gone, armed⟩ := d
    simp only at hg
    subst hg
    have HI := hide (next_new w (.cells #[L.kp.val, .int .i64 kept.base, L.ks.val, L.np.val, .int .i64 now.base, L.ns.val, L.ds.val, .bool false, .int .i64 armed] 35) L.np.val now.base L.ns.val L.np.val now.base L.ns.val Sl.nil.val false armed)
    have HB := hide (below_two w (.cells #[L.kp.val, .int .i64 kept.base, L.ks.val, L.np.val, .int .i64 now.base, L.ns.val, L.ds.val, .bool false, .int .i64 armed] 35) (.cells #[L.np.val, .int .i64 now.base, L.ns.val, L.np.val, .int .i64 now.base, L.ns.val, Sl.nil.val, .bool false, .int .i64 armed] 35))
    clear e
    unfold Dv.val Sl.val
    simp only
    go_enter Try.func21, Try.ntmps21
    go_wp2_with fail
    refine bodyPost_ret (dv_results (d := ⟨now, now, [], false, armed⟩) (L := ⟨L.np, L.ns, L.np, L.ns, Sl.nil⟩) rfl HI.out _ rfl) rfl ⟨HB.out, ⟨L.np, L.ns, L.np, L.ns, Sl.nil⟩, rfl, H.out.now.keep HB.out (Nat.le_refl _), H.out.now.keep HB.out (Nat.le_refl _), ⟨rfl, (fun i hi => by cases hi), (fun j hj => absurd hj (Nat.not_lt_zero j))⟩, (fun _ => rfl), Nat.le_refl _⟩
  · have e : d.sync = d := by unfold Dv.sync; rw [if_pos hg]
    rw [e]
    obtain ⟨kept, now, done, gone, armed⟩ := d
    simp only at hg
    subst hg
    have HI := hide (same_new w ⟨kept, now, done, true, armed⟩ L)
    have HB := hide (below_two w (.cells #[L.kp.val, .int .i64 kept.base, L.ks.val, L.np.val, .int .i64 now.base, L.ns.val, L.ds.val, .bool true, .int .i64 armed] 35) (.cells #[L.kp.val, .int .i64 kept.base, L.ks.val, L.np.val, .int .i64 now.base, L.ns.val, L.ds.val, .bool true, .int .i64 armed] 35))
    clear e
    unfold Dv.val Sl.val
    simp only
    go_enter Try.func21, Try.ntmps21
    go_wp2_with fail
    exact bodyPost_ret (dv_results (d := ⟨kept, now, done, true, armed⟩) (L := L) rfl HI.out _ rfl) rfl ⟨HB.out, L, rfl, H.out.keep HB.out (Nat.le_refl _)⟩

set_option maxHeartbeats 4000000 in
set_option maxRecDepth 100000 in
theorem refArm_any (d : Dv) (L : DvL) (n : Int) (w : World) (h : DvIn K w d L) :
    Calls Try.prog 23 #[d.val L, .int .i64 n] w fun e w' => Below w.heap.size w w' ∧ ∃ L', e = .returned ((d.arm n).val L') ∧ DvIn K w' (d.arm n) L' := by
  have H := hide h
  clear h
  cases hg : d.gone
  · have hg' : ¬ d.gone = true := by rw [hg]; decide
    by_cases hn : n < 0
    · have e : d.arm n = ⟨d.kept, d.now, d.done, false, (-1)⟩ := by
        unfold Dv.arm
        rw [if_neg hg', if_pos hn]
      rw [e]
      clear hg'
      obtain ⟨kept, now, done, gone, armed⟩ := d
      simp only at hg
      subst hg
      have HI := hide (next_new w (.cells #[L.kp.val, .int .i64 kept.base, L.ks.val, L.np.val, .int .i64 now.base, L.ns.val, L.ds.val, .bool false, .int .i64 (-1)] 35) L.kp.val kept.base L.ks.val L.np.val now.base L.ns.val L.ds.val false (-1))
      have HB := hide (below_two w (.cells #[L.kp.val, .int .i64 kept.base, L.ks.val, L.np.val, .int .i64 now.base, L.ns.val, L.ds.val, .bool false, .int .i64 (-1)] 35) (.cells #[L.kp.val, .int .i64 kept.base, L.ks.val, L.np.val, .int .i64 now.base, L.ns.val, L.ds.val, .bool false, .int .i64 (-1)] 35))
      clear e
      unfold Dv.val Sl.val
      simp only
      go_enter Try.func23, Try.ntmps23
      go_wp2_with fail
      exact bodyPost_ret (dv_results (d := ⟨kept, now, done, false, (-1)⟩) (L := L) rfl HI.out _ rfl) rfl ⟨HB.out, L, rfl, H.out.kept.keep HB.out (Nat.le_refl _), H.out.now.keep HB.out (Nat.le_refl _), H.out.done.keep HB.out (Nat.le_refl _), H.out.nil, H.out.le⟩
    · have e : d.arm n = ⟨d.kept, d.now, d.done, false, n⟩ := by
        unfold Dv.arm
        rw [if_neg hg', if_neg hn]
      rw [e]
      clear hg'
      replace hn : 0 ≤ n := by omega
      obtain ⟨kept, now, done, gone, armed⟩ := d
      simp only at hg
      subst hg
      have HI := hide (next_new w (.cells #[L.kp.val, .int .i64 kept.base, L.ks.val, L.np.val, .int .i64 now.base, L.ns.val, L.ds.val, .bool false, .int .i64 n] 35) L.kp.val kept.base L.ks.val L.np.val now.base L.ns.val L.ds.val false n)
      have HB := hide (below_two w (.cells #[L.kp.val, .int .i64 kept.base, L.ks.val, L.np.val, .int .i64 now.base, L.ns.val, L.ds.val, .bool false, .int .i64 n] 35) (.cells #[L.kp.val, .int .i64 kept.base, L.ks.val, L.np.val, .int .i64 now.base, L.ns.val, L.ds.val, .bool false, .int .i64 n] 35))
      clear e
      unfold Dv.val Sl.val
      simp only
      go_enter Try.func23, Try.ntmps23
      go_wp2_with fail
      exact bodyPost_ret (dv_results (d := ⟨kept, now, done, false, n⟩) (L := L) rfl HI.out _ rfl) rfl ⟨HB.out, L, rfl, H.out.kept.keep HB.out (Nat.le_refl _), H.out.now.keep HB.out (Nat.le_refl _), H.out.done.keep HB.out (Nat.le_refl _), H.out.nil, H.out.le⟩
  · have e : d.arm n = ⟨d.kept, d.now, d.done, true, d.armed⟩ := by
      unfold Dv.arm
      rw [if_pos hg, ← hg]
    rw [e]
    obtain ⟨kept, now, done, gone, armed⟩ := d
    simp only at hg
    subst hg
    have HI := hide (next_new w (.cells #[L.kp.val, .int .i64 kept.base, L.ks.val, L.np.val, .int .i64 now.base, L.ns.val, L.ds.val, .bool true, .int .i64 armed] 35) L.kp.val kept.base L.ks.val L.np.val now.base L.ns.val L.ds.val true armed)
    have HB := hide (below_two w (.cells #[L.kp.val, .int .i64 kept.base, L.ks.val, L.np.val, .int .i64 now.base, L.ns.val, L.ds.val, .bool true, .int .i64 armed] 35) (.cells #[L.kp.val, .int .i64 kept.base, L.ks.val, L.np.val, .int .i64 now.base, L.ns.val, L.ds.val, .bool true, .int .i64 armed] 35))
    clear e
    unfold Dv.val Sl.val
    simp only
    go_enter Try.func23, Try.ntmps23
    go_wp2_with fail
    exact bodyPost_ret (dv_results (d := ⟨kept, now, done, true, armed⟩) (L := L) rfl HI.out _ rfl) rfl ⟨HB.out, L, rfl, H.out.kept.keep HB.out (Nat.le_refl _), H.out.now.keep HB.out (Nat.le_refl _), H.out.done.keep HB.out (Nat.le_refl _), H.out.nil, H.out.le⟩

end Go.Proofs.Ytokdeilcfkobfaa
