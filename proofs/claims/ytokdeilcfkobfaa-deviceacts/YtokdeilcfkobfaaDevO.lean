/-
  The document's device: the stream is forgotten ahead of a place.
-/
import Derived.Test.YtokdeilcfkobfaaDevN
namespace Go.Proofs.Ytokdeilcfkobfaa
open Go.RowKit
variable {K : Home}

theorem bsS_nil (w : World) (hl : K.low ≤ w.heap.size) : BsS K w Sl.nil [] := ⟨⟨⟨rfl, (fun x hx => by cases hx), (fun i hi => absurd hi (Nat.not_lt_zero i))⟩, (fun _ => rfl), Nat.le_refl _, Nat.zero_le _⟩, hl, fun h => absurd h (Nat.not_lt_zero _)⟩

set_option maxHeartbeats 4000000 in
set_option maxRecDepth 100000 in
theorem refTrim_ok (d : Dv) (L : DvL) (n : Int) (w : World) (h : DvIn K w d L) (hn : (Lit.int .i64 n).wf = true) (h1 : d.now.base ≤ n) (h2 : n - d.now.base ≤ d.now.st.length) (hst : d.now.st.length ≤ 10000) (hpg : d.now.pg.length ≤ 100000) (hm : d.armed ≤ 9223372036854775807) (hdl : d.done.length ≤ 1000) :
    Calls Try.prog 19 #[d.val L, .int .i64 n] w fun e w' => Below w.heap.size w w' ∧ ∃ d' L', e = .returned (.tuple #[d'.val L', .int .i64 0]) ∧ DvIn K w' d' L' ∧ d'.abs = d.abs.act ⟨-1, [], true, n⟩ := by
  have HDO : Hid (∀ w', Below w.heap.size w w' → Calls Try.prog 34 #[d.val L, Pt.val ⟨-1, [], true, n⟩ Sl.nil] w' fun e w2 => Below w'.heap.size w' w2 ∧ ∃ d' L', e = .returned (d'.val L') ∧ DvIn K w2 d' L' ∧ d'.abs = d.abs.act ⟨-1, [], true, n⟩) := fun w' hw => do_any d L ⟨-1, [], true, n⟩ Sl.nil w' (h.keep hw (Nat.le_refl _)) (bsS_nil w' (Nat.le_trans h.now.st.low hw.size)) ⟨hpg, by omega, Nat.zero_le _, (fun x => by simp at x), (fun _ _ => ⟨h1, by show (n - d.now.base).toNat ≤ _; omega⟩), hn⟩ rfl hm hdl
  have HI := hide (twoIn_new w d L)
  generalize hW : twoW w d L = W at HI
  have HWE := hide hW
  unfold twoW at HWE
  have l1 := h.now.st.len
  have hwr : IntKind.i64.wrap (n - d.now.base) = n - d.now.base := by rw [IntKind.wrap_i64]; omega
  have h2' : n - d.now.base ≤ (L.ns.len : Int) := by omega
  clear h hst hpg hm hdl hW l1 h2 hn
  generalize d.abs.act ⟨-1, [], true, n⟩ = da at HDO ⊢
  unfold Dv.val Pt.val Sl.nil Sl.val at HDO
  unfold Sl.nil Sl.val at HWE
  unfold Dv.val Sl.val
  simp only at HDO HWE ⊢
  go_enter Try.func19, Try.ntmps19
  go_wp2_with fail
  rw [HWE.out]
  refine (HDO.out W HI.out.below).mono ?_
  rintro e w1 ⟨hb1, d1, L1, rfl, hin1, ha1⟩
  have hZ2 := HI.out.zero.keep hb1
  have HZ2 := hide hZ2
  have HB1 := hide (rBelow HI.out.below hb1)
  have HIN := hide hin1
  have HA := hide ha1
  unfold Sl.nil Sl.val at hZ2
  simp only at hZ2
  have z0 := hZ2.c0
  have z1 := hZ2.c1
  have z2 := hZ2.c2
  have z3 := hZ2.c3
  have z4 := hZ2.c4
  have z5 := hZ2.c5
  have z6 := hZ2.c6
  have z7 := hZ2.c7
  have z8 := hZ2.c8
  have fz := hZ2.fz
  clear hb1 hin1 ha1 hZ2
  go_wp2_with fail
  show bodyPost Try.prog Try.f19 _ Exit.ret _ (setDv w1 (w.heap.size + 1) L1.kp.val d1.kept.base L1.ks.val L1.np.val d1.now.base L1.ns.val L1.ds.val d1.gone d1.armed)
  refine dv_end2 rfl HZ2.out d1 L1 (.int .i64 0) (by rfl) (by rfl) rfl ?_
  have hbb := setDv_below HB1.out (show w.heap.size ≤ w.heap.size + 1 by omega) L1.kp.val d1.kept.base L1.ks.val L1.np.val d1.now.base L1.ns.val L1.ds.val d1.gone d1.armed
  exact ⟨hbb, d1, L1, rfl, HIN.out.otherDv HZ2.out fun k hk => setDv_other _ _ _ _ _ _ _ _ _ _ _ k hk, HA.out⟩

/-- The device, boxed and handed back as it is. -/
theorem same_new (w : World) (d : Dv) (L : DvL) : DvBlk ((w.alloc (.cells #[L.kp.val, .int .i64 d.kept.base, L.ks.val, L.np.val, .int .i64 d.now.base, L.ns.val, L.ds.val, .bool d.gone, .int .i64 d.armed] 35)).alloc (.cells #[L.kp.val, .int .i64 d.kept.base, L.ks.val, L.np.val, .int .i64 d.now.base, L.ns.val, L.ds.val, .bool d.gone, .int .i64 d.armed] 35)) (w.heap.size + 1) L.kp.val d.kept.base L.ks.val L.np.val d.now.base L.ns.val L.ds.val d.gone d.armed := by
  have := dvBlk_new (w.alloc (.cells #[L.kp.val, .int .i64 d.kept.base, L.ks.val, L.np.val, .int .i64 d.now.base, L.ns.val, L.ds.val, .bool d.gone, .int .i64 d.armed] 35)) L.kp.val d.kept.base L.ks.val L.np.val d.now.base L.ns.val L.ds.val d.gone d.armed
  simpa using this

set_option maxHeartbeats 4000000 in
set_option maxRecDepth 100000 in
theorem refTrim_err (d : Dv) (L : DvL) (n : Int) (w : World) (h : DvIn K w d L) (hn : (Lit.int .i64 n).wf = true) (hb0 : 0 ≤ d.now.base) (h2 : n < d.now.base ∨ (d.now.st.length : Int) < n - d.now.base) :
    Calls Try.prog 19 #[d.val L, .int .i64 n] w fun e w' => Below w.heap.size w w' ∧ e = .returned (.tuple #[d.val L, .int .i64 1]) := by
  have HI := hide (same_new w d L)
  have HB := hide (below_two w (.cells #[L.kp.val, .int .i64 d.kept.base, L.ks.val, L.np.val, .int .i64 d.now.base, L.ns.val, L.ds.val, .bool d.gone, .int .i64 d.armed] 35) (.cells #[L.kp.val, .int .i64 d.kept.base, L.ks.val, L.np.val, .int .i64 d.now.base, L.ns.val, L.ds.val, .bool d.gone, .int .i64 d.armed] 35))
  have l1 := h.now.st.len
  have hmax : n ≤ 9223372036854775807 := by
    simp [Lit.wf, IntKind.min, IntKind.max, IntKind.signed, IntKind.bits] at hn
    omega
  clear h
  by_cases hlt : n < d.now.base
  · clear hn hb0 h2 l1 hmax
    unfold Dv.val Sl.val
    go_enter Try.func19, Try.ntmps19
    go_wp2_with fail
    exact bodyPost_ret (dv_results2 (d := d) (L := L) (v := .int .i64 1) rfl HI.out _ rfl rfl) rfl ⟨HB.out, rfl⟩
  · replace hlt : d.now.base ≤ n := by omega
    have hwr : IntKind.i64.wrap (n - d.now.base) = n - d.now.base := by rw [IntKind.wrap_i64]; omega
    have h3 : (L.ns.len : Int) < n - d.now.base := by omega
    clear hn hb0 h2 l1 hmax
    unfold Dv.val Sl.val
    go_enter Try.func19, Try.ntmps19
    go_wp2_with fail
    exact bodyPost_ret (dv_results2 (d := d) (L := L) (v := .int .i64 1) rfl HI.out _ rfl rfl) rfl ⟨HB.out, rfl⟩

end Go.Proofs.Ytokdeilcfkobfaa
