/-
  The document's device: Write.
-/
import Derived.Test.YtokdeilcfkobfaaDevR
namespace Go.Proofs.Ytokdeilcfkobfaa
open Go.RowKit
variable {K : Home}

theorem infoDv : (Try.prog.info? 35).map (·.size) = some 9 := by kernel_rfl
theorem load_dv (g : Nat) (d : Dv) (L : DvL) (w : World) (h : DvBlk w g L.kp.val d.kept.base L.ks.val L.np.val d.now.base L.ns.val L.ds.val d.gone d.armed) : (Instr.loadAt 35 (.pointer (some ⟨g, 0, none⟩))).run Try.prog w = .ok (d.val L) w := by
  have hr : w.rangeAt g 0 [L.kp.val, .int .i64 d.kept.base, L.ks.val, L.np.val, .int .i64 d.now.base, L.ns.val, L.ds.val, .bool d.gone, .int .i64 d.armed] := by
    intro j v hj
    rw [Nat.zero_add, Addr.cell0 h]
    simpa using hj
  exact run_loadAt_mid w g 0 35 _ _ hr Try.underlying35 rfl (by rw [infoDv]; rfl)
theorem store_dv (g : Nat) (d : Dv) (L : DvL) (w : World) {x0 x2 x3 x5 x6 : Value} {b1 b4 a0 : Int} {g0 : Bool} (h : DvBlk w g x0 b1 x2 x3 b4 x5 x6 g0 a0) : (Instr.storeAt 35 (.pointer (some ⟨g, 0, none⟩)) (d.val L)).run Try.prog w = .ok () (setDv w g L.kp.val d.kept.base L.ks.val L.np.val d.now.base L.ns.val L.ds.val d.gone d.armed) := by
  have hc := run_storeCells_cells (P := Try.prog) g 0 [L.kp.val, .int .i64 d.kept.base, L.ks.val, L.np.val, .int .i64 d.now.base, L.ns.val, L.ds.val, .bool d.gone, .int .i64 d.armed] 0 w (fun j hj => by
    rw [Nat.zero_add, Addr.cell0 h]
    have : j < 9 := hj
    simpa using this) (fun j hj => frozen_of_row w g _ _ 35 h) (by
    intro v hv
    simp only [List.mem_cons, List.mem_nil_iff, or_false] at hv
    rcases hv with rfl | rfl | rfl | rfl | rfl | rfl | rfl | rfl | rfl <;> rfl)
  cases hq : Try.prog.info? 35 with
  | none => have := infoDv; rw [hq] at this; cases this
  | some i =>
    have hi : i.size = 9 := by have := infoDv; rw [hq] at this; simpa using this
    simp only [Instr.storeAt, Instr.sureAddr, storeVar, sizeOf, typeInfo, Dv.val, Value.cells]
    simp [hq, hi]
    exact hc

theorem slice_midS (s : Sl) (k l : Nat) (hk : k ≤ l) (hl : l ≤ s.cap) (w : World) : (Instr.sliceAt 30 s.val (some (.int .i64 (k : Nat))) (some (.int .i64 (l : Nat))) none).run Try.prog w = .ok (s.mid k l).val w := slice_mid s.a s.len s.cap k l hk hl w
theorem BsS.mid {w : World} {s : Sl} {xs : List Nat} (h : BsS K w s xs) (k l : Nat) (hk : k ≤ l) (hl : l ≤ s.len) : BsS K w (s.mid k l) ((xs.drop k).take (l - k)) := by
  refine ⟨h.came.mid k l hk hl, h.low, fun h0 ad ha => ?_⟩
  have h0' : 0 < s.len := by have : 0 < l - k := h0; omega
  have ha' : fromA s.a s.cap k = some ad := ha
  unfold fromA at ha'
  split at ha'
  · exact h.home h0' ad ha'
  · cases hs : s.a with
    | none => rw [hs] at ha'; cases ha'
    | some x =>
      rw [hs] at ha'
      have := h.home h0' x hs
      simp only [Option.map_some, Option.some.injEq] at ha'
      rw [← ha']
      unfold Addr.add
      split <;> exact this
theorem build_ptS (x : Int) (q : Sl) (w : World) : (Instr.build 81 #[(0, .int .i64 x), (1, q.val)]).run Try.prog w = .ok (Pt.val ⟨x, [], false, 0⟩ q) w := by
  unfold Pt.val Sl.val
  simp [go_sem, Instr.build]
theorem entDo : ∀ args w, (callFunc 34 args).run Try.prog w = .ok (.enter 34 args) w := Pl.enters Try.func34 (by kernel_rfl) (by kernel_rfl)

set_option maxHeartbeats 2000000 in
set_option maxRecDepth 100000 in
theorem refWrite8 (w : World) (g k j : Nat) (e0 : Dv) (L0 : DvL) (q : Sl) (hk : k ≤ 1000) (hj : j < 4) (hql : 128 * j + 128 ≤ q.cap) (hd : DvBlk w g L0.kp.val e0.kept.base L0.ks.val L0.np.val e0.now.base L0.ns.val L0.ds.val e0.gone e0.armed) (P : Dv → Prop) (hdo : ∀ w', Below w.heap.size w w' → Calls Try.prog 34 #[e0.val L0, Pt.val ⟨((4 * k + j : Nat) : Int), [], false, 0⟩ (q.mid (128 * j) (128 * j + 128))] w' fun e w2 => Below w'.heap.size w' w2 ∧ ∃ d' L', e = .returned (d'.val L') ∧ DvIn K w2 d' L' ∧ P d')
    {Q : Exit → Act → World → Prop} {A : Act} (hsz : A.tmps.size = 44) (hdf : A.defers = []) (s3 : A.tmps.getD 3 undef = .pointer (some ⟨g, 0, none⟩)) (s1 : A.tmps.getD 1 undef = .int .i64 ((k : Nat) : Int)) (s8 : A.tmps.getD 8 undef = .int .i64 ((j : Nat) : Int)) (s2 : A.tmps.getD 2 undef = q.val)
    (hend : ∀ (u : Nat → Value) w' w2 d2 L2, w' = setDv w2 g L2.kp.val d2.kept.base L2.ks.val L2.np.val d2.now.base L2.ns.val L2.ds.val d2.gone d2.armed → Below w.heap.size w w2 → DvIn K w2 d2 L2 → P d2 → Q .normal (((((((((((((((A).put (some 30) (u 30)).put (some 31) (u 31)).put (some 32) (u 32)).put (some 33) (u 33)).put (some 34) (u 34)).put (some 35) (u 35)).put (some 36) (u 36)).put (some 37) (u 37)).put (some 38) (u 38)).put (some 39) (u 39)).put (some 40) (u 40)).put (some 41) (u 41)).put (some 29) (u 29)).put (some 42) (u 42)) w') :
    (Code.region 8 (Pl.find 8 ((Try.f15.body).getD .skip)) true).wp Try.prog Q A w := by
  have m1 : IntKind.i64.wrap (4 * ((k : Nat) : Int)) = 4 * ((k : Nat) : Int) := by rw [IntKind.wrap_i64]; omega
  have m2 : IntKind.i64.wrap (4 * ((k : Nat) : Int) + ((j : Nat) : Int)) = 4 * ((k : Nat) : Int) + ((j : Nat) : Int) := by rw [IntKind.wrap_i64]; omega
  have m3 : IntKind.i64.wrap (128 * ((j : Nat) : Int)) = 128 * ((j : Nat) : Int) := by rw [IntKind.wrap_i64]; omega
  have m4 : IntKind.i64.wrap (128 * ((j : Nat) : Int) + 128) = 128 * ((j : Nat) : Int) + 128 := by rw [IntKind.wrap_i64]; omega
  have hd0 : DvBlk w.drew g L0.kp.val e0.kept.base L0.ks.val L0.np.val e0.now.base L0.ns.val L0.ds.val e0.gone e0.armed := hd
  have hA := Pl.At.same (v := q.val) (d := 2) (Pl.At.same (v := .int .i64 ((j : Nat) : Int)) (d := 8) (Pl.At.same (v := .int .i64 ((k : Nat) : Int)) (d := 1) (Pl.At.same (v := .pointer (some ⟨g, 0, none⟩)) (d := 3) (Pl.At.here hsz hdf) s3) s1) s8) s2
  refine Pl.H.start (S := fun _ => True) (by kernel_rfl) hA True.intro ?_
  rw [show (Pl.find 8 ((Try.f15.body).getD .skip)).size = 15 by kernel_rfl]
  refine Pl.H.take 1 30 (.int .i64 ((k : Nat) : Int)) (by kernel_rfl) (by kernel_rfl) (by kernel_rfl) (Pl.free 1 (by kernel_rfl)) (Pl.move 1 (.tmp 1) (by kernel_rfl) (by decide)) True.intro ?_
  refine Pl.H.take 2 31 (.int .i64 ((4 * k : Nat) : Int)) (by kernel_rfl) (by kernel_rfl) (by kernel_rfl) (Pl.free 2 (by kernel_rfl)) (Pl.binV 2 .mul 3 3 (.const (.int .i64 4)) (.tmp 30) (.int .i64 4) (.int .i64 ((k : Nat) : Int)) _ (by kernel_rfl) (by decide) (by decide) rfl rfl (fun w => by simp [go_sem, eqGuard, m1])) True.intro ?_
  refine Pl.H.take 3 32 (.int .i64 ((j : Nat) : Int)) (by kernel_rfl) (by kernel_rfl) (by kernel_rfl) (Pl.free 3 (by kernel_rfl)) (Pl.move 3 (.tmp 8) (by kernel_rfl) (by decide)) True.intro ?_
  refine Pl.H.take 4 33 (.int .i64 ((4 * k + j : Nat) : Int)) (by kernel_rfl) (by kernel_rfl) (by kernel_rfl) (Pl.free 4 (by kernel_rfl)) (Pl.binV 4 .add 3 3 (.tmp 31) (.tmp 32) (.int .i64 ((4 * k : Nat) : Int)) (.int .i64 ((j : Nat) : Int)) _ (by kernel_rfl) (by decide) (by decide) rfl rfl (fun w => by simp [go_sem, eqGuard, m2])) True.intro ?_
  refine Pl.H.take 5 34 (q.val) (by kernel_rfl) (by kernel_rfl) (by kernel_rfl) (Pl.free 5 (by kernel_rfl)) (Pl.move 5 (.tmp 2) (by kernel_rfl) (by decide)) True.intro ?_
  refine Pl.H.take 6 35 (.int .i64 ((j : Nat) : Int)) (by kernel_rfl) (by kernel_rfl) (by kernel_rfl) (Pl.free 6 (by kernel_rfl)) (Pl.move 6 (.tmp 8) (by kernel_rfl) (by decide)) True.intro ?_
  refine Pl.H.take 7 36 (.int .i64 ((128 * j : Nat) : Int)) (by kernel_rfl) (by kernel_rfl) (by kernel_rfl) (Pl.free 7 (by kernel_rfl)) (Pl.binV 7 .mul 3 3 (.const (.int .i64 128)) (.tmp 35) (.int .i64 128) (.int .i64 ((j : Nat) : Int)) _ (by kernel_rfl) (by decide) (by decide) rfl rfl (fun w => by simp [go_sem, eqGuard, m3])) True.intro ?_
  refine Pl.H.take 8 37 (.int .i64 ((j : Nat) : Int)) (by kernel_rfl) (by kernel_rfl) (by kernel_rfl) (Pl.free 8 (by kernel_rfl)) (Pl.move 8 (.tmp 8) (by kernel_rfl) (by decide)) True.intro ?_
  refine Pl.H.take 9 38 (.int .i64 ((128 * j : Nat) : Int)) (by kernel_rfl) (by kernel_rfl) (by kernel_rfl) (Pl.free 9 (by kernel_rfl)) (Pl.binV 9 .mul 3 3 (.const (.int .i64 128)) (.tmp 37) (.int .i64 128) (.int .i64 ((j : Nat) : Int)) _ (by kernel_rfl) (by decide) (by decide) rfl rfl (fun w => by simp [go_sem, eqGuard, m3])) True.intro ?_
  refine Pl.H.take 10 39 (.int .i64 ((128 * j + 128 : Nat) : Int)) (by kernel_rfl) (by kernel_rfl) (by kernel_rfl) (Pl.free 10 (by kernel_rfl)) (Pl.binV 10 .add 3 3 (.tmp 38) (.const (.int .i64 128)) (.int .i64 ((128 * j : Nat) : Int)) (.int .i64 128) _ (by kernel_rfl) (by decide) (by decide) rfl rfl (fun w => by simp [go_sem, eqGuard, m4])) True.intro ?_
  refine Pl.H.take 11 40 ((q.mid (128 * j) (128 * j + 128)).val) (by kernel_rfl) (by kernel_rfl) (by kernel_rfl) (Pl.free 11 (by kernel_rfl)) (Pl.slice 11 30 (.tmp 34) (some (.tmp 36)) (some (.tmp 39)) _ (by kernel_rfl) (by decide) (by decide) (by decide) (slice_midS q (128 * j) (128 * j + 128) (by omega) hql)) True.intro ?_
  refine Pl.H.take 12 41 (Pt.val ⟨((4 * k + j : Nat) : Int), [], false, 0⟩ (q.mid (128 * j) (128 * j + 128))) (by kernel_rfl) (by kernel_rfl) (by kernel_rfl) (Pl.free 12 (by kernel_rfl)) (Pl.buildV 12 81 [(0, .tmp 33), (1, .tmp 40)] _ (by kernel_rfl) (by decide) (build_ptS _ _)) True.intro ?_
  refine Pl.H.solo 0 29 (e0.val L0) (by kernel_rfl) (by kernel_rfl) (by kernel_rfl) (Pl.free 0 (by kernel_rfl)) (Pl.load1 0 35 (.tmp 3) _ (by kernel_rfl) (by decide) (load_dv g e0 L0 w.drew hd)) True.intro ?_
  refine Pl.H.call 13 42 34 [(.tmp 29), (.tmp 41)] #[35, 81] (by kernel_rfl) (by kernel_rfl) (by kernel_rfl) (Pl.free 13 (by kernel_rfl)) (by kernel_rfl) (by decide) entDo (Calls.mono (hdo w.drew (below_drew w)) ?_)
  rintro e w2 ⟨hb2, d2, L2, rfl, hin2, habs2⟩
  have hd2 := hd0.keep hb2
  refine ⟨(d2.val L2), rfl, True.intro, ?_⟩
  refine Pl.H.store 14 (setDv w2 g L2.kp.val d2.kept.base L2.ks.val L2.np.val d2.now.base L2.ns.val L2.ds.val d2.gone d2.armed) (by kernel_rfl) (by kernel_rfl) (by kernel_rfl) (Pl.free 14 (by kernel_rfl)) (Pl.storeV 14 35 (.tmp 3) (.tmp 42) _ (by kernel_rfl) (by decide) (by decide) (store_dv g d2 L2 w2 hd2)) True.intro ?_
  refine Pl.H.done (by kernel_rfl) (fun A' hA' => ?_)
  rw [Pl.At.ext hA' ((((((((((((((hA.put 30 _).put 31 _).put 32 _).put 33 _).put 34 _).put 35 _).put 36 _).put 37 _).put 38 _).put 39 _).put 40 _).put 41 _).put 29 _).put 42 _)]
  exact hend (fun d => if d = 30 then .int .i64 ((k : Nat) : Int) else if d = 31 then .int .i64 ((4 * k : Nat) : Int) else if d = 32 then .int .i64 ((j : Nat) : Int) else if d = 33 then .int .i64 ((4 * k + j : Nat) : Int) else if d = 34 then q.val else if d = 35 then .int .i64 ((j : Nat) : Int) else if d = 36 then .int .i64 ((128 * j : Nat) : Int) else if d = 37 then .int .i64 ((j : Nat) : Int) else if d = 38 then .int .i64 ((128 * j : Nat) : Int) else if d = 39 then .int .i64 ((128 * j + 128 : Nat) : Int) else if d = 40 then (q.mid (128 * j) (128 * j + 128)).val else if d = 41 then Pt.val ⟨((4 * k + j : Nat) : Int), [], false, 0⟩ (q.mid (128 * j) (128 * j + 128)) else if d = 29 then e0.val L0 else if d = 42 then (d2.val L2) else undef) _ w2 d2 L2 rfl ((below_drew w).trans hb2) hin2 habs2

end Go.Proofs.Ytokdeilcfkobfaa
