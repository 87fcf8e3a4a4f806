/-
  Layer 8, the landed leaf: drawn statements of copyOf and lay.
-/
import Derived.Test.YtgieigpbbkeonaaLgC
import Derived.Test.YtgieigpbbkeonaaPlanF
namespace Go.Proofs.Ytgieigpbbkeonaa
open Go.RowKit

theorem Own.below {e : TypeId} {z : Nat} {w w' : World} {s : Sl} {vs : List Value} (h : Own e z w s vs) (hb : Below w.heap.size w w') : Own e z w' s vs := h.frame (fun k hk => hb.block k (h.lt hk))
theorem Own.kept {e : TypeId} {z : Nat} {w w' : World} {s : Sl} {vs : List Value} {g : Nat} (h : Own e z w s vs) (f : Frm (fun k => k = g) w w') (hg : s.blk ≠ some g) : Own e z w' s vs := h.frame (fun k hk => f.block k (h.lt hk) (fun e => hg (by rw [hk, e])))
/-- A box with a leaf is no row. -/
theorem Own.unbox {e : TypeId} {z : Nat} {w : World} {s : Sl} {vs : List Value} {g : Nat} {u v : Value} (h : Own e z w s vs) (k : LfBlk w g u v) (he : e ≠ 25) : s.blk ≠ some g := by
  intro hs
  obtain ⟨cur, hc⟩ := h.kind hs
  unfold LfBlk at k
  rw [k] at hc
  simp only [Option.some.injEq, Obj.cells.injEq] at hc
  exact he hc.2.1.symm
theorem alloc_lf (w : World) : (Instr.alloc 25 true (.tuple #[])).run Try.prog w = .ok (.pointer (some ⟨w.heap.size, 0, none⟩)) (w.alloc (.cells #[.slice none 0 0, .slice none 0 0] 25)) := by
  simp [go_sem, Instr.alloc]
theorem build_lf (u v : Sl) (w : World) : (Instr.build 25 #[(0, u.val), (1, v.val)]).run Try.prog w = .ok (lfV u v) w := by
  obtain ⟨ua, ul, uc⟩ := u
  obtain ⟨va, vl, vc⟩ := v
  unfold lfV Sl.val
  simp [go_sem]
theorem entOwnI : ∀ args w, (callFunc 60 args).run Try.prog w = .ok (.enter 60 args) w := Pl.enters Try.func60 (by kernel_rfl) (by kernel_rfl)
theorem entOwnB : ∀ args w, (callFunc 61 args).run Try.prog w = .ok (.enter 61 args) w := Pl.enters Try.func61 (by kernel_rfl) (by kernel_rfl)
theorem entOwnU : ∀ args w, (callFunc 62 args).run Try.prog w = .ok (.enter 62 args) w := Pl.enters Try.func62 (by kernel_rfl) (by kernel_rfl)
/-- A leaf's lists, copied, in a box. -/
structure Cp (w w' : World) (g : Nat) (u v : Sl) (t : List Int) (l : List Sb) : Prop where
  k : LfBlk w' g u.val v.val
  oi : OwnN w' u t
  ob : OwnB w' v l
  ui : ∀ k, u.blk = some k → w.heap.size ≤ k
  vi : ∀ k, v.blk = some k → w.heap.size ≤ k
  gi : w.heap.size ≤ g
  e : Below w.heap.size w w'

set_option maxHeartbeats 2000000 in
set_option maxRecDepth 100000 in
theorem copy1 (w : World) (g : Nat) (u v : Sl) (t : List Int) (l : List Sb) (hg : LfBlk w g u.val v.val) (hN : ∀ W, Below w.heap.size w W → Calls Try.prog 60 #[u.val] W fun e w' => Below W.heap.size W w' ∧ ∃ s : Sl, e = .returned s.val ∧ Own 3 1 w' s (cellsN t) ∧ s.len = u.len ∧ s.cap = u.len ∧ ∀ k, s.blk = some k → W.heap.size ≤ k) (hB : ∀ W, Below w.heap.size w W → Calls Try.prog 61 #[v.val] W fun e w' => Below W.heap.size W w' ∧ ∃ s : Sl, e = .returned s.val ∧ Own 28 1 w' s (cellsB l) ∧ s.len = v.len ∧ s.cap = v.len ∧ ∀ k, s.blk = some k → W.heap.size ≤ k)
    {Q : Exit → Act → World → Prop} {A : Act} (hsz : A.tmps.size = 29) (hdf : A.defers = []) (s1 : A.tmps.getD 1 undef = .pointer (some ⟨g, 0, none⟩))
    (hend : ∀ (u : Nat → Value) w' (g3 : Nat) (s2 s5 : Sl), Cp w w' g3 s2 s5 t l → Q .normal (((((((((A).put (some 6) (u 6)).put (some 7) (u 7)).put (some 9) (u 9)).put (some 10) (u 10)).put (some 8) (u 8)).put (some 11) (u 11)).put (some 12) (u 12)).put (some 3) (.pointer (some ⟨g3, 0, none⟩))) w') :
    (Code.region 1 (Pl.find 1 ((Try.f39.body).getD .skip)) true).wp Try.prog Q A w := by
  have hA := Pl.At.same (v := .pointer (some ⟨g, 0, none⟩)) (d := 1) (Pl.At.here hsz hdf) s1
  refine Pl.H.start (S := (fun w' => Below w.heap.size w w')) (by kernel_rfl) hA (below_drew w) ?_
  rw [show (Pl.find 1 ((Try.f39.body).getD .skip)).size = 9 by kernel_rfl]
  refine Pl.H.take 0 6 (.pointer (some ⟨g, 0, none⟩)) (by kernel_rfl) (by kernel_rfl) (by kernel_rfl) (Pl.free 0 (by kernel_rfl)) (Pl.field 0 25 (.tmp 1) 0 _ (by kernel_rfl) (by decide) (fdLf0 g)) (below_drew w) ?_
  refine Pl.H.take 1 7 (Sl.val u) (by kernel_rfl) (by kernel_rfl) (by kernel_rfl) (Pl.free 1 (by kernel_rfl)) (Pl.load 1 22 (.tmp 6) _ (by kernel_rfl) (by decide) (fun w' hS => ldLf0 g u v.val w' (hg.below hS))) (below_drew w) ?_
  refine Pl.H.take 3 9 (.pointer (some ⟨g, 1, none⟩)) (by kernel_rfl) (by kernel_rfl) (by kernel_rfl) (Pl.free 3 (by kernel_rfl)) (Pl.field 3 25 (.tmp 1) 1 _ (by kernel_rfl) (by decide) (fdLf1 g)) (below_drew w) ?_
  refine Pl.H.take 4 10 (Sl.val v) (by kernel_rfl) (by kernel_rfl) (by kernel_rfl) (Pl.free 4 (by kernel_rfl)) (Pl.load 4 23 (.tmp 9) _ (by kernel_rfl) (by decide) (fun w' hS => ldLf1 g u.val v w' (hg.below hS))) (below_drew w) ?_
  refine Pl.H.two 2 7 (by kernel_rfl) ?_ ?_
  · refine Pl.HOp.call 2 8 60 [(.tmp 7)] #[22] (by kernel_rfl) (by kernel_rfl) (by kernel_rfl) (by kernel_rfl) (by decide) entOwnI (Calls.mono (hN w.drew (below_drew w)) ?_)
    rintro e w2 ⟨hb2, s2, rfl, ho2, _, _, hk2⟩
    have e2 := rBelow (below_drew w) hb2
    have un : ∀ k, s2.blk = some k → w.heap.size ≤ k := fun k hk => Nat.le_trans (below_drew w).size (hk2 k hk)
    refine ⟨Sl.val s2, rfl, e2, ?_⟩
    refine Pl.H.two 5 7 (by kernel_rfl) ?_ ?_
    · refine Pl.HOp.call 5 11 61 [(.tmp 10)] #[23] (by kernel_rfl) (by kernel_rfl) (by kernel_rfl) (by kernel_rfl) (by decide) entOwnB (Calls.mono (hB w2 e2) ?_)
      rintro e w5 ⟨hb5, s5, rfl, ho5, _, _, hk5⟩
      have e5 := rBelow e2 hb5
      have n5 : OwnN w5 s2 t := Own.below ho2 hb5
      have vn : ∀ k, s5.blk = some k → w.heap.size ≤ k := fun k hk => Nat.le_trans e2.size (hk5 k hk)
      refine ⟨Sl.val s5, rfl, e5, ?_⟩
      refine Pl.H.take 6 12 (lfV s2 s5) (by kernel_rfl) (by kernel_rfl) (by kernel_rfl) (Pl.free 6 (by kernel_rfl)) (Pl.buildV 6 25 [(0, .tmp 8), (1, .tmp 11)] _ (by kernel_rfl) (by decide) (build_lf s2 s5)) e5 ?_
      have hb7 := below_alloc w5 (.cells #[.slice none 0 0, .slice none 0 0] 25)
      have e7 := rBelow e5 hb7
      have n7 : OwnN (w5.alloc (.cells #[.slice none 0 0, .slice none 0 0] 25)) s2 t := Own.below n5 hb7
      have b7 : OwnB (w5.alloc (.cells #[.slice none 0 0, .slice none 0 0] 25)) s5 l := Own.below ho5 hb7
      have k7 := lfBlk_new w5 (.slice none 0 0) (.slice none 0 0)
      have gn : w.heap.size ≤ w5.heap.size := e5.size
      refine Pl.H.make 7 3 (.pointer (some ⟨w5.heap.size, 0, none⟩)) (w5.alloc (.cells #[.slice none 0 0, .slice none 0 0] 25)) (by kernel_rfl) (by kernel_rfl) (by kernel_rfl) (Pl.free 7 (by kernel_rfl)) (Pl.allocV 7 25 _ _ (by kernel_rfl) (alloc_lf w5)) e7 ?_
      obtain ⟨W8, hst8, k8, f8⟩ := st_lf (w5.alloc (.cells #[.slice none 0 0, .slice none 0 0] 25)) w5.heap.size _ _ k7 s2 s5
      have e8 : Below w.heap.size w W8 := e7.trans (f8.below e7.size (fun k hk => by rw [hk]; exact gn))
      have cp : Cp w W8 w5.heap.size s2 s5 t l := ⟨k8, Own.kept n7 f8 (Own.unbox n7 k7 (by decide)), Own.kept b7 f8 (Own.unbox b7 k7 (by decide)), un, vn, gn, e8⟩
      refine Pl.H.store 8 W8 (by kernel_rfl) (by kernel_rfl) (by kernel_rfl) (Pl.free 8 (by kernel_rfl)) (Pl.storeV 8 25 (.tmp 3) (.tmp 12) _ (by kernel_rfl) (by decide) (by decide) hst8) e8 ?_
      refine Pl.H.done (by kernel_rfl) (fun A' hA' => ?_)
      rw [Pl.At.ext hA' ((((((((hA.put 6 _).put 7 _).put 9 _).put 10 _).put 8 _).put 11 _).put 12 _).put 3 _)]
      exact hend (fun d => if d = 6 then .pointer (some ⟨g, 0, none⟩) else if d = 7 then Sl.val u else if d = 9 then .pointer (some ⟨g, 1, none⟩) else if d = 10 then Sl.val v else if d = 8 then Sl.val s2 else if d = 11 then Sl.val s5 else if d = 12 then lfV s2 s5 else undef) _ _ s2 s5 cp
    · have hb7 := below_alloc w2 (.cells #[.slice none 0 0, .slice none 0 0] 25)
      have e7 := rBelow e2 hb7
      have n7 : OwnN (w2.alloc (.cells #[.slice none 0 0, .slice none 0 0] 25)) s2 t := Own.below ho2 hb7
      have k7 := lfBlk_new w2 (.slice none 0 0) (.slice none 0 0)
      have gn : w.heap.size ≤ w2.heap.size := e2.size
      refine Pl.HOp.value 7 3 (.pointer (some ⟨w2.heap.size, 0, none⟩)) (w2.alloc (.cells #[.slice none 0 0, .slice none 0 0] 25)) (by kernel_rfl) (by kernel_rfl) (by kernel_rfl) (Pl.allocV 7 25 _ _ (by kernel_rfl) (alloc_lf w2)) e7 ?_
      refine Pl.H.call 5 11 61 [(.tmp 10)] #[23] (by kernel_rfl) (by kernel_rfl) (by kernel_rfl) (Pl.free 5 (by kernel_rfl)) (by kernel_rfl) (by decide) entOwnB (Calls.mono (hB (w2.alloc (.cells #[.slice none 0 0, .slice none 0 0] 25)) e7) ?_)
      rintro e w5 ⟨hb5, s5, rfl, ho5, _, _, hk5⟩
      have e5 := rBelow e7 hb5
      have n5 : OwnN w5 s2 t := Own.below n7 hb5
      have k5 : LfBlk w5 w2.heap.size (.slice none 0 0) (.slice none 0 0) := LfBlk.below k7 hb5
      have vn : ∀ k, s5.blk = some k → w.heap.size ≤ k := fun k hk => Nat.le_trans e7.size (hk5 k hk)
      refine ⟨Sl.val s5, rfl, e5, ?_⟩
      rw [Pl.upd_comm _ 3 11 _ _ (by decide)]
      refine Pl.H.take 6 12 (lfV s2 s5) (by kernel_rfl) (by kernel_rfl) (by kernel_rfl) (Pl.free 6 (by kernel_rfl)) (Pl.buildV 6 25 [(0, .tmp 8), (1, .tmp 11)] _ (by kernel_rfl) (by decide) (build_lf s2 s5)) e5 ?_
      rw [Pl.upd_comm _ 3 12 _ _ (by decide)]
      obtain ⟨W8, hst8, k8, f8⟩ := st_lf w5 w2.heap.size _ _ k5 s2 s5
      have e8 : Below w.heap.size w W8 := e5.trans (f8.below e5.size (fun k hk => by rw [hk]; exact gn))
      have cp : Cp w W8 w2.heap.size s2 s5 t l := ⟨k8, Own.kept n5 f8 (Own.unbox n5 k5 (by decide)), Own.kept ho5 f8 (Own.unbox ho5 k5 (by decide)), un, vn, gn, e8⟩
      refine Pl.H.store 8 W8 (by kernel_rfl) (by kernel_rfl) (by kernel_rfl) (Pl.free 8 (by kernel_rfl)) (Pl.storeV 8 25 (.tmp 3) (.tmp 12) _ (by kernel_rfl) (by decide) (by decide) hst8) e8 ?_
      refine Pl.H.done (by kernel_rfl) (fun A' hA' => ?_)
      rw [Pl.At.ext hA' ((((((((hA.put 6 _).put 7 _).put 9 _).put 10 _).put 8 _).put 11 _).put 12 _).put 3 _)]
      exact hend (fun d => if d = 6 then .pointer (some ⟨g, 0, none⟩) else if d = 7 then Sl.val u else if d = 9 then .pointer (some ⟨g, 1, none⟩) else if d = 10 then Sl.val v else if d = 8 then Sl.val s2 else if d = 11 then Sl.val s5 else if d = 12 then lfV s2 s5 else undef) _ _ s2 s5 cp
  · have hb7 := below_alloc w.drew (.cells #[.slice none 0 0, .slice none 0 0] 25)
    have e7 := rBelow (below_drew w) hb7
    have k7 := lfBlk_new w.drew (.slice none 0 0) (.slice none 0 0)
    have gn : w.heap.size ≤ w.drew.heap.size := (below_drew w).size
    refine Pl.HOp.value 7 3 (.pointer (some ⟨w.drew.heap.size, 0, none⟩)) (w.drew.alloc (.cells #[.slice none 0 0, .slice none 0 0] 25)) (by kernel_rfl) (by kernel_rfl) (by kernel_rfl) (Pl.allocV 7 25 _ _ (by kernel_rfl) (alloc_lf w.drew)) e7 ?_
    refine Pl.H.call 2 8 60 [(.tmp 7)] #[22] (by kernel_rfl) (by kernel_rfl) (by kernel_rfl) (Pl.free 2 (by kernel_rfl)) (by kernel_rfl) (by decide) entOwnI (Calls.mono (hN (w.drew.alloc (.cells #[.slice none 0 0, .slice none 0 0] 25)) e7) ?_)
    rintro e w2 ⟨hb2, s2, rfl, ho2, _, _, hk2⟩
    have e2 := rBelow e7 hb2
    have k2 : LfBlk w2 w.drew.heap.size (.slice none 0 0) (.slice none 0 0) := LfBlk.below k7 hb2
    have un : ∀ k, s2.blk = some k → w.heap.size ≤ k := fun k hk => Nat.le_trans e7.size (hk2 k hk)
    refine ⟨Sl.val s2, rfl, e2, ?_⟩
    rw [Pl.upd_comm _ 3 8 _ _ (by decide)]
    refine Pl.H.call 5 11 61 [(.tmp 10)] #[23] (by kernel_rfl) (by kernel_rfl) (by kernel_rfl) (Pl.free 5 (by kernel_rfl)) (by kernel_rfl) (by decide) entOwnB (Calls.mono (hB w2 e2) ?_)
    rintro e w5 ⟨hb5, s5, rfl, ho5, _, _, hk5⟩
    have e5 := rBelow e2 hb5
    have n5 : OwnN w5 s2 t := Own.below ho2 hb5
    have k5 : LfBlk w5 w.drew.heap.size (.slice none 0 0) (.slice none 0 0) := LfBlk.below k2 hb5
    have vn : ∀ k, s5.blk = some k → w.heap.size ≤ k := fun k hk => Nat.le_trans e2.size (hk5 k hk)
    refine ⟨Sl.val s5, rfl, e5, ?_⟩
    rw [Pl.upd_comm _ 3 11 _ _ (by decide)]
    refine Pl.H.take 6 12 (lfV s2 s5) (by kernel_rfl) (by kernel_rfl) (by kernel_rfl) (Pl.free 6 (by kernel_rfl)) (Pl.buildV 6 25 [(0, .tmp 8), (1, .tmp 11)] _ (by kernel_rfl) (by decide) (build_lf s2 s5)) e5 ?_
    rw [Pl.upd_comm _ 3 12 _ _ (by decide)]
    obtain ⟨W8, hst8, k8, f8⟩ := st_lf w5 w.drew.heap.size _ _ k5 s2 s5
    have e8 : Below w.heap.size w W8 := e5.trans (f8.below e5.size (fun k hk => by rw [hk]; exact gn))
    have cp : Cp w W8 w.drew.heap.size s2 s5 t l := ⟨k8, Own.kept n5 f8 (Own.unbox n5 k5 (by decide)), Own.kept ho5 f8 (Own.unbox ho5 k5 (by decide)), un, vn, gn, e8⟩
    refine Pl.H.store 8 W8 (by kernel_rfl) (by kernel_rfl) (by kernel_rfl) (Pl.free 8 (by kernel_rfl)) (Pl.storeV 8 25 (.tmp 3) (.tmp 12) _ (by kernel_rfl) (by decide) (by decide) hst8) e8 ?_
    refine Pl.H.done (by kernel_rfl) (fun A' hA' => ?_)
    rw [Pl.At.ext hA' ((((((((hA.put 6 _).put 7 _).put 9 _).put 10 _).put 8 _).put 11 _).put 12 _).put 3 _)]
    exact hend (fun d => if d = 6 then .pointer (some ⟨g, 0, none⟩) else if d = 7 then Sl.val u else if d = 9 then .pointer (some ⟨g, 1, none⟩) else if d = 10 then Sl.val v else if d = 8 then Sl.val s2 else if d = 11 then Sl.val s5 else if d = 12 then lfV s2 s5 else undef) _ _ s2 s5 cp

/-- A slot laid into a row of one's own: what has turned. -/
structure Ly (w w' : World) (g : Nat) (u v : Sl) (l : List Sb) (i : Nat) (xs : List Nat) (s : Sl) : Prop where
  k : LfBlk w' g u.val v.val
  ob : OwnB w' v (l.set i ⟨s, xs⟩)
  os : Own 5 1 w' s (vals xs)
  si : ∀ k, s.blk = some k → w.heap.size ≤ k
  len : s.len = xs.length
  f : Frm (fun k => v.blk = some k) w w'
theorem Own.apart {e e2 : TypeId} {z z2 : Nat} {w : World} {s s2 : Sl} {vs vs2 : List Value} (h : Own e z w s vs) (h2 : Own e2 z2 w s2 vs2) (he : e ≠ e2) : ∀ k, s.blk = some k → s2.blk ≠ some k := by
  intro k hk hk2
  obtain ⟨c, hc⟩ := h.kind hk
  obtain ⟨c2, hc2⟩ := h2.kind hk2
  rw [hc] at hc2
  simp only [Option.some.injEq, Obj.cells.injEq] at hc2
  exact he hc2.2.1

set_option maxHeartbeats 2000000 in
set_option maxRecDepth 100000 in
theorem copy5 (w : World) (g b o len cap i : Nat) (un x : Sl) (l : List Sb) (xs : List Nat) (hi : i < len) (hxl : x.len = xs.length) (hg : LfBlk w g un.val (.slice (some ⟨b, o, none⟩) len cap)) (hob : OwnB w ⟨some ⟨b, o, none⟩, len, cap⟩ l) (hU : ∀ W, Below w.heap.size w W → Calls Try.prog 62 #[x.val] W fun e w' => Below W.heap.size W w' ∧ ∃ s : Sl, e = .returned s.val ∧ Own 5 1 w' s (vals xs) ∧ s.len = x.len ∧ s.cap = x.len ∧ ∀ k, s.blk = some k → W.heap.size ≤ k)
    {Q : Exit → Act → World → Prop} {A : Act} (hsz : A.tmps.size = 29) (hdf : A.defers = []) (s3 : A.tmps.getD 3 undef = .pointer (some ⟨g, 0, none⟩)) (s4 : A.tmps.getD 4 undef = .int .i64 ((i : Nat) : Int)) (s5 : A.tmps.getD 5 undef = Sl.val x)
    (hend : ∀ (u : Nat → Value) w' (s4 : Sl), Ly w w' g un ⟨some ⟨b, o, none⟩, len, cap⟩ l i xs s4 → Q .normal (((((((A).put (some 21) (u 21)).put (some 22) (u 22)).put (some 23) (u 23)).put (some 24) (u 24)).put (some 25) (u 25)).put (some 26) (u 26)) w') :
    (Code.region 5 (Pl.find 5 ((Try.f39.body).getD .skip)) true).wp Try.prog Q A w := by
  have hA := Pl.At.same (v := Sl.val x) (d := 5) (Pl.At.same (v := .int .i64 ((i : Nat) : Int)) (d := 4) (Pl.At.same (v := .pointer (some ⟨g, 0, none⟩)) (d := 3) (Pl.At.here hsz hdf) s3) s4) s5
  refine Pl.H.start (S := (fun w' => Below w.heap.size w w' ∨ ∃ s, Ly w w' g un ⟨some ⟨b, o, none⟩, len, cap⟩ l i xs s)) (by kernel_rfl) hA (.inl (below_drew w)) ?_
  rw [show (Pl.find 5 ((Try.f39.body).getD .skip)).size = 7 by kernel_rfl]
  refine Pl.H.take 0 21 (.pointer (some ⟨g, 1, none⟩)) (by kernel_rfl) (by kernel_rfl) (by kernel_rfl) (Pl.free 0 (by kernel_rfl)) (Pl.field 0 25 (.tmp 3) 1 _ (by kernel_rfl) (by decide) (fdLf1 g)) (.inl (below_drew w)) ?_
  refine Pl.H.take 1 22 (.slice (some ⟨b, o, none⟩) len cap) (by kernel_rfl) (by kernel_rfl) (by kernel_rfl) (Pl.free 1 (by kernel_rfl)) (Pl.load 1 23 (.tmp 21) _ (by kernel_rfl) (by decide) (fun w' hS => ldLf1 g un.val ⟨some ⟨b, o, none⟩, len, cap⟩ w' (hS.elim (fun h => hg.below h) (fun h => h.elim fun _ q => q.k)))) (.inl (below_drew w)) ?_
  refine Pl.H.take 2 23 (.int .i64 ((i : Nat) : Int)) (by kernel_rfl) (by kernel_rfl) (by kernel_rfl) (Pl.free 2 (by kernel_rfl)) (Pl.move 2 (.tmp 4) (by kernel_rfl) (by decide)) (.inl (below_drew w)) ?_
  refine Pl.H.take 3 24 (Sl.val x) (by kernel_rfl) (by kernel_rfl) (by kernel_rfl) (Pl.free 3 (by kernel_rfl)) (Pl.move 3 (.tmp 5) (by kernel_rfl) (by decide)) (.inl (below_drew w)) ?_
  refine Pl.H.call 4 25 62 [(.tmp 24)] #[28] (by kernel_rfl) (by kernel_rfl) (by kernel_rfl) (Pl.free 4 (by kernel_rfl)) (by kernel_rfl) (by decide) entOwnU (Calls.mono (hU w.drew (below_drew w)) ?_)
  rintro e w4 ⟨hb4, s4, rfl, ho4, hl4, _, hk4⟩
  have e4 := rBelow (below_drew w) hb4
  refine ⟨Sl.val s4, rfl, (.inl e4), ?_⟩
  refine Pl.H.take 5 26 (.pointer (some ⟨b, o + i, none⟩)) (by kernel_rfl) (by kernel_rfl) (by kernel_rfl) (Pl.free 5 (by kernel_rfl)) (Pl.index 5 23 (.tmp 22) (.tmp 23) _ (by kernel_rfl) (by decide) (by decide) (ixB1 b o len cap i hi)) (.inl e4) ?_
  obtain ⟨W6, hst6, ob6, f6⟩ := st_slot w4 b o len cap l (Own.below hob e4) i hi ⟨s4, xs⟩
  have hk6 : LfBlk w4 g un.val (.slice (some ⟨b, o, none⟩) len cap) := hg.below e4
  have hne : g ≠ b := fun e => Own.unbox (Own.below hob e4) hk6 (by decide) (by rw [e]; rfl)
  have ly : Ly w W6 g un ⟨some ⟨b, o, none⟩, len, cap⟩ l i xs s4 := ⟨hk6.off f6 hne, ob6, Own.kept ho4 f6 (fun e => Own.apart ho4 (Own.below hob e4) (by decide) b e rfl), fun k hk => hk4 k hk, by rw [hl4, hxl], (Frm.ofBelow e4).trans (f6.mono (fun k _ e => by rw [e]; rfl)) (fun _ _ h => h)⟩
  refine Pl.H.store 6 W6 (by kernel_rfl) (by kernel_rfl) (by kernel_rfl) (Pl.free 6 (by kernel_rfl)) (Pl.storeV 6 28 (.tmp 26) (.tmp 25) _ (by kernel_rfl) (by decide) (by decide) hst6) (.inr ⟨s4, ly⟩) ?_
  refine Pl.H.done (by kernel_rfl) (fun A' hA' => ?_)
  rw [Pl.At.ext hA' ((((((hA.put 21 _).put 22 _).put 23 _).put 24 _).put 25 _).put 26 _)]
  exact hend (fun d => if d = 21 then .pointer (some ⟨g, 1, none⟩) else if d = 22 then .slice (some ⟨b, o, none⟩) len cap else if d = 23 then .int .i64 ((i : Nat) : Int) else if d = 24 then Sl.val x else if d = 25 then Sl.val s4 else if d = 26 then .pointer (some ⟨b, o + i, none⟩) else undef) _ s4 ly

set_option maxHeartbeats 2000000 in
set_option maxRecDepth 100000 in
theorem lay4 (w : World) (g b o len cap i : Nat) (un x : Sl) (l : List Sb) (xs : List Nat) (hi : i < len) (hxl : x.len = xs.length) (hg : LfBlk w g un.val (.slice (some ⟨b, o, none⟩) len cap)) (hob : OwnB w ⟨some ⟨b, o, none⟩, len, cap⟩ l) (hU : ∀ W, Below w.heap.size w W → Calls Try.prog 62 #[x.val] W fun e w' => Below W.heap.size W w' ∧ ∃ s : Sl, e = .returned s.val ∧ Own 5 1 w' s (vals xs) ∧ s.len = x.len ∧ s.cap = x.len ∧ ∀ k, s.blk = some k → W.heap.size ≤ k)
    {Q : Exit → Act → World → Prop} {A : Act} (hsz : A.tmps.size = 36) (hdf : A.defers = []) (s8 : A.tmps.getD 8 undef = .pointer (some ⟨g, 0, none⟩)) (s1 : A.tmps.getD 1 undef = .int .i64 ((i : Nat) : Int)) (s2 : A.tmps.getD 2 undef = Sl.val x)
    (hend : ∀ (u : Nat → Value) w' (s4 : Sl), Ly w w' g un ⟨some ⟨b, o, none⟩, len, cap⟩ l i xs s4 → Q .normal (((((((A).put (some 24) (u 24)).put (some 25) (u 25)).put (some 26) (u 26)).put (some 27) (u 27)).put (some 28) (u 28)).put (some 29) (u 29)) w') :
    (Code.region 4 (Pl.find 4 ((Try.f44.body).getD .skip)) true).wp Try.prog Q A w := by
  have hA := Pl.At.same (v := Sl.val x) (d := 2) (Pl.At.same (v := .int .i64 ((i : Nat) : Int)) (d := 1) (Pl.At.same (v := .pointer (some ⟨g, 0, none⟩)) (d := 8) (Pl.At.here hsz hdf) s8) s1) s2
  refine Pl.H.start (S := (fun w' => Below w.heap.size w w' ∨ ∃ s, Ly w w' g un ⟨some ⟨b, o, none⟩, len, cap⟩ l i xs s)) (by kernel_rfl) hA (.inl (below_drew w)) ?_
  rw [show (Pl.find 4 ((Try.f44.body).getD .skip)).size = 7 by kernel_rfl]
  refine Pl.H.take 0 24 (.pointer (some ⟨g, 1, none⟩)) (by kernel_rfl) (by kernel_rfl) (by kernel_rfl) (Pl.free 0 (by kernel_rfl)) (Pl.field 0 25 (.tmp 8) 1 _ (by kernel_rfl) (by decide) (fdLf1 g)) (.inl (below_drew w)) ?_
  refine Pl.H.take 1 25 (.slice (some ⟨b, o, none⟩) len cap) (by kernel_rfl) (by kernel_rfl) (by kernel_rfl) (Pl.free 1 (by kernel_rfl)) (Pl.load 1 23 (.tmp 24) _ (by kernel_rfl) (by decide) (fun w' hS => ldLf1 g un.val ⟨some ⟨b, o, none⟩, len, cap⟩ w' (hS.elim (fun h => hg.below h) (fun h => h.elim fun _ q => q.k)))) (.inl (below_drew w)) ?_
  refine Pl.H.take 2 26 (.int .i64 ((i : Nat) : Int)) (by kernel_rfl) (by kernel_rfl) (by kernel_rfl) (Pl.free 2 (by kernel_rfl)) (Pl.move 2 (.tmp 1) (by kernel_rfl) (by decide)) (.inl (below_drew w)) ?_
  refine Pl.H.take 3 27 (Sl.val x) (by kernel_rfl) (by kernel_rfl) (by kernel_rfl) (Pl.free 3 (by kernel_rfl)) (Pl.move 3 (.tmp 2) (by kernel_rfl) (by decide)) (.inl (below_drew w)) ?_
  refine Pl.H.call 4 28 62 [(.tmp 27)] #[28] (by kernel_rfl) (by kernel_rfl) (by kernel_rfl) (Pl.free 4 (by kernel_rfl)) (by kernel_rfl) (by decide) entOwnU (Calls.mono (hU w.drew (below_drew w)) ?_)
  rintro e w4 ⟨hb4, s4, rfl, ho4, hl4, _, hk4⟩
  have e4 := rBelow (below_drew w) hb4
  refine ⟨Sl.val s4, rfl, (.inl e4), ?_⟩
  refine Pl.H.take 5 29 (.pointer (some ⟨b, o + i, none⟩)) (by kernel_rfl) (by kernel_rfl) (by kernel_rfl) (Pl.free 5 (by kernel_rfl)) (Pl.index 5 23 (.tmp 25) (.tmp 26) _ (by kernel_rfl) (by decide) (by decide) (ixB1 b o len cap i hi)) (.inl e4) ?_
  obtain ⟨W6, hst6, ob6, f6⟩ := st_slot w4 b o len cap l (Own.below hob e4) i hi ⟨s4, xs⟩
  have hk6 : LfBlk w4 g un.val (.slice (some ⟨b, o, none⟩) len cap) := hg.below e4
  have hne : g ≠ b := fun e => Own.unbox (Own.below hob e4) hk6 (by decide) (by rw [e]; rfl)
  have ly : Ly w W6 g un ⟨some ⟨b, o, none⟩, len, cap⟩ l i xs s4 := ⟨hk6.off f6 hne, ob6, Own.kept ho4 f6 (fun e => Own.apart ho4 (Own.below hob e4) (by decide) b e rfl), fun k hk => hk4 k hk, by rw [hl4, hxl], (Frm.ofBelow e4).trans (f6.mono (fun k _ e => by rw [e]; rfl)) (fun _ _ h => h)⟩
  refine Pl.H.store 6 W6 (by kernel_rfl) (by kernel_rfl) (by kernel_rfl) (Pl.free 6 (by kernel_rfl)) (Pl.storeV 6 28 (.tmp 29) (.tmp 28) _ (by kernel_rfl) (by decide) (by decide) hst6) (.inr ⟨s4, ly⟩) ?_
  refine Pl.H.done (by kernel_rfl) (fun A' hA' => ?_)
  rw [Pl.At.ext hA' ((((((hA.put 24 _).put 25 _).put 26 _).put 27 _).put 28 _).put 29 _)]
  exact hend (fun d => if d = 24 then .pointer (some ⟨g, 1, none⟩) else if d = 25 then .slice (some ⟨b, o, none⟩) len cap else if d = 26 then .int .i64 ((i : Nat) : Int) else if d = 27 then Sl.val x else if d = 28 then Sl.val s4 else if d = 29 then .pointer (some ⟨b, o + i, none⟩) else undef) _ s4 ly
end Go.Proofs.Ytgieigpbbkeonaa
