/-
  A column more in a row that is being built: drawn regions in which a row's list is read, appended to, and stored.
-/
import Derived.Test.YtgckcalkdojeeaaRowH
namespace Go.Proofs.Ytgckcalkdojeeaa
open Go.RowKit

namespace Pl
section
variable {P : Program} {ops : Array Oper} {S : World → Prop} {Q : Exit → Act → World → Prop} {n fuel : Nat} {listed : Array Bool} {f : Nat → Value} {w : World}

/-- What an operation that comes up leaves. -/
def HOp (P : Program) (ops : Array Oper) (S : World → Prop) (Q : Exit → Act → World → Prop) (n fuel : Nat) (listed : Array Bool) (f : Nat → Value) (w : World) (i : Nat) : Prop :=
  ∀ A, At n A f → wpOp P ops (NoPanic Q) i (fun a' w' => S w' ∧ wpAnyH P .any ops (NoPanic Q) S fuel (listed.setIfInBounds i true) a' w') A w

theorem H.one (i : Nat) (hr : Region.ready .any ops listed = [i]) (h : HOp P ops S Q n fuel listed f w i) : H P ops S Q n (fuel + 1) listed f w := by
  intro A hA
  refine wpAnyH_all hr (by simp) ?_
  intro j hj
  obtain rfl : j = i := by simpa using hj
  exact h A hA

theorem H.two (i k : Nat) (hr : Region.ready .any ops listed = [i, k]) (h : HOp P ops S Q n fuel listed f w i) (h2 : HOp P ops S Q n fuel listed f w k) : H P ops S Q n (fuel + 1) listed f w := by
  intro A hA
  refine wpAnyH_all hr (by simp) ?_
  intro j hj
  have : j = i ∨ j = k := by simpa using hj
  rcases this with rfl | rfl
  · exact h A hA
  · exact h2 A hA

theorem HOp.value (i d : Nat) (v : Value) (w' : World) (hi : ops[i]? = some (op ops i)) (hd : (op ops i).dst = some d) (hg : (op ops i).guard = none)
    (hy : ∀ A, At n A f → (execOp A.eval (op ops i)).run P w = .ok (.value v) w') (hS : S w')
    (h : H P ops S Q n fuel (listed.setIfInBounds i true) (upd f d v) w') : HOp P ops S Q n fuel listed f w i := by
  intro A hA
  unfold wpOp
  rw [hi]
  simp only [free (n := n) (f := f) i hg A hA, if_true]
  refine .inl ?_
  unfold Oper.wp
  rw [hy A hA]
  refine ⟨hS, h _ ?_⟩
  rw [hd]
  exact hA.put d v

theorem HOp.call (i d g : Nat) (xs : List Operand) (ts : Array TypeId) (hi : ops[i]? = some (op ops i)) (hd : (op ops i).dst = some d) (hg : (op ops i).guard = none)
    (hop : (op ops i).op = .call { callee := .value (.func g), args := xs.toArray, argTypes := ts }) (hx : xs.all (inB n) = true)
    (hfn : ∀ args w, (callFunc g args).run P w = .ok (.enter g args) w)
    (h : Calls P g (xs.map (ev f)).toArray w fun e w' => ∃ v, e = .returned v ∧ S w' ∧ H P ops S Q n fuel (listed.setIfInBounds i true) (upd f d v) w') :
    HOp P ops S Q n fuel listed f w i := by
  intro A hA
  unfold wpOp
  rw [hi]
  simp only [free (n := n) (f := f) i hg A hA, if_true]
  refine .inl ?_
  have hargs : #[] ++ xs.toArray.map A.eval ++ #[] = (xs.map (ev f)).toArray := by
    simp only [Array.empty_append, Array.append_empty, List.map_toArray]
    congr 1
    apply List.map_congr_left
    intro x hxm
    exact hA.ev x (List.all_eq_true.1 hx x hxm)
  have hrun : (execOp A.eval (op ops i)).run P w = .ok (.enter g (xs.map (ev f)).toArray) w := by
    have e : execOp A.eval (op ops i) = callFunc g (#[] ++ xs.toArray.map A.eval ++ #[]) := by
      unfold execOp
      rw [hop]
      rfl
    rw [e, hargs]
    exact hfn _ _
  unfold Oper.wp
  rw [hrun]
  refine h.mono ?_
  rintro e w' ⟨v, rfl, hS, hh⟩
  refine ⟨hS, hh _ ?_⟩
  rw [hd]
  exact hA.put d v

theorem load1 (i : Nat) (t : TypeId) (x : Operand) (v : Value) (h : (op ops i).op = .load t x) (hx : inB n x = true) (hv : (Instr.loadAt t (ev f x)).run P w = .ok v w) :
    ∀ A, At n A f → (execOp A.eval (op ops i)).run P w = .ok (.value v) w := by
  intro A hA
  have e : execOp A.eval (op ops i) = (do pure (.value (← Instr.loadAt t (A.eval x)))) := by
    unfold execOp
    rw [h]
  rw [e, hA.ev x hx]
  simp [hv]

theorem appT (i : Nat) (t ty : TypeId) (x y : Operand) (v : Value) (w' : World) (h : (op ops i).op = .call { callee := .builtin .append, args := #[x, y], argTypes := #[t, t] }) (ht : (op ops i).type = ty) (hx : inB n x = true) (hy : inB n y = true)
    (hv : (Builtin.append_ #[t, t] ty #[ev f x, ev f y]).run P w = .ok v w') :
    ∀ A, At n A f → (execOp A.eval (op ops i)).run P w = .ok (.value v) w' := by
  intro A hA
  unfold execOp
  rw [h]
  simp [resolve, invoke, builtin, hA.ev x hx, hA.ev y hy, ht, hv]
end
theorem upd_comm (f : Nat → Value) (d e : Nat) (v u : Value) (h : d ≠ e) : upd (upd f d v) e u = upd (upd f e u) d v := by
  funext x
  unfold upd
  by_cases h1 : x = d
  · subst h1
    simp [h]
  · simp [h1]
end Pl

theorem load_flsV (b o : Nat) (v : Value) (hv : ∃ a len cap, v = .slice a len cap) (w : World) (h : w.cell? ⟨b, o, none⟩ = some v) : (Instr.loadAt 23 (.pointer (some ⟨b, o, none⟩))).run Try.prog w = .ok v w := by
  obtain ⟨a, len, cap, rfl⟩ := hv
  exact load_fls b o a len cap w h

theorem store_flsV (b o : Nat) (v u : Value) (hv : ∃ a len cap, v = .slice a len cap) (w : World) (h : w.cell? ⟨b, o, none⟩ = some u) (hf : w.frozen? ⟨b, o, none⟩ = false) : (Instr.storeAt 23 (.pointer (some ⟨b, o, none⟩)) v).run Try.prog w = .ok () (w.setCell ⟨b, o, none⟩ v) := by
  obtain ⟨a, len, cap, rfl⟩ := hv
  simp [go_sem, Instr.storeAt, h, hf]

theorem build_flt (x : Nat) (w : World) : (Instr.buildSlice 23 1 #[(0, .float .f64 x)]).run Try.prog w = .ok (.slice (some ⟨w.heap.size, 0, none⟩) 1 1) (w.alloc (.cells #[.float .f64 x] 22)) := by
  simp [go_sem, Instr.buildSlice]

/-- What is left behind a column more. -/
structure ColEnd (W0 w w' : World) (B p : Nat) (R : Rw) (v : Value) (us : List Value) : Prop where
  below : Below B W0 w'
  owns : OwnsV 22 w' B v us
  blk : RwBlk w' p R v
  stay : ∀ (k : Nat) (C : Array Value) (t : TypeId) (fr : Nat × Nat), w.heap[k]? = some (Obj.cells C t fr) → t ≠ 22 → k ≠ p → w'.heap[k]? = w.heap[k]?
  size : w.heap.size ≤ w'.heap.size

theorem col_store {B p : Nat} {W0 w w1 : World} {R : Rw} {c0 v : Value} {us : List Value} (hb : Below B W0 w1) (hp : B ≤ p) (hblk : RwBlk w1 p R c0) (ho : OwnsV 22 w1 B v us)
    (hst : ∀ (k : Nat) (C : Array Value) (t : TypeId) (fr : Nat × Nat), w.heap[k]? = some (Obj.cells C t fr) → t ≠ 22 → w1.heap[k]? = w.heap[k]?) (hsz : w.heap.size ≤ w1.heap.size) :
    ColEnd W0 w (w1.setCell ⟨p, 2, none⟩ v) B p R v us := by
  refine ⟨hb.setCell (p := ⟨p, 2, none⟩) hp v, ⟨ho.1, ?_⟩, ?_, fun k C t fr hk ht hkp => ?_, ?_⟩
  · rcases ho.2 with hn | ⟨k, cap, cur, hv, hbk, hk, rest⟩
    · exact .inl hn
    · refine .inr ⟨k, cap, cur, hv, hbk, (Below.heap_setCell _ ⟨p, 2, none⟩ _ k ?_).trans hk, rest⟩
      rintro rfl
      unfold RwBlk at hblk
      rw [hk] at hblk
      simp only [Option.some.injEq, Obj.cells.injEq] at hblk
      exact absurd hblk.2.1 (by decide)
  · have := heap_setCell_same w1 p 2 _ 27 v hblk
    unfold RwBlk
    rw [this]
    simp
  · rw [Below.heap_setCell _ ⟨p, 2, none⟩ _ k hkp]
    exact hst k C t fr hk ht
  · simpa using hsz

theorem OwnsV.form {e : TypeId} {w : World} {base : Nat} {v : Value} {vs : List Value} (h : OwnsV e w base v vs) : ∃ a len cap, v = .slice a len cap := by
  rcases h.2 with ⟨hv, _⟩ | ⟨g, cap, cur, hv, _⟩
  · exact ⟨_, _, _, hv⟩
  · exact ⟨_, _, _, hv⟩

theorem enters38 : ∀ args w, (callFunc 38 args).run Try.prog w = .ok (.enter 38 args) w := Pl.enters Try.func38 (by kernel_rfl) (by kernel_rfl)

set_option maxHeartbeats 4000000 in
set_option maxRecDepth 100000 in
theorem of7 (W0 w : World) (B p : Nat) (R : Rw) (v : Value) (us : List Value) (hW : Below B W0 w) (hp : B ≤ p) (hB : B ≤ w.heap.size) (hblk : RwBlk w p R v) (ho : OwnsV 22 w B v us) (hl : us.length ≤ 1000) (x : Nat) (hx : x < 18446744073709551616)
    {Q : Exit → Act → World → Prop} {A : Act} (hsz : A.tmps.size = 31) (hdf : A.defers = []) (s6 : A.tmps.getD 6 undef = .pointer (some ⟨p, 0, none⟩)) (s8 : A.tmps.getD 8 undef = .float .f64 x)
    (hend : ∀ (u : Nat → Value) w' v', ColEnd W0 w w' B p R v' (us ++ [.float .f64 (Fl.val x)]) → Q .normal ((((((((A).put (some 22) (u 22)).put (some 24) (u 24)).put (some 23) (u 23)).put (some 25) (u 25)).put (some 26) (u 26)).put (some 27) (u 27)).put (some 28) (u 28)) w') :
    (Code.region 7 (Pl.find 7 ((Try.f16.body).getD .skip)) true).wp Try.prog Q A w := by
  have hform := ho.form
  have hb0 : RwBlk w.drew p R v := hblk
  have ho0 : OwnsV 22 w.drew B v us := ho
  have hW0 : Below B W0 w.drew := hW.drew
  have hal := below_alloc w.drew (.cells #[.float .f64 (Fl.val x)] 22)
  have hW1 : Below B W0 (w.drew.alloc (.cells #[.float .f64 (Fl.val x)] 22)) := hW0.alloc hB _
  have hb1 : RwBlk (w.drew.alloc (.cells #[.float .f64 (Fl.val x)] 22)) p R v := hb0.keep hal
  have ho1 := ho0.keep hal (Nat.le_refl _)
  have hvs := vs_one 22 w.drew (.float .f64 (Fl.val x)) rfl
  obtain ⟨v2, w2, hrun, ho2, hb2, hst2⟩ := run_append_vals oneFlt (w.drew.alloc (.cells #[.float .f64 (Fl.val x)] 22)) 23 B v us ho1 (some ⟨w.drew.heap.size, 0, none⟩) 1 1 [.float .f64 (Fl.val x)] hvs (fun h => by cases h) (by omega) (Nat.le_trans hB hal.size)
  have hW2 : Below B W0 w2 := hW1.trans hb2
  have hblk2 : RwBlk w2 p R v := (hst2 p _ _ _ hb1 (by decide)).trans hb1
  have hend2 := col_store (w := w) (W0 := W0) hW2 hp hblk2 ho2 (fun k C t fr hk ht => (hst2 k C t fr ((hal.block k (Array.getElem?_eq_some_iff.1 hk).1).trans hk) ht).trans (hal.block k (Array.getElem?_eq_some_iff.1 hk).1)) (Nat.le_trans hal.size hb2.size)
  
  have hS0 : (fun w' => Below B W0 w') w.drew := hW0
  have hS1 : (fun w' => Below B W0 w') (w.drew.alloc (.cells #[.float .f64 (Fl.val x)] 22)) := hW1
  have hS2 : (fun w' => Below B W0 w') w2 := hW2
  have hS3 : (fun w' => Below B W0 w') (w2.setCell ⟨p, 2, none⟩ v2) := hend2.below
  have hA := Pl.At.same (v := .float .f64 x) (d := 8) (Pl.At.same (v := .pointer (some ⟨p, 0, none⟩)) (d := 6) (Pl.At.here hsz hdf) s6) s8
  refine Pl.H.start (S := fun w' => Below B W0 w') (by kernel_rfl) hA hS0 ?_
  rw [show (Pl.find 7 ((Try.f16.body).getD .skip)).size = 8 by kernel_rfl]
  refine Pl.H.take 0 22 (.pointer (some ⟨p, 2, none⟩)) (by kernel_rfl) (by kernel_rfl) (by kernel_rfl) (Pl.free 0 (by kernel_rfl)) (Pl.field 0 27 (.tmp 6) 2 _ (by kernel_rfl) (by decide) (field_rw2 p)) hS0 ?_
  refine Pl.H.take 2 24 (.float .f64 x) (by kernel_rfl) (by kernel_rfl) (by kernel_rfl) (Pl.free 2 (by kernel_rfl)) (Pl.move 2 (.tmp 8) (by kernel_rfl) (by decide)) hS0 ?_
  refine Pl.H.two 1 3 (by kernel_rfl) ?_ ?_
  · refine Pl.HOp.value 1 23 v w.drew (by kernel_rfl) (by kernel_rfl) (by kernel_rfl) (Pl.load1 1 23 (.tmp 22) _ (by kernel_rfl) (by decide) (load_flsV p 2 v hform w.drew hb0.c2)) hS0 ?_
    refine Pl.H.one 3 (by kernel_rfl) ?_
    refine Pl.HOp.call 3 25 38 [(.tmp 24)] #[22] (by kernel_rfl) (by kernel_rfl) (by kernel_rfl) (by kernel_rfl) (by decide) enters38 (Calls.mono (value_any x hx w.drew) ?_)
    rintro e w' ⟨rfl, hw⟩
    subst hw
    refine ⟨.float .f64 (Fl.val x), rfl, hS0, ?_⟩
    refine Pl.H.one 4 (by kernel_rfl) ?_
    refine Pl.HOp.value 4 26 (.slice (some ⟨w.drew.heap.size, 0, none⟩) 1 1) (w.drew.alloc (.cells #[.float .f64 (Fl.val x)] 22)) (by kernel_rfl) (by kernel_rfl) (by kernel_rfl) (Pl.one 4 23 (.tmp 25) _ _ (by kernel_rfl) (by decide) (build_flt (Fl.val x) w.drew)) hS1 ?_
    refine Pl.H.make 5 27 v2 w2 (by kernel_rfl) (by kernel_rfl) (by kernel_rfl) (Pl.free 5 (by kernel_rfl)) (Pl.appT 5 23 23 (.tmp 23) (.tmp 26) _ _ (by kernel_rfl) (by kernel_rfl) (by decide) (by decide) hrun) hS2 ?_
    refine Pl.H.take 6 28 (.pointer (some ⟨p, 2, none⟩)) (by kernel_rfl) (by kernel_rfl) (by kernel_rfl) (Pl.free 6 (by kernel_rfl)) (Pl.field 6 27 (.tmp 6) 2 _ (by kernel_rfl) (by decide) (field_rw2 p)) hS2 ?_
    refine Pl.H.store 7 (w2.setCell ⟨p, 2, none⟩ v2) (by kernel_rfl) (by kernel_rfl) (by kernel_rfl) (Pl.free 7 (by kernel_rfl)) (Pl.storeV 7 23 (.tmp 28) (.tmp 27) _ (by kernel_rfl) (by decide) (by decide) (store_flsV p 2 v2 v ho2.form w2 hblk2.c2 (hblk2.fz 2))) hS3 ?_
    refine Pl.H.done (by kernel_rfl) (fun A' hA' => ?_)
    rw [Pl.At.ext hA' (((((((hA.put 22 _).put 24 _).put 23 _).put 25 _).put 26 _).put 27 _).put 28 _)]
    exact hend (fun d => if d = 22 then .pointer (some ⟨p, 2, none⟩) else if d = 24 then .float .f64 x else if d = 23 then v else if d = 25 then .float .f64 (Fl.val x) else if d = 26 then .slice (some ⟨w.drew.heap.size, 0, none⟩) 1 1 else if d = 27 then v2 else if d = 28 then .pointer (some ⟨p, 2, none⟩) else undef) _ _ hend2
  · refine Pl.HOp.call 3 25 38 [(.tmp 24)] #[22] (by kernel_rfl) (by kernel_rfl) (by kernel_rfl) (by kernel_rfl) (by decide) enters38 (Calls.mono (value_any x hx w.drew) ?_)
    rintro e w' ⟨rfl, hw⟩
    subst hw
    refine ⟨.float .f64 (Fl.val x), rfl, hS0, ?_⟩
    refine Pl.H.two 1 4 (by kernel_rfl) ?_ ?_
    · refine Pl.HOp.value 1 23 v w.drew (by kernel_rfl) (by kernel_rfl) (by kernel_rfl) (Pl.load1 1 23 (.tmp 22) _ (by kernel_rfl) (by decide) (load_flsV p 2 v hform w.drew hb0.c2)) hS0 ?_
      rw [Pl.upd_comm _ 25 23 _ _ (by decide)]
      refine Pl.H.one 4 (by kernel_rfl) ?_
      refine Pl.HOp.value 4 26 (.slice (some ⟨w.drew.heap.size, 0, none⟩) 1 1) (w.drew.alloc (.cells #[.float .f64 (Fl.val x)] 22)) (by kernel_rfl) (by kernel_rfl) (by kernel_rfl) (Pl.one 4 23 (.tmp 25) _ _ (by kernel_rfl) (by decide) (build_flt (Fl.val x) w.drew)) hS1 ?_
      refine Pl.H.make 5 27 v2 w2 (by kernel_rfl) (by kernel_rfl) (by kernel_rfl) (Pl.free 5 (by kernel_rfl)) (Pl.appT 5 23 23 (.tmp 23) (.tmp 26) _ _ (by kernel_rfl) (by kernel_rfl) (by decide) (by decide) hrun) hS2 ?_
      refine Pl.H.take 6 28 (.pointer (some ⟨p, 2, none⟩)) (by kernel_rfl) (by kernel_rfl) (by kernel_rfl) (Pl.free 6 (by kernel_rfl)) (Pl.field 6 27 (.tmp 6) 2 _ (by kernel_rfl) (by decide) (field_rw2 p)) hS2 ?_
      refine Pl.H.store 7 (w2.setCell ⟨p, 2, none⟩ v2) (by kernel_rfl) (by kernel_rfl) (by kernel_rfl) (Pl.free 7 (by kernel_rfl)) (Pl.storeV 7 23 (.tmp 28) (.tmp 27) _ (by kernel_rfl) (by decide) (by decide) (store_flsV p 2 v2 v ho2.form w2 hblk2.c2 (hblk2.fz 2))) hS3 ?_
      refine Pl.H.done (by kernel_rfl) (fun A' hA' => ?_)
      rw [Pl.At.ext hA' (((((((hA.put 22 _).put 24 _).put 23 _).put 25 _).put 26 _).put 27 _).put 28 _)]
      exact hend (fun d => if d = 22 then .pointer (some ⟨p, 2, none⟩) else if d = 24 then .float .f64 x else if d = 23 then v else if d = 25 then .float .f64 (Fl.val x) else if d = 26 then .slice (some ⟨w.drew.heap.size, 0, none⟩) 1 1 else if d = 27 then v2 else if d = 28 then .pointer (some ⟨p, 2, none⟩) else undef) _ _ hend2
    · refine Pl.HOp.value 4 26 (.slice (some ⟨w.drew.heap.size, 0, none⟩) 1 1) (w.drew.alloc (.cells #[.float .f64 (Fl.val x)] 22)) (by kernel_rfl) (by kernel_rfl) (by kernel_rfl) (Pl.one 4 23 (.tmp 25) _ _ (by kernel_rfl) (by decide) (build_flt (Fl.val x) w.drew)) hS1 ?_
      refine Pl.H.one 1 (by kernel_rfl) ?_
      refine Pl.HOp.value 1 23 v (w.drew.alloc (.cells #[.float .f64 (Fl.val x)] 22)) (by kernel_rfl) (by kernel_rfl) (by kernel_rfl) (Pl.load1 1 23 (.tmp 22) _ (by kernel_rfl) (by decide) (load_flsV p 2 v hform (w.drew.alloc (.cells #[.float .f64 (Fl.val x)] 22)) hb1.c2)) hS1 ?_
      rw [Pl.upd_comm _ 26 23 _ _ (by decide)]
      rw [Pl.upd_comm _ 25 23 _ _ (by decide)]
      refine Pl.H.make 5 27 v2 w2 (by kernel_rfl) (by kernel_rfl) (by kernel_rfl) (Pl.free 5 (by kernel_rfl)) (Pl.appT 5 23 23 (.tmp 23) (.tmp 26) _ _ (by kernel_rfl) (by kernel_rfl) (by decide) (by decide) hrun) hS2 ?_
      refine Pl.H.take 6 28 (.pointer (some ⟨p, 2, none⟩)) (by kernel_rfl) (by kernel_rfl) (by kernel_rfl) (Pl.free 6 (by kernel_rfl)) (Pl.field 6 27 (.tmp 6) 2 _ (by kernel_rfl) (by decide) (field_rw2 p)) hS2 ?_
      refine Pl.H.store 7 (w2.setCell ⟨p, 2, none⟩ v2) (by kernel_rfl) (by kernel_rfl) (by kernel_rfl) (Pl.free 7 (by kernel_rfl)) (Pl.storeV 7 23 (.tmp 28) (.tmp 27) _ (by kernel_rfl) (by decide) (by decide) (store_flsV p 2 v2 v ho2.form w2 hblk2.c2 (hblk2.fz 2))) hS3 ?_
      refine Pl.H.done (by kernel_rfl) (fun A' hA' => ?_)
      rw [Pl.At.ext hA' (((((((hA.put 22 _).put 24 _).put 23 _).put 25 _).put 26 _).put 27 _).put 28 _)]
      exact hend (fun d => if d = 22 then .pointer (some ⟨p, 2, none⟩) else if d = 24 then .float .f64 x else if d = 23 then v else if d = 25 then .float .f64 (Fl.val x) else if d = 26 then .slice (some ⟨w.drew.heap.size, 0, none⟩) 1 1 else if d = 27 then v2 else if d = 28 then .pointer (some ⟨p, 2, none⟩) else undef) _ _ hend2

set_option maxHeartbeats 4000000 in
set_option maxRecDepth 100000 in
theorem rof5 (W0 w : World) (B p : Nat) (R : Rw) (v : Value) (us : List Value) (hW : Below B W0 w) (hp : B ≤ p) (hB : B ≤ w.heap.size) (hblk : RwBlk w p R v) (ho : OwnsV 22 w B v us) (hl : us.length ≤ 1000) (b off len cap k x : Nat) (hx : x < 18446744073709551616) (hk : k < len) (hc : W0.cell? ⟨b, off + k, none⟩ = some (.float .f64 x)) (hbB : b < B)
    {Q : Exit → Act → World → Prop} {A : Act} (hsz : A.tmps.size = 29) (hdf : A.defers = []) (s1 : A.tmps.getD 1 undef = .slice (some ⟨b, off, none⟩) len cap) (s5 : A.tmps.getD 5 undef = .pointer (some ⟨p, 0, none⟩)) (s6 : A.tmps.getD 6 undef = .int .i64 (k : Nat))
    (hend : ∀ (u : Nat → Value) w' v', ColEnd W0 w w' B p R v' (us ++ [.float .f64 (Fl.val x)]) → Q .normal ((((((((((((A).put (some 17) (u 17)).put (some 19) (u 19)).put (some 20) (u 20)).put (some 21) (u 21)).put (some 22) (u 22)).put (some 18) (u 18)).put (some 23) (u 23)).put (some 24) (u 24)).put (some 25) (u 25)).put (some 26) (u 26)).put (some 27) (u 27)) w') :
    (Code.region 5 (Pl.find 5 ((Try.f17.body).getD .skip)) true).wp Try.prog Q A w := by
  have hform := ho.form
  have hb0 : RwBlk w.drew p R v := hblk
  have ho0 : OwnsV 22 w.drew B v us := ho
  have hW0 : Below B W0 w.drew := hW.drew
  have hal := below_alloc w.drew (.cells #[.float .f64 (Fl.val x)] 22)
  have hW1 : Below B W0 (w.drew.alloc (.cells #[.float .f64 (Fl.val x)] 22)) := hW0.alloc hB _
  have hb1 : RwBlk (w.drew.alloc (.cells #[.float .f64 (Fl.val x)] 22)) p R v := hb0.keep hal
  have ho1 := ho0.keep hal (Nat.le_refl _)
  have hvs := vs_one 22 w.drew (.float .f64 (Fl.val x)) rfl
  obtain ⟨v2, w2, hrun, ho2, hb2, hst2⟩ := run_append_vals oneFlt (w.drew.alloc (.cells #[.float .f64 (Fl.val x)] 22)) 23 B v us ho1 (some ⟨w.drew.heap.size, 0, none⟩) 1 1 [.float .f64 (Fl.val x)] hvs (fun h => by cases h) (by omega) (Nat.le_trans hB hal.size)
  have hW2 : Below B W0 w2 := hW1.trans hb2
  have hblk2 : RwBlk w2 p R v := (hst2 p _ _ _ hb1 (by decide)).trans hb1
  have hend2 := col_store (w := w) (W0 := W0) hW2 hp hblk2 ho2 (fun k C t fr hk ht => (hst2 k C t fr ((hal.block k (Array.getElem?_eq_some_iff.1 hk).1).trans hk) ht).trans (hal.block k (Array.getElem?_eq_some_iff.1 hk).1)) (Nat.le_trans hal.size hb2.size)
  
  have hS0 : (fun w' => Below B W0 w') w.drew := hW0
  have hS1 : (fun w' => Below B W0 w') (w.drew.alloc (.cells #[.float .f64 (Fl.val x)] 22)) := hW1
  have hS2 : (fun w' => Below B W0 w') w2 := hW2
  have hS3 : (fun w' => Below B W0 w') (w2.setCell ⟨p, 2, none⟩ v2) := hend2.below
  have hA := Pl.At.same (v := .int .i64 (k : Nat)) (d := 6) (Pl.At.same (v := .pointer (some ⟨p, 0, none⟩)) (d := 5) (Pl.At.same (v := .slice (some ⟨b, off, none⟩) len cap) (d := 1) (Pl.At.here hsz hdf) s1) s5) s6
  refine Pl.H.start (S := fun w' => Below B W0 w') (by kernel_rfl) hA hS0 ?_
  rw [show (Pl.find 5 ((Try.f17.body).getD .skip)).size = 12 by kernel_rfl]
  refine Pl.H.take 0 17 (.pointer (some ⟨p, 2, none⟩)) (by kernel_rfl) (by kernel_rfl) (by kernel_rfl) (Pl.free 0 (by kernel_rfl)) (Pl.field 0 27 (.tmp 5) 2 _ (by kernel_rfl) (by decide) (field_rw2 p)) hS0 ?_
  refine Pl.H.take 2 19 (.slice (some ⟨b, off, none⟩) len cap) (by kernel_rfl) (by kernel_rfl) (by kernel_rfl) (Pl.free 2 (by kernel_rfl)) (Pl.move 2 (.tmp 1) (by kernel_rfl) (by decide)) hS0 ?_
  refine Pl.H.take 3 20 (.int .i64 (k : Nat)) (by kernel_rfl) (by kernel_rfl) (by kernel_rfl) (Pl.free 3 (by kernel_rfl)) (Pl.move 3 (.tmp 6) (by kernel_rfl) (by decide)) hS0 ?_
  refine Pl.H.take 4 21 (.pointer (some ⟨b, off + k, none⟩)) (by kernel_rfl) (by kernel_rfl) (by kernel_rfl) (Pl.free 4 (by kernel_rfl)) (Pl.index 4 23 (.tmp 19) (.tmp 20) _ (by kernel_rfl) (by decide) (by decide) (index_flt b off len cap k hk)) hS0 ?_
  refine Pl.H.take 5 22 (.float .f64 x) (by kernel_rfl) (by kernel_rfl) (by kernel_rfl) (Pl.free 5 (by kernel_rfl)) (Pl.load 5 22 (.tmp 21) _ (by kernel_rfl) (by decide) (fun w' hS => load_flt b (off + k) x w' ((hS.cell (p := ⟨b, off + k, none⟩) hbB).trans hc))) hS0 ?_
  refine Pl.H.two 1 6 (by kernel_rfl) ?_ ?_
  · refine Pl.HOp.value 1 18 v w.drew (by kernel_rfl) (by kernel_rfl) (by kernel_rfl) (Pl.load1 1 23 (.tmp 17) _ (by kernel_rfl) (by decide) (load_flsV p 2 v hform w.drew hb0.c2)) hS0 ?_
    refine Pl.H.one 6 (by kernel_rfl) ?_
    refine Pl.HOp.call 6 23 30 [(.tmp 22)] #[22] (by kernel_rfl) (by kernel_rfl) (by kernel_rfl) (by kernel_rfl) (by decide) enters30 (Calls.mono (refValue_any x hx w.drew) ?_)
    rintro e w' ⟨rfl, hw⟩
    subst hw
    refine ⟨.int .u64 ((Fl.val x : Nat) : Int), rfl, hS0, ?_⟩
    refine Pl.H.one 7 (by kernel_rfl) ?_
    refine Pl.HOp.value 7 24 (.float .f64 (Fl.val x)) w.drew (by kernel_rfl) (by kernel_rfl) (by kernel_rfl) (Pl.ext1 7 39 (.tmp 23) #[57] _ (by kernel_rfl) (by decide) (from_call _ _)) hS0 ?_
    refine Pl.H.one 8 (by kernel_rfl) ?_
    refine Pl.HOp.value 8 25 (.slice (some ⟨w.drew.heap.size, 0, none⟩) 1 1) (w.drew.alloc (.cells #[.float .f64 (Fl.val x)] 22)) (by kernel_rfl) (by kernel_rfl) (by kernel_rfl) (Pl.one 8 23 (.tmp 24) _ _ (by kernel_rfl) (by decide) (build_flt (Fl.val x) w.drew)) hS1 ?_
    refine Pl.H.make 9 26 v2 w2 (by kernel_rfl) (by kernel_rfl) (by kernel_rfl) (Pl.free 9 (by kernel_rfl)) (Pl.appT 9 23 23 (.tmp 18) (.tmp 25) _ _ (by kernel_rfl) (by kernel_rfl) (by decide) (by decide) hrun) hS2 ?_
    refine Pl.H.take 10 27 (.pointer (some ⟨p, 2, none⟩)) (by kernel_rfl) (by kernel_rfl) (by kernel_rfl) (Pl.free 10 (by kernel_rfl)) (Pl.field 10 27 (.tmp 5) 2 _ (by kernel_rfl) (by decide) (field_rw2 p)) hS2 ?_
    refine Pl.H.store 11 (w2.setCell ⟨p, 2, none⟩ v2) (by kernel_rfl) (by kernel_rfl) (by kernel_rfl) (Pl.free 11 (by kernel_rfl)) (Pl.storeV 11 23 (.tmp 27) (.tmp 26) _ (by kernel_rfl) (by decide) (by decide) (store_flsV p 2 v2 v ho2.form w2 hblk2.c2 (hblk2.fz 2))) hS3 ?_
    refine Pl.H.done (by kernel_rfl) (fun A' hA' => ?_)
    rw [Pl.At.ext hA' (((((((((((hA.put 17 _).put 19 _).put 20 _).put 21 _).put 22 _).put 18 _).put 23 _).put 24 _).put 25 _).put 26 _).put 27 _)]
    exact hend (fun d => if d = 17 then .pointer (some ⟨p, 2, none⟩) else if d = 19 then .slice (some ⟨b, off, none⟩) len cap else if d = 20 then .int .i64 (k : Nat) else if d = 21 then .pointer (some ⟨b, off + k, none⟩) else if d = 22 then .float .f64 x else if d = 18 then v else if d = 23 then .int .u64 ((Fl.val x : Nat) : Int) else if d = 24 then .float .f64 (Fl.val x) else if d = 25 then .slice (some ⟨w.drew.heap.size, 0, none⟩) 1 1 else if d = 26 then v2 else if d = 27 then .pointer (some ⟨p, 2, none⟩) else undef) _ _ hend2
  · refine Pl.HOp.call 6 23 30 [(.tmp 22)] #[22] (by kernel_rfl) (by kernel_rfl) (by kernel_rfl) (by kernel_rfl) (by decide) enters30 (Calls.mono (refValue_any x hx w.drew) ?_)
    rintro e w' ⟨rfl, hw⟩
    subst hw
    refine ⟨.int .u64 ((Fl.val x : Nat) : Int), rfl, hS0, ?_⟩
    refine Pl.H.two 1 7 (by kernel_rfl) ?_ ?_
    · refine Pl.HOp.value 1 18 v w.drew (by kernel_rfl) (by kernel_rfl) (by kernel_rfl) (Pl.load1 1 23 (.tmp 17) _ (by kernel_rfl) (by decide) (load_flsV p 2 v hform w.drew hb0.c2)) hS0 ?_
      rw [Pl.upd_comm _ 23 18 _ _ (by decide)]
      refine Pl.H.one 7 (by kernel_rfl) ?_
      refine Pl.HOp.value 7 24 (.float .f64 (Fl.val x)) w.drew (by kernel_rfl) (by kernel_rfl) (by kernel_rfl) (Pl.ext1 7 39 (.tmp 23) #[57] _ (by kernel_rfl) (by decide) (from_call _ _)) hS0 ?_
      refine Pl.H.one 8 (by kernel_rfl) ?_
      refine Pl.HOp.value 8 25 (.slice (some ⟨w.drew.heap.size, 0, none⟩) 1 1) (w.drew.alloc (.cells #[.float .f64 (Fl.val x)] 22)) (by kernel_rfl) (by kernel_rfl) (by kernel_rfl) (Pl.one 8 23 (.tmp 24) _ _ (by kernel_rfl) (by decide) (build_flt (Fl.val x) w.drew)) hS1 ?_
      refine Pl.H.make 9 26 v2 w2 (by kernel_rfl) (by kernel_rfl) (by kernel_rfl) (Pl.free 9 (by kernel_rfl)) (Pl.appT 9 23 23 (.tmp 18) (.tmp 25) _ _ (by kernel_rfl) (by kernel_rfl) (by decide) (by decide) hrun) hS2 ?_
      refine Pl.H.take 10 27 (.pointer (some ⟨p, 2, none⟩)) (by kernel_rfl) (by kernel_rfl) (by kernel_rfl) (Pl.free 10 (by kernel_rfl)) (Pl.field 10 27 (.tmp 5) 2 _ (by kernel_rfl) (by decide) (field_rw2 p)) hS2 ?_
      refine Pl.H.store 11 (w2.setCell ⟨p, 2, none⟩ v2) (by kernel_rfl) (by kernel_rfl) (by kernel_rfl) (Pl.free 11 (by kernel_rfl)) (Pl.storeV 11 23 (.tmp 27) (.tmp 26) _ (by kernel_rfl) (by decide) (by decide) (store_flsV p 2 v2 v ho2.form w2 hblk2.c2 (hblk2.fz 2))) hS3 ?_
      refine Pl.H.done (by kernel_rfl) (fun A' hA' => ?_)
      rw [Pl.At.ext hA' (((((((((((hA.put 17 _).put 19 _).put 20 _).put 21 _).put 22 _).put 18 _).put 23 _).put 24 _).put 25 _).put 26 _).put 27 _)]
      exact hend (fun d => if d = 17 then .pointer (some ⟨p, 2, none⟩) else if d = 19 then .slice (some ⟨b, off, none⟩) len cap else if d = 20 then .int .i64 (k : Nat) else if d = 21 then .pointer (some ⟨b, off + k, none⟩) else if d = 22 then .float .f64 x else if d = 18 then v else if d = 23 then .int .u64 ((Fl.val x : Nat) : Int) else if d = 24 then .float .f64 (Fl.val x) else if d = 25 then .slice (some ⟨w.drew.heap.size, 0, none⟩) 1 1 else if d = 26 then v2 else if d = 27 then .pointer (some ⟨p, 2, none⟩) else undef) _ _ hend2
    · refine Pl.HOp.value 7 24 (.float .f64 (Fl.val x)) w.drew (by kernel_rfl) (by kernel_rfl) (by kernel_rfl) (Pl.ext1 7 39 (.tmp 23) #[57] _ (by kernel_rfl) (by decide) (from_call _ _)) hS0 ?_
      refine Pl.H.two 1 8 (by kernel_rfl) ?_ ?_
      · refine Pl.HOp.value 1 18 v w.drew (by kernel_rfl) (by kernel_rfl) (by kernel_rfl) (Pl.load1 1 23 (.tmp 17) _ (by kernel_rfl) (by decide) (load_flsV p 2 v hform w.drew hb0.c2)) hS0 ?_
        rw [Pl.upd_comm _ 24 18 _ _ (by decide)]
        rw [Pl.upd_comm _ 23 18 _ _ (by decide)]
        refine Pl.H.one 8 (by kernel_rfl) ?_
        refine Pl.HOp.value 8 25 (.slice (some ⟨w.drew.heap.size, 0, none⟩) 1 1) (w.drew.alloc (.cells #[.float .f64 (Fl.val x)] 22)) (by kernel_rfl) (by kernel_rfl) (by kernel_rfl) (Pl.one 8 23 (.tmp 24) _ _ (by kernel_rfl) (by decide) (build_flt (Fl.val x) w.drew)) hS1 ?_
        refine Pl.H.make 9 26 v2 w2 (by kernel_rfl) (by kernel_rfl) (by kernel_rfl) (Pl.free 9 (by kernel_rfl)) (Pl.appT 9 23 23 (.tmp 18) (.tmp 25) _ _ (by kernel_rfl) (by kernel_rfl) (by decide) (by decide) hrun) hS2 ?_
        refine Pl.H.take 10 27 (.pointer (some ⟨p, 2, none⟩)) (by kernel_rfl) (by kernel_rfl) (by kernel_rfl) (Pl.free 10 (by kernel_rfl)) (Pl.field 10 27 (.tmp 5) 2 _ (by kernel_rfl) (by decide) (field_rw2 p)) hS2 ?_
        refine Pl.H.store 11 (w2.setCell ⟨p, 2, none⟩ v2) (by kernel_rfl) (by kernel_rfl) (by kernel_rfl) (Pl.free 11 (by kernel_rfl)) (Pl.storeV 11 23 (.tmp 27) (.tmp 26) _ (by kernel_rfl) (by decide) (by decide) (store_flsV p 2 v2 v ho2.form w2 hblk2.c2 (hblk2.fz 2))) hS3 ?_
        refine Pl.H.done (by kernel_rfl) (fun A' hA' => ?_)
        rw [Pl.At.ext hA' (((((((((((hA.put 17 _).put 19 _).put 20 _).put 21 _).put 22 _).put 18 _).put 23 _).put 24 _).put 25 _).put 26 _).put 27 _)]
        exact hend (fun d => if d = 17 then .pointer (some ⟨p, 2, none⟩) else if d = 19 then .slice (some ⟨b, off, none⟩) len cap else if d = 20 then .int .i64 (k : Nat) else if d = 21 then .pointer (some ⟨b, off + k, none⟩) else if d = 22 then .float .f64 x else if d = 18 then v else if d = 23 then .int .u64 ((Fl.val x : Nat) : Int) else if d = 24 then .float .f64 (Fl.val x) else if d = 25 then .slice (some ⟨w.drew.heap.size, 0, none⟩) 1 1 else if d = 26 then v2 else if d = 27 then .pointer (some ⟨p, 2, none⟩) else undef) _ _ hend2
      · refine Pl.HOp.value 8 25 (.slice (some ⟨w.drew.heap.size, 0, none⟩) 1 1) (w.drew.alloc (.cells #[.float .f64 (Fl.val x)] 22)) (by kernel_rfl) (by kernel_rfl) (by kernel_rfl) (Pl.one 8 23 (.tmp 24) _ _ (by kernel_rfl) (by decide) (build_flt (Fl.val x) w.drew)) hS1 ?_
        refine Pl.H.one 1 (by kernel_rfl) ?_
        refine Pl.HOp.value 1 18 v (w.drew.alloc (.cells #[.float .f64 (Fl.val x)] 22)) (by kernel_rfl) (by kernel_rfl) (by kernel_rfl) (Pl.load1 1 23 (.tmp 17) _ (by kernel_rfl) (by decide) (load_flsV p 2 v hform (w.drew.alloc (.cells #[.float .f64 (Fl.val x)] 22)) hb1.c2)) hS1 ?_
        rw [Pl.upd_comm _ 25 18 _ _ (by decide)]
        rw [Pl.upd_comm _ 24 18 _ _ (by decide)]
        rw [Pl.upd_comm _ 23 18 _ _ (by decide)]
        refine Pl.H.make 9 26 v2 w2 (by kernel_rfl) (by kernel_rfl) (by kernel_rfl) (Pl.free 9 (by kernel_rfl)) (Pl.appT 9 23 23 (.tmp 18) (.tmp 25) _ _ (by kernel_rfl) (by kernel_rfl) (by decide) (by decide) hrun) hS2 ?_
        refine Pl.H.take 10 27 (.pointer (some ⟨p, 2, none⟩)) (by kernel_rfl) (by kernel_rfl) (by kernel_rfl) (Pl.free 10 (by kernel_rfl)) (Pl.field 10 27 (.tmp 5) 2 _ (by kernel_rfl) (by decide) (field_rw2 p)) hS2 ?_
        refine Pl.H.store 11 (w2.setCell ⟨p, 2, none⟩ v2) (by kernel_rfl) (by kernel_rfl) (by kernel_rfl) (Pl.free 11 (by kernel_rfl)) (Pl.storeV 11 23 (.tmp 27) (.tmp 26) _ (by kernel_rfl) (by decide) (by decide) (store_flsV p 2 v2 v ho2.form w2 hblk2.c2 (hblk2.fz 2))) hS3 ?_
        refine Pl.H.done (by kernel_rfl) (fun A' hA' => ?_)
        rw [Pl.At.ext hA' (((((((((((hA.put 17 _).put 19 _).put 20 _).put 21 _).put 22 _).put 18 _).put 23 _).put 24 _).put 25 _).put 26 _).put 27 _)]
        exact hend (fun d => if d = 17 then .pointer (some ⟨p, 2, none⟩) else if d = 19 then .slice (some ⟨b, off, none⟩) len cap else if d = 20 then .int .i64 (k : Nat) else if d = 21 then .pointer (some ⟨b, off + k, none⟩) else if d = 22 then .float .f64 x else if d = 18 then v else if d = 23 then .int .u64 ((Fl.val x : Nat) : Int) else if d = 24 then .float .f64 (Fl.val x) else if d = 25 then .slice (some ⟨w.drew.heap.size, 0, none⟩) 1 1 else if d = 26 then v2 else if d = 27 then .pointer (some ⟨p, 2, none⟩) else undef) _ _ hend2

/-- The row of a key and columns. -/
def ofR (key : Nat) (xs : List Nat) : Rw := ⟨Fl.key key, false, xs.map Fl.val, 0, 0, 0⟩

theorem rw_results2 {fn : Func} {x y : Nat} (hr : fn.results = #[.cell x 27, .tmp y]) {W : World} {g : Nat} {r : Rw} {c : Value} (h : RwBlk W g r c) (tmps : Array Value) (u : Value) (ht : tmps.getD x undef = .pointer (some ⟨g, 0, none⟩)) (hx : tmps.getD y undef = u) (hc : ∃ a len cap, c = .slice a len cap) : (results fn tmps).run Try.prog W = .ok (.tuple #[r.val c, u]) W := by
  have c0 := h.c0
  have c1 := h.c1
  have c2 := h.c2
  have c3 := h.c3
  have c4 := h.c4
  have c5 := h.c5
  obtain ⟨a, len, cap, rfl⟩ := hc
  have ht2 : tmps[x]?.getD undef = .pointer (some ⟨g, 0, none⟩) := by simpa using ht
  have hx2 : tmps[y]?.getD undef = u := by simpa using hx
  simp [results, hr, ht2, hx2, go_sem, c0, c1, c2, c3, c4, c5, Rw.val]

theorem rw_results1 {fn : Func} {x : Nat} (hr : fn.results = #[.cell x 27]) {W : World} {g : Nat} {r : Rw} {c : Value} (h : RwBlk W g r c) (tmps : Array Value) (ht : tmps.getD x undef = .pointer (some ⟨g, 0, none⟩)) (hc : ∃ a len cap, c = .slice a len cap) : (results fn tmps).run Try.prog W = .ok (r.val c) W := by
  have c0 := h.c0
  have c1 := h.c1
  have c2 := h.c2
  have c3 := h.c3
  have c4 := h.c4
  have c5 := h.c5
  obtain ⟨a, len, cap, rfl⟩ := hc
  have ht2 : tmps[x]?.getD undef = .pointer (some ⟨g, 0, none⟩) := by simpa using ht
  simp [results, hr, ht2, go_sem, c0, c1, c2, c3, c4, c5, Rw.val]

theorem rw_end2 {fn : Func} {x y : Nat} (hres : fn.results = #[.cell x 27, .tmp y]) {W : World} {g : Nat} {r0 : Rw} {c0 : Value} (h : RwBlk W g r0 c0) (r : Rw) (c u : Value) (hc : ∃ a len cap, c = .slice a len cap) {A : Act} {R : Ending → World → Prop} (t2 : A.tmps.getD x undef = .pointer (some ⟨g, 0, none⟩)) (t3 : A.tmps.getD y undef = u) (hd : A.defers = [])
    (hR : R (.returned (.tuple #[r.val c, u])) (setRw W g r c)) : bodyPost Try.prog fn R Exit.ret A (setRw W g r c) := by
  have hr := setRw_blk h r c
  generalize setRw W g r c = W' at *
  exact bodyPost_ret (rw_results2 hres hr _ _ t2 t3 hc) hd hR

theorem rw_end1 {fn : Func} {x : Nat} (hres : fn.results = #[.cell x 27]) {W : World} {g : Nat} {r0 : Rw} {c0 : Value} (h : RwBlk W g r0 c0) (r : Rw) (c : Value) (hc : ∃ a len cap, c = .slice a len cap) {A : Act} {R : Ending → World → Prop} (t2 : A.tmps.getD x undef = .pointer (some ⟨g, 0, none⟩)) (hd : A.defers = [])
    (hR : R (.returned (r.val c)) (setRw W g r c)) : bodyPost Try.prog fn R Exit.ret A (setRw W g r c) := by
  have hr := setRw_blk h r c
  generalize setRw W g r c = W' at *
  exact bodyPost_ret (rw_results1 hres hr _ t2 hc) hd hR

theorem OwnsV.fsN {w : World} {base : Nat} {v : Value} {xs : List Nat} {n : Nat} (h : OwnsV 22 w base v (fVals xs)) (hx : ∀ x ∈ xs, x < 18446744073709551616) (hn : xs.length = n) (hb : n ≤ 1000000) : ∃ a cap, v = .slice a n cap ∧ Fs w a n cap xs := h.fs hx hn hb

theorem val_fits {xs : List Nat} (h : ∀ x ∈ xs, x < 18446744073709551616) : ∀ x ∈ xs.map Fl.val, x < 18446744073709551616 := by
  intro x hx
  obtain ⟨y, hy, rfl⟩ := List.mem_map.1 hx
  exact Fl.val_lt (h y hy)

theorem fVals_step {xs : List Nat} {k x : Nat} (hk : k < xs.length) (hx : x = xs.getD k 0) : fVals ((xs.map Fl.val).take (k + 1)) = fVals ((xs.map Fl.val).take k) ++ [.float .f64 (Fl.val x)] := by
  rw [List.take_succ_eq_append_getElem (by simpa using hk), hx]
  simp [fVals, List.getD, hk]

set_option maxHeartbeats 4000000 in
set_option maxRecDepth 100000 in
theorem of_many (key : Nat) (a : Option Addr) (len cap : Nat) (w : World) (h4 : 4 < len) (hb : len ≤ 9223372036854775807) :
    Calls Try.prog 16 #[.float .f64 key, .slice a len cap] w fun e w' => Below w.heap.size w w' ∧ e = .returned (.tuple #[zeroV, .int .i64 1]) := by
  have hsf : ∀ (w : World) (a : Addr) (m : Mode) (x : Nat), (store a (.float .f64 x) m).run Try.prog w = stored Try.prog w a (.float .f64 x) m := fun w a m x => run_store Try.prog w a _ m rfl
  have HZ := hide (rwBlk_new w zeroR (.slice none 0 0))
  have HW := hide (below_alloc w (.cells #[.float .f64 0, .bool false, .slice none 0 0, .int .i64 0, .int .i64 0, .int .i64 0] 27))
  have i1 : (4 : Int) < (len : Int) := by omega
  go_enter Try.func16, Try.ntmps16
  go_wp2_with fail
  refine bodyPost_ret (rw_results2 rfl HZ.out _ _ rfl rfl ⟨_, _, _, rfl⟩) rfl ?_
  exact ⟨HW.out, rfl⟩

set_option maxHeartbeats 4000000 in
set_option maxRecDepth 100000 in
theorem of_any (key : Nat) (hkey : key < 18446744073709551616) (a : Option Addr) (len cap : Nat) (xs : List Nat) (w : World) (h : Fs w a len cap xs) (h4 : len ≤ 4) :
    Calls Try.prog 16 #[.float .f64 key, .slice a len cap] w fun e w' => Below w.heap.size w w' ∧ ∃ ca cc, e = .returned (.tuple #[(ofR key xs).val (.slice ca len cc), .int .i64 0]) ∧ Fs w' ca len cc (ofR key xs).xs := by
  have hsf : ∀ (w : World) (a : Addr) (m : Mode) (x : Nat), (store a (.float .f64 x) m).run Try.prog w = stored Try.prog w a (.float .f64 x) m := fun w a m x => run_store Try.prog w a _ m rfl
  have HK := hide (key_any key hkey)
  have H := hide h
  have HL := hide h.len
  have HVF := hide (val_fits h.fit)
  obtain ⟨kk, hkk⟩ : ∃ kk, kk = Fl.key key := ⟨_, rfl⟩
  rw [← hkk] at HK
  have HKK := hide hkk
  have HZ := hide ((rwBlk_new w zeroR (.slice none 0 0)).keep (below_alloc _ (.cells #[.float .f64 kk, .bool false, .slice none 0 0, .int .i64 0, .int .i64 0, .int .i64 0] 27)))
  have HX : Hid (RwBlk ((w.alloc (.cells #[.float .f64 0, .bool false, .slice none 0 0, .int .i64 0, .int .i64 0, .int .i64 0] 27)).alloc (.cells #[.float .f64 kk, .bool false, .slice none 0 0, .int .i64 0, .int .i64 0, .int .i64 0] 27)) (w.heap.size + 1) ⟨kk, false, [], 0, 0, 0⟩ (.slice none 0 0)) := by
    have := rwBlk_new (w.alloc (.cells #[.float .f64 0, .bool false, .slice none 0 0, .int .i64 0, .int .i64 0, .int .i64 0] 27)) ⟨kk, false, [], 0, 0, 0⟩ (.slice none 0 0)
    exact hide (by simpa using this)
  have HW := hide (below_two w (.cells #[.float .f64 0, .bool false, .slice none 0 0, .int .i64 0, .int .i64 0, .int .i64 0] 27) (.cells #[.float .f64 kk, .bool false, .slice none 0 0, .int .i64 0, .int .i64 0, .int .i64 0] 27))
  have i1 : ¬ (4 : Int) < (len : Int) := by omega
  clear h hkk hkey
  go_enter Try.func16, Try.ntmps16
  go_wp2_with fail
  refine (HK.out _).mono ?_
  rintro e w' ⟨rfl, hw⟩
  obtain rfl := hw.symm
  go_wp2_with fail
  go_loopw [18] (fun i wr => ∃ k : Nat, k ≤ len ∧ i = .int .i64 k ∧ Hid (∃ v, RwBlk wr (w.heap.size + 1) ⟨kk, false, [], 0, 0, 0⟩ v ∧ OwnsV 22 wr w.heap.size v (fVals ((xs.map Fl.val).take k))) ∧ Hid (Below w.heap.size w wr) ∧ Hid (RwBlk wr w.heap.size zeroR (.slice none 0 0))) (fun i _ => len - (intOf i).toNat)
  case atStart => exact ⟨0, by omega, rfl, ⟨_, HX.out, OwnsV.nil _ _ _⟩, HW, HZ⟩
  case round =>
    obtain ⟨k, hk, rfl, hv, hWr, hZr⟩ := hrel
    rcases Nat.lt_or_ge k len with hlt | hge
    · obtain ⟨b, off, rfl, c0, _, hxl⟩ := (H.out.keep hWr.out (Nat.le_refl _)).at k hlt
      obtain ⟨x, hx⟩ : ∃ x, x = xs.getD k 0 := ⟨_, rfl⟩
      rw [← hx] at c0 hxl
      have HXE := hide hx
      have HXL := hide hxl
      obtain ⟨v, hvb, hvo⟩ := hv.out
      have HVB := hide hvb
      have HVO := hide hvo
      clear hx hxl hvb hvo hv
      go_wp2_with fail
      refine Pl.region_is (ops := Pl.find 7 ((Try.f16.body).getD .skip)) (by kernel_rfl) ?_
      refine of7 w wr w.heap.size (w.heap.size + 1) ⟨kk, false, [], 0, 0, 0⟩ v _ hWr.out (by omega) hWr.out.size HVB.out HVO.out (by simp [fVals]; omega) x HXL.out (by rfl) (by rfl) (by rfl) (by rfl) ?_
      intro u w5 v5 hce
      simp only [Act.put, List.setIfInBounds_toArray, List.set_cons_zero, List.set_cons_succ]
      have HCE := hide hce
      have HZ5 : Hid (RwBlk w5 w.heap.size zeroR (.slice none 0 0)) := (hce.stay _ _ _ _ hZr.out (by decide) (by omega)).trans hZr.out
      clear hce c0
      go_wp2_with fail
      go_roundw
      case rel =>
        refine ⟨k + 1, by omega, by go_num, ⟨v5, HCE.out.blk, ?_⟩, HCE.out.below, HZ5⟩
        rw [fVals_step (by rw [HL.out]; exact hlt) HXE.out]
        exact HCE.out.owns
      case measure => simp only [intOf]; omega
    · have htk : (xs.map Fl.val).take k = xs.map Fl.val := List.take_of_length_le (by rw [List.length_map, HL.out]; omega)
      rw [htk] at hv
      obtain ⟨v, hvb, hvo⟩ := hv.out
      obtain ⟨ca, cc, rfl, hfs⟩ := hvo.fs HVF.out (by rw [List.length_map, HL.out]) (by omega)
      have HVO := hide hvo
      have x0 := hvb.c0
      have x1 := hvb.c1
      have x2 := hvb.c2
      have x3 := hvb.c3
      have x4 := hvb.c4
      have x5 := hvb.c5
      have z0 := hZr.out.c0
      have z1 := hZr.out.c1
      have z2 := hZr.out.c2
      have z3 := hZr.out.c3
      have z4 := hZr.out.c4
      have z5 := hZr.out.c5
      have f0 := hZr.out.fz
      simp only [zeroR] at z0 z1 z3 z4 z5
      clear hvo hvb hfs htk hv
      go_wp2_with fail
      rw [HKK.out]
      show bodyPost Try.prog Try.f16 _ Exit.ret _ (setRw wr w.heap.size (ofR key xs) (.slice ca len cc))
      refine rw_end2 rfl hZr.out (ofR key xs) (.slice ca len cc) (.int .i64 0) ⟨_, _, _, rfl⟩ (by rfl) (by rfl) (by rfl) ?_
      refine ⟨setRw_below hWr.out (Nat.le_refl _) _ _, ca, cc, rfl, ?_⟩
      exact (HVO.out.setRw hZr.out _ _).fsAt HVF.out (by rw [List.length_map, HL.out]; omega)

end Go.Proofs.Ytgckcalkdojeeaa
