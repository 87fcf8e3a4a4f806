/-
  Steps of a plan where two operations come up at once, and where one stores.
-/
import Derived.Test.YtehmemfeagjagaaPlan
namespace Go.Proofs.Ytehmemfeagjagaa

namespace Pl
section
variable {P : Program} {ops : Array Oper} {S : World → Prop} {Q : Exit → Act → World → Prop} {n fuel : Nat} {listed : Array Bool} {f : Nat → Value} {w : World}

/-- What an operation that comes up leaves. -/
def HOp (P : Program) (ops : Array Oper) (S : World → Prop) (Q : Exit → Act → World → Prop) (n fuel : Nat) (listed : Array Bool) (f : Nat → Value) (w : World) (i : Nat) : Prop :=
  ∀ A, At n A f → wpOp P ops (NoPanic Q) i (fun a' w' => S w' ∧ wpAnyH P .any ops (NoPanic Q) S fuel (listed.setIfInBounds i true) a' w') A w

theorem H.one (i : Nat) (hr : Region.ready .any ops listed = [i]) (h : HOp P ops S Q n fuel listed f w i) : H P ops S Q n (fuel + 1) listed f w := by
  intro A hA
  refine wpAnyH_all hr (by simp) ?_
  intro j hj
  obtain rfl : j = i := by simpa using hj
  exact h A hA

theorem H.two (i k : Nat) (hr : Region.ready .any ops listed = [i, k]) (h : HOp P ops S Q n fuel listed f w i) (h2 : HOp P ops S Q n fuel listed f w k) : H P ops S Q n (fuel + 1) listed f w := by
  intro A hA
  refine wpAnyH_all hr (by simp) ?_
  intro j hj
  have : j = i ∨ j = k := by simpa using hj
  rcases this with rfl | rfl
  · exact h A hA
  · exact h2 A hA

theorem HOp.value (i d : Nat) (v : Value) (w' : World) (hi : ops[i]? = some (op ops i)) (hd : (op ops i).dst = some d) (hg : (op ops i).guard = none)
    (hy : ∀ A, At n A f → (execOp A.eval (op ops i)).run P w = .ok (.value v) w') (hS : S w')
    (h : H P ops S Q n fuel (listed.setIfInBounds i true) (upd f d v) w') : HOp P ops S Q n fuel listed f w i := by
  intro A hA
  unfold wpOp
  rw [hi]
  simp only [free (n := n) (f := f) i hg A hA, if_true]
  refine .inl ?_
  unfold Oper.wp
  rw [hy A hA]
  refine ⟨hS, h _ ?_⟩
  rw [hd]
  exact hA.put d v

theorem HOp.call (i d g : Nat) (xs : List Operand) (ts : Array TypeId) (hi : ops[i]? = some (op ops i)) (hd : (op ops i).dst = some d) (hg : (op ops i).guard = none)
    (hop : (op ops i).op = .call { callee := .value (.func g), args := xs.toArray, argTypes := ts }) (hx : xs.all (inB n) = true)
    (hfn : ∀ args w, (callFunc g args).run P w = .ok (.enter g args) w)
    (h : Calls P g (xs.map (ev f)).toArray w fun e w' => ∃ v, e = .returned v ∧ S w' ∧ H P ops S Q n fuel (listed.setIfInBounds i true) (upd f d v) w') :
    HOp P ops S Q n fuel listed f w i := by
  intro A hA
  unfold wpOp
  rw [hi]
  simp only [free (n := n) (f := f) i hg A hA, if_true]
  refine .inl ?_
  have hargs : #[] ++ xs.toArray.map A.eval ++ #[] = (xs.map (ev f)).toArray := by
    simp only [Array.empty_append, Array.append_empty, List.map_toArray]
    congr 1
    apply List.map_congr_left
    intro x hxm
    exact hA.ev x (List.all_eq_true.1 hx x hxm)
  have hrun : (execOp A.eval (op ops i)).run P w = .ok (.enter g (xs.map (ev f)).toArray) w := by
    have e : execOp A.eval (op ops i) = callFunc g (#[] ++ xs.toArray.map A.eval ++ #[]) := by
      unfold execOp
      rw [hop]
      rfl
    rw [e, hargs]
    exact hfn _ _
  unfold Oper.wp
  rw [hrun]
  refine h.mono ?_
  rintro e w' ⟨v, rfl, hS, hh⟩
  refine ⟨hS, hh _ ?_⟩
  rw [hd]
  exact hA.put d v

theorem load1 (i : Nat) (t : TypeId) (x : Operand) (v : Value) (h : (op ops i).op = .load t x) (hx : inB n x = true) (hv : (Instr.loadAt t (ev f x)).run P w = .ok v w) :
    ∀ A, At n A f → (execOp A.eval (op ops i)).run P w = .ok (.value v) w := by
  intro A hA
  have e : execOp A.eval (op ops i) = (do pure (.value (← Instr.loadAt t (A.eval x)))) := by
    unfold execOp
    rw [h]
  rw [e, hA.ev x hx]
  simp [hv]

theorem appT (i : Nat) (t ty : TypeId) (x y : Operand) (v : Value) (w' : World) (h : (op ops i).op = .call { callee := .builtin .append, args := #[x, y], argTypes := #[t, t] }) (ht : (op ops i).type = ty) (hx : inB n x = true) (hy : inB n y = true)
    (hv : (Builtin.append_ #[t, t] ty #[ev f x, ev f y]).run P w = .ok v w') :
    ∀ A, At n A f → (execOp A.eval (op ops i)).run P w = .ok (.value v) w' := by
  intro A hA
  unfold execOp
  rw [h]
  simp [resolve, invoke, builtin, hA.ev x hx, hA.ev y hy, ht, hv]

theorem H.store (i : Nat) (w' : World) (hi : ops[i]? = some (op ops i)) (hd : (op ops i).dst = none) (hr : Region.ready .any ops listed = [i])
    (hw : ∀ A, At n A f → Region.wanted (op ops i) (yielded ops A.tmps) = true)
    (hy : ∀ A, At n A f → (execOp A.eval (op ops i)).run P w = .ok .skip w') (hS : S w')
    (h : H P ops S Q n fuel (listed.setIfInBounds i true) f w') : H P ops S Q n (fuel + 1) listed f w := by
  intro A hA
  refine wpAnyH_all hr (by simp) ?_
  intro j hj
  obtain rfl : j = i := by simpa using hj
  unfold wpOp
  rw [hi]
  simp only [hw A hA, if_true]
  refine .inl ?_
  unfold Oper.wp
  rw [hy A hA]
  refine ⟨hS, ?_⟩
  rw [hd]
  exact h A hA

theorem storeV (i : Nat) (t : TypeId) (x y : Operand) (w' : World) (h : (op ops i).op = .store t x y) (hx : inB n x = true) (hy : inB n y = true) (hv : (Instr.storeAt t (ev f x) (ev f y)).run P w = .ok () w') :
    ∀ A, At n A f → (execOp A.eval (op ops i)).run P w = .ok .skip w' := by
  intro A hA
  have e : execOp A.eval (op ops i) = (do Instr.storeAt t (A.eval x) (A.eval y); pure .skip) := by
    unfold execOp
    rw [h]
  rw [e, hA.ev x hx, hA.ev y hy]
  simp [hv]

theorem zero (i : Nat) (t : TypeId) (v : Value) (w' : World) (h : (op ops i).op = .buildSlice t 0 #[]) (hv : (Instr.buildSlice t 0 #[]).run P w = .ok v w') :
    ∀ A, At n A f → (execOp A.eval (op ops i)).run P w = .ok (.value v) w' := by
  intro A hA
  have e : execOp A.eval (op ops i) = (do pure (.value (← Instr.buildSlice t 0 (Array.map (fun (p : Nat × Operand) => (p.1, A.eval p.2)) #[])))) := by
    unfold execOp
    rw [h]
  rw [e]
  simp [hv]
end
theorem upd_comm (f : Nat → Value) (d e : Nat) (v u : Value) (h : d ≠ e) : upd (upd f d v) e u = upd (upd f e u) d v := by
  funext x
  unfold upd
  by_cases h1 : x = d
  · subst h1
    simp [h]
  · simp [h1]
end Pl

end Go.Proofs.Ytehmemfeagjagaa
