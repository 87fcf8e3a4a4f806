/-
  Steps of the plan that make memory: alloc, build, extract, make, a literal, a conversion, append.
-/
import Derived.Test.YtehmemfeagjagaaPlanE
namespace Go.Proofs.Ytehmemfeagjagaa
open Go.RowKit
set_option maxRecDepth 100000

namespace Pl
section
variable {P : Program} {ops : Array Oper} {S : World → Prop} {Q : Exit → Act → World → Prop} {n fuel : Nat} {listed : Array Bool} {f : Nat → Value} {w : World}
theorem extr (i : Nat) (x : Operand) (k : Nat) (v : Value) (h : (op ops i).op = .extract x k) (hx : inB n x = true) (hv : ∀ w, (Instr.extract (ev f x) k).run P w = .ok v w) :
    ∀ A, At n A f → ∀ w, S w → (execOp A.eval (op ops i)).run P w = .ok (.value v) w := by
  intro A hA w _
  have e : execOp A.eval (op ops i) = (do pure (.value (← Instr.extract (A.eval x) k))) := by
    unfold execOp
    rw [h]
  rw [e, hA.ev x hx]
  simp [hv w]
theorem allocV (i : Nat) (t : TypeId) (v : Value) (w' : World) (h : (op ops i).op = .alloc t) (hv : (Instr.alloc t true (.tuple #[])).run P w = .ok v w') :
    ∀ A, At n A f → (execOp A.eval (op ops i)).run P w = .ok (.value v) w' := by
  intro A _
  have e : execOp A.eval (op ops i) = (do pure (.value (← Instr.alloc t true (.tuple #[])))) := by
    unfold execOp
    rw [h]
  rw [e]
  simp [hv]

theorem buildV (i : Nat) (t : TypeId) (parts : List (Nat × Operand)) (v : Value) (h : (op ops i).op = .build t parts.toArray) (hx : parts.all (fun p => inB n p.2) = true) (hv : ∀ w, (Instr.build t (parts.map fun p => (p.1, ev f p.2)).toArray).run P w = .ok v w) :
    ∀ A, At n A f → ∀ w, S w → (execOp A.eval (op ops i)).run P w = .ok (.value v) w := by
  intro A hA w _
  have e : execOp A.eval (op ops i) = (do pure (.value (← Instr.build t (parts.toArray.map fun p => (p.1, A.eval p.2))))) := by
    unfold execOp
    rw [h]
  have hm : (parts.toArray.map fun p => (p.1, A.eval p.2)) = (parts.map fun p => (p.1, ev f p.2)).toArray := by
    simp only [List.map_toArray]
    congr 1
    apply List.map_congr_left
    intro p hp
    rw [hA.ev p.2 (List.all_eq_true.1 hx p hp)]
  rw [e, hm]
  simp [hv w]
theorem mkV (i : Nat) (t : TypeId) (x y : Operand) (v : Value) (w' : World) (h : (op ops i).op = .makeSlice t x y) (hx : inB n x = true) (hy : inB n y = true)
    (hv : (Instr.makeSlice t (ev f x) (ev f y)).run P w = .ok v w') : ∀ A, At n A f → (execOp A.eval (op ops i)).run P w = .ok (.value v) w' := by
  intro A hA
  have e : execOp A.eval (op ops i) = (do pure (.value (← Instr.makeSlice t (A.eval x) (A.eval y)))) := by
    unfold execOp
    rw [h]
  rw [e, hA.ev x hx, hA.ev y hy]
  simp [hv]
theorem bsV (i : Nat) (t : TypeId) (m : Nat) (parts : List (Nat × Operand)) (v : Value) (w' : World) (h : (op ops i).op = .buildSlice t m parts.toArray) (hx : parts.all (fun p => inB n p.2) = true) (hv : (Instr.buildSlice t m (parts.map fun p => (p.1, ev f p.2)).toArray).run P w = .ok v w') :
    ∀ A, At n A f → (execOp A.eval (op ops i)).run P w = .ok (.value v) w' := by
  intro A hA
  have e : execOp A.eval (op ops i) = (do pure (.value (← Instr.buildSlice t m (parts.toArray.map fun p => (p.1, A.eval p.2))))) := by
    unfold execOp
    rw [h]
  have hm : (parts.toArray.map fun p => (p.1, A.eval p.2)) = (parts.map fun p => (p.1, ev f p.2)).toArray := by
    simp only [List.map_toArray]
    congr 1
    apply List.map_congr_left
    intro p hp
    rw [hA.ev p.2 (List.all_eq_true.1 hx p hp)]
  rw [e, hm]
  simp [hv]
theorem convM (i : Nat) (src dst : TypeId) (x : Operand) (v : Value) (w' : World) (h : (op ops i).op = .convert src dst x) (hx : inB n x = true) (hv : (convert src dst (ev f x)).run P w = .ok v w') :
    ∀ A, At n A f → (execOp A.eval (op ops i)).run P w = .ok (.value v) w' := by
  intro A hA
  have e : execOp A.eval (op ops i) = (do pure (.value (← convert src dst (A.eval x)))) := by
    unfold execOp
    rw [h]
  rw [e, hA.ev x hx]
  simp [hv]
theorem appV (i : Nat) (s1 s2 : TypeId) (x y : Operand) (v : Value) (w' : World) (h : (op ops i).op = .call { callee := .builtin .append, args := #[x, y], argTypes := #[s1, s2] }) (hx : inB n x = true) (hy : inB n y = true)
    (hv : ∀ ty, (Builtin.append_ #[s1, s2] ty #[ev f x, ev f y]).run P w = .ok v w') : ∀ A, At n A f → (execOp A.eval (op ops i)).run P w = .ok (.value v) w' := by
  intro A hA
  unfold execOp
  rw [h]
  simp [resolve, invoke, builtin, hA.ev x hx, hA.ev y hy, hv]
end
end Pl
end Go.Proofs.Ytehmemfeagjagaa
