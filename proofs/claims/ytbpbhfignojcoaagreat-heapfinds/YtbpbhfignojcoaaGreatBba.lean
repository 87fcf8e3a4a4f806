/-
  Lemmas.
-/
import Derived.Test.YtbpbhfignojcoaaGreatBaz
namespace Go.Proofs.YtbpbhfignojcoaaGreat
open Go.RowKit
set_option linter.unusedVariables false
set_option maxRecDepth 100000
set_option maxHeartbeats 4000000
variable {l:List Lf}{r:Rw}{live:List Int}
def Zdt (w : World) (P : Ph) (e : Ending) (w' : World) : Prop := Below w.heap.size w w' ∧ ∃ (s' : Sl) (L' : List Lb), e = .returned (.tuple #[.slice s'.a s'.len s'.cap, btV P.b, .int .i64 P.e]) ∧ Gl (fun _ => True) w' s' L' ∧ lfs L' = P.l
theorem ZfT {l : List Lf} {r : Rw} {live : List Int} (h : r.may = false ∨ r.wr = 0 ∨ (findH l r.key).isSome = true) : putH l r live = ⟨l, (0, 0), 1⟩ := by unfold putH; rw [if_pos h]
theorem ZkI {l : List Lf} {r : Rw} {live : List Int} (h : ¬ (r.may = false ∨ r.wr = 0 ∨ (findH l r.key).isSome = true)) (hr : roomH (hpB r) l 0 = none) : putH l r live = ⟨l, (0, 0), 7⟩ := by unfold putH; rw [if_neg h, hr]
theorem ZlY (h : ¬ (r.may = false ∨ r.wr = 0 ∨ (findH l r.key).isSome = true)) {i : Nat} (hr : roomH (hpB r) l 0 = some i) (hj : (joinI (lf l i).itl r.wr live).e ≠ 0) : putH l r live = ⟨l, (0, 0), (joinI (lf l i).itl r.wr live).e⟩ := by
 unfold putH
 rw [if_neg h, hr]
 simp only [if_neg hj]
theorem Znf (h : ¬ (r.may = false ∨ r.wr = 0 ∨ (findH l r.key).isSome = true)) {i : Nat} (hr : roomH (hpB r) l 0 = some i) (hj : (joinI (lf l i).itl r.wr live).e = 0) : putH l r live = ⟨l.set i (putL (lf l i) r live), ((i : Int), (insA (lf l i).slots (hpB r)).at_), 0⟩ := by
 unfold putH
 rw [if_neg h, hr]
 simp only [if_pos hj]
theorem ZaP {fn : Func} {x y z : Nat} (hr : fn.results = #[.tmp x, .cell y 26, .tmp z]) {W : World} {q : Nat} {b : Bt} (hq : BtBlk W q b) (tmps : Array Value) (u v : Value) (tx : tmps.getD x undef = u) (ty : tmps.getD y undef = .pointer (some ⟨q, 0, none⟩)) (tz : tmps.getD z undef = v) :
    (results fn tmps).run Tryz.prog W = .ok (.tuple #[u, btV b, v]) W := by
  have d0 := hq.c0
  have d1 := hq.c1
  have tx2 : tmps[x]?.getD undef = u := by simpa using tx
  have ty2 : tmps[y]?.getD undef = .pointer (some ⟨q, 0, none⟩) := by simpa using ty
  have tz2 : tmps[z]?.getD undef = v := by simpa using tz
  simp [results, hr, tx2, ty2, tz2, go_sem, d0, d1, btV]
end Go.Proofs.YtbpbhfignojcoaaGreat
