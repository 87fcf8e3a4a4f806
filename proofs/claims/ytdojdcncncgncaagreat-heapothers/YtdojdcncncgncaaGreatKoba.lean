/-
  Lemmas.
-/
import Derived.Test.YtdojdcncncgncaaGreatKoaz
namespace Go.Proofs.YtdojdcncncgncaaGreat
open Go.RowKit
set_option linter.unusedVariables false
set_option maxRecDepth 100000
set_option maxHeartbeats 4000000
variable {l:List Lf}{r was:Rw}{live:List Int}{b:Bt}{j:Bool}
theorem ZgK {l : List Lf} {b : Bt} {r : Rw} {j : Bool} {live : List Int} (h : getH l b = none) : layH l b r j live = ⟨l, 3⟩ := by unfold layH; rw [h]
theorem Zdl {l : List Lf} {b : Bt} {r was : Rw} {j : Bool} {live : List Int} (h : getH l b = some was) (h1 : r.may = false ∨ (j = true ∧ r.wr = 0) ∨ was.key ≠ r.key) : layH l b r j live = ⟨l, 1⟩ := by unfold layH; rw [h]; simp only [if_pos h1]
theorem ZlQ (h : getH l b = some was) (h1 : ¬ (r.may = false ∨ (true = true ∧ r.wr = 0) ∨ was.key ≠ r.key)) (h2 : (joinI (lf l b.1.toNat).itl r.wr live).e ≠ 0) : layH l b r true live = ⟨l, (joinI (lf l b.1.toNat).itl r.wr live).e⟩ := by
 unfold layH
 rw [h]
 show (if _ then _ else if _ then _ else _) = _
 rw [if_neg h1, if_pos ⟨rfl, h2⟩]
theorem Zkz (h : getH l b = some was) (h1 : ¬ (r.may = false ∨ (j = true ∧ r.wr = 0) ∨ was.key ≠ r.key)) (h2 : ¬ (j = true ∧ (joinI (lf l b.1.toNat).itl r.wr live).e ≠ 0)) : layH l b r j live = ⟨l.set b.1.toNat (layL (lf l b.1.toNat) b.2 r j live), 0⟩ := by
 unfold layH
 rw [h]
 simp only [if_neg h1, if_neg h2]
def Zd2 (w : World) (P : Ph) (e : Ending) (w' : World) : Prop := Below w.heap.size w w' ∧ ∃ (s' : Sl) (L' : List Lb), e = .returned (.tuple #[.slice s'.a s'.len s'.cap, btV P.b, .int .i64 P.e]) ∧ Gl (fun _ => True) w' s' L' ∧ lfs L' = P.l
theorem Zgh {l : List Lf} {r : Rw} {live : List Int} (h : r.may = false ∨ r.wr = 0 ∨ (findH l r.key).isSome = true) : putH l r live = ⟨l, (0, 0), 1⟩ := by unfold putH; rw [if_pos h]
theorem ZkI {l : List Lf} {r : Rw} {live : List Int} (h : ¬ (r.may = false ∨ r.wr = 0 ∨ (findH l r.key).isSome = true)) (hr : roomH (hpB r) l 0 = none) : putH l r live = ⟨l, (0, 0), 7⟩ := by unfold putH; rw [if_neg h, hr]
theorem Zmg (h : ¬ (r.may = false ∨ r.wr = 0 ∨ (findH l r.key).isSome = true)) {i : Nat} (hr : roomH (hpB r) l 0 = some i) (hj : (joinI (lf l i).itl r.wr live).e ≠ 0) : putH l r live = ⟨l, (0, 0), (joinI (lf l i).itl r.wr live).e⟩ := by
 unfold putH
 rw [if_neg h, hr]
 simp only [if_neg hj]
theorem Znx (h : ¬ (r.may = false ∨ r.wr = 0 ∨ (findH l r.key).isSome = true)) {i : Nat} (hr : roomH (hpB r) l 0 = some i) (hj : (joinI (lf l i).itl r.wr live).e = 0) : putH l r live = ⟨l.set i (putL (lf l i) r live), ((i : Int), (insA (lf l i).slots (hpB r)).at_), 0⟩ := by
 unfold putH
 rw [if_neg h, hr]
 simp only [if_pos hj]
theorem ZaM {fn : Func} {x y z : Nat} (hr : fn.results = #[.tmp x, .cell y 26, .tmp z]) {W : World} {q : Nat} {b : Bt} (hq : BtBlk W q b) (tmps : Array Value) (u v : Value) (tx : tmps.getD x undef = u) (ty : tmps.getD y undef = .pointer (some ⟨q, 0, none⟩)) (tz : tmps.getD z undef = v) :
    (results fn tmps).run Tryz.prog W = .ok (.tuple #[u, btV b, v]) W := by
  have d0 := hq.c0
  have d1 := hq.c1
  have tx2 : tmps[x]?.getD undef = u := by simpa using tx
  have ty2 : tmps[y]?.getD undef = .pointer (some ⟨q, 0, none⟩) := by simpa using ty
  have tz2 : tmps[z]?.getD undef = v := by simpa using tz
  simp [results, hr, tx2, ty2, tz2, go_sem, d0, d1, btV]
end Go.Proofs.YtdojdcncncgncaaGreat
