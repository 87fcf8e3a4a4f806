/-
  Lemmas.
-/
import Derived.Test.YtdojdcncncgncaaGreatKoba
import Derived.Test.YtdojdcncncgncaaGreatKoaw
import Derived.Laws.MakeOwn
import Derived.Lib.SmallJoins
import Derived.Laws.Cover2
import Derived.Deep.Slices
namespace Go.Proofs.YtdojdcncncgncaaGreat
open Go.RowKit
set_option linter.unusedVariables false
set_option maxRecDepth 100000
set_option maxHeartbeats 4000000
structure Zmy (w : World) (s : Sl) (l : List Rx) : Prop where
  rz : Rz w s.a s.len l
  le : s.len ≤ s.cap
  nil : s.a = none → s.cap = 0
  flt : ∀ x ∈ l, ColF w x
def posK (k : Nat) : List Rw → Nat
  | [] => 0
  | x :: l => if Fl.less x.key k = true then posK k l + 1 else 0
def insK (l : List Rw) (r : Rw) : List Rw := l.take (posK r.key l) ++ [r] ++ l.drop (posK r.key l)
def Zgl (lo hi : Nat) (o : List Rw) (h : Hr) : List Rw := if (Fl.less h.r.key lo || !(Fl.less h.r.key hi)) = true then o else insK o h.r
def ZdV (lo hi : Nat) (l : List Hr) : List Rw := l.foldl (Zgl lo hi) []
def Zed (w : World) (rs : List Rw) (e : Ending) (w' : World) : Prop := Below w.heap.size w w' ∧ ∃ (s : Sl) (l : List Rx), e = .returned (.slice s.a s.len s.cap) ∧ Zmy w' s l ∧ rws l = rs
theorem Zje (n : Nat) : madeCells (Value.int .u8 0).cells (n * 1) = (vals (List.replicate n 0)).toArray := by
 apply Array.ext
 · simp [size_madeCells, vals]
 · intro i h1 h2
   simp [madeCells, vals, Value.cells, Nat.mod_one]
theorem Zjf (n:Nat)(hn:n≤10000000)(w:World):(Instr.makeSlice 56 (.int .i64 (n:Nat)) (.int .i64 (n:Nat))).run Tryz.prog w=.ok (.slice (some ⟨w.heap.size,0,none⟩) n n) (w.alloc (.cells (vals (List.replicate n 0)).toArray 5)):=by
 obtain⟨i0,hi,hz0,hz1,hz2⟩:=info_parts info5
 have h:=run_makeSlice (P:=Tryz.prog) w 56 5 i0 (.int .u8 0) Tryz.underlying56 hi hz0 .i64 .i64 (n:Nat) (n:Nat) (by omega) (by omega) (by rw [hz1];simp;omega) (by rw [hz2];simp;omega) (by omega)
 rw [hz1,show (n:Int).toNat=n by omega,Zje] at h
 exact h
theorem Zk4 (n : Nat) : madeCells (Value.int .i64 0).cells (n * 1) = (Zav (List.replicate n 0)).toArray := by
 apply Array.ext
 · simp [size_madeCells, Zav]
 · intro i h1 h2
   simp [madeCells, Zav, Value.cells, Nat.mod_one]
theorem Zk6 (n:Nat)(hn:n≤1000000)(w:World):(Instr.makeSlice 46 (.int .i64 (n:Nat)) (.int .i64 (n:Nat))).run Tryz.prog w=.ok (.slice (some ⟨w.heap.size,0,none⟩) n n) (w.alloc (.cells (Zav (List.replicate n 0)).toArray 3)):=by
 obtain⟨i0,hi,hz0,hz1,hz2⟩:=info_parts ZfW
 have h:=run_makeSlice (P:=Tryz.prog) w 46 3 i0 (.int .i64 0) Tryz.underlying46 hi hz0 .i64 .i64 (n:Nat) (n:Nat) (by omega) (by omega) (by rw [hz1];simp;omega) (by rw [hz2];simp;omega) (by omega)
 rw [hz1,show (n:Int).toNat=n by omega,Zk4] at h
 exact h
section
variable {ops : Array Oper} {rest : List Oper} {o : Oper} {a : Act} {Q : Exit → Act → World → Prop}
theorem ZeP (w:World)(hgd:o.guard=none)(t:TypeId)(x y:Operand)(ho:o.op=.makeSlice t x y)(u u' v:Value)(hu:a.eval x=u)(hu':a.eval y=u')(w':World)(hrun:(Instr.makeSlice t u u').run Tryz.prog w=.ok v w')(hK:wpList Tryz.prog ops Q rest (a.put o.dst v) w'):wpList Tryz.prog ops Q (o :: rest) a w:=by
 refine ZcG w hgd v w' ?_ hK
 have e:execOp a.eval o=(do pure (.value (← Instr.makeSlice t (a.eval x) (a.eval y)))):=by
  unfold execOp
  rw [ho]
 rw [e,hu,hu']
 simp [hrun]
end
open Go.ChangeShapes Go.WideShapes Go.ChangeAt Go.RowKit
section
variable {H : Type} {enc : TypeId × Value → H} {w : World} {base : Nat} {spare : Nat → Bool} {held : Bool}
end
end Go.Proofs.YtdojdcncncgncaaGreat
