/-
  Lemmas.
-/
import Derived.Test.YtdojdcncncgncaaGreatKsan
namespace Go.Proofs.YtdojdcncncgncaaGreat
open Go.RowKit
set_option linter.unusedVariables false
set_option maxRecDepth 100000
set_option maxHeartbeats 4000000
variable {A:Act}
theorem eqlT (a c : Int) (x y : Operand) (h : a = c) (w : World) : (do eqGuard .eql 3 x y (.int .i64 a) (.int .i64 c); binOp .eql 3 (.int .i64 a) (.int .i64 c) : Sem Value).run Tryz.prog w = .ok (.bool true) w := by
 simp [go_sem, eqGuard]
 first | done | omega
theorem eqlF (a c : Int) (x y : Operand) (h : ¬ (a = c)) (w : World) : (do eqGuard .eql 3 x y (.int .i64 a) (.int .i64 c); binOp .eql 3 (.int .i64 a) (.int .i64 c) : Sem Value).run Tryz.prog w = .ok (.bool false) w := by
 simp [go_sem, eqGuard]
 first | done | omega
theorem neqT (a c : Int) (x y : Operand) (h : a ≠ c) (w : World) : (do eqGuard .neq 3 x y (.int .i64 a) (.int .i64 c); binOp .neq 3 (.int .i64 a) (.int .i64 c) : Sem Value).run Tryz.prog w = .ok (.bool true) w := by
 simp [go_sem, eqGuard]
 first | done | omega
theorem neqF (a c : Int) (x y : Operand) (h : ¬ (a ≠ c)) (w : World) : (do eqGuard .neq 3 x y (.int .i64 a) (.int .i64 c); binOp .neq 3 (.int .i64 a) (.int .i64 c) : Sem Value).run Tryz.prog w = .ok (.bool false) w := by
 simp [go_sem, eqGuard]
 first | done | omega
theorem Zad (w : World) : Below w.heap.size w w.drew := (Below.refl _ _).drew
theorem ZfD (p : Nat) (w : World) : (Instr.fieldAt 67 (.pointer (some ⟨p, 0, none⟩)) 0).run Tryz.prog w = .ok (.pointer (some ⟨p, 0, none⟩)) w := by simp [go_sem, Instr.fieldAt]
theorem Zl4 (p : Nat) (w : World) : (Instr.fieldAt 67 (.pointer (some ⟨p, 0, none⟩)) 1).run Tryz.prog w = .ok (.pointer (some ⟨p, 1, none⟩)) w := by simp [go_sem, Instr.fieldAt]
theorem ixI1 (b o len cap k : Nat) (hk : k < len) (w : World) : (Instr.indexAt 46 (.slice (some ⟨b, o, none⟩) len cap) (.int .i64 (k : Int))).run Tryz.prog w = .ok (.pointer (some ⟨b, o + k, none⟩)) w := by
 have h2 : (k : Int) < (len : Int) := by omega
 simp [go_sem, Instr.indexAt, hk, Addr.add_lit]
theorem ixB1 (b o len cap k : Nat) (hk : k < len) (w : World) : (Instr.indexAt 65 (.slice (some ⟨b, o, none⟩) len cap) (.int .i64 (k : Int))).run Tryz.prog w = .ok (.pointer (some ⟨b, o + k, none⟩)) w := by
 have h2 : (k : Int) < (len : Int) := by omega
 simp [go_sem, Instr.indexAt, hk, Addr.add_lit]
theorem ldI1 (b o : Nat) (x : Int) (w : World) (h : w.cell? ⟨b, o, none⟩ = some (.int .i64 x)) : (Instr.loadAt 3 (.pointer (some ⟨b, o, none⟩))).run Tryz.prog w = .ok (.int .i64 x) w := by
  simp [go_sem, Instr.loadAt, h]
theorem ZfM (p : Nat) (u : Sl) (v : Value) (w : World) (k : LfBlk w p u.val v) : (Instr.loadAt 46 (.pointer (some ⟨p, 0, none⟩))).run Tryz.prog w = .ok u.val w := by
 have c0 := k.c0
 obtain ⟨a, len, cap⟩ := u
 unfold Sl.val at *
 simp [go_sem, Instr.loadAt, c0]
theorem ZlN (p : Nat) (u : Value) (v : Sl) (w : World) (k : LfBlk w p u v.val) : (Instr.loadAt 65 (.pointer (some ⟨p, 1, none⟩))).run Tryz.prog w = .ok v.val w := by
 have c1 := k.c1
 obtain ⟨a, len, cap⟩ := v
 unfold Sl.val at *
 simp [go_sem, Instr.loadAt, c1]
theorem Zak {w w' : World} {b o : Nat} {u : Value} (h : w.cell? ⟨b, o, none⟩ = some u) (hb : Below w.heap.size w w') : w'.cell? ⟨b, o, none⟩ = some u := (hb.cell (p := ⟨b, o, none⟩) (World.block_lt_of_cell? w _ h)).trans h
theorem ZnP (w:World)(g b o len cap i k:Nat)(v:Value)(x:Int)(hk:k<len)(hg:LfBlk w g (.slice (some ⟨b,o,none⟩) len cap) v)(hx:w.cell? ⟨b,o+k,none⟩=some (.int .i64 x))(h0:¬(x≠0))
    {Q:Exit→Act→World→Prop}(hsz:A.tmps.size=92)(hdf:A.defers=[])(s1:A.tmps.getD 1 undef=.pointer (some ⟨g,0,none⟩))(s3:A.tmps.getD 3 undef=.int .i64 (i:Int))(s4:A.tmps.getD 4 undef=.int .i64 (k:Int))
    (hend:∀(u:Nat→Value) w',Below w.heap.size w w'→Q .normal ((((((((((((((((((((A).put (some 39) (u 39)).put (some 40) (u 40)).put (some 41) (u 41)).put (some 42) (u 42)).put (some 43) (u 43)).put (some 44) (u 44)).put (some 45) (u 45)).put (some 46) (u 46)).put (some 47) (u 47)).put (some 48) (u 48)).put (some 49) (u 49)).put (some 50) (u 50)).put (some 51) (u 51)).put (some 52) (u 52)).put (some 53) (u 53)).put (some 54) (u 54)).put (some 55) (u 55)).put (some 56) (u 56)).put (some 57) (.bool false)) w') :
    (Code.region 11 (Pl.find 11 ((Tryz.f41.body).getD .skip)) true).wp Tryz.prog Q A w:=by
  have hA:=Pl.At.same (v:=.int .i64 (k:Int)) (d:=4) (Pl.At.same (v:=.int .i64 (i:Int)) (d:=3) (Pl.At.same (v:=.pointer (some ⟨g,0,none⟩)) (d:=1) (Pl.At.here hsz hdf) s1) s3) s4
  refine Pl.qa (S:=(fun w'=>Below w.heap.size w w')) hA (Zad w) ?_
  rw [show (Pl.find 11 ((Tryz.f41.body).getD .skip)).size=19 by kernel_rfl]
  refine Pl.q0 0 39 (.pointer (some ⟨g,0,none⟩)) (Pl.q1) (Pl.q5 67 (.tmp 1) 0 (ZfD g)) (Zad w) ?_
  refine Pl.q0 1 40 (.slice (some ⟨b,o,none⟩) len cap) (Pl.q1) (Pl.q4 46 (.tmp 39) (fun w' hS=>ZfM g ⟨some ⟨b,o,none⟩,len,cap⟩ v w' (hg.below hS))) (Zad w) ?_
  refine Pl.q0 2 41 (.int .i64 (k:Int)) (Pl.q1) (Pl.q2 (.tmp 4)) (Zad w) ?_
  refine Pl.q0 3 42 (.pointer (some ⟨b,o+k,none⟩)) (Pl.q1) (Pl.qb 46 (.tmp 40) (.tmp 41) (ixI1 b o len cap k hk)) (Zad w) ?_
  refine Pl.q0 4 43 (.int .i64 x) (Pl.q1) (Pl.q4 3 (.tmp 42) (fun w' hS=>ldI1 b (o+k) x w' (Zak hx hS))) (Zad w) ?_
  refine Pl.q0 5 44 (.bool false) (Pl.q1) (Pl.qc .neq 3 3 (.tmp 43) (.const (.int .i64 0)) (.int .i64 x) (.int .i64 0) (neqF x 0 _ _ h0)) (Zad w) ?_
  refine Pl.q0 6 45 (.bool false) (Pl.q1) (Pl.q2 (.tmp 44)) (Zad w) ?_
  refine Pl.q6 7 46 (Pl.q8 6 45 true) (Zad w) ?_
  refine Pl.q6 8 47 (Pl.q8 6 45 true) (Zad w) ?_
  refine Pl.q6 9 48 (Pl.q8 6 45 true) (Zad w) ?_
  refine Pl.q6 10 49 (Pl.q8 6 45 true) (Zad w) ?_
  refine Pl.q6 11 50 (Pl.q8 6 45 true) (Zad w) ?_
  refine Pl.q6 12 51 (Pl.q8 6 45 true) (Zad w) ?_
  refine Pl.q6 13 52 (Pl.q8 6 45 true) (Zad w) ?_
  refine Pl.q6 14 53 (Pl.q8 6 45 true) (Zad w) ?_
  refine Pl.q6 15 54 (Pl.q8 6 45 true) (Zad w) ?_
  refine Pl.q6 16 55 (Pl.q8 6 45 true) (Zad w) ?_
  refine Pl.q6 17 56 (Pl.q8 6 45 true) (Zad w) ?_
  refine Pl.q0 18 57 (.bool false) (Pl.q1) (Pl.qj (.tmp 45) (.tmp 56) (.const (.bool false))) (Zad w) ?_
  refine Pl.q7 (fun A' hA'=>?_)
  rw [Pl.At.ext hA' (((((((((((((((((((hA.put 39 _).put 40 _).put 41 _).put 42 _).put 43 _).put 44 _).put 45 _).put 46 _).put 47 _).put 48 _).put 49 _).put 50 _).put 51 _).put 52 _).put 53 _).put 54 _).put 55 _).put 56 _).put 57 _)]
  exact hend hA'.fn _ (Zad w)
theorem ZnQ (w:World)(g b o len cap i k:Nat)(v:Value)(x y:Int)(hi:i<len)(hk:k<len)(hg:LfBlk w g (.slice (some ⟨b,o,none⟩) len cap) v)(hx:w.cell? ⟨b,o+k,none⟩=some (.int .i64 x))(hy:w.cell? ⟨b,o+i,none⟩=some (.int .i64 y))(h0:x≠0)(h1:x=y)
    {Q:Exit→Act→World→Prop}(hsz:A.tmps.size=92)(hdf:A.defers=[])(s1:A.tmps.getD 1 undef=.pointer (some ⟨g,0,none⟩))(s3:A.tmps.getD 3 undef=.int .i64 (i:Int))(s4:A.tmps.getD 4 undef=.int .i64 (k:Int))
    (hend:∀(u:Nat→Value) w',Below w.heap.size w w'→Q .normal ((((((((((((((((((((A).put (some 39) (u 39)).put (some 40) (u 40)).put (some 41) (u 41)).put (some 42) (u 42)).put (some 43) (u 43)).put (some 44) (u 44)).put (some 45) (u 45)).put (some 46) (u 46)).put (some 47) (u 47)).put (some 48) (u 48)).put (some 49) (u 49)).put (some 50) (u 50)).put (some 51) (u 51)).put (some 52) (u 52)).put (some 53) (u 53)).put (some 54) (u 54)).put (some 55) (u 55)).put (some 56) (u 56)).put (some 57) (.bool true)) w') :
    (Code.region 11 (Pl.find 11 ((Tryz.f41.body).getD .skip)) true).wp Tryz.prog Q A w:=by
  have hA:=Pl.At.same (v:=.int .i64 (k:Int)) (d:=4) (Pl.At.same (v:=.int .i64 (i:Int)) (d:=3) (Pl.At.same (v:=.pointer (some ⟨g,0,none⟩)) (d:=1) (Pl.At.here hsz hdf) s1) s3) s4
  refine Pl.qa (S:=(fun w'=>Below w.heap.size w w')) hA (Zad w) ?_
  rw [show (Pl.find 11 ((Tryz.f41.body).getD .skip)).size=19 by kernel_rfl]
  refine Pl.q0 0 39 (.pointer (some ⟨g,0,none⟩)) (Pl.q1) (Pl.q5 67 (.tmp 1) 0 (ZfD g)) (Zad w) ?_
  refine Pl.q0 1 40 (.slice (some ⟨b,o,none⟩) len cap) (Pl.q1) (Pl.q4 46 (.tmp 39) (fun w' hS=>ZfM g ⟨some ⟨b,o,none⟩,len,cap⟩ v w' (hg.below hS))) (Zad w) ?_
  refine Pl.q0 2 41 (.int .i64 (k:Int)) (Pl.q1) (Pl.q2 (.tmp 4)) (Zad w) ?_
  refine Pl.q0 3 42 (.pointer (some ⟨b,o+k,none⟩)) (Pl.q1) (Pl.qb 46 (.tmp 40) (.tmp 41) (ixI1 b o len cap k hk)) (Zad w) ?_
  refine Pl.q0 4 43 (.int .i64 x) (Pl.q1) (Pl.q4 3 (.tmp 42) (fun w' hS=>ldI1 b (o+k) x w' (Zak hx hS))) (Zad w) ?_
  refine Pl.q0 5 44 (.bool true) (Pl.q1) (Pl.qc .neq 3 3 (.tmp 43) (.const (.int .i64 0)) (.int .i64 x) (.int .i64 0) (neqT x 0 _ _ h0)) (Zad w) ?_
  refine Pl.q0 6 45 (.bool true) (Pl.q1) (Pl.q2 (.tmp 44)) (Zad w) ?_
  refine Pl.q0 7 46 (.pointer (some ⟨g,0,none⟩)) (Pl.q3 6 45 true) (Pl.q5 67 (.tmp 1) 0 (ZfD g)) (Zad w) ?_
  refine Pl.q0 8 47 (.slice (some ⟨b,o,none⟩) len cap) (Pl.q3 6 45 true) (Pl.q4 46 (.tmp 46) (fun w' hS=>ZfM g ⟨some ⟨b,o,none⟩,len,cap⟩ v w' (hg.below hS))) (Zad w) ?_
  refine Pl.q0 9 48 (.int .i64 (k:Int)) (Pl.q3 6 45 true) (Pl.q2 (.tmp 4)) (Zad w) ?_
  refine Pl.q0 10 49 (.pointer (some ⟨b,o+k,none⟩)) (Pl.q3 6 45 true) (Pl.qb 46 (.tmp 47) (.tmp 48) (ixI1 b o len cap k hk)) (Zad w) ?_
  refine Pl.q0 11 50 (.int .i64 x) (Pl.q3 6 45 true) (Pl.q4 3 (.tmp 49) (fun w' hS=>ldI1 b (o+k) x w' (Zak hx hS))) (Zad w) ?_
  refine Pl.q0 12 51 (.pointer (some ⟨g,0,none⟩)) (Pl.q3 6 45 true) (Pl.q5 67 (.tmp 1) 0 (ZfD g)) (Zad w) ?_
  refine Pl.q0 13 52 (.slice (some ⟨b,o,none⟩) len cap) (Pl.q3 6 45 true) (Pl.q4 46 (.tmp 51) (fun w' hS=>ZfM g ⟨some ⟨b,o,none⟩,len,cap⟩ v w' (hg.below hS))) (Zad w) ?_
  refine Pl.q0 14 53 (.int .i64 (i:Int)) (Pl.q3 6 45 true) (Pl.q2 (.tmp 3)) (Zad w) ?_
  refine Pl.q0 15 54 (.pointer (some ⟨b,o+i,none⟩)) (Pl.q3 6 45 true) (Pl.qb 46 (.tmp 52) (.tmp 53) (ixI1 b o len cap i hi)) (Zad w) ?_
  refine Pl.q0 16 55 (.int .i64 y) (Pl.q3 6 45 true) (Pl.q4 3 (.tmp 54) (fun w' hS=>ldI1 b (o+i) y w' (Zak hy hS))) (Zad w) ?_
  refine Pl.q0 17 56 (.bool true) (Pl.q3 6 45 true) (Pl.qc .eql 3 3 (.tmp 50) (.tmp 55) (.int .i64 x) (.int .i64 y) (eqlT x y _ _ h1)) (Zad w) ?_
  refine Pl.q0 18 57 (.bool true) (Pl.q1) (Pl.qk (.tmp 45) (.tmp 56) (.const (.bool false))) (Zad w) ?_
  refine Pl.q7 (fun A' hA'=>?_)
  rw [Pl.At.ext hA' (((((((((((((((((((hA.put 39 _).put 40 _).put 41 _).put 42 _).put 43 _).put 44 _).put 45 _).put 46 _).put 47 _).put 48 _).put 49 _).put 50 _).put 51 _).put 52 _).put 53 _).put 54 _).put 55 _).put 56 _).put 57 _)]
  exact hend hA'.fn _ (Zad w)
theorem ZnR (w:World)(g b o len cap i k:Nat)(v:Value)(x y:Int)(hi:i<len)(hk:k<len)(hg:LfBlk w g (.slice (some ⟨b,o,none⟩) len cap) v)(hx:w.cell? ⟨b,o+k,none⟩=some (.int .i64 x))(hy:w.cell? ⟨b,o+i,none⟩=some (.int .i64 y))(h0:x≠0)(h1:¬(x=y))
    {Q:Exit→Act→World→Prop}(hsz:A.tmps.size=92)(hdf:A.defers=[])(s1:A.tmps.getD 1 undef=.pointer (some ⟨g,0,none⟩))(s3:A.tmps.getD 3 undef=.int .i64 (i:Int))(s4:A.tmps.getD 4 undef=.int .i64 (k:Int))
    (hend:∀(u:Nat→Value) w',Below w.heap.size w w'→Q .normal ((((((((((((((((((((A).put (some 39) (u 39)).put (some 40) (u 40)).put (some 41) (u 41)).put (some 42) (u 42)).put (some 43) (u 43)).put (some 44) (u 44)).put (some 45) (u 45)).put (some 46) (u 46)).put (some 47) (u 47)).put (some 48) (u 48)).put (some 49) (u 49)).put (some 50) (u 50)).put (some 51) (u 51)).put (some 52) (u 52)).put (some 53) (u 53)).put (some 54) (u 54)).put (some 55) (u 55)).put (some 56) (u 56)).put (some 57) (.bool false)) w') :
    (Code.region 11 (Pl.find 11 ((Tryz.f41.body).getD .skip)) true).wp Tryz.prog Q A w:=by
  have hA:=Pl.At.same (v:=.int .i64 (k:Int)) (d:=4) (Pl.At.same (v:=.int .i64 (i:Int)) (d:=3) (Pl.At.same (v:=.pointer (some ⟨g,0,none⟩)) (d:=1) (Pl.At.here hsz hdf) s1) s3) s4
  refine Pl.qa (S:=(fun w'=>Below w.heap.size w w')) hA (Zad w) ?_
  rw [show (Pl.find 11 ((Tryz.f41.body).getD .skip)).size=19 by kernel_rfl]
  refine Pl.q0 0 39 (.pointer (some ⟨g,0,none⟩)) (Pl.q1) (Pl.q5 67 (.tmp 1) 0 (ZfD g)) (Zad w) ?_
  refine Pl.q0 1 40 (.slice (some ⟨b,o,none⟩) len cap) (Pl.q1) (Pl.q4 46 (.tmp 39) (fun w' hS=>ZfM g ⟨some ⟨b,o,none⟩,len,cap⟩ v w' (hg.below hS))) (Zad w) ?_
  refine Pl.q0 2 41 (.int .i64 (k:Int)) (Pl.q1) (Pl.q2 (.tmp 4)) (Zad w) ?_
  refine Pl.q0 3 42 (.pointer (some ⟨b,o+k,none⟩)) (Pl.q1) (Pl.qb 46 (.tmp 40) (.tmp 41) (ixI1 b o len cap k hk)) (Zad w) ?_
  refine Pl.q0 4 43 (.int .i64 x) (Pl.q1) (Pl.q4 3 (.tmp 42) (fun w' hS=>ldI1 b (o+k) x w' (Zak hx hS))) (Zad w) ?_
  refine Pl.q0 5 44 (.bool true) (Pl.q1) (Pl.qc .neq 3 3 (.tmp 43) (.const (.int .i64 0)) (.int .i64 x) (.int .i64 0) (neqT x 0 _ _ h0)) (Zad w) ?_
  refine Pl.q0 6 45 (.bool true) (Pl.q1) (Pl.q2 (.tmp 44)) (Zad w) ?_
  refine Pl.q0 7 46 (.pointer (some ⟨g,0,none⟩)) (Pl.q3 6 45 true) (Pl.q5 67 (.tmp 1) 0 (ZfD g)) (Zad w) ?_
  refine Pl.q0 8 47 (.slice (some ⟨b,o,none⟩) len cap) (Pl.q3 6 45 true) (Pl.q4 46 (.tmp 46) (fun w' hS=>ZfM g ⟨some ⟨b,o,none⟩,len,cap⟩ v w' (hg.below hS))) (Zad w) ?_
  refine Pl.q0 9 48 (.int .i64 (k:Int)) (Pl.q3 6 45 true) (Pl.q2 (.tmp 4)) (Zad w) ?_
  refine Pl.q0 10 49 (.pointer (some ⟨b,o+k,none⟩)) (Pl.q3 6 45 true) (Pl.qb 46 (.tmp 47) (.tmp 48) (ixI1 b o len cap k hk)) (Zad w) ?_
  refine Pl.q0 11 50 (.int .i64 x) (Pl.q3 6 45 true) (Pl.q4 3 (.tmp 49) (fun w' hS=>ldI1 b (o+k) x w' (Zak hx hS))) (Zad w) ?_
  refine Pl.q0 12 51 (.pointer (some ⟨g,0,none⟩)) (Pl.q3 6 45 true) (Pl.q5 67 (.tmp 1) 0 (ZfD g)) (Zad w) ?_
  refine Pl.q0 13 52 (.slice (some ⟨b,o,none⟩) len cap) (Pl.q3 6 45 true) (Pl.q4 46 (.tmp 51) (fun w' hS=>ZfM g ⟨some ⟨b,o,none⟩,len,cap⟩ v w' (hg.below hS))) (Zad w) ?_
  refine Pl.q0 14 53 (.int .i64 (i:Int)) (Pl.q3 6 45 true) (Pl.q2 (.tmp 3)) (Zad w) ?_
  refine Pl.q0 15 54 (.pointer (some ⟨b,o+i,none⟩)) (Pl.q3 6 45 true) (Pl.qb 46 (.tmp 52) (.tmp 53) (ixI1 b o len cap i hi)) (Zad w) ?_
  refine Pl.q0 16 55 (.int .i64 y) (Pl.q3 6 45 true) (Pl.q4 3 (.tmp 54) (fun w' hS=>ldI1 b (o+i) y w' (Zak hy hS))) (Zad w) ?_
  refine Pl.q0 17 56 (.bool false) (Pl.q3 6 45 true) (Pl.qc .eql 3 3 (.tmp 50) (.tmp 55) (.int .i64 x) (.int .i64 y) (eqlF x y _ _ h1)) (Zad w) ?_
  refine Pl.q0 18 57 (.bool false) (Pl.q1) (Pl.qk (.tmp 45) (.tmp 56) (.const (.bool false))) (Zad w) ?_
  refine Pl.q7 (fun A' hA'=>?_)
  rw [Pl.At.ext hA' (((((((((((((((((((hA.put 39 _).put 40 _).put 41 _).put 42 _).put 43 _).put 44 _).put 45 _).put 46 _).put 47 _).put 48 _).put 49 _).put 50 _).put 51 _).put 52 _).put 53 _).put 54 _).put 55 _).put 56 _).put 57 _)]
  exact hend hA'.fn _ (Zad w)
def ZgT (l : Lf) (e : Ending) : Prop := ∃ r : Bool, e = .returned (.bool r) ∧ (r = true ↔ MayL l)
theorem Zco {l : Lf} (h : ¬ MayL l) : ZgT l (.returned (.bool false)) := ⟨false, rfl, by simp [h]⟩
theorem ZkN {D:Nat→Prop}(w:World)(u v:Sl)(t:List Int)(l:List Sb)(hi:Gi D w u t)(hg:Gb D w v l) :
    Calls Tryz.prog 41 #[lfV u v] w fun e w'=>ZgT ⟨t,bss l⟩ e∧Below w.heap.size w w':=by
  obtain⟨a,len,cap⟩:=v
  obtain⟨ua,ul,uc⟩:=u
  have hl:l.length=len:=hg.len
  have htl:t.length=ul:=hi.len
  have hbig:len≤1000:=hg.big
  have hubig:ul≤1000000:=hi.big
  have hA:=Zaa w (.cells #[.slice ua ul uc,.slice a len cap] 67)
  have HK:=hide (Zan w (.slice ua ul uc) (.slice a len cap))
  have HG:=hide (hg.below hA (Nat.le_refl _))
  have HI:=hide (hi.below hA (Nat.le_refl _))
  have HA:=hide hA
  have HL:Hid ((bss l).length=len):=by show _=_;rw [Zah];exact hl
  have HTL:=hide htl
  have HND:=hide (fun W (hW:Gb D W ⟨a,len,cap⟩ l)=>ZkO W ⟨ua,ul,uc⟩ _ l hW)
  clear hg hi hl htl hA
  unfold lfV Sl.val at *
  simp only at *
  by_cases h4:ul=4∧len≤64
  · obtain⟨h4,h64⟩:=h4
    subst h4
    have j1:¬(64:Int)<(len:Int):=by omega
    go_enter Tryz.func41,Tryz.ntmps41
    go_wp2_with fail
    generalize w.alloc (.cells #[.slice ua 4 uc,.slice a len cap] 67)=W at *
    have H0:=hide (Below.refl W.heap.size W)
    obtain⟨ub,uo,hua,_⟩:=HI.out.cell 0 (by show 0<4;omega)
    replace hua:ua=some ⟨ub,uo,none⟩:=hua
    subst hua
    have HCI:Hid (∀i,i<4→W.cell? ⟨ub,uo+i,none⟩=some (.int .i64 (t.getD i 0))):=by
     intro i hi
     obtain⟨b',o',ha,hc⟩:=HI.out.cell i hi
     simp only [Option.some.injEq,Addr.mk.injEq,and_true] at ha
     obtain⟨rfl,rfl⟩:=ha
     exact hc
    go_loopw [3] (fun iv wr=>∃i:Nat,i≤4∧iv=.int .i64 (i:Nat)∧Hid (Below W.heap.size W wr)∧Hid (∀j,j<i→0≤t.getD j 0∧t.getD j 0≤2147483647)∧Hid (∀j,j<i→∀k,k<j→t.getD k 0≠0→t.getD k 0≠t.getD j 0)) (fun iv _=>4-(intOf iv).toNat)
    case atStart=>exact ⟨0,by omega,rfl,H0,fun _ h=>absurd h (Nat.not_lt_zero _),fun _ h=>absurd h (Nat.not_lt_zero _)⟩
    case round =>
     obtain⟨i,hi4,rfl,hbr,hrg,hdi⟩:=hrel
     rcases Nat.lt_or_ge i 4 with hlt | hge
     · have i1:(i:Int)<4:=by omega
       have hk:=HK.out.below hbr.out
       have c0:=hk.c0
       have ci:=Zak (HCI.out i hlt) hbr.out
       obtain⟨y,hy⟩:∃y,y=t.getD i 0:=⟨_,rfl⟩
       rw [← hy] at ci
       by_cases hr:0≤y∧y≤2147483647
       · obtain⟨hr0,hr1⟩:=hr
         have HY:=hide hy
         have HK2:=hide hk
         clear hy hk
         go_wp2_with fail
         go_loopw [4] (fun kv wz=>∃k:Nat,k≤i∧kv=.int .i64 (k:Nat)∧Hid (Below W.heap.size W wz)∧Hid (∀j,j<k→t.getD j 0≠0→t.getD j 0≠y)) (fun kv _=>i-(intOf kv).toNat)
         case atStart=>exact ⟨0,Nat.zero_le _,rfl,hbr,fun _ h=>absurd h (Nat.not_lt_zero _)⟩
         case round =>
          rename World=>wo
          obtain⟨k,hki,rfl,hbz,hdk⟩:=hrel
          rcases Nat.lt_or_ge k i with hlk | hgk
          · have i2:(k:Int)<(i:Int):=by omega
            have HKz:=hide (HK.out.below hbz.out)
            have HCx:=hide (Zak (HCI.out k (by omega)) hbz.out)
            have HCy:Hid (wo.cell? ⟨ub,uo+i,none⟩=some (.int .i64 y)):=by rw [HY.out];exact Zak (HCI.out i hlt) hbz.out
            by_cases hx0:t.getD k 0=0
            · have HDK:Hid (∀j,j<k+1→t.getD j 0≠0→t.getD j 0≠y):=by
               intro j hj hne
               by_cases e:j=k
               · rw [e] at hne;exact absurd hx0 hne
               · exact hdk.out j (by omega) hne
              have HX0:=hide hx0
              clear hx0 hdk
              go_wp2_with fail
              refine Pl.q9 (ops:=Pl.find 11 ((Tryz.f41.body).getD .skip)) ?_
              refine ZnP _ w.heap.size ub uo 4 uc i k _ (t.getD k 0) (by omega) HKz.out HCx.out (fun h=>h HX0.out) (by rfl) rfl (by rfl) (by rfl) (by rfl) ?_
              intro u1 w2 hb2
              simp only [Act.put,List.setIfInBounds_toArray,List.set_cons_zero,List.set_cons_succ]
              have HB2:=hide (Zab hbz.out hb2)
              clear hb2 HKz HCx HCy
              go_wp2_with fail
              go_roundw
              case rel=>exact ⟨k+1,by omega,by go_num,HB2,HDK⟩
              case measure=>simp only [intOf];omega
            · by_cases hxy:t.getD k 0=y
              · have HNO:Hid (¬MayL ⟨t,bss l⟩):=fun m=>m.itl.2.2 i hlt k hlk hx0 (by rw [← HY.out];exact hxy)
                have HX0:=hide hx0
                have HXY:=hide hxy
                clear hx0 hxy hdk
                go_wp2_with fail
                refine Pl.q9 (ops:=Pl.find 11 ((Tryz.f41.body).getD .skip)) ?_
                refine ZnQ _ w.heap.size ub uo 4 uc i k _ (t.getD k 0) y hlt (by omega) HKz.out HCx.out HCy.out HX0.out HXY.out (by rfl) rfl (by rfl) (by rfl) (by rfl) ?_
                intro u1 w2 hb2
                simp only [Act.put,List.setIfInBounds_toArray,List.set_cons_zero,List.set_cons_succ]
                have HB2:=hide (Zab HA.out (Zab hbz.out hb2))
                clear hb2 HKz HCx HCy
                go_wp2_with fail
                go_ret
                exact⟨Zco HNO.out,HB2.out⟩
              · have HDK:Hid (∀j,j<k+1→t.getD j 0≠0→t.getD j 0≠y):=by
                 intro j hj hne
                 by_cases e:j=k
                 · rw [e];exact hxy
                 · exact hdk.out j (by omega) hne
                have HX0:=hide hx0
                have HXY:=hide hxy
                clear hx0 hxy hdk
                go_wp2_with fail
                refine Pl.q9 (ops:=Pl.find 11 ((Tryz.f41.body).getD .skip)) ?_
                refine ZnR _ w.heap.size ub uo 4 uc i k _ (t.getD k 0) y hlt (by omega) HKz.out HCx.out HCy.out HX0.out HXY.out (by rfl) rfl (by rfl) (by rfl) (by rfl) ?_
                intro u1 w2 hb2
                simp only [Act.put,List.setIfInBounds_toArray,List.set_cons_zero,List.set_cons_succ]
                have HB2:=hide (Zab hbz.out hb2)
                clear hb2 HKz HCx HCy
                go_wp2_with fail
                go_roundw
                case rel=>exact ⟨k+1,by omega,by go_num,HB2,HDK⟩
                case measure=>simp only [intOf];omega
          · have i2:¬(k:Int)<(i:Int):=by omega
            have HRG:Hid (∀j,j<i+1→0≤t.getD j 0∧t.getD j 0≤2147483647):=by
             intro j hj
             by_cases e:j=i
             · rw [e,← HY.out];exact ⟨hr0,hr1⟩
             · exact hrg.out j (by omega)
            have HDI:Hid (∀j,j<i+1→∀k,k<j→t.getD k 0≠0→t.getD k 0≠t.getD j 0):=by
             intro j hj k' hk' hne
             by_cases e:j=i
             · rw [e,← HY.out];exact hdk.out k' (by omega) hne
             · exact hdi.out j (by omega) k' hk' hne
            go_wp2_with fail
            go_roundw
            case rel=>exact ⟨i+1,by omega,by go_num,hbz,HRG,HDI⟩
            case measure=>simp only [intOf];omega
       · have HNO:Hid (¬MayL ⟨t,bss l⟩):=fun m=>hr (by rw [hy];exact m.itl.2.1 i hlt)
         have HB2:=hide (Zab HA.out hbr.out)
         by_cases hr0:y<0
         · clear hr hy hk
           go_wp2_with fail
           go_ret
           exact⟨Zco HNO.out,HB2.out⟩
         · have hr1:2147483647<y:=by omega
           clear hr hy hk
           go_wp2_with fail
           go_ret
           exact⟨Zco HNO.out,HB2.out⟩
     · have i1:¬(i:Int)<4:=by omega
       have HITL:Hid (ItlOk t):=⟨HTL.out,fun j hj=>hrg.out j (by omega),fun j hj k hk=>hdi.out j (by omega) k hk⟩
       have hk:=HK.out.below hbr.out
       have HKb:=hide hk
       have c1:=hk.c1
       clear hk hrg hdi
       go_wp2_with fail
       go_loopw [5] (fun iv wz=>wz=wr∧∃k:Nat,k≤len∧iv=.int .i64 (k:Nat)∧Hid (∀j,j<k→(sl (bss l) j).length≤255)∧Hid (∀j,j<k→j=len-1→sl (bss l) j ≠ [])) (fun iv _=>len-(intOf iv).toNat)
       case atStart=>exact ⟨rfl,0,Nat.zero_le _,rfl,fun _ h=>absurd h (Nat.not_lt_zero _),fun _ h=>absurd h (Nat.not_lt_zero _)⟩
       case round =>
        rename World=>wo
        obtain⟨hwo,k,hkl,rfl,h255,hlast⟩:=hrel
        subst hwo
        rcases Nat.lt_or_ge k len with hlk | hgk
        · have i2:(k:Int)<(len:Int):=by omega
          obtain⟨bb,oo,ha,d0⟩:=(HG.out.below hbr.out (Nat.le_refl _)).cell k hlk
          replace ha:a=some ⟨bb,oo,none⟩:=ha
          subst ha
          obtain⟨_,hsl,h1000⟩:=HG.out.at (i:=k) hlk
          obtain⟨⟨sa,sn,sc⟩,hsb⟩:∃s,s=(l.getD k Sb.zero).s:=⟨_,rfl⟩
          rw [← hsb] at d0 hsl
          unfold Sl.val at d0
          simp only at d0 hsl
          have HSL:=hide hsl
          clear hsb hsl
          by_cases hb:255<sn
          · have HNO:Hid (¬MayL ⟨t,bss l⟩):=fun m=>by have:=m.slots.2.1 k (by rw [HL.out];exact hlk);rw [← HSL.out] at this;omega
            have HB2:=hide (Zab HA.out hbr.out)
            have i3:(255:Int)<(sn:Int):=by omega
            clear h255 hlast h1000
            go_wp2_with fail
            go_ret
            exact⟨Zco HNO.out,HB2.out⟩
          · have i3:¬(255:Int)<(sn:Int):=by omega
            have H255:Hid (∀j,j<k+1→(sl (bss l) j).length≤255):=by
             intro j hj
             by_cases e:j=k
             · rw [e,← HSL.out];omega
             · exact h255.out j (by omega)
            by_cases hla:k=len-1
            · have i4:(k:Int)=(len:Int)-1:=by omega
              by_cases hs0:sn=0
              · have HNO:Hid (¬MayL ⟨t,bss l⟩):=fun m=>by
                 have h9:=m.slots.2.2 (fun x=>by have h8:=HL.out;have h7:bss l=[]:=x;rw [h7] at h8;simp at h8;omega)
                 apply h9
                 apply List.eq_nil_of_length_eq_zero
                 show (sl (bss l) ((bss l).length-1)).length=0
                 rw [HL.out,← hla,← HSL.out,hs0]
                have HB2:=hide (Zab HA.out hbr.out)
                obtain⟨m,rfl⟩:∃m,len=m+1:=⟨len-1,by omega⟩
                obtain rfl:k=m:=by omega
                subst hs0
                clear h255 hlast h1000 i4 hla H255 HSL
                go_wp2_with fail
                go_ret
                exact⟨Zco HNO.out,HB2.out⟩
              · have HLA:Hid (∀j,j<k+1→j=len-1→sl (bss l) j ≠ []):=by
                 intro j hj hj2
                 by_cases e:j=k
                 · rw [e];intro x;apply hs0;rw [HSL.out,x];rfl
                 · exact hlast.out j (by omega) hj2
                have i5:¬(sn:Int)=0:=by omega
                obtain⟨m,rfl⟩:∃m,len=m+1:=⟨len-1,by omega⟩
                obtain rfl:k=m:=by omega
                clear h255 hlast h1000 i4 hla HSL
                go_wp2_with fail
                go_roundw
                case rel=>exact ⟨trivial,k+1,by omega,by go_num,H255,HLA⟩
                case measure=>simp only [intOf];omega
            · have i4:¬(k:Int)=(len:Int)-1:=by omega
              have HLA:Hid (∀j,j<k+1→j=len-1→sl (bss l) j ≠ []):=by
               intro j hj hj2
               exact hlast.out j (by omega) hj2
              clear h255 hlast h1000 hla HSL
              go_wp2_with fail
              go_roundw
              case rel=>exact ⟨trivial,k+1,by omega,by go_num,H255,HLA⟩
              case measure=>simp only [intOf];omega
        · have i2:¬(k:Int)<(len:Int):=by omega
          have HSO:Hid (Za9 (bss l)):=⟨by rw [HL.out];omega,fun j hj=>h255.out j (by rw [HL.out] at hj;omega),fun hne=>by
           have h0:0<len:=by
            rcases Nat.eq_zero_or_pos len with h | h
            · exfalso
              apply hne
              apply List.eq_nil_of_length_eq_zero
              rw [HL.out,h]
            · exact h
           rw [HL.out]
           exact hlast.out (len-1) (by omega) rfl⟩
          have HN2:=hide (HND.out _ (HG.out.below hbr.out (Nat.le_refl _)))
          have e0:=HKb.out.c0
          have HB2:=hide (Zab HA.out hbr.out)
          clear h255 hlast
          by_cases hnd:need (bss l)≤508
          · have HYES:Hid (MayL ⟨t,bss l⟩):=⟨HITL.out,HSO.out,hnd⟩
            have i5:((need (bss l):Nat):Int)≤508:=by omega
            generalize need (bss l)=nd at *
            go_wp2_with fail
            refine HN2.out.mono ?_
            rintro e w3 ⟨rfl,hb3⟩
            have HB3:=hide (Zab HB2.out hb3)
            clear hb3
            go_wp2_with fail
            go_ret
            exact⟨⟨true,rfl,by simp [HYES.out]⟩,HB3.out⟩
          · have HNO:Hid (¬MayL ⟨t,bss l⟩):=fun m=>hnd m.need
            have i5:¬((need (bss l):Nat):Int)≤508:=by omega
            generalize need (bss l)=nd at *
            go_wp2_with fail
            refine HN2.out.mono ?_
            rintro e w3 ⟨rfl,hb3⟩
            have HB3:=hide (Zab HB2.out hb3)
            clear hb3
            go_wp2_with fail
            go_ret
            refine⟨?_,HB3.out⟩
            show ZgT _ (.returned (.bool (decide ((nd:Int)≤508))))
            rw [decide_eq_false (Int.not_le.2 i5)]
            exact Zco HNO.out
  · have HNO:Hid (¬MayL ⟨t,bss l⟩):=fun m=>h4 ⟨by have h8:t.length=4:=m.itl.1;have h9:=HTL.out;omega,by have h9:=HL.out;have h8:(bss l).length≤64:=m.slots.1;omega⟩
    by_cases hu:ul=4
    · have j1:(64:Int)<(len:Int):=by omega
      subst hu
      clear h4
      go_enter Tryz.func41,Tryz.ntmps41
      go_wp2_with fail
      go_ret
      exact⟨Zco HNO.out,HA.out⟩
    · have j1:¬(ul:Int)=4:=by omega
      clear h4
      go_enter Tryz.func41,Tryz.ntmps41
      go_wp2_with fail
      go_ret
      exact⟨Zco HNO.out,HA.out⟩
end Go.Proofs.YtdojdcncncgncaaGreat
