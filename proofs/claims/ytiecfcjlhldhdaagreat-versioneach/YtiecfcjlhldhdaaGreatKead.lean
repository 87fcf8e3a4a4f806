/-
  Lemmas.
-/
import Derived.Test.YtiecfcjlhldhdaaGreatKeac
namespace Go.Proofs.YtiecfcjlhldhdaaGreat
open Go.RowKit
set_option linter.unusedVariables false
set_option linter.unusedSimpArgs false
set_option maxRecDepth 100000
set_option maxHeartbeats 4000000
variable {A:Act}
theorem gtrT (a c:Int)(x y:Operand)(h:c<a)(w:World):(do eqGuard .gtr 3 x y (.int .i64 a) (.int .i64 c);binOp .gtr 3 (.int .i64 a) (.int .i64 c):Sem Value).run Tryz.prog w=.ok (.bool true) w:=by
 simp [go_sem,eqGuard];first | done | omega
theorem gtrF (a c:Int)(x y:Operand)(h:¬(c<a))(w:World):(do eqGuard .gtr 3 x y (.int .i64 a) (.int .i64 c);binOp .gtr 3 (.int .i64 a) (.int .i64 c):Sem Value).run Tryz.prog w=.ok (.bool false) w:=by
 simp [go_sem,eqGuard];first | done | omega
theorem geqT (a c:Int)(x y:Operand)(h:c≤a)(w:World):(do eqGuard .geq 3 x y (.int .i64 a) (.int .i64 c);binOp .geq 3 (.int .i64 a) (.int .i64 c):Sem Value).run Tryz.prog w=.ok (.bool true) w:=by
 simp [go_sem,eqGuard];first | done | omega
theorem geqF (a c:Int)(x y:Operand)(h:¬(c≤a))(w:World):(do eqGuard .geq 3 x y (.int .i64 a) (.int .i64 c);binOp .geq 3 (.int .i64 a) (.int .i64 c):Sem Value).run Tryz.prog w=.ok (.bool false) w:=by
 simp [go_sem,eqGuard];first | done | omega
theorem eqlT (a c:Int)(x y:Operand)(h:a=c)(w:World):(do eqGuard .eql 3 x y (.int .i64 a) (.int .i64 c);binOp .eql 3 (.int .i64 a) (.int .i64 c):Sem Value).run Tryz.prog w=.ok (.bool true) w:=by
 simp [go_sem,eqGuard];first | done | omega
theorem eqlF (a c:Int)(x y:Operand)(h:¬(a=c))(w:World):(do eqGuard .eql 3 x y (.int .i64 a) (.int .i64 c);binOp .eql 3 (.int .i64 a) (.int .i64 c):Sem Value).run Tryz.prog w=.ok (.bool false) w:=by
 simp [go_sem,eqGuard];first | done | omega
theorem neqT (a c:Int)(x y:Operand)(h:a≠c)(w:World):(do eqGuard .neq 3 x y (.int .i64 a) (.int .i64 c);binOp .neq 3 (.int .i64 a) (.int .i64 c):Sem Value).run Tryz.prog w=.ok (.bool true) w:=by
 simp [go_sem,eqGuard];first | done | omega
theorem neqF (a c:Int)(x y:Operand)(h:¬(a≠c))(w:World):(do eqGuard .neq 3 x y (.int .i64 a) (.int .i64 c);binOp .neq 3 (.int .i64 a) (.int .i64 c):Sem Value).run Tryz.prog w=.ok (.bool false) w:=by
 simp [go_sem,eqGuard];first | done | omega
theorem Zab (w:World):Below w.heap.size w w.drew:=(Below.refl _ _).drew
theorem Zgc (p:Nat)(w:World):(Instr.fieldAt 101 (.pointer (some ⟨p,0,none⟩)) 0).run Tryz.prog w=.ok (.pointer (some ⟨p,0,none⟩)) w:=by simp [go_sem,Instr.fieldAt]
theorem ixI1 (b o len cap k:Nat)(hk:k<len)(w:World):(Instr.indexAt 29 (.slice (some ⟨b,o,none⟩) len cap) (.int .i64 (k:Int))).run Tryz.prog w=.ok (.pointer (some ⟨b,o+k,none⟩)) w:=by
 (have h2:(k:Int)<(len:Int):=by omega);simp [go_sem,Instr.indexAt,hk,Addr.add_lit]
theorem ldI1 (b o:Nat)(x:Int)(w:World)(h:w.cell? ⟨b,o,none⟩=some (.int .i64 x)):(Instr.loadAt 3 (.pointer (some ⟨b,o,none⟩))).run Tryz.prog w=.ok (.int .i64 x) w:=by
 simp [go_sem,Instr.loadAt,h]
theorem Zgk (p:Nat)(u:Sl)(v:Value)(w:World)(k:LfBlk w p u.val v):(Instr.loadAt 29 (.pointer (some ⟨p,0,none⟩))).run Tryz.prog w=.ok u.val w:=by
 have c0:=k.c0;obtain⟨a,len,cap⟩:=u;unfold Sl.val at *;simp [go_sem,Instr.loadAt,c0]
theorem Zag {w w':World}{b o:Nat}{u:Value}(h:w.cell? ⟨b,o,none⟩=some u)(hb:Below w.heap.size w w'):w'.cell? ⟨b,o,none⟩=some u:=(hb.cell (p:=⟨b,o,none⟩) (World.block_lt_of_cell? w _ h)).trans h
theorem Zqv (w:World)(g b o len cap i k:Nat)(v:Value)(x:Int)(hk:k<len)(hg:LfBlk w g (.slice (some ⟨b,o,none⟩) len cap) v)(hx:w.cell? ⟨b,o+k,none⟩=some (.int .i64 x))(h0:¬(x≠0))
    {Q:Exit→Act→World→Prop}(ab:A.tmps.size=92)(aa:A.defers=[])(s1:A.tmps.getD 1 undef=.pointer (some ⟨g,0,none⟩))(s3:A.tmps.getD 3 undef=.int .i64 (i:Int))(s4:A.tmps.getD 4 undef=.int .i64 (k:Int))
    (hend:∀(u:Nat→Value) w',Below w.heap.size w w'→Q .normal ((Pl.pu A u [39,40,41,42,43,44,45,46,47,48,49,50,51,52,53,54,55,56]).put (some 57) (.bool false)) w') :
    (Code.region 11 (Pl.find 11 ((Tryz.f83.body).getD .skip)) true).wp Tryz.prog Q A w:=by
  have hA:=Pl.At.same (v:=.int .i64 (k:Int)) (d:=4) (Pl.At.same (v:=.int .i64 (i:Int)) (d:=3) (Pl.At.same (v:=.pointer (some ⟨g,0,none⟩)) (d:=1) (Pl.At.here ab aa) s1) s3) s4;refine Pl.qa (S:=(fun w'=>Below w.heap.size w w')) hA (Zab w) ?_;rw [show (Pl.find 11 ((Tryz.f83.body).getD .skip)).size=19 by kernel_rfl];refine Pl.q0 0 39 (.pointer (some ⟨g,0,none⟩)) (Pl.q1) (Pl.q5 101 (.tmp 1) 0 (Zgc g)) (Zab w) ?_;refine Pl.q0 1 40 (.slice (some ⟨b,o,none⟩) len cap) (Pl.q1) (Pl.q4 29 (.tmp 39) (fun w' hS=>Zgk g ⟨some ⟨b,o,none⟩,len,cap⟩ v w' (hg.below hS))) (Zab w) ?_;refine Pl.q0 2 41 (.int .i64 (k:Int)) (Pl.q1) (Pl.q2 (.tmp 4)) (Zab w) ?_;refine Pl.q0 3 42 (.pointer (some ⟨b,o+k,none⟩)) (Pl.q1) (Pl.qb 29 (.tmp 40) (.tmp 41) (ixI1 b o len cap k hk)) (Zab w) ?_;refine Pl.q0 4 43 (.int .i64 x) (Pl.q1) (Pl.q4 3 (.tmp 42) (fun w' hS=>ldI1 b (o+k) x w' (Zag hx hS))) (Zab w) ?_;refine Pl.q0 5 44 (.bool false) (Pl.q1) (Pl.qc .neq 3 3 (.tmp 43) (.const (.int .i64 0)) (.int .i64 x) (.int .i64 0) (neqF x 0 _ _ h0)) (Zab w) ?_;refine Pl.q0 6 45 (.bool false) (Pl.q1) (Pl.q2 (.tmp 44)) (Zab w) ?_;refine Pl.q6 7 46 (Pl.q7 6 45 true) (Zab w) ?_;refine Pl.q6 8 47 (Pl.q7 6 45 true) (Zab w) ?_;refine Pl.q6 9 48 (Pl.q7 6 45 true) (Zab w) ?_;refine Pl.q6 10 49 (Pl.q7 6 45 true) (Zab w) ?_;refine Pl.q6 11 50 (Pl.q7 6 45 true) (Zab w) ?_;refine Pl.q6 12 51 (Pl.q7 6 45 true) (Zab w) ?_;refine Pl.q6 13 52 (Pl.q7 6 45 true) (Zab w) ?_;refine Pl.q6 14 53 (Pl.q7 6 45 true) (Zab w) ?_;refine Pl.q6 15 54 (Pl.q7 6 45 true) (Zab w) ?_;refine Pl.q6 16 55 (Pl.q7 6 45 true) (Zab w) ?_;refine Pl.q6 17 56 (Pl.q7 6 45 true) (Zab w) ?_;refine Pl.q0 18 57 (.bool false) (Pl.q1) (Pl.ql (.tmp 45) (.tmp 56) (.const (.bool false))) (Zab w) ?_;refine Pl.q8 (fun A' hA'=>?_);rw [Pl.At.ext hA' (((((((((((((((((((hA.put 39 _).put 40 _).put 41 _).put 42 _).put 43 _).put 44 _).put 45 _).put 46 _).put 47 _).put 48 _).put 49 _).put 50 _).put 51 _).put 52 _).put 53 _).put 54 _).put 55 _).put 56 _).put 57 _)];exact hend hA'.fn _ (Zab w)
theorem Zqw (w:World)(g b o len cap i k:Nat)(v:Value)(x y:Int)(hi:i<len)(hk:k<len)(hg:LfBlk w g (.slice (some ⟨b,o,none⟩) len cap) v)(hx:w.cell? ⟨b,o+k,none⟩=some (.int .i64 x))(hy:w.cell? ⟨b,o+i,none⟩=some (.int .i64 y))(h0:x≠0)(h1:x=y)
    {Q:Exit→Act→World→Prop}(ab:A.tmps.size=92)(aa:A.defers=[])(s1:A.tmps.getD 1 undef=.pointer (some ⟨g,0,none⟩))(s3:A.tmps.getD 3 undef=.int .i64 (i:Int))(s4:A.tmps.getD 4 undef=.int .i64 (k:Int))
    (hend:∀(u:Nat→Value) w',Below w.heap.size w w'→Q .normal ((Pl.pu A u [39,40,41,42,43,44,45,46,47,48,49,50,51,52,53,54,55,56]).put (some 57) (.bool true)) w') :
    (Code.region 11 (Pl.find 11 ((Tryz.f83.body).getD .skip)) true).wp Tryz.prog Q A w:=by
  have hA:=Pl.At.same (v:=.int .i64 (k:Int)) (d:=4) (Pl.At.same (v:=.int .i64 (i:Int)) (d:=3) (Pl.At.same (v:=.pointer (some ⟨g,0,none⟩)) (d:=1) (Pl.At.here ab aa) s1) s3) s4;refine Pl.qa (S:=(fun w'=>Below w.heap.size w w')) hA (Zab w) ?_;rw [show (Pl.find 11 ((Tryz.f83.body).getD .skip)).size=19 by kernel_rfl];refine Pl.q0 0 39 (.pointer (some ⟨g,0,none⟩)) (Pl.q1) (Pl.q5 101 (.tmp 1) 0 (Zgc g)) (Zab w) ?_;refine Pl.q0 1 40 (.slice (some ⟨b,o,none⟩) len cap) (Pl.q1) (Pl.q4 29 (.tmp 39) (fun w' hS=>Zgk g ⟨some ⟨b,o,none⟩,len,cap⟩ v w' (hg.below hS))) (Zab w) ?_;refine Pl.q0 2 41 (.int .i64 (k:Int)) (Pl.q1) (Pl.q2 (.tmp 4)) (Zab w) ?_;refine Pl.q0 3 42 (.pointer (some ⟨b,o+k,none⟩)) (Pl.q1) (Pl.qb 29 (.tmp 40) (.tmp 41) (ixI1 b o len cap k hk)) (Zab w) ?_;refine Pl.q0 4 43 (.int .i64 x) (Pl.q1) (Pl.q4 3 (.tmp 42) (fun w' hS=>ldI1 b (o+k) x w' (Zag hx hS))) (Zab w) ?_;refine Pl.q0 5 44 (.bool true) (Pl.q1) (Pl.qc .neq 3 3 (.tmp 43) (.const (.int .i64 0)) (.int .i64 x) (.int .i64 0) (neqT x 0 _ _ h0)) (Zab w) ?_;refine Pl.q0 6 45 (.bool true) (Pl.q1) (Pl.q2 (.tmp 44)) (Zab w) ?_;refine Pl.q0 7 46 (.pointer (some ⟨g,0,none⟩)) (Pl.q3 6 45 true) (Pl.q5 101 (.tmp 1) 0 (Zgc g)) (Zab w) ?_;refine Pl.q0 8 47 (.slice (some ⟨b,o,none⟩) len cap) (Pl.q3 6 45 true) (Pl.q4 29 (.tmp 46) (fun w' hS=>Zgk g ⟨some ⟨b,o,none⟩,len,cap⟩ v w' (hg.below hS))) (Zab w) ?_;refine Pl.q0 9 48 (.int .i64 (k:Int)) (Pl.q3 6 45 true) (Pl.q2 (.tmp 4)) (Zab w) ?_;refine Pl.q0 10 49 (.pointer (some ⟨b,o+k,none⟩)) (Pl.q3 6 45 true) (Pl.qb 29 (.tmp 47) (.tmp 48) (ixI1 b o len cap k hk)) (Zab w) ?_;refine Pl.q0 11 50 (.int .i64 x) (Pl.q3 6 45 true) (Pl.q4 3 (.tmp 49) (fun w' hS=>ldI1 b (o+k) x w' (Zag hx hS))) (Zab w) ?_;refine Pl.q0 12 51 (.pointer (some ⟨g,0,none⟩)) (Pl.q3 6 45 true) (Pl.q5 101 (.tmp 1) 0 (Zgc g)) (Zab w) ?_;refine Pl.q0 13 52 (.slice (some ⟨b,o,none⟩) len cap) (Pl.q3 6 45 true) (Pl.q4 29 (.tmp 51) (fun w' hS=>Zgk g ⟨some ⟨b,o,none⟩,len,cap⟩ v w' (hg.below hS))) (Zab w) ?_;refine Pl.q0 14 53 (.int .i64 (i:Int)) (Pl.q3 6 45 true) (Pl.q2 (.tmp 3)) (Zab w) ?_;refine Pl.q0 15 54 (.pointer (some ⟨b,o+i,none⟩)) (Pl.q3 6 45 true) (Pl.qb 29 (.tmp 52) (.tmp 53) (ixI1 b o len cap i hi)) (Zab w) ?_;refine Pl.q0 16 55 (.int .i64 y) (Pl.q3 6 45 true) (Pl.q4 3 (.tmp 54) (fun w' hS=>ldI1 b (o+i) y w' (Zag hy hS))) (Zab w) ?_;refine Pl.q0 17 56 (.bool true) (Pl.q3 6 45 true) (Pl.qc .eql 3 3 (.tmp 50) (.tmp 55) (.int .i64 x) (.int .i64 y) (eqlT x y _ _ h1)) (Zab w) ?_;refine Pl.q0 18 57 (.bool true) (Pl.q1) (Pl.qq (.tmp 45) (.tmp 56) (.const (.bool false))) (Zab w) ?_;refine Pl.q8 (fun A' hA'=>?_);rw [Pl.At.ext hA' (((((((((((((((((((hA.put 39 _).put 40 _).put 41 _).put 42 _).put 43 _).put 44 _).put 45 _).put 46 _).put 47 _).put 48 _).put 49 _).put 50 _).put 51 _).put 52 _).put 53 _).put 54 _).put 55 _).put 56 _).put 57 _)];exact hend hA'.fn _ (Zab w)
theorem Zqx (w:World)(g b o len cap i k:Nat)(v:Value)(x y:Int)(hi:i<len)(hk:k<len)(hg:LfBlk w g (.slice (some ⟨b,o,none⟩) len cap) v)(hx:w.cell? ⟨b,o+k,none⟩=some (.int .i64 x))(hy:w.cell? ⟨b,o+i,none⟩=some (.int .i64 y))(h0:x≠0)(h1:¬(x=y))
    {Q:Exit→Act→World→Prop}(ab:A.tmps.size=92)(aa:A.defers=[])(s1:A.tmps.getD 1 undef=.pointer (some ⟨g,0,none⟩))(s3:A.tmps.getD 3 undef=.int .i64 (i:Int))(s4:A.tmps.getD 4 undef=.int .i64 (k:Int))
    (hend:∀(u:Nat→Value) w',Below w.heap.size w w'→Q .normal ((Pl.pu A u [39,40,41,42,43,44,45,46,47,48,49,50,51,52,53,54,55,56]).put (some 57) (.bool false)) w') :
    (Code.region 11 (Pl.find 11 ((Tryz.f83.body).getD .skip)) true).wp Tryz.prog Q A w:=by
  have hA:=Pl.At.same (v:=.int .i64 (k:Int)) (d:=4) (Pl.At.same (v:=.int .i64 (i:Int)) (d:=3) (Pl.At.same (v:=.pointer (some ⟨g,0,none⟩)) (d:=1) (Pl.At.here ab aa) s1) s3) s4;refine Pl.qa (S:=(fun w'=>Below w.heap.size w w')) hA (Zab w) ?_;rw [show (Pl.find 11 ((Tryz.f83.body).getD .skip)).size=19 by kernel_rfl];refine Pl.q0 0 39 (.pointer (some ⟨g,0,none⟩)) (Pl.q1) (Pl.q5 101 (.tmp 1) 0 (Zgc g)) (Zab w) ?_;refine Pl.q0 1 40 (.slice (some ⟨b,o,none⟩) len cap) (Pl.q1) (Pl.q4 29 (.tmp 39) (fun w' hS=>Zgk g ⟨some ⟨b,o,none⟩,len,cap⟩ v w' (hg.below hS))) (Zab w) ?_;refine Pl.q0 2 41 (.int .i64 (k:Int)) (Pl.q1) (Pl.q2 (.tmp 4)) (Zab w) ?_;refine Pl.q0 3 42 (.pointer (some ⟨b,o+k,none⟩)) (Pl.q1) (Pl.qb 29 (.tmp 40) (.tmp 41) (ixI1 b o len cap k hk)) (Zab w) ?_;refine Pl.q0 4 43 (.int .i64 x) (Pl.q1) (Pl.q4 3 (.tmp 42) (fun w' hS=>ldI1 b (o+k) x w' (Zag hx hS))) (Zab w) ?_;refine Pl.q0 5 44 (.bool true) (Pl.q1) (Pl.qc .neq 3 3 (.tmp 43) (.const (.int .i64 0)) (.int .i64 x) (.int .i64 0) (neqT x 0 _ _ h0)) (Zab w) ?_;refine Pl.q0 6 45 (.bool true) (Pl.q1) (Pl.q2 (.tmp 44)) (Zab w) ?_;refine Pl.q0 7 46 (.pointer (some ⟨g,0,none⟩)) (Pl.q3 6 45 true) (Pl.q5 101 (.tmp 1) 0 (Zgc g)) (Zab w) ?_;refine Pl.q0 8 47 (.slice (some ⟨b,o,none⟩) len cap) (Pl.q3 6 45 true) (Pl.q4 29 (.tmp 46) (fun w' hS=>Zgk g ⟨some ⟨b,o,none⟩,len,cap⟩ v w' (hg.below hS))) (Zab w) ?_;refine Pl.q0 9 48 (.int .i64 (k:Int)) (Pl.q3 6 45 true) (Pl.q2 (.tmp 4)) (Zab w) ?_;refine Pl.q0 10 49 (.pointer (some ⟨b,o+k,none⟩)) (Pl.q3 6 45 true) (Pl.qb 29 (.tmp 47) (.tmp 48) (ixI1 b o len cap k hk)) (Zab w) ?_;refine Pl.q0 11 50 (.int .i64 x) (Pl.q3 6 45 true) (Pl.q4 3 (.tmp 49) (fun w' hS=>ldI1 b (o+k) x w' (Zag hx hS))) (Zab w) ?_;refine Pl.q0 12 51 (.pointer (some ⟨g,0,none⟩)) (Pl.q3 6 45 true) (Pl.q5 101 (.tmp 1) 0 (Zgc g)) (Zab w) ?_;refine Pl.q0 13 52 (.slice (some ⟨b,o,none⟩) len cap) (Pl.q3 6 45 true) (Pl.q4 29 (.tmp 51) (fun w' hS=>Zgk g ⟨some ⟨b,o,none⟩,len,cap⟩ v w' (hg.below hS))) (Zab w) ?_;refine Pl.q0 14 53 (.int .i64 (i:Int)) (Pl.q3 6 45 true) (Pl.q2 (.tmp 3)) (Zab w) ?_;refine Pl.q0 15 54 (.pointer (some ⟨b,o+i,none⟩)) (Pl.q3 6 45 true) (Pl.qb 29 (.tmp 52) (.tmp 53) (ixI1 b o len cap i hi)) (Zab w) ?_;refine Pl.q0 16 55 (.int .i64 y) (Pl.q3 6 45 true) (Pl.q4 3 (.tmp 54) (fun w' hS=>ldI1 b (o+i) y w' (Zag hy hS))) (Zab w) ?_;refine Pl.q0 17 56 (.bool false) (Pl.q3 6 45 true) (Pl.qc .eql 3 3 (.tmp 50) (.tmp 55) (.int .i64 x) (.int .i64 y) (eqlF x y _ _ h1)) (Zab w) ?_;refine Pl.q0 18 57 (.bool false) (Pl.q1) (Pl.qq (.tmp 45) (.tmp 56) (.const (.bool false))) (Zab w) ?_;refine Pl.q8 (fun A' hA'=>?_);rw [Pl.At.ext hA' (((((((((((((((((((hA.put 39 _).put 40 _).put 41 _).put 42 _).put 43 _).put 44 _).put 45 _).put 46 _).put 47 _).put 48 _).put 49 _).put 50 _).put 51 _).put 52 _).put 53 _).put 54 _).put 55 _).put 56 _).put 57 _)];exact hend hA'.fn _ (Zab w)
def ZhN (l:Lf) (e:Ending):Prop:=∃r:Bool,e=.returned (.bool r)∧(r=true↔MayL l)
theorem Zch {l:Lf}(h:¬MayL l):ZhN l (.returned (.bool false)):=⟨false,rfl,by simp [h]⟩
theorem Zm2 {D:Nat→Prop}(w:World)(u v:Sl)(t:List Int)(l:List Sb)(hi:Gi D w u t)(hg:Gb D w v l) :
    Calls Tryz.prog 83 #[lfV u v] w fun e w'=>ZhN ⟨t,bss l⟩ e∧Below w.heap.size w w':=by
  obtain⟨a,len,cap⟩:=v;obtain⟨ua,ul,uc⟩:=u;have hl:l.length=len:=hg.len;have bs:t.length=ul:=hi.len;have ca:len≤1000:=hg.big;have bt:ul≤1000000:=hi.big;have hA:=Zaa w (.cells #[.slice ua ul uc,.slice a len cap] 101);have HK:=hide (Za6 w (.slice ua ul uc) (.slice a len cap));have HG:=hide (hg.below hA (Nat.le_refl _));have HI:=hide (hi.below hA (Nat.le_refl _));have HA:=hide hA;(have HL:Hid ((bss l).length=len):=by show _=_;rw [Zaj];exact hl);have bn:=hide bs;have bw:=hide (fun W (hW:Gb D W ⟨a,len,cap⟩ l)=>Zh4 W ⟨ua,ul,uc⟩ _ l hW);clear hg hi hl bs hA;unfold lfV Sl.val at *;simp only at *;by_cases h4:ul=4∧len≤64
  · obtain⟨h4,ce⟩:=h4;subst h4;(have j1:¬(64:Int)<(len:Int):=by omega);go_enter Tryz.func83,Tryz.ntmps83;go_wp2_with fail;generalize w.alloc (.cells #[.slice ua 4 uc,.slice a len cap] 101)=W at *;have H0:=hide (Below.refl W.heap.size W);obtain⟨ub,uo,bl,_⟩:=HI.out.cell 0 (by show 0<4;omega);replace bl:ua=some ⟨ub,uo,none⟩:=bl;subst bl;have ba:Hid (∀i,i<4→W.cell? ⟨ub,uo+i,none⟩=some (.int .i64 (t.getD i 0))):=by
     intro i hi;obtain⟨b',o',ha,hc⟩:=HI.out.cell i hi;simp only [Option.some.injEq,Addr.mk.injEq,and_true] at ha;obtain⟨rfl,rfl⟩:=ha;exact hc
    go_loopw [3] (fun iv wr=>∃i:Nat,i≤4∧iv=.int .i64 (i:Nat)∧Hid (Below W.heap.size W wr)∧Hid (∀j,j<i→0≤t.getD j 0∧t.getD j 0≤2147483647)∧Hid (∀j,j<i→∀k,k<j→t.getD k 0≠0→t.getD k 0≠t.getD j 0)) (fun iv _=>4-(intOf iv).toNat)
    case atStart=>exact ⟨0,by omega,rfl,H0,fun _ h=>absurd h (Nat.not_lt_zero _),fun _ h=>absurd h (Nat.not_lt_zero _)⟩
    case round =>
     obtain⟨i,cg,rfl,af,bj,bh⟩:=hrel;rcases Nat.lt_or_ge i 4 with ap | cf
     · (have i1:(i:Int)<4:=by omega);have hk:=HK.out.below af.out;have c0:=hk.c0;have ci:=Zag (ba.out i ap) af.out;obtain⟨y,hy⟩:∃y,y=t.getD i 0:=⟨_,rfl⟩;rw [← hy] at ci;by_cases hr:0≤y∧y≤2147483647
       · obtain⟨bp,bq⟩:=hr;have HY:=hide hy;have cd:=hide hk;clear hy hk;go_wp2_with fail;go_loopw [4] (fun kv wz=>∃k:Nat,k≤i∧kv=.int .i64 (k:Nat)∧Hid (Below W.heap.size W wz)∧Hid (∀j,j<k→t.getD j 0≠0→t.getD j 0≠y)) (fun kv _=>i-(intOf kv).toNat)
         case atStart=>exact ⟨0,Nat.zero_le _,rfl,af,fun _ h=>absurd h (Nat.not_lt_zero _)⟩
         case round =>
          rename World=>wo;obtain⟨k,ch,rfl,al,ao⟩:=hrel;rcases Nat.lt_or_ge k i with aw | cb
          · (have i2:(k:Int)<(i:Int):=by omega);have an:=hide (HK.out.below al.out);have am:=hide (Zag (ba.out k (by omega)) al.out);(have ar:Hid (wo.cell? ⟨ub,uo+i,none⟩=some (.int .i64 y)):=by rw [HY.out];exact Zag (ba.out i ap) al.out);by_cases ai:t.getD k 0=0
            · have bc:Hid (∀j,j<k+1→t.getD j 0≠0→t.getD j 0≠y):=by
               intro j hj ag;by_cases e:j=k
               · rw [e] at ag;exact absurd ai ag
               · exact ao.out j (by omega) ag
              have au:=hide ai;clear ai ao;go_wp2_with fail;refine Pl.q9 (ops:=Pl.find 11 ((Tryz.f83.body).getD .skip)) ?_;refine Zqv _ w.heap.size ub uo 4 uc i k _ (t.getD k 0) (by omega) an.out am.out (fun h=>h au.out) (by rfl) rfl (by rfl) (by rfl) (by rfl) ?_;intro u1 w2 ah;simp only [Pl.pu,List.foldl,Act.put,List.setIfInBounds_toArray,List.set_cons_zero,List.set_cons_succ];have ab:=hide (Zac al.out ah);clear ah an am ar;go_wp2_with fail;go_roundw
              case rel=>exact ⟨k+1,by omega,by go_num,ab,bc⟩
              case measure=>simp only [intOf];omega
            · by_cases aq:t.getD k 0=y
              · have ae:Hid (¬MayL ⟨t,bss l⟩):=fun m=>m.itl.2.2 i ap k aw ai (by rw [← HY.out];exact aq);have au:=hide ai;have bf:=hide aq;clear ai aq ao;go_wp2_with fail;refine Pl.q9 (ops:=Pl.find 11 ((Tryz.f83.body).getD .skip)) ?_;refine Zqw _ w.heap.size ub uo 4 uc i k _ (t.getD k 0) y ap (by omega) an.out am.out ar.out au.out bf.out (by rfl) rfl (by rfl) (by rfl) (by rfl) ?_;intro u1 w2 ah;simp only [Pl.pu,List.foldl,Act.put,List.setIfInBounds_toArray,List.set_cons_zero,List.set_cons_succ];have ab:=hide (Zac HA.out (Zac al.out ah));clear ah an am ar;go_wp2_with fail;go_ret;exact⟨Zch ae.out,ab.out⟩
              · have bc:Hid (∀j,j<k+1→t.getD j 0≠0→t.getD j 0≠y):=by
                 intro j hj ag;by_cases e:j=k
                 · rw [e];exact aq
                 · exact ao.out j (by omega) ag
                have au:=hide ai;have bf:=hide aq;clear ai aq ao;go_wp2_with fail;refine Pl.q9 (ops:=Pl.find 11 ((Tryz.f83.body).getD .skip)) ?_;refine Zqx _ w.heap.size ub uo 4 uc i k _ (t.getD k 0) y ap (by omega) an.out am.out ar.out au.out bf.out (by rfl) rfl (by rfl) (by rfl) (by rfl) ?_;intro u1 w2 ah;simp only [Pl.pu,List.foldl,Act.put,List.setIfInBounds_toArray,List.set_cons_zero,List.set_cons_succ];have ab:=hide (Zac al.out ah);clear ah an am ar;go_wp2_with fail;go_roundw
                case rel=>exact ⟨k+1,by omega,by go_num,ab,bc⟩
                case measure=>simp only [intOf];omega
          · (have i2:¬(k:Int)<(i:Int):=by omega);have bx:Hid (∀j,j<i+1→0≤t.getD j 0∧t.getD j 0≤2147483647):=by
             intro j hj;by_cases e:j=i
             · rw [e,← HY.out];exact ⟨bp,bq⟩
             · exact bj.out j (by omega)
            have bu:Hid (∀j,j<i+1→∀k,k<j→t.getD k 0≠0→t.getD k 0≠t.getD j 0):=by
             intro j hj k' hk' ag;by_cases e:j=i
             · rw [e,← HY.out];exact ao.out k' (by omega) ag
             · exact bh.out j (by omega) k' hk' ag
            go_wp2_with fail;go_roundw
            case rel=>exact ⟨i+1,by omega,by go_num,al,bx,bu⟩
            case measure=>simp only [intOf];omega
       · have ae:Hid (¬MayL ⟨t,bss l⟩):=fun m=>hr (by rw [hy];exact m.itl.2.1 i ap);have ab:=hide (Zac HA.out af.out);by_cases bp:y<0
         · clear hr hy hk;go_wp2_with fail;go_ret;exact⟨Zch ae.out,ab.out⟩
         · (have bq:2147483647<y:=by omega);clear hr hy hk;go_wp2_with fail;go_ret;exact⟨Zch ae.out,ab.out⟩
     · (have i1:¬(i:Int)<4:=by omega);have bd:Hid (ItlOk t):=⟨bn.out,fun j hj=>bj.out j (by omega),fun j hj k hk=>bh.out j (by omega) k hk⟩;have hk:=HK.out.below af.out;have bv:=hide hk;have c1:=hk.c1;clear hk bj bh;go_wp2_with fail;go_loopw [5] (fun iv wz=>wz=wr∧∃k:Nat,k≤len∧iv=.int .i64 (k:Nat)∧Hid (∀j,j<k→(sl (bss l) j).length≤255)∧Hid (∀j,j<k→j=len-1→sl (bss l) j ≠ [])) (fun iv _=>len-(intOf iv).toNat)
       case atStart=>exact ⟨rfl,0,Nat.zero_le _,rfl,fun _ h=>absurd h (Nat.not_lt_zero _),fun _ h=>absurd h (Nat.not_lt_zero _)⟩
       case round =>
        rename World=>wo;obtain⟨cc,k,cj,rfl,ac,aa⟩:=hrel;subst cc;rcases Nat.lt_or_ge k len with aw | cb
        · (have i2:(k:Int)<(len:Int):=by omega);obtain⟨bb,oo,ha,d0⟩:=(HG.out.below af.out (Nat.le_refl _)).cell k aw;replace ha:a=some ⟨bb,oo,none⟩:=ha;subst ha;obtain⟨_,ay,ad⟩:=HG.out.at (i:=k) aw;obtain⟨⟨sa,sn,sc⟩,br⟩:∃s,s=(l.getD k Sb.zero).s:=⟨_,rfl⟩;rw [← br] at d0 ay;unfold Sl.val at d0;simp only at d0 ay;have ak:=hide ay;clear br ay;by_cases hb:255<sn
          · (have ae:Hid (¬MayL ⟨t,bss l⟩):=fun m=>by have:=m.slots.2.1 k (by rw [HL.out];exact aw);rw [← ak.out] at this;omega);have ab:=hide (Zac HA.out af.out);(have i3:(255:Int)<(sn:Int):=by omega);clear ac aa ad;go_wp2_with fail;go_ret;exact⟨Zch ae.out,ab.out⟩
          · (have i3:¬(255:Int)<(sn:Int):=by omega);have aj:Hid (∀j,j<k+1→(sl (bss l) j).length≤255):=by
             intro j hj;by_cases e:j=k
             · rw [e,← ak.out];omega
             · exact ac.out j (by omega)
            by_cases ax:k=len-1
            · (have i4:(k:Int)=(len:Int)-1:=by omega);by_cases bk:sn=0
              · have ae:Hid (¬MayL ⟨t,bss l⟩):=fun m=>by
                 have h9:=m.slots.2.2 (fun x=>by have h8:=HL.out;have h7:bss l=[]:=x;rw [h7] at h8;simp at h8;omega);apply h9;apply List.eq_nil_of_length_eq_zero;show (sl (bss l) ((bss l).length-1)).length=0;rw [HL.out,← ax,← ak.out,bk]
                have ab:=hide (Zac HA.out af.out);obtain⟨m,rfl⟩:∃m,len=m+1:=⟨len-1,by omega⟩;(obtain rfl:k=m:=by omega);subst bk;clear ac aa ad i4 ax aj ak;go_wp2_with fail;go_ret;exact⟨Zch ae.out,ab.out⟩
              · have be:Hid (∀j,j<k+1→j=len-1→sl (bss l) j ≠ []):=by
                 intro j hj bi;by_cases e:j=k
                 · rw [e];intro x;apply bk;rw [ak.out,x];rfl
                 · exact aa.out j (by omega) bi
                (have i5:¬(sn:Int)=0:=by omega);obtain⟨m,rfl⟩:∃m,len=m+1:=⟨len-1,by omega⟩;(obtain rfl:k=m:=by omega);clear ac aa ad i4 ax ak;go_wp2_with fail;go_roundw
                case rel=>exact ⟨trivial,k+1,by omega,by go_num,aj,be⟩
                case measure=>simp only [intOf];omega
            · (have i4:¬(k:Int)=(len:Int)-1:=by omega);have be:Hid (∀j,j<k+1→j=len-1→sl (bss l) j ≠ []):=by
               intro j hj bi;exact aa.out j (by omega) bi
              clear ac aa ad ax ak;go_wp2_with fail;go_roundw
              case rel=>exact ⟨trivial,k+1,by omega,by go_num,aj,be⟩
              case measure=>simp only [intOf];omega
        · (have i2:¬(k:Int)<(len:Int):=by omega);have bz:Hid (Za3 (bss l)):=⟨by rw [HL.out];omega,fun j hj=>ac.out j (by rw [HL.out] at hj;omega),fun ag=>by
           have h0:0<len:=by
            rcases Nat.eq_zero_or_pos len with h | h
            · exfalso;apply ag;apply List.eq_nil_of_length_eq_zero;rw [HL.out,h]
            · exact h
           rw [HL.out];exact aa.out (len-1) (by omega) rfl⟩
          have bm:=hide (bw.out _ (HG.out.below af.out (Nat.le_refl _)));have e0:=bv.out.c0;have ab:=hide (Zac HA.out af.out);clear ac aa;by_cases bo:need (bss l)≤508
          · have bg:Hid (MayL ⟨t,bss l⟩):=⟨bd.out,bz.out,bo⟩;(have i5:((need (bss l):Nat):Int)≤508:=by omega);generalize need (bss l)=nd at *;go_wp2_with fail;refine bm.out.mono ?_;rintro e w3 ⟨rfl,av⟩;have az:=hide (Zac ab.out av);clear av;go_wp2_with fail;go_ret;exact⟨⟨true,rfl,by simp [bg.out]⟩,az.out⟩
          · have ae:Hid (¬MayL ⟨t,bss l⟩):=fun m=>bo m.need;(have i5:¬((need (bss l):Nat):Int)≤508:=by omega);generalize need (bss l)=nd at *;go_wp2_with fail;refine bm.out.mono ?_;rintro e w3 ⟨rfl,av⟩;have az:=hide (Zac ab.out av);clear av;go_wp2_with fail;go_ret;refine⟨?_,az.out⟩;show ZhN _ (.returned (.bool (decide ((nd:Int)≤508))));rw [decide_eq_false (Int.not_le.2 i5)];exact Zch ae.out
  · have ae:Hid (¬MayL ⟨t,bss l⟩):=fun m=>h4 ⟨by have h8:t.length=4:=m.itl.1;have h9:=bn.out;omega,by have h9:=HL.out;have h8:(bss l).length≤64:=m.slots.1;omega⟩;by_cases hu:ul=4
    · (have j1:(64:Int)<(len:Int):=by omega);subst hu;clear h4;go_enter Tryz.func83,Tryz.ntmps83;go_wp2_with fail;go_ret;exact⟨Zch ae.out,HA.out⟩
    · (have j1:¬(ul:Int)=4:=by omega);clear h4;go_enter Tryz.func83,Tryz.ntmps83;go_wp2_with fail;go_ret;exact⟨Zch ae.out,HA.out⟩
end Go.Proofs.YtiecfcjlhldhdaaGreat
