/-
  Lemmas.
-/
import Derived.Test.YtiecfcjlhldhdaaGreatKnaa
namespace Go.Proofs.YtiecfcjlhldhdaaGreat
open Go.RowKit Go.Proofs.Tryz
set_option linter.unusedVariables false
set_option linter.unusedSimpArgs false
set_option maxRecDepth 100000
set_option maxHeartbeats 4000000
variable {w W w1:World}{v u:Sl}{l:List Sb}{t:List Int}{g i x:Nat}{A:Act}{fn:Func}
theorem lssT (a c:Int)(x y:Operand)(h:a<c)(w:World):(do eqGuard .lss 3 x y (.int .i64 a) (.int .i64 c);binOp .lss 3 (.int .i64 a) (.int .i64 c):Sem Value).run prog w=.ok (.bool true) w:=by
 simp [go_sem,eqGuard];first | done | omega
theorem lssF (a c:Int)(x y:Operand)(h:¬(a<c))(w:World):(do eqGuard .lss 3 x y (.int .i64 a) (.int .i64 c);binOp .lss 3 (.int .i64 a) (.int .i64 c):Sem Value).run prog w=.ok (.bool false) w:=by
 simp [go_sem,eqGuard];first | done | omega
theorem gtrT (a c:Int)(x y:Operand)(h:c<a)(w:World):(do eqGuard .gtr 3 x y (.int .i64 a) (.int .i64 c);binOp .gtr 3 (.int .i64 a) (.int .i64 c):Sem Value).run prog w=.ok (.bool true) w:=by
 simp [go_sem,eqGuard];first | done | omega
theorem gtrF (a c:Int)(x y:Operand)(h:¬(c<a))(w:World):(do eqGuard .gtr 3 x y (.int .i64 a) (.int .i64 c);binOp .gtr 3 (.int .i64 a) (.int .i64 c):Sem Value).run prog w=.ok (.bool false) w:=by
 simp [go_sem,eqGuard];first | done | omega
theorem geqT (a c:Int)(x y:Operand)(h:c≤a)(w:World):(do eqGuard .geq 3 x y (.int .i64 a) (.int .i64 c);binOp .geq 3 (.int .i64 a) (.int .i64 c):Sem Value).run prog w=.ok (.bool true) w:=by
 simp [go_sem,eqGuard];first | done | omega
theorem geqF (a c:Int)(x y:Operand)(h:¬(c≤a))(w:World):(do eqGuard .geq 3 x y (.int .i64 a) (.int .i64 c);binOp .geq 3 (.int .i64 a) (.int .i64 c):Sem Value).run prog w=.ok (.bool false) w:=by
 simp [go_sem,eqGuard];first | done | omega
theorem eqlT (a c:Int)(x y:Operand)(h:a=c)(w:World):(do eqGuard .eql 3 x y (.int .i64 a) (.int .i64 c);binOp .eql 3 (.int .i64 a) (.int .i64 c):Sem Value).run prog w=.ok (.bool true) w:=by
 simp [go_sem,eqGuard];first | done | omega
theorem eqlF (a c:Int)(x y:Operand)(h:¬(a=c))(w:World):(do eqGuard .eql 3 x y (.int .i64 a) (.int .i64 c);binOp .eql 3 (.int .i64 a) (.int .i64 c):Sem Value).run prog w=.ok (.bool false) w:=by
 simp [go_sem,eqGuard];first | done | omega
theorem neqT (a c:Int)(x y:Operand)(h:a≠c)(w:World):(do eqGuard .neq 3 x y (.int .i64 a) (.int .i64 c);binOp .neq 3 (.int .i64 a) (.int .i64 c):Sem Value).run prog w=.ok (.bool true) w:=by
 simp [go_sem,eqGuard];first | done | omega
theorem neqF (a c:Int)(x y:Operand)(h:¬(a≠c))(w:World):(do eqGuard .neq 3 x y (.int .i64 a) (.int .i64 c);binOp .neq 3 (.int .i64 a) (.int .i64 c):Sem Value).run prog w=.ok (.bool false) w:=by
 simp [go_sem,eqGuard];first | done | omega
theorem Zaa (w:World):Bl w w.drew:=(Below.refl _ _).drew
theorem Zgu (p:Nat)(w:World):(Instr.fieldAt 101 (.pointer (some ⟨p,0,none⟩)) 0).run prog w=.ok (.pointer (some ⟨p,0,none⟩)) w:=by simp [go_sem,Instr.fieldAt]
theorem ixI1 (b o len cap k:Nat)(hk:k<len)(w:World):(Instr.indexAt 29 (.slice (some ⟨b,o,none⟩) len cap) (.int .i64 (k:Int))).run prog w=.ok (.pointer (some ⟨b,o+k,none⟩)) w:=by
 (have h2:(k:Int)<(len:Int):=by omega);simp [go_sem,Instr.indexAt,hk,Addr.add_lit]
theorem ldI1 (b o:Nat)(x:Int)(w:World)(h:w.cell? ⟨b,o,none⟩=some (.int .i64 x)):(Instr.loadAt 3 (.pointer (some ⟨b,o,none⟩))).run prog w=.ok (.int .i64 x) w:=by
 simp [go_sem,Instr.loadAt,h]
theorem Zg1 (p:Nat)(u:Sl)(v:Value)(w:World)(k:LfBlk w p u.val v):(Instr.loadAt 29 (.pointer (some ⟨p,0,none⟩))).run prog w=.ok u.val w:=by
 have c0:=k.c0;obtain⟨a,len,cap⟩:=u;unfold Sl.val at *;simp [go_sem,Instr.loadAt,c0]
theorem Zaf {w':World}{b o:Nat}{u:Value}(h:w.cell? ⟨b,o,none⟩=some u)(hb:Bl w w'):w'.cell? ⟨b,o,none⟩=some u:=(hb.cell (p:=⟨b,o,none⟩) (World.block_lt_of_cell? w _ h)).trans h
theorem ZqX (w:World)(g b o len cap i k:Nat)(v:Value)(x:Int)(hk:k<len)(hg:LfBlk w g (.slice (some ⟨b,o,none⟩) len cap) v)(hx:w.cell? ⟨b,o+k,none⟩=some (.int .i64 x))(h0:¬(x≠0))
    {Q:Exit→Act→World→Prop}(ab:A.tmps.size=92)(aa:A.defers=[])(s1:A.tmps.getD 1 undef=.pointer (some ⟨g,0,none⟩))(s3:A.tmps.getD 3 undef=.int .i64 (i:Int))(s4:A.tmps.getD 4 undef=.int .i64 (k:Int))
    (hend:∀(u:Nat→Value) w',Bl w w'→Q .normal ((Pl.pu A u [39,40,41,42,43,44,45,46,47,48,49,50,51,52,53,54,55,56]).put (some 57) (.bool false)) w') :
    Pl.rg prog 11 f83 Q A w:=by
  have hA:=Pl.At.same (v:=.int .i64 (k:Int)) (d:=4) (Pl.At.same (v:=.int .i64 (i:Int)) (d:=3) (Pl.At.same (v:=.pointer (some ⟨g,0,none⟩)) (d:=1) (Pl.At.here ab aa) s1) s3) s4;refine Pl.qb (S:=(fun w'=>Bl w w')) hA (Zaa w) ?_;rw [show (Pl.fd 11 f83).size=19 by kernel_rfl];refine Pl.q0 0 39 (.pointer (some ⟨g,0,none⟩)) (Pl.q1) (Pl.q6 101 (.tmp 1) 0 (Zgu g)) (Zaa w) ?_;refine Pl.q0 1 40 (.slice (some ⟨b,o,none⟩) len cap) (Pl.q1) (Pl.q4 29 (.tmp 39) (fun w' hS=>Zg1 g ⟨some ⟨b,o,none⟩,len,cap⟩ v w' (hg.below hS))) (Zaa w) ?_;refine Pl.q0 2 41 (.int .i64 (k:Int)) (Pl.q1) (Pl.q2 (.tmp 4)) (Zaa w) ?_;refine Pl.q0 3 42 (.pointer (some ⟨b,o+k,none⟩)) (Pl.q1) (Pl.qa 29 (.tmp 40) (.tmp 41) (ixI1 b o len cap k hk)) (Zaa w) ?_;refine Pl.q0 4 43 (.int .i64 x) (Pl.q1) (Pl.q4 3 (.tmp 42) (fun w' hS=>ldI1 b (o+k) x w' (Zaf hx hS))) (Zaa w) ?_;refine Pl.q0 5 44 (.bool false) (Pl.q1) (Pl.qc .neq 3 3 (.tmp 43) (.const (.int .i64 0)) (.int .i64 x) (.int .i64 0) (neqF x 0 _ _ h0)) (Zaa w) ?_;refine Pl.q0 6 45 (.bool false) (Pl.q1) (Pl.q2 (.tmp 44)) (Zaa w) ?_;refine Pl.q5 7 46 (Pl.q7 6 45 true) (Zaa w) ?_;refine Pl.q5 8 47 (Pl.q7 6 45 true) (Zaa w) ?_;refine Pl.q5 9 48 (Pl.q7 6 45 true) (Zaa w) ?_;refine Pl.q5 10 49 (Pl.q7 6 45 true) (Zaa w) ?_;refine Pl.q5 11 50 (Pl.q7 6 45 true) (Zaa w) ?_;refine Pl.q5 12 51 (Pl.q7 6 45 true) (Zaa w) ?_;refine Pl.q5 13 52 (Pl.q7 6 45 true) (Zaa w) ?_;refine Pl.q5 14 53 (Pl.q7 6 45 true) (Zaa w) ?_;refine Pl.q5 15 54 (Pl.q7 6 45 true) (Zaa w) ?_;refine Pl.q5 16 55 (Pl.q7 6 45 true) (Zaa w) ?_;refine Pl.q5 17 56 (Pl.q7 6 45 true) (Zaa w) ?_;refine Pl.q0 18 57 (.bool false) (Pl.q1) (Pl.qk (.tmp 45) (.tmp 56) (.const (.bool false))) (Zaa w) ?_;refine Pl.q8 (fun A' hA'=>?_);exact Pl.en hA' hA [39,40,41,42,43,44,45,46,47,48,49,50,51,52,53,54,55,56,57] (hend hA'.fn _ (Zaa w))
theorem ZqY (w:World)(g b o len cap i k:Nat)(v:Value)(x y:Int)(hi:i<len)(hk:k<len)(hg:LfBlk w g (.slice (some ⟨b,o,none⟩) len cap) v)(hx:w.cell? ⟨b,o+k,none⟩=some (.int .i64 x))(hy:w.cell? ⟨b,o+i,none⟩=some (.int .i64 y))(h0:x≠0)(h1:x=y)
    {Q:Exit→Act→World→Prop}(ab:A.tmps.size=92)(aa:A.defers=[])(s1:A.tmps.getD 1 undef=.pointer (some ⟨g,0,none⟩))(s3:A.tmps.getD 3 undef=.int .i64 (i:Int))(s4:A.tmps.getD 4 undef=.int .i64 (k:Int))
    (hend:∀(u:Nat→Value) w',Bl w w'→Q .normal ((Pl.pu A u [39,40,41,42,43,44,45,46,47,48,49,50,51,52,53,54,55,56]).put (some 57) (.bool true)) w') :
    Pl.rg prog 11 f83 Q A w:=by
  have hA:=Pl.At.same (v:=.int .i64 (k:Int)) (d:=4) (Pl.At.same (v:=.int .i64 (i:Int)) (d:=3) (Pl.At.same (v:=.pointer (some ⟨g,0,none⟩)) (d:=1) (Pl.At.here ab aa) s1) s3) s4;refine Pl.qb (S:=(fun w'=>Bl w w')) hA (Zaa w) ?_;rw [show (Pl.fd 11 f83).size=19 by kernel_rfl];refine Pl.q0 0 39 (.pointer (some ⟨g,0,none⟩)) (Pl.q1) (Pl.q6 101 (.tmp 1) 0 (Zgu g)) (Zaa w) ?_;refine Pl.q0 1 40 (.slice (some ⟨b,o,none⟩) len cap) (Pl.q1) (Pl.q4 29 (.tmp 39) (fun w' hS=>Zg1 g ⟨some ⟨b,o,none⟩,len,cap⟩ v w' (hg.below hS))) (Zaa w) ?_;refine Pl.q0 2 41 (.int .i64 (k:Int)) (Pl.q1) (Pl.q2 (.tmp 4)) (Zaa w) ?_;refine Pl.q0 3 42 (.pointer (some ⟨b,o+k,none⟩)) (Pl.q1) (Pl.qa 29 (.tmp 40) (.tmp 41) (ixI1 b o len cap k hk)) (Zaa w) ?_;refine Pl.q0 4 43 (.int .i64 x) (Pl.q1) (Pl.q4 3 (.tmp 42) (fun w' hS=>ldI1 b (o+k) x w' (Zaf hx hS))) (Zaa w) ?_;refine Pl.q0 5 44 (.bool true) (Pl.q1) (Pl.qc .neq 3 3 (.tmp 43) (.const (.int .i64 0)) (.int .i64 x) (.int .i64 0) (neqT x 0 _ _ h0)) (Zaa w) ?_;refine Pl.q0 6 45 (.bool true) (Pl.q1) (Pl.q2 (.tmp 44)) (Zaa w) ?_;refine Pl.q0 7 46 (.pointer (some ⟨g,0,none⟩)) (Pl.q3 6 45 true) (Pl.q6 101 (.tmp 1) 0 (Zgu g)) (Zaa w) ?_;refine Pl.q0 8 47 (.slice (some ⟨b,o,none⟩) len cap) (Pl.q3 6 45 true) (Pl.q4 29 (.tmp 46) (fun w' hS=>Zg1 g ⟨some ⟨b,o,none⟩,len,cap⟩ v w' (hg.below hS))) (Zaa w) ?_;refine Pl.q0 9 48 (.int .i64 (k:Int)) (Pl.q3 6 45 true) (Pl.q2 (.tmp 4)) (Zaa w) ?_;refine Pl.q0 10 49 (.pointer (some ⟨b,o+k,none⟩)) (Pl.q3 6 45 true) (Pl.qa 29 (.tmp 47) (.tmp 48) (ixI1 b o len cap k hk)) (Zaa w) ?_;refine Pl.q0 11 50 (.int .i64 x) (Pl.q3 6 45 true) (Pl.q4 3 (.tmp 49) (fun w' hS=>ldI1 b (o+k) x w' (Zaf hx hS))) (Zaa w) ?_;refine Pl.q0 12 51 (.pointer (some ⟨g,0,none⟩)) (Pl.q3 6 45 true) (Pl.q6 101 (.tmp 1) 0 (Zgu g)) (Zaa w) ?_;refine Pl.q0 13 52 (.slice (some ⟨b,o,none⟩) len cap) (Pl.q3 6 45 true) (Pl.q4 29 (.tmp 51) (fun w' hS=>Zg1 g ⟨some ⟨b,o,none⟩,len,cap⟩ v w' (hg.below hS))) (Zaa w) ?_;refine Pl.q0 14 53 (.int .i64 (i:Int)) (Pl.q3 6 45 true) (Pl.q2 (.tmp 3)) (Zaa w) ?_;refine Pl.q0 15 54 (.pointer (some ⟨b,o+i,none⟩)) (Pl.q3 6 45 true) (Pl.qa 29 (.tmp 52) (.tmp 53) (ixI1 b o len cap i hi)) (Zaa w) ?_;refine Pl.q0 16 55 (.int .i64 y) (Pl.q3 6 45 true) (Pl.q4 3 (.tmp 54) (fun w' hS=>ldI1 b (o+i) y w' (Zaf hy hS))) (Zaa w) ?_;refine Pl.q0 17 56 (.bool true) (Pl.q3 6 45 true) (Pl.qc .eql 3 3 (.tmp 50) (.tmp 55) (.int .i64 x) (.int .i64 y) (eqlT x y _ _ h1)) (Zaa w) ?_;refine Pl.q0 18 57 (.bool true) (Pl.q1) (Pl.qp (.tmp 45) (.tmp 56) (.const (.bool false))) (Zaa w) ?_;refine Pl.q8 (fun A' hA'=>?_);exact Pl.en hA' hA [39,40,41,42,43,44,45,46,47,48,49,50,51,52,53,54,55,56,57] (hend hA'.fn _ (Zaa w))
theorem ZqZ (w:World)(g b o len cap i k:Nat)(v:Value)(x y:Int)(hi:i<len)(hk:k<len)(hg:LfBlk w g (.slice (some ⟨b,o,none⟩) len cap) v)(hx:w.cell? ⟨b,o+k,none⟩=some (.int .i64 x))(hy:w.cell? ⟨b,o+i,none⟩=some (.int .i64 y))(h0:x≠0)(h1:¬(x=y))
    {Q:Exit→Act→World→Prop}(ab:A.tmps.size=92)(aa:A.defers=[])(s1:A.tmps.getD 1 undef=.pointer (some ⟨g,0,none⟩))(s3:A.tmps.getD 3 undef=.int .i64 (i:Int))(s4:A.tmps.getD 4 undef=.int .i64 (k:Int))
    (hend:∀(u:Nat→Value) w',Bl w w'→Q .normal ((Pl.pu A u [39,40,41,42,43,44,45,46,47,48,49,50,51,52,53,54,55,56]).put (some 57) (.bool false)) w') :
    Pl.rg prog 11 f83 Q A w:=by
  have hA:=Pl.At.same (v:=.int .i64 (k:Int)) (d:=4) (Pl.At.same (v:=.int .i64 (i:Int)) (d:=3) (Pl.At.same (v:=.pointer (some ⟨g,0,none⟩)) (d:=1) (Pl.At.here ab aa) s1) s3) s4;refine Pl.qb (S:=(fun w'=>Bl w w')) hA (Zaa w) ?_;rw [show (Pl.fd 11 f83).size=19 by kernel_rfl];refine Pl.q0 0 39 (.pointer (some ⟨g,0,none⟩)) (Pl.q1) (Pl.q6 101 (.tmp 1) 0 (Zgu g)) (Zaa w) ?_;refine Pl.q0 1 40 (.slice (some ⟨b,o,none⟩) len cap) (Pl.q1) (Pl.q4 29 (.tmp 39) (fun w' hS=>Zg1 g ⟨some ⟨b,o,none⟩,len,cap⟩ v w' (hg.below hS))) (Zaa w) ?_;refine Pl.q0 2 41 (.int .i64 (k:Int)) (Pl.q1) (Pl.q2 (.tmp 4)) (Zaa w) ?_;refine Pl.q0 3 42 (.pointer (some ⟨b,o+k,none⟩)) (Pl.q1) (Pl.qa 29 (.tmp 40) (.tmp 41) (ixI1 b o len cap k hk)) (Zaa w) ?_;refine Pl.q0 4 43 (.int .i64 x) (Pl.q1) (Pl.q4 3 (.tmp 42) (fun w' hS=>ldI1 b (o+k) x w' (Zaf hx hS))) (Zaa w) ?_;refine Pl.q0 5 44 (.bool true) (Pl.q1) (Pl.qc .neq 3 3 (.tmp 43) (.const (.int .i64 0)) (.int .i64 x) (.int .i64 0) (neqT x 0 _ _ h0)) (Zaa w) ?_;refine Pl.q0 6 45 (.bool true) (Pl.q1) (Pl.q2 (.tmp 44)) (Zaa w) ?_;refine Pl.q0 7 46 (.pointer (some ⟨g,0,none⟩)) (Pl.q3 6 45 true) (Pl.q6 101 (.tmp 1) 0 (Zgu g)) (Zaa w) ?_;refine Pl.q0 8 47 (.slice (some ⟨b,o,none⟩) len cap) (Pl.q3 6 45 true) (Pl.q4 29 (.tmp 46) (fun w' hS=>Zg1 g ⟨some ⟨b,o,none⟩,len,cap⟩ v w' (hg.below hS))) (Zaa w) ?_;refine Pl.q0 9 48 (.int .i64 (k:Int)) (Pl.q3 6 45 true) (Pl.q2 (.tmp 4)) (Zaa w) ?_;refine Pl.q0 10 49 (.pointer (some ⟨b,o+k,none⟩)) (Pl.q3 6 45 true) (Pl.qa 29 (.tmp 47) (.tmp 48) (ixI1 b o len cap k hk)) (Zaa w) ?_;refine Pl.q0 11 50 (.int .i64 x) (Pl.q3 6 45 true) (Pl.q4 3 (.tmp 49) (fun w' hS=>ldI1 b (o+k) x w' (Zaf hx hS))) (Zaa w) ?_;refine Pl.q0 12 51 (.pointer (some ⟨g,0,none⟩)) (Pl.q3 6 45 true) (Pl.q6 101 (.tmp 1) 0 (Zgu g)) (Zaa w) ?_;refine Pl.q0 13 52 (.slice (some ⟨b,o,none⟩) len cap) (Pl.q3 6 45 true) (Pl.q4 29 (.tmp 51) (fun w' hS=>Zg1 g ⟨some ⟨b,o,none⟩,len,cap⟩ v w' (hg.below hS))) (Zaa w) ?_;refine Pl.q0 14 53 (.int .i64 (i:Int)) (Pl.q3 6 45 true) (Pl.q2 (.tmp 3)) (Zaa w) ?_;refine Pl.q0 15 54 (.pointer (some ⟨b,o+i,none⟩)) (Pl.q3 6 45 true) (Pl.qa 29 (.tmp 52) (.tmp 53) (ixI1 b o len cap i hi)) (Zaa w) ?_;refine Pl.q0 16 55 (.int .i64 y) (Pl.q3 6 45 true) (Pl.q4 3 (.tmp 54) (fun w' hS=>ldI1 b (o+i) y w' (Zaf hy hS))) (Zaa w) ?_;refine Pl.q0 17 56 (.bool false) (Pl.q3 6 45 true) (Pl.qc .eql 3 3 (.tmp 50) (.tmp 55) (.int .i64 x) (.int .i64 y) (eqlF x y _ _ h1)) (Zaa w) ?_;refine Pl.q0 18 57 (.bool false) (Pl.q1) (Pl.qp (.tmp 45) (.tmp 56) (.const (.bool false))) (Zaa w) ?_;refine Pl.q8 (fun A' hA'=>?_);exact Pl.en hA' hA [39,40,41,42,43,44,45,46,47,48,49,50,51,52,53,54,55,56,57] (hend hA'.fn _ (Zaa w))
def Zif (l:Lf) (e:Ending):Prop:=∃r:Bool,e=.returned (.bool r)∧(r=true↔MayL l)
theorem Zcm {l:Lf}(h:¬MayL l):Zif l (.returned (.bool false)):=⟨false,rfl,by simp [h]⟩
theorem ZmL {D:Nat→Prop}(w:World)(u v:Sl)(t:List Int)(l:List Sb)(hi:Gi D w u t)(hg:Gb D w v l) :
    Calls prog 83 #[lfV u v] w fun e w'=>Zif ⟨t,bss l⟩ e∧Bl w w':=by
  obtain⟨a,len,cap⟩:=v;obtain⟨ua,ul,uc⟩:=u;have hl:l.length=len:=hg.len;have bs:t.length=ul:=hi.len;have ca:len≤1000:=hg.big;have bt:ul≤1000000:=hi.big;have hA:=Zab w (.cells #[.slice ua ul uc,.slice a len cap] 101);have HK:=Zh (ZaB w (.slice ua ul uc) (.slice a len cap));have HG:=Zh (hg.below hA (Nat.le_refl _));have HI:=Zh (hi.below hA (Nat.le_refl _));have HA:=Zh hA;(have HL:Hi ((bss l).length=len):=by show _=_;rw [Zaj];exact hl);have bn:=Zh bs;have bw:=Zh (fun W (hW:Gb D W ⟨a,len,cap⟩ l)=>ZhK W ⟨ua,ul,uc⟩ _ l hW);clear hg hi hl bs hA;unfold lfV Sl.val at *;simp only at *;by_cases h4:ul=4∧len≤64
  · obtain⟨h4,ce⟩:=h4;subst h4;(have j1:¬(64:Int)<(len:Int):=by omega);go_enter func83,ntmps83;go_wp2_with fail;generalize w.alloc (.cells #[.slice ua 4 uc,.slice a len cap] 101)=W at *;have H0:=Zh (Below.refl W.heap.size W);obtain⟨ub,uo,bl,_⟩:=HI.o.cell 0 (by show 0<4;omega);replace bl:ua=some ⟨ub,uo,none⟩:=bl;subst bl;have ba:Hi (∀i,i<4→W.cell? ⟨ub,uo+i,none⟩=some (.int .i64 (t.getD i 0))):=by
     intro i hi;obtain⟨b',o',ha,hc⟩:=HI.o.cell i hi;simp only [Option.some.injEq,Addr.mk.injEq,and_true] at ha;obtain⟨rfl,rfl⟩:=ha;exact hc
    go_loopw [3] (fun iv wr=>∃i:Nat,i≤4∧iv=.int .i64 (i:Nat)∧Hi (Bl W wr)∧Hi (∀j,j<i→0≤t.getD j 0∧t.getD j 0≤2147483647)∧Hi (∀j,j<i→∀k,k<j→t.getD k 0≠0→t.getD k 0≠t.getD j 0)) (fun iv _=>4-(intOf iv).toNat)
    case atStart=>exact ⟨0,by omega,rfl,H0,fun _ h=>absurd h (Nat.not_lt_zero _),fun _ h=>absurd h (Nat.not_lt_zero _)⟩
    case round =>
     obtain⟨i,cg,rfl,af,bj,bh⟩:=hrel;rcases Nat.lt_or_ge i 4 with ap | cf
     · (have i1:(i:Int)<4:=by omega);have hk:=HK.o.below af.o;have c0:=hk.c0;have ci:=Zaf (ba.o i ap) af.o;obtain⟨y,hy⟩:∃y,y=t.getD i 0:=⟨_,rfl⟩;rw [← hy] at ci;by_cases hr:0≤y∧y≤2147483647
       · obtain⟨bp,bq⟩:=hr;have HY:=Zh hy;have cd:=Zh hk;clear hy hk;go_wp2_with fail;go_loopw [4] (fun kv wz=>∃k:Nat,k≤i∧kv=.int .i64 (k:Nat)∧Hi (Bl W wz)∧Hi (∀j,j<k→t.getD j 0≠0→t.getD j 0≠y)) (fun kv _=>i-(intOf kv).toNat)
         case atStart=>exact ⟨0,Nat.zero_le _,rfl,af,fun _ h=>absurd h (Nat.not_lt_zero _)⟩
         case round =>
          rename World=>wo;obtain⟨k,ch,rfl,al,ao⟩:=hrel;rcases Nat.lt_or_ge k i with aw | cb
          · (have i2:(k:Int)<(i:Int):=by omega);have an:=Zh (HK.o.below al.o);have am:=Zh (Zaf (ba.o k (by omega)) al.o);(have ar:Hi (wo.cell? ⟨ub,uo+i,none⟩=some (.int .i64 y)):=by rw [HY.o];exact Zaf (ba.o i ap) al.o);by_cases ai:t.getD k 0=0
            · have bc:Hi (∀j,j<k+1→t.getD j 0≠0→t.getD j 0≠y):=by
               intro j hj ag;by_cases e:j=k
               · rw [e] at ag;exact absurd ai ag
               · exact ao.o j (by omega) ag
              have au:=Zh ai;clear ai ao;go_wp2_with fail;refine Pl.q9 (ops:=Pl.fd 11 f83) ?_;refine ZqX _ w.heap.size ub uo 4 uc i k _ (t.getD k 0) (by omega) an.o am.o (fun h=>h au.o) (by rfl) rfl (by rfl) (by rfl) (by rfl) ?_;intro u1 w2 ah;simp only [Pl.pu,List.foldl,Act.put,List.setIfInBounds_toArray,List.set];have ab:=Zh (Zac al.o ah);clear ah an am ar;go_wp2;go_roundw;exact ⟨k+1,by omega,by go_num,ab,bc⟩;simp only [intOf];omega
            · by_cases aq:t.getD k 0=y
              · have ae:Hi (¬MayL ⟨t,bss l⟩):=fun m=>m.itl.2.2 i ap k aw ai (by rw [← HY.o];exact aq);have au:=Zh ai;have bf:=Zh aq;clear ai aq ao;go_wp2_with fail;refine Pl.q9 (ops:=Pl.fd 11 f83) ?_;refine ZqY _ w.heap.size ub uo 4 uc i k _ (t.getD k 0) y ap (by omega) an.o am.o ar.o au.o bf.o (by rfl) rfl (by rfl) (by rfl) (by rfl) ?_;intro u1 w2 ah;simp only [Pl.pu,List.foldl,Act.put,List.setIfInBounds_toArray,List.set];have ab:=Zh (Zac HA.o (Zac al.o ah));clear ah an am ar;go_wp2;go_ret;exact⟨Zcm ae.o,ab.o⟩
              · have bc:Hi (∀j,j<k+1→t.getD j 0≠0→t.getD j 0≠y):=by
                 intro j hj ag;by_cases e:j=k
                 · rw [e];exact aq
                 · exact ao.o j (by omega) ag
                have au:=Zh ai;have bf:=Zh aq;clear ai aq ao;go_wp2_with fail;refine Pl.q9 (ops:=Pl.fd 11 f83) ?_;refine ZqZ _ w.heap.size ub uo 4 uc i k _ (t.getD k 0) y ap (by omega) an.o am.o ar.o au.o bf.o (by rfl) rfl (by rfl) (by rfl) (by rfl) ?_;intro u1 w2 ah;simp only [Pl.pu,List.foldl,Act.put,List.setIfInBounds_toArray,List.set];have ab:=Zh (Zac al.o ah);clear ah an am ar;go_wp2;go_roundw;exact ⟨k+1,by omega,by go_num,ab,bc⟩;simp only [intOf];omega
          · (have i2:¬(k:Int)<(i:Int):=by omega);have bx:Hi (∀j,j<i+1→0≤t.getD j 0∧t.getD j 0≤2147483647):=by
             intro j hj;by_cases e:j=i
             · rw [e,← HY.o];exact ⟨bp,bq⟩
             · exact bj.o j (by omega)
            have bu:Hi (∀j,j<i+1→∀k,k<j→t.getD k 0≠0→t.getD k 0≠t.getD j 0):=by
             intro j hj k' hk' ag;by_cases e:j=i
             · rw [e,← HY.o];exact ao.o k' (by omega) ag
             · exact bh.o j (by omega) k' hk' ag
            go_wp2;go_roundw;exact ⟨i+1,by omega,by go_num,al,bx,bu⟩;simp only [intOf];omega
       · have ae:Hi (¬MayL ⟨t,bss l⟩):=fun m=>hr (by rw [hy];exact m.itl.2.1 i ap);have ab:=Zh (Zac HA.o af.o);by_cases bp:y<0
         · clear hr hy hk;go_wp2;go_ret;exact⟨Zcm ae.o,ab.o⟩
         · (have bq:2147483647<y:=by omega);clear hr hy hk;go_wp2;go_ret;exact⟨Zcm ae.o,ab.o⟩
     · (have i1:¬(i:Int)<4:=by omega);have bd:Hi (ItlOk t):=⟨bn.o,fun j hj=>bj.o j (by omega),fun j hj k hk=>bh.o j (by omega) k hk⟩;have hk:=HK.o.below af.o;have bv:=Zh hk;have c1:=hk.c1;clear hk bj bh;go_wp2_with fail;go_loopw [5] (fun iv wz=>wz=wr∧∃k:Nat,k≤len∧iv=.int .i64 (k:Nat)∧Hi (∀j,j<k→(sl (bss l) j).length≤255)∧Hi (∀j,j<k→j=len-1→sl (bss l) j ≠ [])) (fun iv _=>len-(intOf iv).toNat)
       case atStart=>exact ⟨rfl,0,Nat.zero_le _,rfl,fun _ h=>absurd h (Nat.not_lt_zero _),fun _ h=>absurd h (Nat.not_lt_zero _)⟩
       case round =>
        rename World=>wo;obtain⟨cc,k,cj,rfl,ac,aa⟩:=hrel;subst cc;rcases Nat.lt_or_ge k len with aw | cb
        · (have i2:(k:Int)<(len:Int):=by omega);obtain⟨bb,oo,ha,d0⟩:=(HG.o.below af.o (Nat.le_refl _)).cell k aw;replace ha:a=some ⟨bb,oo,none⟩:=ha;subst ha;obtain⟨_,ay,ad⟩:=HG.o.at (i:=k) aw;obtain⟨⟨sa,sn,sc⟩,br⟩:∃s,s=(l.getD k Sb.zero).s:=⟨_,rfl⟩;rw [← br] at d0 ay;unfold Sl.val at d0;simp only at d0 ay;have ak:=Zh ay;clear br ay;by_cases hb:255<sn
          · (have ae:Hi (¬MayL ⟨t,bss l⟩):=fun m=>by have:=m.slots.2.1 k (by rw [HL.o];exact aw);rw [← ak.o] at this;omega);have ab:=Zh (Zac HA.o af.o);(have i3:(255:Int)<(sn:Int):=by omega);clear ac aa ad;go_wp2;go_ret;exact⟨Zcm ae.o,ab.o⟩
          · (have i3:¬(255:Int)<(sn:Int):=by omega);have aj:Hi (∀j,j<k+1→(sl (bss l) j).length≤255):=by
             intro j hj;by_cases e:j=k
             · rw [e,← ak.o];omega
             · exact ac.o j (by omega)
            by_cases ax:k=len-1
            · (have i4:(k:Int)=(len:Int)-1:=by omega);by_cases bk:sn=0
              · have ae:Hi (¬MayL ⟨t,bss l⟩):=fun m=>by
                 have h9:=m.slots.2.2 (fun x=>by have h8:=HL.o;have h7:bss l=[]:=x;rw [h7] at h8;simp at h8;omega);apply h9;apply List.eq_nil_of_length_eq_zero;show (sl (bss l) ((bss l).length-1)).length=0;rw [HL.o,← ax,← ak.o,bk]
                have ab:=Zh (Zac HA.o af.o);obtain⟨m,rfl⟩:∃m,len=m+1:=⟨len-1,by omega⟩;(obtain rfl:k=m:=by omega);subst bk;clear ac aa ad i4 ax aj ak;go_wp2;go_ret;exact⟨Zcm ae.o,ab.o⟩
              · have be:Hi (∀j,j<k+1→j=len-1→sl (bss l) j ≠ []):=by
                 intro j hj bi;by_cases e:j=k
                 · rw [e];intro x;apply bk;rw [ak.o,x];rfl
                 · exact aa.o j (by omega) bi
                (have i5:¬(sn:Int)=0:=by omega);obtain⟨m,rfl⟩:∃m,len=m+1:=⟨len-1,by omega⟩;(obtain rfl:k=m:=by omega);clear ac aa ad i4 ax ak;go_wp2;go_roundw;exact ⟨trivial,k+1,by omega,by go_num,aj,be⟩;simp only [intOf];omega
            · (have i4:¬(k:Int)=(len:Int)-1:=by omega);have be:Hi (∀j,j<k+1→j=len-1→sl (bss l) j ≠ []):=by
               intro j hj bi;exact aa.o j (by omega) bi
              clear ac aa ad ax ak;go_wp2;go_roundw;exact ⟨trivial,k+1,by omega,by go_num,aj,be⟩;simp only [intOf];omega
        · (have i2:¬(k:Int)<(len:Int):=by omega);have bz:Hi (Za6 (bss l)):=⟨by rw [HL.o];omega,fun j hj=>ac.o j (by rw [HL.o] at hj;omega),fun ag=>by
           have h0:0<len:=by
            rcases Nat.eq_zero_or_pos len with h | h
            · exfalso;apply ag;apply List.eq_nil_of_length_eq_zero;rw [HL.o,h]
            · exact h
           rw [HL.o];exact aa.o (len-1) (by omega) rfl⟩
          have bm:=Zh (bw.o _ (HG.o.below af.o (Nat.le_refl _)));have e0:=bv.o.c0;have ab:=Zh (Zac HA.o af.o);clear ac aa;by_cases bo:need (bss l)≤508
          · have bg:Hi (MayL ⟨t,bss l⟩):=⟨bd.o,bz.o,bo⟩;(have i5:((need (bss l):Nat):Int)≤508:=by omega);generalize need (bss l)=nd at *;go_wp2_with fail;refine bm.o.mono ?_;rintro e w3 ⟨rfl,av⟩;have az:=Zh (Zac ab.o av);clear av;go_wp2;go_ret;exact⟨⟨true,rfl,by simp [bg.o]⟩,az.o⟩
          · have ae:Hi (¬MayL ⟨t,bss l⟩):=fun m=>bo m.need;(have i5:¬((need (bss l):Nat):Int)≤508:=by omega);generalize need (bss l)=nd at *;go_wp2_with fail;refine bm.o.mono ?_;rintro e w3 ⟨rfl,av⟩;have az:=Zh (Zac ab.o av);clear av;go_wp2;go_ret;refine⟨?_,az.o⟩;show Zif _ (.returned (.bool (decide ((nd:Int)≤508))));rw [decide_eq_false (Int.not_le.2 i5)];exact Zcm ae.o
  · have ae:Hi (¬MayL ⟨t,bss l⟩):=fun m=>h4 ⟨by have h8:t.length=4:=m.itl.1;have h9:=bn.o;omega,by have h9:=HL.o;have h8:(bss l).length≤64:=m.slots.1;omega⟩;by_cases hu:ul=4
    · (have j1:(64:Int)<(len:Int):=by omega);subst hu;clear h4;go_enter func83,ntmps83;go_wp2;go_ret;exact⟨Zcm ae.o,HA.o⟩
    · (have j1:¬(ul:Int)=4:=by omega);clear h4;go_enter func83,ntmps83;go_wp2;go_ret;exact⟨Zcm ae.o,HA.o⟩
theorem Zmb:(prog.info? 107).map (fun i=>(i.zero,i.size,i.bytes))=some (some (.slice none 0 0),1,24):=by kernel_rfl
def ZaZ (l:List Sb):List Value:=l.map fun x=>x.s.val
theorem Zd6 (l:List Sb):∀u∈ZaZ l,u.oneCell'=true:=by
 intro u hu;obtain⟨i,_,rfl⟩:=List.mem_map.1 hu;rfl
theorem Zf0 (h:i<l.length):(ZaZ l)[i]? = some (l.getD i Sb.zero).s.val:=by simp [ZaZ,List.getD,h]
theorem ZbO (l:List Sb):(ZaZ l).length=l.length:=by simp [ZaZ]
def OwnB (w:World) (v:Sl) (l:List Sb):Prop:=Own 107 1 w v (ZaZ l)
theorem OwnB.len (h:OwnB w v l):l.length=v.len:=by
 have:=h.1;rw [ZbO] at this;omega
theorem OwnB.new (w:World):OwnB (w.alloc (.cells #[] 107)) ⟨some ⟨w.heap.size,0,none⟩,0,0⟩ []:=
 ⟨rfl,.inr ⟨w.heap.size,0,_,rfl,heap_alloc_new w _,by simp,Nat.le_refl _,by simp,rfl⟩⟩
theorem OwnB.cellAt (h:OwnB w v l){off:Nat}(ha:v.a=some ⟨g,off,none⟩)(hi:i<v.len):w.cell? ⟨g,off+i,none⟩=some (l.getD i Sb.zero).s.val:=by
 have:=h.cell ha i _ (Zf0 (by rw [h.len];exact hi));rwa [Addr.add_lit] at this
theorem OwnB.frozen (h:OwnB w v l){off:Nat}(ha:v.a=some ⟨g,off,none⟩)(o:Nat):w.frozen? ⟨g,o,none⟩=false:=by
 obtain⟨cur,hc⟩:=h.kind (k:=g) (by rw [Sl.blk,ha];rfl);exact frozen_of_row w g _ cur 107 hc
theorem OwnB.pos (h:OwnB w v l)(hp:0<v.len):∃g off,v.a=some ⟨g,off,none⟩:=by
 rcases h.2 with ⟨h0,_⟩ | ⟨g,off,cur,ha,_⟩
 · rw [h0] at hp;exact absurd hp (Nat.not_lt_zero _)
 · exact⟨g,off,ha⟩
theorem OwnB.gb {D:Nat→Prop}(h:OwnB w v l)(hb:∀x∈l,Cm D w x.s x.bs∧x.bs.length≤1000)(hD:∀k,v.blk=some k→D k)(hm:v.len≤1000):Gb D w v l:=by
 refine⟨h.len,h.nilcap,h.lecap,hm,fun ad ha _=>hD _ (by rw [Sl.blk,ha];rfl),fun i hi=>?_,hb⟩;obtain⟨g,off,ha⟩:=h.pos (by omega);exact⟨g,off,ha,h.cellAt ha hi⟩
theorem Gb.src {D:Nat→Prop}(h:Gb D w v l):Src prog 1 99 v.val v.len (ZaZ l) w:=by
 obtain⟨a,len,cap⟩:=v;have hl:l.length=len:=h.len;cases a with
 | none =>
  have hc:cap=0:=h.nil rfl;(have h0:len=0:=by have:len≤cap:=h.le;omega);subst hc;subst h0;have:l=[]:=List.eq_nil_of_length_eq_zero hl;subst this;exact Src.ofNil w underlying99 0
 | some ad =>
  refine Src.ofSlice w underlying99 ad len cap (ZaZ l) (by rw [ZbO,hl,Nat.mul_one]) (fun j u hj=>?_) (Zd6 l);have aa:j<l.length:=by
   have:=(List.getElem?_eq_some_iff.1 hj).1;rwa [ZbO] at this
  obtain⟨b,off,e,c0⟩:=h.cell j (by show j<len;omega);obtain rfl:=Option.some.inj e;rw [Addr.add_lit,c0,← Zf0 aa,hj]
theorem Zig {D:Nat→Prop}(w:World)(v:Sl)(l:List Sb)(h:Gb D w v l)(ty:TypeId) :
    ∃v' w',(Builtin.append_ #[99,99] ty #[.slice (some ⟨w.heap.size,0,none⟩) 0 0,v.val]).run prog (w.alloc (.cells #[] 107))=.ok v'.val w'∧OwnB w' v' l∧v'.len=v.len∧Bl w w'∧∀k,v'.blk=some k→w.heap.size≤k:=by
  have hB:=Zab w (.cells #[] 107);have h1:=(h.below hB (Nat.le_refl _)).src;obtain⟨v',w',ab,ho,aa,hf,ac⟩:=Zaz underlying99 Zmb rfl (by decide) _ ⟨some ⟨w.heap.size,0,none⟩,0,0⟩ [] (OwnB.new w) (fun _ h=>by cases h) _ v.len (ZaZ l) h1 (by have:=h.big;show 0+v.len≤_;omega) ty;refine⟨v',w',ab,ho,by rw [aa];exact Nat.zero_add _,hB.trans (hf.below hB.size (fun k hk=>?_)),fun k hk=>?_⟩
  · have:some w.heap.size=some k:=hk;cases this;exact Nat.le_refl _
  · rcases ac with e | ⟨e,_⟩
    · rw [e] at hk;have:some w.heap.size=some k:=hk;cases this;exact Nat.le_refl _
    · rw [e] at hk;cases hk;exact hB.size
section
variable {ops : Array Oper} {rest : List Oper} {o : Oper} {a : Act} {Q : Exit → Act → World → Prop}
theorem Zb6 {D:Nat→Prop}(w:World)(ab:o.guard=none)(s y:Operand)(ho:o.op=.call { callee:=.builtin .append,args:=#[s,y],argTypes:=#[99,99] })(v:Sl)(l:List Sb)(hs:a.eval s=.slice (some ⟨w.heap.size,0,none⟩) 0 0)(hy:a.eval y=v.val)(h:Gb D w v l)
    (hK:∀v' w',OwnB w' v' l→v'.len=v.len→Bl w w'→(∀k,v'.blk=some k→w.heap.size≤k)→wpList prog ops Q rest (a.put o.dst v'.val) w'):wpList prog ops Q (o :: rest) a (w.alloc (.cells #[] 107)):=by
  refine wpList_plain ab fun K hK'=>?_;obtain⟨v',w',aa,r1,r2,r3,r4⟩:=Zig w v l h o.type;unfold Oper.wp;simp [execOp,ho,resolve,invoke,builtin,hs,hy,aa,Result.andThen];exact hK' _ _ (hK v' w' r1 r2 r3 r4)
end
theorem Own.setCell {e:TypeId}{z:Nat}{s:Sl}{vs:List Value}(h:Own e z w s vs){off:Nat}(ha:s.a=some ⟨g,off,none⟩)(j:Nat)(u:Value):Own e z (w.setCell ⟨g,off+j,none⟩ u) s (vs.set j u):=by
 refine⟨by rw [List.length_set];exact h.1,?_⟩;rcases h.2 with ⟨h0,_⟩ | ⟨g',off',cur,ha',hg,ac,ab,aa,ht⟩
 · rw [h0] at ha;cases ha
 · rw [ha] at ha';simp only [Option.some.injEq,Addr.mk.injEq,and_true] at ha';obtain⟨rfl,rfl⟩:=ha';refine .inr ⟨g,off,_,ha,heap_setCell_same w g (off+j) cur e u hg,by simpa using ac,ab,aa,?_⟩;rw [Array.toList_setIfInBounds,List.drop_set,if_neg (by omega),Nat.add_sub_cancel_left,List.take_set,ht]
theorem ZjZ (l:List Sb)(i:Nat)(x:Sb):ZaZ (l.set i x)=(ZaZ l).set i x.s.val:=by simp [ZaZ,List.map_set]
theorem Zl8 (l:List Sb)(i:Nat)(x:Sb):bss (l.set i x)=(bss l).set i x.bs:=by simp [bss,List.map_set]
theorem Zqs (w:World)(g off len cap:Nat)(l:List Sb)(o:OwnB w ⟨some ⟨g,off,none⟩,len,cap⟩ l)(i:Nat)(hi:i<len)(x:Sb):∃W,(Instr.storeAt 107 (.pointer (some ⟨g,off+i,none⟩)) x.s.val).run prog w=.ok () W∧OwnB W ⟨some ⟨g,off,none⟩,len,cap⟩ (l.set i x)∧Frm (fun k=>k=g) w W:=by
 have k0:=o.cellAt rfl hi;have f0:=o.frozen rfl (off+i);refine⟨w.setCell ⟨g,off+i,none⟩ x.s.val,?_,?_,(Frm.refl (fun k=>k=g) w).setCell (p:=⟨g,off+i,none⟩) rfl _⟩
 · obtain⟨⟨sa,sl,sc⟩,bs⟩:=x;unfold Sl.val at *;simp [go_sem,Instr.storeAt,k0,f0]
 · unfold OwnB;rw [ZjZ];exact Own.setCell o rfl i _
theorem LfBlk.off {p q:Nat}{u v:Value}(k:LfBlk w p u v)(hf:Frm (fun k=>k=q) w W)(aa:p≠q):LfBlk W p u v:=(hf.block _ k.lt aa).trans k
theorem ZgK (w:World)(p:Nat)(u0 v0:Value)(k:LfBlk w p u0 v0)(u v:Sl):∃W,(Instr.storeAt 101 (.pointer (some ⟨p,0,none⟩)) (lfV u v)).run prog w=.ok () W∧LfBlk W p u.val v.val∧Frm (fun k=>k=p) w W:=by
 have c0:=k.c0;have c1:=k.c1;have f0:=k.fz 0;have f1:=k.fz 1;refine⟨(w.setCell ⟨p,0,none⟩ u.val).setCell ⟨p,1,none⟩ v.val,?_,?_,((Frm.refl (fun k=>k=p) w).setCell (p:=⟨p,0,none⟩) rfl _).setCell (p:=⟨p,1,none⟩) rfl _⟩
 · obtain⟨ua,ul,uc⟩:=u;obtain⟨va,vl,vc⟩:=v;unfold lfV Sl.val;simp [go_sem,Instr.storeAt,c0,c1,f0,f1]
 · have h1:=heap_setCell_same w p 0 _ 101 u.val k;have h2:=heap_setCell_same _ p 1 _ 101 v.val h1;unfold LfBlk;rw [h2];simp
theorem Zo4 (w:World)(p:Nat)(u0 v0:Value)(k:LfBlk w p u0 v0)(v:Sl):∃W,(Instr.storeAt 99 (.pointer (some ⟨p,1,none⟩)) v.val).run prog w=.ok () W∧LfBlk W p u0 v.val∧Frm (fun k=>k=p) w W:=by
 have c1:=k.c1;have f1:=k.fz 1;refine⟨w.setCell ⟨p,1,none⟩ v.val,?_,?_,(Frm.refl (fun k=>k=p) w).setCell (p:=⟨p,1,none⟩) rfl _⟩
 · obtain⟨va,vl,vc⟩:=v;unfold Sl.val;simp [go_sem,Instr.storeAt,c1,f1]
 · have h2:=heap_setCell_same _ p 1 _ 101 v.val k;unfold LfBlk;rw [h2];simp
theorem Zk9 (hr:fn.results=#[.cell x 101])(k:LfBlk W g u.val v.val)(tmps:Array Value)(ht:tmps.getD x undef=.pointer (some ⟨g,0,none⟩)):(results fn tmps).run prog W=.ok (lfV u v) W:=by
 have c0:=k.c0;have c1:=k.c1;unfold lfV Sl.val at *;(have aa:tmps[x]?.getD undef=.pointer (some ⟨g,0,none⟩):=by simpa using ht);simp [results,hr,aa,go_sem,c0,c1]
theorem Zbg {y:Nat}(hr:fn.results=#[.cell x 101,.tmp y])(k:LfBlk W g u.val v.val)(tmps:Array Value)(ht:tmps.getD x undef=.pointer (some ⟨g,0,none⟩)){z:Value}(hy:tmps.getD y undef=z):(results fn tmps).run prog W=.ok (.tuple #[lfV u v,z]) W:=by
 have c0:=k.c0;have c1:=k.c1;unfold lfV Sl.val at *;(have aa:tmps[x]?.getD undef=.pointer (some ⟨g,0,none⟩):=by simpa using ht);(have ab:tmps[y]?.getD undef=z:=by simpa using hy);simp [results,hr,aa,ab,go_sem,c0,c1]
theorem ZoF (w:World)(u v v2:Sl):Calls prog 101 #[lfV u v,v2.val] w fun e w'=>e=.returned (lfV u v2)∧Bl w w':=by
 have ag:=Zab w (.cells #[u.val,v.val] 101);have ae:=Zab (w.alloc (.cells #[u.val,v.val] 101)) (.cells #[.slice none 0 0,.slice none 0 0] 101);have hk:=(ZaB w u.val v.val).below ae;have af:=ZaB (w.alloc (.cells #[u.val,v.val] 101)) (.slice none 0 0) (.slice none 0 0);rw [Zae] at af;obtain⟨W1,aa,k1,f1⟩:=Zo4 _ _ _ _ hk v2;have r1:=af.off f1 (by omega);obtain⟨W2,ab,k2,f2⟩:=ZgK _ _ _ _ r1 u v2;have hA:=Zac ag ae;have e1:Bl w W1:=hA.trans (f1.below hA.size (fun k hk=>by rw [hk];exact Nat.le_refl _));have HB:Hi (Bl w W2):=e1.trans (f2.below e1.size (fun k hk=>by rw [hk];exact Nat.le_succ _));have c0:=k1.c0;have c1:=k1.c1;have ac:=Zh aa;have ad:=Zh ab;have ah:=Zh k2;clear ag ae hk af aa k1 f1 r1 ab k2 f2 hA e1;obtain⟨ua,ul,uc⟩:=u;obtain⟨a,len,cap⟩:=v;obtain⟨a2,len2,cap2⟩:=v2;unfold lfV Sl.val at *;simp only at *;go_enter func101,ntmps101;go_wp2_with (first | refine Zad _ rfl rfl 99 (.tmp 6) (.tmp 5) rfl (.pointer (some ⟨w.heap.size,1,none⟩)) (.slice a2 len2 cap2) rfl rfl W1 ac.o ?_ | refine Zad _ rfl rfl 101 (.tmp 4) (.tmp 7) rfl (.pointer (some ⟨w.heap.size+1,0,none⟩)) (.agg #[.slice ua ul uc,.slice a2 len2 cap2]) rfl rfl W2 ad.o ?_);refine bodyPost_ret (Zk9 (u:=⟨ua,ul,uc⟩) (v:=⟨a2,len2,cap2⟩) rfl ah.o _ rfl) rfl ?_;exact⟨rfl,HB.o⟩
def Old (D:Nat→Prop) (w:World):Nat→Prop:=fun k=>D k∨w.heap.size≤k
theorem Cm.wide {D E:Nat→Prop}{s:Sl}{xs:List Nat}(h:Cm D w s xs)(hE:∀k,D k→E k):Cm E w s xs:=h.mono (fun k hk _=>hE k hk)
theorem Gb.wide {D E:Nat→Prop}(h:Gb D w v l)(hE:∀k,D k→E k):Gb E w v l:=
 ⟨h.len,h.nil,h.le,h.big,fun ad ha hl=>hE _ (h.home ad ha hl),h.cell,fun x hx=>⟨(h.bs x hx).1.wide hE,(h.bs x hx).2⟩⟩
theorem Gi.wide {D E:Nat→Prop}(h:Gi D w v t)(hE:∀k,D k→E k):Gi E w v t:=
 ⟨h.len,h.nil,h.le,h.big,fun ad ha hl=>hE _ (h.home ad ha hl),h.cell⟩
theorem Gb.old {D:Nat→Prop}(h:Gb D w v l)(hb:Bl w W):Gb (Old D w) W v l:=(h.below hb (Nat.le_refl _)).wide (fun _ hk=>.inl hk)
theorem Gi.old {D:Nat→Prop}(h:Gi D w v t)(hb:Bl w W):Gi (Old D w) W v t:=(h.below hb (Nat.le_refl _)).wide (fun _ hk=>.inl hk)
def New (D:Nat→Prop) (w:World):Nat→Prop:=fun k=>(D k∧k<w.heap.size)∨w.heap.size+2≤k
theorem Gb.told {D:Nat→Prop}(h:Gb (New D w) w1 v l)(f:Frm (fun k=>k=w.heap.size+1) w1 W):Gb (Old D w) W v l:=
 (h.keep (Kept.frm f (fun k hk e=>by rcases hk with h | h <;> omega))).wide (fun k hk=>by
  rcases hk with h | h
  · exact .inl h.1
  · exact .inr (by omega))
structure Tb (D:Nat→Prop) (w w1:World) (u v:Sl) (l:List Sb):Prop where
  k1:LfBlk w1 w.heap.size u.val v.val
  k2:LfBlk w1 (w.heap.size+1) (.slice none 0 0) (.slice none 0 0)
  g:Gb D w1 v l
  e:Bl w w1
  sz:w.heap.size+2≤w1.heap.size
theorem Tb.below {D:Nat→Prop}{w2:World}(t:Tb D w w1 u v l)(hb:Bl w1 w2):Tb D w w2 u v l:=
 ⟨t.k1.below hb,t.k2.below hb,t.g.below hb (Nat.le_refl _),Zac t.e hb,Nat.le_trans t.sz hb.size⟩
theorem Tb.start {D:Nat→Prop}(u:Sl)(hg:Gb D w v l):Tb D w ((w.alloc (.cells #[u.val,v.val] 101)).alloc (.cells #[.slice none 0 0,.slice none 0 0] 101)) u v l:=by
 have ab:=Zab w (.cells #[u.val,v.val] 101);have aa:=Zab (w.alloc (.cells #[u.val,v.val] 101)) (.cells #[.slice none 0 0,.slice none 0 0] 101);have ac:=ZaB (w.alloc (.cells #[u.val,v.val] 101)) (.slice none 0 0) (.slice none 0 0);rw [Zae] at ac;exact⟨(ZaB w u.val v.val).below aa,ac,hg.below (Zac ab aa) (Nat.le_refl _),Zac ab aa,by rw [Zae,Zae];exact Nat.le_refl _⟩
theorem Tb.lay {D:Nat→Prop}(t:Tb D w w1 u v l)(s:Sl):∃W,(Instr.storeAt 101 (.pointer (some ⟨w.heap.size+1,0,none⟩)) (lfV u s)).run prog w1=.ok () W∧LfBlk W (w.heap.size+1) u.val s.val∧Frm (fun k=>k=w.heap.size+1) w1 W∧Bl w W:=by
 obtain⟨W,aa,k,f⟩:=ZgK w1 _ _ _ t.k2 u s;exact⟨W,aa,k,f,t.e.trans (f.below t.e.size (fun k hk=>by rw [hk];exact Nat.le_succ _))⟩
theorem Cm.none {D:Nat→Prop}(w:World):Cm D w Sl.nil []:=⟨⟨⟨rfl,fun _ h=>by simp at h,fun i hi=>absurd hi (Nat.not_lt_zero _)⟩,fun _=>rfl,Nat.le_refl _,by simp [Sl.nil]⟩,fun _ h _=>by cases h⟩
def Zrx:Value→Nat
  | .slice _ n _=>n
  | _=>0
theorem ZoJ {s:List (List Nat)}{n:Nat}(h:∀j,j<n→(sl s j).length≠0)(hn:n=s.length∨n<s.length∧(sl s n).length=0):atE s=n:=by
 rcases ZeB s with ⟨e,aa⟩ | ⟨ab,h0,aa⟩
 · rcases hn with rfl | ⟨h1,h2⟩
   · exact e
   · exact absurd h2 (aa n h1)
 · rcases Nat.lt_trichotomy (atE s) n with h1 | h1 | h1
   · exact absurd h0 (h _ h1)
   · exact h1
   · rcases hn with rfl | ⟨_,h2⟩
     · omega
     · exact absurd h2 (aa n h1)
theorem Zij (w:World)(v:Sl)(l:List Sb)(h:OwnB w v l)(hl:v.len≤1000){B:Nat}(hB:B≤w.heap.size)(hk:∀k,v.blk=some k→B≤k)(ty:TypeId) :
    ∃v' w',(Builtin.append_ #[99,99] ty #[v.val,.slice (some ⟨w.heap.size,0,none⟩) 1 1]).run prog (w.alloc (.cells #[.slice none 0 0] 107))=.ok v'.val w'∧OwnB w' v' (l ++ [Sb.zero])∧v'.len=v.len+1∧Below B w w'∧∀k,v'.blk=some k→B≤k:=by
  have hA:=Zab w (.cells #[.slice none 0 0] 107);have h1:OwnB (w.alloc (.cells #[.slice none 0 0] 107)) v l:=Own.frame h (fun k hk'=>hA.block k (Own.lt h hk'));have hs:Src prog 1 99 (.slice (some ⟨w.heap.size,0,none⟩) 1 1) 1 (ZaZ [Sb.zero]) (w.alloc (.cells #[.slice none 0 0] 107)):=by
   refine Src.ofSlice _ underlying99 _ 1 1 (ZaZ [Sb.zero]) rfl (fun j u hj=>?_) (Zd6 _);cases j with
   | zero =>
    have e:Value.slice none 0 0=u:=Option.some.inj hj;subst e;have hn:=heap_alloc_new w (.cells #[.slice none 0 0] 107);rw [Addr.add_lit];simp only [World.cell?];rw [hn];rfl
   | succ j=>simp [ZaZ] at hj
  obtain⟨v',w',ab,ho,aa,hf,ac⟩:=Zaz underlying99 Zmb rfl (by decide) _ v (ZaZ l) h1 (Zd6 l) _ 1 _ hs (by omega) ty;refine⟨v',w',ab,?_,aa,(hA.mono hB).trans (hf.below (Nat.le_trans hB hA.size) hk),fun k hk'=>?_⟩
  · (have e:ZaZ (l ++ [Sb.zero])=ZaZ l ++ ZaZ [Sb.zero]:=by simp [ZaZ]);unfold OwnB;rw [e];exact ho
  · rcases ac with e | ⟨e,_⟩
    · rw [e] at hk';exact hk k hk'
    · rw [e] at hk';cases hk';exact Nat.le_trans hB hA.size
section
variable {ops : Array Oper} {rest : List Oper} {o : Oper} {a : Act} {Q : Exit → Act → World → Prop}
theorem Zdz (w:World)(ab:o.guard=none)(s y:Operand)(ho:o.op=.call { callee:=.builtin .append,args:=#[s,y],argTypes:=#[99,99] })(v:Sl)(l:List Sb)(hs:a.eval s=v.val)(hy:a.eval y=.slice (some ⟨w.heap.size,0,none⟩) 1 1)(h:OwnB w v l)(hl:v.len≤1000)(B:Nat)(hB:B≤w.heap.size)(hk:∀k,v.blk=some k→B≤k)
    (hK:∀v' w',OwnB w' v' (l ++ [Sb.zero])→v'.len=v.len+1→Below B w w'→(∀k,v'.blk=some k→B≤k)→wpList prog ops Q rest (a.put o.dst v'.val) w'):wpList prog ops Q (o :: rest) a (w.alloc (.cells #[.slice none 0 0] 107)):=by
  refine wpList_plain ab fun K hK'=>?_;obtain⟨v',w',aa,r1,r2,r3,r4⟩:=Zij w v l h hl hB hk o.type;unfold Oper.wp;simp [execOp,ho,resolve,invoke,builtin,hs,hy,aa,Result.andThen];exact hK' _ _ (hK v' w' r1 r2 r3 r4)
end
theorem Tb.mine2 {D:Nat→Prop}{w2:World}{l3:List Sb}(t:Tb D w w1 u v l)(h3:∀y∈l3,Cm D w y.s y.bs∧y.bs.length≤1000)(hb:Bl w1 w2){b o len cap:Nat}(ho:OwnB w2 ⟨some ⟨b,o,none⟩,len,cap⟩ l3)(hw:w1.heap.size≤b)(hl:len≤1000)(k:Nat)(hk:k<len)(x:Sb)(hx:Cm D w x.s x.bs)(ac:x.bs.length≤1000):∃W,(Instr.storeAt 107 (.pointer (some ⟨b,o+k,none⟩)) x.s.val).run prog w2=.ok () W∧Tb D w W u v l∧Gb (New D w) W ⟨some ⟨b,o,none⟩,len,cap⟩ (l3.set k x):=by
 obtain⟨W,ab,o2,f⟩:=Zqs w2 b o len cap l3 ho k hk x;have aa:Bl w1 W:=hb.trans (f.below hb.size (fun k hk=>by rw [hk];exact hw));have t2:=t.below aa;have hK:Kept (New D w) w W:=Kept.all t2.e (Nat.le_refl _);refine⟨W,ab,t2,o2.gb (fun y hy=>?_) (fun k hk=>?_) hl⟩
 · rcases List.mem_or_eq_of_mem_set hy with h | rfl
   · exact⟨((h3 y h).1.mono (fun _ hk hl=>.inl ⟨hk,hl⟩)).keep hK,(h3 y h).2⟩
   · exact⟨(hx.mono (fun _ hk hl=>.inl ⟨hk,hl⟩)).keep hK,ac⟩
 · have e:some b=some k:=hk;cases e;exact .inr (Nat.le_trans t.sz hw)
structure An3 where
  s:List (List Nat)
  at_:Int
  e:Int
def insA (s:List (List Nat)) (r:List Nat):An3:=
  if r.length<1∨255<r.length then ⟨s,-1,1⟩ else if 64<(insS s r).length∨508<need (insS s r) then ⟨s,-1,7⟩ else ⟨insS s r,((atE s:Nat):Int),0⟩
def An3Is (D:Nat→Prop) (w:World) (u:Sl) (x:An3) (e:Ending) (w':World):Prop:=Bl w w'∧∃(v':Sl) (l':List Sb),e=.returned (.tuple #[lfV u v',.int .i64 x.at_,.int .i64 x.e])∧Gb (Old D w) w' v' l'∧bss l'=x.s
theorem ZaM {y z:Nat}(hr:fn.results=#[.cell x 101,.tmp y,.tmp z])(k:LfBlk W g u.val v.val)(tmps:Array Value)(ht:tmps.getD x undef=.pointer (some ⟨g,0,none⟩)){p q:Value}(hy:tmps.getD y undef=p)(hz:tmps.getD z undef=q):(results fn tmps).run prog W=.ok (.tuple #[lfV u v,p,q]) W:=by
 have c0:=k.c0;have c1:=k.c1;unfold lfV Sl.val at *;(have aa:tmps[x]?.getD undef=.pointer (some ⟨g,0,none⟩):=by simpa using ht);(have ab:tmps[y]?.getD undef=p:=by simpa using hy);(have ac:tmps[z]?.getD undef=q:=by simpa using hz);simp [results,hr,aa,ab,ac,go_sem,c0,c1]
theorem Zou {D:Nat→Prop}(w:World)(u v:Sl)(l:List Sb)(hg:Gb D w v l)(r:Sl)(hr:r.len<1∨255<r.len) :
    Calls prog 61 #[lfV u v,r.val] w fun e w'=>An3Is D w u ⟨bss l,-1,1⟩ e w':=by
  have hT:=Tb.start u hg;have c0:=hT.k1.c0;have c1:=hT.k1.c1;obtain⟨W,ab,k,f,hB⟩:=hT.lay v;have aa:=Zh ab;have HK:=Zh k;have HF:Hi (An3Is D w u ⟨bss l,-1,1⟩ (.returned (.tuple #[lfV u v,.int .i64 (-1),.int .i64 1])) W):=⟨hB,v,l,rfl,hg.old hB,rfl⟩;clear hg hT ab k f hB;obtain⟨a,len,cap⟩:=v;obtain⟨ua,ul,uc⟩:=u;obtain⟨ra,rl,rc⟩:=r;unfold lfV Sl.val at *;simp only at *;by_cases h1:rl<1
  · (have i1:(rl:Int)<1:=by omega);go_enter func61,ntmps61;go_wp2_with (refine Zad _ rfl rfl 101 (.tmp 4) (.tmp 17) rfl (.pointer (some ⟨w.heap.size+1,0,none⟩)) (.agg #[.slice ua ul uc,.slice a len cap]) rfl rfl W aa.o ?_);refine bodyPost_ret (ZaM (u:=⟨ua,ul,uc⟩) (v:=⟨a,len,cap⟩) rfl HK.o _ rfl rfl rfl) rfl ?_;exact HF.o
  · (have i1:¬(rl:Int)<1:=by omega);(have i2:(255:Int)<(rl:Int):=by omega);go_enter func61,ntmps61;go_wp2_with (refine Zad _ rfl rfl 101 (.tmp 4) (.tmp 17) rfl (.pointer (some ⟨w.heap.size+1,0,none⟩)) (.agg #[.slice ua ul uc,.slice a len cap]) rfl rfl W aa.o ?_);refine bodyPost_ret (ZaM (u:=⟨ua,ul,uc⟩) (v:=⟨a,len,cap⟩) rfl HK.o _ rfl rfl rfl) rfl ?_;exact HF.o
theorem ZmG {D:Nat→Prop}(w:World)(u v:Sl)(l:List Sb)(hg:Gb D w v l)(hv:v.len≤900)(x:Sb)(hx:Cm D w x.s x.bs)(h1:1≤x.bs.length)(h2:x.bs.length≤255)(X:An3)(cb:64<(insS (bss l) x.bs).length∨508<need (insS (bss l) x.bs)→X=⟨bss l,-1,7⟩)(ca:¬64<(insS (bss l) x.bs).length→¬508<need (insS (bss l) x.bs)→X=⟨insS (bss l) x.bs,((atE (bss l):Nat):Int),0⟩) :
    Calls prog 61 #[lfV u v,x.s.val] w fun e w'=>An3Is D w u X e w':=by
  have hT:=Tb.start u hg;have bw:=hg.len;have cl:=hx.len;have c0:=hT.k1.c0;have c1:=hT.k1.c1;have HT:=Zh hT;have ai:Hi (∀(w1 w2:World) (b o n cap k:Nat) (l3:List Sb),Tb D w w1 u v l→l3=l∨l3=l ++ [Sb.zero]→Bl w1 w2→OwnB w2 ⟨some ⟨b,o,none⟩,n,cap⟩ l3→w1.heap.size≤b→n≤1000→k<n→∃W,(Instr.storeAt 107 (.pointer (some ⟨b,o+k,none⟩)) x.s.val).run prog w2=.ok () W∧Tb D w W u v l∧Gb (New D w) W ⟨some ⟨b,o,none⟩,n,cap⟩ (l3.set k x)):=by
   intro w1 w2 b o n cap k l3 t ch hb ho hw hn hk;refine t.mine2 (fun y hy=>?_) hb ho hw hn k hk x hx (by omega);rcases ch with rfl | rfl
   · exact hg.bs y hy
   · rcases List.mem_append.1 hy with h | h
     · exact hg.bs y h
     · rw [List.mem_singleton.1 h];exact⟨Cm.none w,by simp [Sb.zero]⟩
  have ab:Hi (∀W,Bl w W→Gb (Old D w) W v l):=fun W hB=>hg.old hB;have ce:Hi (∀k,k<l.length→bss (l.set k x)=(bss l).set k x.bs):=fun k _=>Zl8 l k x;have cf:Hi (bss ((l ++ [Sb.zero]).set l.length x)=bss l ++ [x.bs]):=by
   show _=_;rw [Zl8];simp [bss]
  have HW:=Zh (fun W s=>ZoF W u v s);have HN:=Zh (fun (W:World) (s:Sl) (l4:List Sb) (hW:Gb (New D w) W s l4)=>ZhK W u s l4 hW);have ao:=Zh cb;have av:=Zh ca;clear hg hT hx cb ca;obtain⟨⟨ra,rl,rc⟩,bs⟩:=x;obtain⟨a,len,cap⟩:=v;obtain⟨ua,ul,uc⟩:=u;unfold lfV Sl.val at *;simp only at *;(have i1:¬(rl:Int)<1:=by omega);(have i2:¬(255:Int)<(rl:Int):=by omega);go_enter func61,ntmps61;go_wp2_with fail;generalize (w.alloc (.cells #[.slice ua ul uc,.slice a len cap] 101)).alloc (.cells #[.slice none 0 0,.slice none 0 0] 101)=w1 at *;have d2:=(HT.o.k1.below (Zab w1 (.cells #[] 107))).c1;unfold Sl.val at d2;simp only at d2;go_loopw [7] (fun iv wr=>wr=w1∧∃n:Nat,n≤len∧iv=.int .i64 (n:Int)∧Hi (∀j,j<n→(sl (bss l) j).length≠0)) (fun iv _=>len-(intOf iv).toNat)
  case atStart=>exact ⟨rfl,0,Nat.zero_le _,rfl,fun _ h=>absurd h (Nat.not_lt_zero _)⟩
  case round =>
   obtain⟨rfl,n,hn,rfl,aj⟩:=hrel;rcases Nat.lt_or_ge n len with cd | ck
   · (have i3:(n:Int)<(len:Int):=by omega);obtain⟨bb,oo,ha,cm⟩:=HT.o.g.cell n cd;replace ha:a=some ⟨bb,oo,none⟩:=ha;subst ha;obtain⟨_,br,aw⟩:=HT.o.g.at (i:=n) cd;obtain⟨⟨xa,xn,xc⟩,bx⟩:∃s,s=(l.getD n Sb.zero).s:=⟨_,rfl⟩;rw [← bx] at cm br;unfold Sl.val at cm;simp only at cm br;(have cn:xn≤1000:=by omega);by_cases cj:xn=0
     · subst cj;have bj:Hi (atE (bss l)=n):=ZoJ aj.o (.inr ⟨by rw [Zaj];omega,by omega⟩);(have cg:Hi (n<(bss l).length):=by show _<_;rw [Zaj];omega);clear br aw bx aj;go_wp2_with (at_builtin;refine Zb6 _ rfl (.tmp 34) (.tmp 36) rfl ⟨some ⟨bb,oo,none⟩,len,cap⟩ l rfl rfl HT.o.g ?_);intro v1 w2 ho az ax ay;obtain⟨b,o,ha⟩:=ho.pos (by rw [az];show 0<len;omega);obtain⟨sa,sn,sc⟩:=v1;replace ha:sa=some ⟨b,o,none⟩:=ha;replace az:len=sn:=az.symm;subst ha;subst az;(have i5:¬(n:Int)=(len:Int):=by omega);obtain⟨W3,am,t3,g3⟩:=ai.o _ w2 b o len sc n l HT.o (.inl rfl) ax ho (ay b rfl) (by omega) (by omega);have ap:Hi (bss (l.set n ⟨⟨ra,rl,rc⟩,bs⟩)=insS (bss l) bs):=by
        show _=_;have:=cg.o;unfold insS;rw [bj.o,if_neg (by omega),ce.o n (by omega)]
       clear ho ax ay cm;have bd:Hi ((insS (bss l) bs).length=len):=by
        show _=_;rw [← ap.o,Zaj];exact g3.len
       have af:=Zh am;have e0:=t3.k1.c0;have e1:=t3.k1.c1;have ar:=Zh t3;have ba:=Zh g3;have bf:=Zh (HW.o W3 ⟨some ⟨b,o,none⟩,len,sc⟩);clear am t3 g3 d2 HT ai;unfold Sl.val at *;simp only at *;by_cases bm:64<len
       · (have i6:(64:Int)<(len:Int):=by omega);have HX:=Zh (ao.o (.inl (by rw [bd.o];exact bm)));obtain⟨W6,aa,k6,f6,ah⟩:=ar.o.lay ⟨some ⟨bb,oo,none⟩,len,cap⟩;have ag:=Zh aa;have bc:=Zh k6;have HF:Hi (An3Is D w ⟨ua,ul,uc⟩ X (.returned (.tuple #[lfV ⟨ua,ul,uc⟩ ⟨some ⟨bb,oo,none⟩,len,cap⟩,.int .i64 (-1),.int .i64 7])) W6):=by
          show An3Is _ _ _ _ _ _;rw [HX.o];exact⟨ah,_,l,rfl,ab.o W6 ah,rfl⟩
         clear aa k6 f6 ah ar ba bf HW HN HX ao av ab bd ap;unfold lfV Sl.val at *;simp only at *;go_wp2_with (first | refine Zad _ rfl rfl 107 (.tmp 48) (.tmp 47) rfl (.pointer (some ⟨b,o+n,none⟩)) (.slice ra rl rc) rfl rfl W3 af.o ?_ | refine Zad _ rfl rfl 101 (.tmp 4) (.tmp 59) rfl (.pointer (some ⟨w.heap.size+1,0,none⟩)) (.agg #[.slice ua ul uc,.slice (some ⟨bb,oo,none⟩) len cap]) rfl rfl W6 ag.o ?_);refine bodyPost_ret (ZaM (u:=⟨ua,ul,uc⟩) (v:=⟨some ⟨bb,oo,none⟩,len,cap⟩) rfl bc.o _ rfl rfl rfl) rfl ?_;exact HF.o
       · (have i6:¬(64:Int)<(len:Int):=by omega);go_wp2_with (refine Zad _ rfl rfl 107 (.tmp 48) (.tmp 47) rfl (.pointer (some ⟨b,o+n,none⟩)) (.slice ra rl rc) rfl rfl W3 af.o ?_);refine bf.o.mono ?_;rintro e w4 ⟨rfl,bh⟩;have au:=Zh (ar.o.below bh);have aq:=Zh (ba.o.below bh (Nat.le_refl _));have ae:=Zh (HN.o w4 _ _ aq.o);rw [ap.o] at ae;clear bf ar ba bh af e0 e1 HN;simp only at *;by_cases ac:508<need (insS (bss l) bs)
         · have HX:=Zh (ao.o (.inr ac));(have i7:(508:Int)<((need (insS (bss l) bs):Nat):Int):=by omega);obtain⟨nd,al⟩:∃nd,nd=need (insS (bss l) bs):=⟨_,rfl⟩;rw [← al] at ae i7;clear al ac ao av;go_wp2_with fail;refine ae.o.mono ?_;rintro e w5 ⟨rfl,ak⟩;have ad:=au.o.below ak;obtain⟨W6,aa,k6,f6,ah⟩:=ad.lay ⟨some ⟨bb,oo,none⟩,len,cap⟩;have d0:=ad.k1.c0;have d1:=ad.k1.c1;have ag:=Zh aa;have bc:=Zh k6;have HF:Hi (An3Is D w ⟨ua,ul,uc⟩ X (.returned (.tuple #[lfV ⟨ua,ul,uc⟩ ⟨some ⟨bb,oo,none⟩,len,cap⟩,.int .i64 (-1),.int .i64 7])) W6):=by
            show An3Is _ _ _ _ _ _;rw [HX.o];exact⟨ah,_,l,rfl,ab.o W6 ah,rfl⟩
           clear ad aa k6 f6 ah ak au aq ae ab HW HX;unfold lfV Sl.val at *;simp only at *;go_wp2_with (refine Zad _ rfl rfl 101 (.tmp 4) (.tmp 59) rfl (.pointer (some ⟨w.heap.size+1,0,none⟩)) (.agg #[.slice ua ul uc,.slice (some ⟨bb,oo,none⟩) len cap]) rfl rfl W6 ag.o ?_);refine bodyPost_ret (ZaM (u:=⟨ua,ul,uc⟩) (v:=⟨some ⟨bb,oo,none⟩,len,cap⟩) rfl bc.o _ rfl rfl rfl) rfl ?_;exact HF.o
         · have HX:=Zh (av.o (by rw [bd.o];exact bm) ac);rw [bj.o] at HX;(have i7:¬(508:Int)<((need (insS (bss l) bs):Nat):Int):=by omega);obtain⟨nd,al⟩:∃nd,nd=need (insS (bss l) bs):=⟨_,rfl⟩;rw [← al] at ae i7;clear al ac ao av;go_wp2_with fail;refine ae.o.mono ?_;rintro e w5 ⟨rfl,ak⟩;have ad:=au.o.below ak;have bk:=Zh (aq.o.below ak (Nat.le_refl _));have bg:=Zh (HW.o w5 ⟨some ⟨b,o,none⟩,len,sc⟩);have d0:=ad.k1.c0;have d1:=ad.k1.c1;have bl:=Zh ad;clear ad ak au aq ae ab HW;unfold Sl.val at d0 d1;simp only at d0 d1 bg;go_wp2_with fail;refine bg.o.mono ?_;rintro e w6 ⟨rfl,bi⟩;have bo:=bl.o.below bi;have bp:=bk.o.below bi (Nat.le_refl _);obtain⟨W7,an,k7,f7,bn⟩:=bo.lay ⟨some ⟨b,o,none⟩,len,sc⟩;have be:=Zh an;have bv:=Zh k7;have HF:Hi (An3Is D w ⟨ua,ul,uc⟩ X (.returned (.tuple #[lfV ⟨ua,ul,uc⟩ ⟨some ⟨b,o,none⟩,len,sc⟩,.int .i64 (n:Int),.int .i64 0])) W7):=by
            show An3Is _ _ _ _ _ _;rw [HX.o];exact⟨bn,_,_,rfl,bp.told f7,ap.o⟩
           clear bo bp an k7 f7 bn bi bl bk bg HX d0 d1;unfold lfV Sl.val at *;simp only at *;go_wp2_with (refine Zad _ rfl rfl 101 (.tmp 4) (.tmp 62) rfl (.pointer (some ⟨w.heap.size+1,0,none⟩)) (.agg #[.slice ua ul uc,.slice (some ⟨b,o,none⟩) len sc]) rfl rfl W7 be.o ?_);refine bodyPost_ret (ZaM (u:=⟨ua,ul,uc⟩) (v:=⟨some ⟨b,o,none⟩,len,sc⟩) rfl bv.o _ rfl rfl rfl) rfl ?_;exact HF.o
     · (have i4:(0:Int)<(xn:Int):=by omega);have bt:Hi (∀j,j<n+1→(sl (bss l) j).length≠0):=by
        intro j hj;by_cases e:j=n
        · rw [e];omega
        · exact aj.o j (by omega)
       clear br aw bx aj;go_wp2;go_roundw;exact ⟨trivial,n+1,by omega,by go_num,bt⟩;simp only [intOf];omega
   · (have ci:n=len:=by omega);subst ci;(have i3:¬(n:Int)<(n:Int):=by omega);have bj:Hi (atE (bss l)=n):=ZoJ aj.o (.inl (by rw [Zaj];omega));clear aj;go_wp2_with (at_builtin;refine Zb6 _ rfl (.tmp 34) (.tmp 36) rfl ⟨a,n,cap⟩ l rfl rfl HT.o.g ?_);intro v1 w2 ho az ax ay;obtain⟨sa,sn,sc0⟩:=v1;replace az:n=sn:=az.symm;subst az;have HO:=Zh ho;have bu:=Zh ax;have bz:=Zh ay;clear ho ax ay;unfold Sl.val at *;simp only at *;go_wp2_with (at_builtin;refine Zdz _ rfl (.tmp 42) (.tmp 43) rfl ⟨sa,n,sc0⟩ l rfl rfl HO.o (by show n≤1000;omega) _ bu.o.size bz.o ?_);intro v2 w3 ho bq cc ay;have ax:=bu.o.trans cc;obtain⟨b,o,ha⟩:=ho.pos (by rw [bq];exact Nat.succ_pos _);obtain⟨sa2,sn2,sc⟩:=v2;replace ha:sa2=some ⟨b,o,none⟩:=ha;replace bq:sn2=n+1:=bq;subst ha;obtain⟨W3,am,t3,g3⟩:=ai.o _ w3 b o sn2 sc n _ HT.o (.inr rfl) ax ho (ay b rfl) (by omega) (by omega);have ap:Hi (bss ((l ++ [Sb.zero]).set n ⟨⟨ra,rl,rc⟩,bs⟩)=insS (bss l) bs):=by
      show _=_;unfold insS;rw [bj.o,if_pos (by rw [Zaj];omega),← cf.o,bw]
     (have j1:sn2≤1000:=by omega);(have j2:n<sn2:=by omega);clear ho ax ay cc HO bu bz bq;have bd:Hi ((insS (bss l) bs).length=sn2):=by
      show _=_;rw [← ap.o,Zaj];exact g3.len
     have af:=Zh am;have e0:=t3.k1.c0;have e1:=t3.k1.c1;have ar:=Zh t3;have ba:=Zh g3;have bf:=Zh (HW.o W3 ⟨some ⟨b,o,none⟩,sn2,sc⟩);clear am t3 g3 d2 HT ai;unfold Sl.val at *;simp only at *;by_cases bm:64<sn2
     · (have i6:(64:Int)<(sn2:Int):=by omega);have HX:=Zh (ao.o (.inl (by rw [bd.o];exact bm)));obtain⟨W6,aa,k6,f6,ah⟩:=ar.o.lay ⟨a,n,cap⟩;have ag:=Zh aa;have bc:=Zh k6;have HF:Hi (An3Is D w ⟨ua,ul,uc⟩ X (.returned (.tuple #[lfV ⟨ua,ul,uc⟩ ⟨a,n,cap⟩,.int .i64 (-1),.int .i64 7])) W6):=by
        show An3Is _ _ _ _ _ _;rw [HX.o];exact⟨ah,_,l,rfl,ab.o W6 ah,rfl⟩
       clear aa k6 f6 ah ar ba bf HW HN HX ao av ab bd ap;unfold lfV Sl.val at *;simp only at *;go_wp2_with (first | refine Zad _ rfl rfl 107 (.tmp 48) (.tmp 47) rfl (.pointer (some ⟨b,o+n,none⟩)) (.slice ra rl rc) rfl rfl W3 af.o ?_ | refine Zad _ rfl rfl 101 (.tmp 4) (.tmp 59) rfl (.pointer (some ⟨w.heap.size+1,0,none⟩)) (.agg #[.slice ua ul uc,.slice (a) n cap]) rfl rfl W6 ag.o ?_);refine bodyPost_ret (ZaM (u:=⟨ua,ul,uc⟩) (v:=⟨a,n,cap⟩) rfl bc.o _ rfl rfl rfl) rfl ?_;exact HF.o
     · (have i6:¬(64:Int)<(sn2:Int):=by omega);go_wp2_with (refine Zad _ rfl rfl 107 (.tmp 48) (.tmp 47) rfl (.pointer (some ⟨b,o+n,none⟩)) (.slice ra rl rc) rfl rfl W3 af.o ?_);refine bf.o.mono ?_;rintro e w4 ⟨rfl,bh⟩;have au:=Zh (ar.o.below bh);have aq:=Zh (ba.o.below bh (Nat.le_refl _));have ae:=Zh (HN.o w4 _ _ aq.o);rw [ap.o] at ae;clear bf ar ba bh af e0 e1 HN;simp only at *;by_cases ac:508<need (insS (bss l) bs)
       · have HX:=Zh (ao.o (.inr ac));(have i7:(508:Int)<((need (insS (bss l) bs):Nat):Int):=by omega);obtain⟨nd,al⟩:∃nd,nd=need (insS (bss l) bs):=⟨_,rfl⟩;rw [← al] at ae i7;clear al ac ao av;go_wp2_with fail;refine ae.o.mono ?_;rintro e w5 ⟨rfl,ak⟩;have ad:=au.o.below ak;obtain⟨W6,aa,k6,f6,ah⟩:=ad.lay ⟨a,n,cap⟩;have d0:=ad.k1.c0;have d1:=ad.k1.c1;have ag:=Zh aa;have bc:=Zh k6;have HF:Hi (An3Is D w ⟨ua,ul,uc⟩ X (.returned (.tuple #[lfV ⟨ua,ul,uc⟩ ⟨a,n,cap⟩,.int .i64 (-1),.int .i64 7])) W6):=by
          show An3Is _ _ _ _ _ _;rw [HX.o];exact⟨ah,_,l,rfl,ab.o W6 ah,rfl⟩
         clear ad aa k6 f6 ah ak au aq ae ab HW HX;unfold lfV Sl.val at *;simp only at *;go_wp2_with (refine Zad _ rfl rfl 101 (.tmp 4) (.tmp 59) rfl (.pointer (some ⟨w.heap.size+1,0,none⟩)) (.agg #[.slice ua ul uc,.slice (a) n cap]) rfl rfl W6 ag.o ?_);refine bodyPost_ret (ZaM (u:=⟨ua,ul,uc⟩) (v:=⟨a,n,cap⟩) rfl bc.o _ rfl rfl rfl) rfl ?_;exact HF.o
       · have HX:=Zh (av.o (by rw [bd.o];exact bm) ac);rw [bj.o] at HX;(have i7:¬(508:Int)<((need (insS (bss l) bs):Nat):Int):=by omega);obtain⟨nd,al⟩:∃nd,nd=need (insS (bss l) bs):=⟨_,rfl⟩;rw [← al] at ae i7;clear al ac ao av;go_wp2_with fail;refine ae.o.mono ?_;rintro e w5 ⟨rfl,ak⟩;have ad:=au.o.below ak;have bk:=Zh (aq.o.below ak (Nat.le_refl _));have bg:=Zh (HW.o w5 ⟨some ⟨b,o,none⟩,sn2,sc⟩);have d0:=ad.k1.c0;have d1:=ad.k1.c1;have bl:=Zh ad;clear ad ak au aq ae ab HW;unfold Sl.val at d0 d1;simp only at d0 d1 bg;go_wp2_with fail;refine bg.o.mono ?_;rintro e w6 ⟨rfl,bi⟩;have bo:=bl.o.below bi;have bp:=bk.o.below bi (Nat.le_refl _);obtain⟨W7,an,k7,f7,bn⟩:=bo.lay ⟨some ⟨b,o,none⟩,sn2,sc⟩;have be:=Zh an;have bv:=Zh k7;have HF:Hi (An3Is D w ⟨ua,ul,uc⟩ X (.returned (.tuple #[lfV ⟨ua,ul,uc⟩ ⟨some ⟨b,o,none⟩,sn2,sc⟩,.int .i64 (n:Int),.int .i64 0])) W7):=by
          show An3Is _ _ _ _ _ _;rw [HX.o];exact⟨bn,_,_,rfl,bp.told f7,ap.o⟩
         clear bo bp an k7 f7 bn bi bl bk bg HX d0 d1;unfold lfV Sl.val at *;simp only at *;go_wp2_with (refine Zad _ rfl rfl 101 (.tmp 4) (.tmp 62) rfl (.pointer (some ⟨w.heap.size+1,0,none⟩)) (.agg #[.slice ua ul uc,.slice (some ⟨b,o,none⟩) sn2 sc]) rfl rfl W7 be.o ?_);refine bodyPost_ret (ZaM (u:=⟨ua,ul,uc⟩) (v:=⟨some ⟨b,o,none⟩,sn2,sc⟩) rfl bv.o _ rfl rfl rfl) rfl ?_;exact HF.o
theorem Ze1 {D:Nat→Prop}(w:World)(u v:Sl)(l:List Sb)(hg:Gb D w v l)(hv:v.len≤900)(x:Sb)(hx:Cm D w x.s x.bs) :
    Calls prog 61 #[lfV u v,x.s.val] w fun e w'=>An3Is D w u (insA (bss l) x.bs) e w':=by
  have hl:=hx.len;by_cases h1:x.bs.length<1∨255<x.bs.length
  · have e:insA (bss l) x.bs=⟨bss l,-1,1⟩:=if_pos h1;rw [e];exact Zou w u v l hg x.s (by omega)
  · refine ZmG w u v l hg hv x hx (by omega) (by omega) _ (fun h=>?_) (fun h3 h4=>?_)
    · unfold insA;rw [if_neg h1,if_pos h]
    · unfold insA;rw [if_neg h1,if_neg (fun h=>h.elim h3 h4)]
theorem ZeO:(prog.info? 3).map (fun i=>(i.zero,i.size,i.bytes))=some (some (.int .i64 0),1,8):=by kernel_rfl
def Zan (t:List Int):List Value:=t.map fun x=>.int .i64 x
theorem Zd8 (t:List Int):∀u∈Zan t,u.oneCell'=true:=by
 intro u hu;obtain⟨i,_,rfl⟩:=List.mem_map.1 hu;rfl
theorem ZbP (t:List Int):(Zan t).length=t.length:=by simp [Zan]
theorem Zf4 (h:i<t.length):(Zan t)[i]? = some (.int .i64 (t.getD i 0)):=by simp [Zan,List.getD,h]
theorem Zka (t:List Int)(i:Nat)(x:Int):Zan (t.set i x)=(Zan t).set i (.int .i64 x):=by simp [Zan,List.map_set]
def OwnN (w:World) (v:Sl) (t:List Int):Prop:=Own 3 1 w v (Zan t)
theorem OwnN.len (h:OwnN w v t):t.length=v.len:=by
 have:=h.1;rw [ZbP] at this;omega
theorem OwnN.new (w:World):OwnN (w.alloc (.cells #[] 3)) ⟨some ⟨w.heap.size,0,none⟩,0,0⟩ []:=
 ⟨rfl,.inr ⟨w.heap.size,0,_,rfl,heap_alloc_new w _,by simp,Nat.le_refl _,by simp,rfl⟩⟩
theorem OwnN.cellAt (h:OwnN w v t){off:Nat}(ha:v.a=some ⟨g,off,none⟩)(hi:i<v.len):w.cell? ⟨g,off+i,none⟩=some (.int .i64 (t.getD i 0)):=by
 have:=Own.cell h ha i _ (Zf4 (by rw [h.len];exact hi));rwa [Addr.add_lit] at this
theorem OwnN.frozen (h:OwnN w v t){off:Nat}(ha:v.a=some ⟨g,off,none⟩)(o:Nat):w.frozen? ⟨g,o,none⟩=false:=by
 obtain⟨cur,hc⟩:=Own.kind h (k:=g) (by rw [Sl.blk,ha];rfl);exact frozen_of_row w g _ cur 3 hc
theorem OwnN.pos (h:OwnN w v t)(hp:0<v.len):∃g off,v.a=some ⟨g,off,none⟩:=by
 rcases h.2 with ⟨h0,_⟩ | ⟨g,off,cur,ha,_⟩
 · rw [h0] at hp;exact absurd hp (Nat.not_lt_zero _)
 · exact⟨g,off,ha⟩
theorem OwnN.gi {D:Nat→Prop}(h:OwnN w v t)(hD:∀k,v.blk=some k→D k)(hm:v.len≤1000000):Gi D w v t:=by
 refine⟨h.len,Own.nilcap h,Own.lecap h,hm,fun ad ha _=>hD _ (by rw [Sl.blk,ha];rfl),fun i hi=>?_⟩;obtain⟨g,off,ha⟩:=h.pos (by omega);exact⟨g,off,ha,h.cellAt ha hi⟩
theorem Gi.src {D:Nat→Prop}(h:Gi D w v t):Src prog 1 29 v.val v.len (Zan t) w:=by
 obtain⟨a,len,cap⟩:=v;have hl:t.length=len:=h.len;cases a with
 | none =>
  have hc:cap=0:=h.nil rfl;(have h0:len=0:=by have:len≤cap:=h.le;omega);subst hc;subst h0;have:t=[]:=List.eq_nil_of_length_eq_zero hl;subst this;exact Src.ofNil w underlying29 0
 | some ad =>
  refine Src.ofSlice w underlying29 ad len cap (Zan t) (by rw [ZbP,hl,Nat.mul_one]) (fun j u hj=>?_) (Zd8 t);have aa:j<t.length:=by
   have:=(List.getElem?_eq_some_iff.1 hj).1;rwa [ZbP] at this
  obtain⟨b,off,e,c0⟩:=h.cell j (by show j<len;omega);obtain rfl:=Option.some.inj e;rw [Addr.add_lit,c0,← Zf4 aa,hj]
theorem Zii {D:Nat→Prop}(w:World)(v:Sl)(t:List Int)(h:Gi D w v t)(ty:TypeId) :
    ∃v' w',(Builtin.append_ #[29,29] ty #[.slice (some ⟨w.heap.size,0,none⟩) 0 0,v.val]).run prog (w.alloc (.cells #[] 3))=.ok v'.val w'∧OwnN w' v' t∧v'.len=v.len∧Bl w w'∧∀k,v'.blk=some k→w.heap.size≤k:=by
  have hB:=Zab w (.cells #[] 3);have h1:=(h.below hB (Nat.le_refl _)).src;obtain⟨v',w',ab,ho,aa,hf,ac⟩:=Zaz underlying29 ZeO rfl (by decide) _ ⟨some ⟨w.heap.size,0,none⟩,0,0⟩ [] (OwnN.new w) (fun _ h=>by cases h) _ v.len (Zan t) h1 (by have:=h.big;show 0+v.len≤_;omega) ty;refine⟨v',w',ab,ho,by rw [aa];exact Nat.zero_add _,hB.trans (hf.below hB.size (fun k hk=>?_)),fun k hk=>?_⟩
  · have:some w.heap.size=some k:=hk;cases this;exact Nat.le_refl _
  · rcases ac with e | ⟨e,_⟩
    · rw [e] at hk;have:some w.heap.size=some k:=hk;cases this;exact Nat.le_refl _
    · rw [e] at hk;cases hk;exact hB.size
section
variable {ops : Array Oper} {rest : List Oper} {o : Oper} {a : Act} {Q : Exit → Act → World → Prop}
theorem Zb7 {D:Nat→Prop}(w:World)(ab:o.guard=none)(s y:Operand)(ho:o.op=.call { callee:=.builtin .append,args:=#[s,y],argTypes:=#[29,29] })(v:Sl)(t:List Int)(hs:a.eval s=.slice (some ⟨w.heap.size,0,none⟩) 0 0)(hy:a.eval y=v.val)(h:Gi D w v t)
    (hK:∀v' w',OwnN w' v' t→v'.len=v.len→Bl w w'→(∀k,v'.blk=some k→w.heap.size≤k)→wpList prog ops Q rest (a.put o.dst v'.val) w'):wpList prog ops Q (o :: rest) a (w.alloc (.cells #[] 3)):=by
  refine wpList_plain ab fun K hK'=>?_;obtain⟨v',w',aa,r1,r2,r3,r4⟩:=Zii w v t h o.type;unfold Oper.wp;simp [execOp,ho,resolve,invoke,builtin,hs,hy,aa,Result.andThen];exact hK' _ _ (hK v' w' r1 r2 r3 r4)
end
theorem Zr5 (w:World)(g off len cap:Nat)(t:List Int)(o:OwnN w ⟨some ⟨g,off,none⟩,len,cap⟩ t)(i:Nat)(hi:i<len)(x:Int):∃W,(Instr.storeAt 3 (.pointer (some ⟨g,off+i,none⟩)) (.int .i64 x)).run prog w=.ok () W∧OwnN W ⟨some ⟨g,off,none⟩,len,cap⟩ (t.set i x)∧Frm (fun k=>k=g) w W:=by
 have k0:=o.cellAt rfl hi;have f0:=o.frozen rfl (off+i);refine⟨w.setCell ⟨g,off+i,none⟩ (.int .i64 x),?_,?_,(Frm.refl (fun k=>k=g) w).setCell (p:=⟨g,off+i,none⟩) rfl _⟩
 · simp [go_sem,Instr.storeAt,k0,f0]
 · unfold OwnN;rw [Zka];exact Own.setCell o rfl i _
theorem Zr3 (w:World)(p:Nat)(u0 v0:Value)(k:LfBlk w p u0 v0)(u:Sl):∃W,(Instr.storeAt 29 (.pointer (some ⟨p,0,none⟩)) u.val).run prog w=.ok () W∧LfBlk W p u.val v0∧Frm (fun k=>k=p) w W:=by
 have c0:=k.c0;have f0:=k.fz 0;refine⟨w.setCell ⟨p,0,none⟩ u.val,?_,?_,(Frm.refl (fun k=>k=p) w).setCell (p:=⟨p,0,none⟩) rfl _⟩
 · obtain⟨ua,ul,uc⟩:=u;unfold Sl.val;simp [go_sem,Instr.storeAt,c0,f0]
 · have h2:=heap_setCell_same _ p 0 _ 101 u.val k;unfold LfBlk;rw [h2];simp
def JnIs (D:Nat→Prop) (w:World) (l:List Sb) (x:Js) (e:Ending) (w':World):Prop:=Bl w w'∧∃(u' v':Sl),e=.returned (.tuple #[lfV u' v',.int .i64 x.e])∧Gi (Old D w) w' u' x.t∧Gb (Old D w) w' v' l
theorem ZmI {D:Nat→Prop}(w:World)(u v:Sl)(t:List Int)(l:List Sb)(hi:Gi D w u t)(hg:Gb D w v l)(p:Int)(r:Sl)(hp:p<1∨2147483647<p) :
    Calls prog 63 #[lfV u v,.int .i64 p,r.val] w fun e w'=>JnIs D w l ⟨t,1⟩ e w':=by
  have hT:=Tb.start u hg;have c0:=hT.k1.c0;have c1:=hT.k1.c1;obtain⟨W,ab,k,f,hB⟩:=hT.lay v;have aa:=Zh ab;have HK:=Zh k;have HF:Hi (JnIs D w l ⟨t,1⟩ (.returned (.tuple #[lfV u v,.int .i64 1])) W):=⟨hB,u,v,rfl,hi.old hB,hg.old hB⟩;clear hg hi hT ab k f hB;obtain⟨a,len,cap⟩:=v;obtain⟨ua,ul,uc⟩:=u;obtain⟨ra,rl,rc⟩:=r;unfold lfV Sl.val at *;simp only at *;by_cases h1:p<1
  · go_enter func63,ntmps63;go_wp2_with (refine Zad _ rfl rfl 101 (.tmp 6) (.tmp 19) rfl (.pointer (some ⟨w.heap.size+1,0,none⟩)) (.agg #[.slice ua ul uc,.slice a len cap]) rfl rfl W aa.o ?_);refine bodyPost_ret (Zbg (u:=⟨ua,ul,uc⟩) (v:=⟨a,len,cap⟩) rfl HK.o _ rfl rfl) rfl ?_;exact HF.o
  · (have h2:2147483647<p:=by omega);clear hp;go_enter func63,ntmps63;go_wp2_with (refine Zad _ rfl rfl 101 (.tmp 6) (.tmp 19) rfl (.pointer (some ⟨w.heap.size+1,0,none⟩)) (.agg #[.slice ua ul uc,.slice a len cap]) rfl rfl W aa.o ?_);refine bodyPost_ret (Zbg (u:=⟨ua,ul,uc⟩) (v:=⟨a,len,cap⟩) rfl HK.o _ rfl rfl) rfl ?_;exact HF.o
end Go.Proofs.YtiecfcjlhldhdaaGreat
