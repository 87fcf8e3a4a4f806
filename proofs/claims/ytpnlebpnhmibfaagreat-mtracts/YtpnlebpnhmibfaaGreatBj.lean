/-
  Lemmas.
-/
import Derived.Test.YtpnlebpnhmibfaaGreatBi
import Derived.Test.YtpnlebpnhmibfaaGreatBa
import Derived.Test.YtpnlebpnhmibfaaGreatBb
import Derived.Test.YtpnlebpnhmibfaaGreatBc
import Derived.Test.YtpnlebpnhmibfaaGreatBf
namespace Go.Proofs.YtpnlebpnhmibfaaGreat
open Go.RowKit
set_option linter.unusedVariables false
set_option maxRecDepth 100000
set_option maxHeartbeats 4000000
variable {w:World}{P:Po}{p d mb g n c:Nat}{L:Dl}{v s:Sl}{z:Int}{A:Act}
theorem Pl.mapUp {P:Program}{ops:Array Oper}{f:Nat→Value}(i:Nat)(t:TypeId)(m x y:Operand)(w':World)(h:(Pl.op ops i).op=.mapUpdate t m x y)(hm:Pl.inB n m=true)(hx:Pl.inB n x=true)(hy:Pl.inB n y=true)(hv:(Instr.mapUpdate t (Pl.ev f m) (Pl.ev f x) (Pl.ev f y)).run P w=.ok () w') :
    ∀A,Pl.At n A f→(execOp A.eval (Pl.op ops i)).run P w=.ok .skip w':=by
  intro A hA;have e:execOp A.eval (Pl.op ops i)=(do Instr.mapUpdate t (A.eval m) (A.eval x) (A.eval y);pure .skip):=by
   unfold execOp;rw [h]
  rw [e,hA.ev m hm,hA.ev x hx,hA.ev y hy];simp [hv]
theorem Zj4 (p:Nat)(w:World):(Instr.fieldAt 126 (.pointer (some ⟨p,0,none⟩)) 0).run Tryz.prog w=.ok (.pointer (some ⟨p,0,none⟩)) w:=by simp [go_sem,Instr.fieldAt]
theorem Zeg (p:Nat)(w:World):(Instr.fieldAt 126 (.pointer (some ⟨p,0,none⟩)) 2).run Tryz.prog w=.ok (.pointer (some ⟨p,3,none⟩)) w:=by simp [go_sem,Instr.fieldAt]
theorem Zj5 (p:Nat)(w:World):(Instr.fieldAt 126 (.pointer (some ⟨p,0,none⟩)) 3).run Tryz.prog w=.ok (.pointer (some ⟨p,4,none⟩)) w:=by simp [go_sem,Instr.fieldAt]
theorem Zj2 (p:Nat)(w:World):(Instr.fieldAt 140 (.pointer (some ⟨p,0,none⟩)) 0).run Tryz.prog w=.ok (.pointer (some ⟨p,0,none⟩)) w:=by simp [go_sem,Instr.fieldAt]
theorem ZmJ (p:Nat)(w:World):(Instr.fieldAt 140 (.pointer (some ⟨p,0,none⟩)) 2).run Tryz.prog w=.ok (.pointer (some ⟨p,2,none⟩)) w:=by simp [go_sem,Instr.fieldAt]
theorem Zoh (b o d:Nat)(w:World)(h:w.cell? ⟨b,o,none⟩=some (.pointer (some ⟨d,0,none⟩))):(Instr.loadAt 23 (.pointer (some ⟨b,o,none⟩))).run Tryz.prog w=.ok (.pointer (some ⟨d,0,none⟩)) w:=by simp [go_sem,h]
theorem ZmX (b o:Nat)(m:Option Nat)(w:World)(h:w.cell? ⟨b,o,none⟩=some (.map m)):(Instr.loadAt 124 (.pointer (some ⟨b,o,none⟩))).run Tryz.prog w=.ok (.map m) w:=by simp [go_sem,h]
theorem gtrI (a b:Int)(x y:Operand)(w:World):(do eqGuard .gtr 3 x y (.int .i64 a) (.int .i64 b);binOp .gtr 3 (.int .i64 a) (.int .i64 b):Sem Value).run Tryz.prog w=.ok (.bool (decide (b<a))) w:=by simp [go_sem,eqGuard]
def FrBlk (w:World) (g:Nat) (s:Sl) (d:Bool) (z:Int):Prop:=w.heap[g]? = some (.cells #[s.val,.bool d,.int .i64 z] 140 (0,0))
theorem FrBlk.c0 {d:Bool}(h:FrBlk w g s d z):w.cell? ⟨g,0,none⟩=some (.slice s.a s.len s.cap):=(Addr.cell0 h).trans rfl
theorem FrBlk.c1 {d:Bool}(h:FrBlk w g s d z):w.cell? ⟨g,1,none⟩=some (.bool d):=(Addr.cell0 h).trans rfl
theorem FrBlk.c2 {d:Bool}(h:FrBlk w g s d z):w.cell? ⟨g,2,none⟩=some (.int .i64 z):=(Addr.cell0 h).trans rfl
theorem FrBlk.fz {d:Bool}(h:FrBlk w g s d z)(o:Nat):w.frozen? ⟨g,o,none⟩=false:=frozen_of_row w g _ _ 140 h
theorem FrBlk.lt {d:Bool}(h:FrBlk w g s d z):g<w.heap.size:=(Array.getElem?_eq_some_iff.1 h).1
theorem ldFr (g:Nat)(s:Sl)(d:Bool)(z:Int)(w:World)(h:FrBlk w g s d z):(Instr.loadAt 140 (.pointer (some ⟨g,0,none⟩))).run Tryz.prog w=.ok (frV s d z) w:=by
 have c0:=h.c0;have c1:=h.c1;have c2:=h.c2;obtain⟨a,len,cap⟩:=s;unfold frV Sl.val;simp [go_sem,Instr.loadAt,c0,c1,c2]
theorem ZkT (s:Sl)(w:World):(Instr.build 140 #[(0,s.val)]).run Tryz.prog w=.ok (frV s false 0) w:=by
 unfold frV Sl.val;simp [go_sem,Instr.build]
theorem ZkU (s:Sl)(z:Int)(w:World):(Instr.build 140 #[(0,s.val),(1,.bool true),(2,.int .i64 z)]).run Tryz.prog w=.ok (frV s true z) w:=by
 unfold frV Sl.val;simp [go_sem,Instr.build]
theorem Zli:∀args w,(callFunc 113 args).run Tryz.prog w=.ok (.enter 113 args) w:=Pl.ql Tryz.func113
theorem pw1 (w:World)(p g:Nat)(z sy:Int)(h0:w.cell? ⟨g,2,none⟩=some (.int .i64 z)∧w.cell? ⟨p,4,none⟩=some (.int .i64 sy))
    {Q:Exit→Act→World→Prop}(ac:A.tmps.size=41)(ab:A.defers=[])(s0:A.tmps.getD 0 undef=.pointer (some ⟨p,0,none⟩))(s4:A.tmps.getD 4 undef=.pointer (some ⟨g,0,none⟩))
    (hend:∀(u:Nat→Value) w',w'=w.drew→Q .normal ((((((((A).put (some 11) (u 11)).put (some 12) (u 12)).put (some 13) (u 13)).put (some 14) (u 14)).put (some 15) (u 15)).put (some 16) (u 16)).put (some 17) (.bool (decide (sy<z)))) w') :
    (Code.region 1 (Pl.find 1 ((Tryz.f90.body).getD .skip)) true).wp Tryz.prog Q A w:=by
  have aa:=(show (fun w'=>w'.cell? ⟨g,2,none⟩=some (.int .i64 z)∧w'.cell? ⟨p,4,none⟩=some (.int .i64 sy)) w.drew from h0);have hA:=Pl.At.same (v:=.pointer (some ⟨g,0,none⟩)) (d:=4) (Pl.At.same (v:=.pointer (some ⟨p,0,none⟩)) (d:=0) (Pl.At.here ac ab) s0) s4;refine Pl.qa (S:=fun w'=>w'.cell? ⟨g,2,none⟩=some (.int .i64 z)∧w'.cell? ⟨p,4,none⟩=some (.int .i64 sy)) hA aa ?_;rw [show (Pl.find 1 ((Tryz.f90.body).getD .skip)).size=7 by kernel_rfl];refine Pl.q1 0 11 (.pointer (some ⟨g,2,none⟩)) (Pl.q0) (Pl.q4 140 (.tmp 4) 2 (ZmJ g)) aa ?_;refine Pl.q1 1 12 (.int .i64 z) (Pl.q0) (Pl.q6 3 (.tmp 11) (fun w' hS=>ldInt g 2 _ w' hS.1)) aa ?_;refine Pl.q1 2 13 (.pointer (some ⟨p,0,none⟩)) (Pl.q0) (Pl.q2 (.tmp 0)) aa ?_;refine Pl.q1 3 14 (.pointer (some ⟨p,0,none⟩)) (Pl.q0) (Pl.qg (.tmp 13)) aa ?_;refine Pl.q1 4 15 (.pointer (some ⟨p,4,none⟩)) (Pl.q0) (Pl.q4 126 (.tmp 14) 3 (Zj5 p)) aa ?_;refine Pl.q1 5 16 (.int .i64 sy) (Pl.q0) (Pl.q6 3 (.tmp 15) (fun w' hS=>ldInt p 4 _ w' hS.2)) aa ?_;refine Pl.q1 6 17 (.bool (decide (sy<z))) (Pl.q0) (Pl.q9 .gtr 3 3 (.tmp 12) (.tmp 16) (.int .i64 z) (.int .i64 sy) (fun w=>gtrI z sy _ _ w)) aa ?_;refine Pl.q7 (fun A' hA'=>?_);rw [Pl.At.ext hA' (((((((hA.put 11 _).put 12 _).put 13 _).put 14 _).put 15 _).put 16 _).put 17 _)];exact hend hA'.fn _ rfl
theorem pw4 (w:World)(p g dv k:Nat)(a:Option Addr)(l c:Nat)(R:World→Prop)(h0:(fun (w':World)=>w'.cell? ⟨p,0,none⟩=some (.pointer (some ⟨dv,0,none⟩))∧w'.cell? ⟨g,0,none⟩=some (.slice a l c)) w)(hc:Calls Tryz.prog 113 #[.pointer (some ⟨dv,0,none⟩),.int .i64 (k:Int),.slice a l c] w.drew fun e w2=>e=.returned (.int .i64 0)∧R w2)(ac:∀w2,R w2→(fun (w':World)=>w'.cell? ⟨p,0,none⟩=some (.pointer (some ⟨dv,0,none⟩))∧w'.cell? ⟨g,0,none⟩=some (.slice a l c)) w2)
    {Q:Exit→Act→World→Prop}(ae:A.tmps.size=41)(ad:A.defers=[])(s0:A.tmps.getD 0 undef=.pointer (some ⟨p,0,none⟩))(s1:A.tmps.getD 1 undef=.int .i64 (k:Int))(s4:A.tmps.getD 4 undef=.pointer (some ⟨g,0,none⟩))
    (hend:∀(u:Nat→Value) w',R w'→Q .normal (((((((((A).put (some 25) (u 25)).put (some 26) (u 26)).put (some 27) (u 27)).put (some 28) (u 28)).put (some 29) (u 29)).put (some 30) (u 30)).put (some 31) (u 31)).put (some 32) (u 32)) w') :
    (Code.region 4 (Pl.find 4 ((Tryz.f90.body).getD .skip)) true).wp Tryz.prog Q A w:=by
  have aa:=(show (fun w'=>w'.cell? ⟨p,0,none⟩=some (.pointer (some ⟨dv,0,none⟩))∧w'.cell? ⟨g,0,none⟩=some (.slice a l c)) w.drew from h0);have hA:=Pl.At.same (v:=.pointer (some ⟨g,0,none⟩)) (d:=4) (Pl.At.same (v:=.int .i64 (k:Int)) (d:=1) (Pl.At.same (v:=.pointer (some ⟨p,0,none⟩)) (d:=0) (Pl.At.here ae ad) s0) s1) s4;refine Pl.qa (S:=fun w'=>w'.cell? ⟨p,0,none⟩=some (.pointer (some ⟨dv,0,none⟩))∧w'.cell? ⟨g,0,none⟩=some (.slice a l c)) hA aa ?_;rw [show (Pl.find 4 ((Tryz.f90.body).getD .skip)).size=8 by kernel_rfl];refine Pl.q1 0 25 (.pointer (some ⟨p,0,none⟩)) (Pl.q0) (Pl.q2 (.tmp 0)) aa ?_;refine Pl.q1 1 26 (.pointer (some ⟨p,0,none⟩)) (Pl.q0) (Pl.qg (.tmp 25)) aa ?_;refine Pl.q1 2 27 (.pointer (some ⟨p,0,none⟩)) (Pl.q0) (Pl.q4 126 (.tmp 26) 0 (Zj4 p)) aa ?_;refine Pl.q1 3 28 (.pointer (some ⟨dv,0,none⟩)) (Pl.q0) (Pl.q6 23 (.tmp 27) (fun w' hS=>Zoh p 0 dv w' hS.1)) aa ?_;refine Pl.q1 4 29 (.int .i64 (k:Int)) (Pl.q0) (Pl.q2 (.tmp 1)) aa ?_;refine Pl.q1 5 30 (.pointer (some ⟨g,0,none⟩)) (Pl.q0) (Pl.q4 140 (.tmp 4) 0 (Zj2 g)) aa ?_;refine Pl.q1 6 31 (.slice a l c) (Pl.q0) (Pl.q6 32 (.tmp 30) (fun w' hS=>ldBs g 0 _ _ _ w' hS.2)) aa ?_;refine Pl.qc 7 32 113 [(.tmp 28),(.tmp 29),(.tmp 31)] #[23,3,32] (Pl.q0) Zli (Calls.mono (hc) ?_);rintro e w2 ⟨rfl,ab⟩;refine⟨.int .i64 0,rfl,(ac w2 ab),?_⟩;refine Pl.q7 (fun A' hA'=>?_);rw [Pl.At.ext hA' ((((((((hA.put 25 _).put 26 _).put 27 _).put 28 _).put 29 _).put 30 _).put 31 _).put 32 _)];exact hend hA'.fn _ ab
theorem pw5 (w:World)(p g mb k:Nat)(s:Sl)(w1:World)(h0:(fun (w':World)=>w'.cell? ⟨p,3,none⟩=some (.map (some mb))∧w'.cell? ⟨g,0,none⟩=some (.slice s.a s.len s.cap)) w)(ab:(Instr.mapUpdate 124 (.map (some mb)) (.int .i64 (k:Int)) (frV s false 0)).run Tryz.prog w.drew=.ok () w1)(ac:(fun (w':World)=>w'.cell? ⟨p,3,none⟩=some (.map (some mb))∧w'.cell? ⟨g,0,none⟩=some (.slice s.a s.len s.cap)) w1)
    {Q:Exit→Act→World→Prop}(ae:A.tmps.size=41)(ad:A.defers=[])(s0:A.tmps.getD 0 undef=.pointer (some ⟨p,0,none⟩))(s1:A.tmps.getD 1 undef=.int .i64 (k:Int))(s4:A.tmps.getD 4 undef=.pointer (some ⟨g,0,none⟩))
    (hend:∀(u:Nat→Value) w',w'=w1→Q .normal (((((((((A).put (some 33) (u 33)).put (some 34) (u 34)).put (some 35) (u 35)).put (some 36) (u 36)).put (some 37) (u 37)).put (some 38) (u 38)).put (some 39) (u 39)).put (some 40) (u 40)) w') :
    (Code.region 5 (Pl.find 5 ((Tryz.f90.body).getD .skip)) true).wp Tryz.prog Q A w:=by
  have aa:=(show (fun w'=>w'.cell? ⟨p,3,none⟩=some (.map (some mb))∧w'.cell? ⟨g,0,none⟩=some (.slice s.a s.len s.cap)) w.drew from h0);have hA:=Pl.At.same (v:=.pointer (some ⟨g,0,none⟩)) (d:=4) (Pl.At.same (v:=.int .i64 (k:Int)) (d:=1) (Pl.At.same (v:=.pointer (some ⟨p,0,none⟩)) (d:=0) (Pl.At.here ae ad) s0) s1) s4;refine Pl.qa (S:=fun w'=>w'.cell? ⟨p,3,none⟩=some (.map (some mb))∧w'.cell? ⟨g,0,none⟩=some (.slice s.a s.len s.cap)) hA aa ?_;rw [show (Pl.find 5 ((Tryz.f90.body).getD .skip)).size=9 by kernel_rfl];refine Pl.q1 0 33 (.pointer (some ⟨p,0,none⟩)) (Pl.q0) (Pl.q2 (.tmp 0)) aa ?_;refine Pl.q1 1 34 (.pointer (some ⟨p,0,none⟩)) (Pl.q0) (Pl.qg (.tmp 33)) aa ?_;refine Pl.q1 2 35 (.pointer (some ⟨p,3,none⟩)) (Pl.q0) (Pl.q4 126 (.tmp 34) 2 (Zeg p)) aa ?_;refine Pl.q1 3 36 (.map (some mb)) (Pl.q0) (Pl.q6 124 (.tmp 35) (fun w' hS=>ZmX p 3 _ w' hS.1)) aa ?_;refine Pl.q1 4 37 (.int .i64 (k:Int)) (Pl.q0) (Pl.q2 (.tmp 1)) aa ?_;refine Pl.q1 5 38 (.pointer (some ⟨g,0,none⟩)) (Pl.q0) (Pl.q4 140 (.tmp 4) 0 (Zj2 g)) aa ?_;refine Pl.q1 6 39 (s.val) (Pl.q0) (Pl.q6 32 (.tmp 38) (fun w' hS=>ldBs g 0 _ _ _ w' hS.2)) aa ?_;refine Pl.q1 7 40 (frV s false 0) (Pl.q0) (Pl.q_38 140 [(0,.tmp 39)] (fun w=>ZkT s w)) aa ?_;refine Pl.qd 8 w1 (Pl.q0) (Pl.mapUp 8 124 (.tmp 36) (.tmp 37) (.tmp 40) w1 (by kernel_rfl) (by decide) (by decide) (by decide) ab) ac ?_;refine Pl.q7 (fun A' hA'=>?_);rw [Pl.At.ext hA' ((((((((hA.put 33 _).put 34 _).put 35 _).put 36 _).put 37 _).put 38 _).put 39 _).put 40 _)];exact hend hA'.fn _ rfl
theorem pp6 (w:World)(p mb k:Nat)(a:Option Addr)(l c:Nat)(z:Int)(R:Sl→World→Prop)(R1:World→Prop)(h0:(fun (w':World)=>w'.cell? ⟨p,3,none⟩=some (.map (some mb))) w)(hc:Calls Tryz.prog 72 #[.slice a l c] w.drew fun e w2=>∃s:Sl,e=.returned s.val∧R s w2)(ad:∀s w2,R s w2→(fun (w':World)=>w'.cell? ⟨p,3,none⟩=some (.map (some mb))) w2)(hU:∀s w2,R s w2→∃w1,(Instr.mapUpdate 124 (.map (some mb)) (.int .i64 (k:Int)) (frV s true z)).run Tryz.prog w2=.ok () w1∧(fun (w':World)=>w'.cell? ⟨p,3,none⟩=some (.map (some mb))) w1∧R1 w1)
    {Q:Exit→Act→World→Prop}(ah:A.tmps.size=28)(ag:A.defers=[])(s0:A.tmps.getD 0 undef=.pointer (some ⟨p,0,none⟩))(s1:A.tmps.getD 1 undef=.int .i64 (k:Int))(s2:A.tmps.getD 2 undef=.slice a l c)(s3:A.tmps.getD 3 undef=.int .i64 z)
    (hend:∀(u:Nat→Value) w',R1 w'→Q .normal ((((((((((A).put (some 19) (u 19)).put (some 20) (u 20)).put (some 21) (u 21)).put (some 22) (u 22)).put (some 23) (u 23)).put (some 24) (u 24)).put (some 26) (u 26)).put (some 25) (u 25)).put (some 27) (u 27)) w') :
    (Code.region 6 (Pl.find 6 ((Tryz.f87.body).getD .skip)) true).wp Tryz.prog Q A w:=by
  have aa:=(show (fun w'=>w'.cell? ⟨p,3,none⟩=some (.map (some mb))) w.drew from h0);have hA:=Pl.At.same (v:=.int .i64 z) (d:=3) (Pl.At.same (v:=.slice a l c) (d:=2) (Pl.At.same (v:=.int .i64 (k:Int)) (d:=1) (Pl.At.same (v:=.pointer (some ⟨p,0,none⟩)) (d:=0) (Pl.At.here ah ag) s0) s1) s2) s3;refine Pl.qa (S:=fun w'=>w'.cell? ⟨p,3,none⟩=some (.map (some mb))) hA aa ?_;rw [show (Pl.find 6 ((Tryz.f87.body).getD .skip)).size=10 by kernel_rfl];refine Pl.q1 0 19 (.pointer (some ⟨p,0,none⟩)) (Pl.q0) (Pl.q2 (.tmp 0)) aa ?_;refine Pl.q1 1 20 (.pointer (some ⟨p,0,none⟩)) (Pl.q0) (Pl.qg (.tmp 19)) aa ?_;refine Pl.q1 2 21 (.pointer (some ⟨p,3,none⟩)) (Pl.q0) (Pl.q4 126 (.tmp 20) 2 (Zeg p)) aa ?_;refine Pl.q1 3 22 (.map (some mb)) (Pl.q0) (Pl.q6 124 (.tmp 21) (fun w' hS=>ZmX p 3 _ w' hS)) aa ?_;refine Pl.q1 4 23 (.int .i64 (k:Int)) (Pl.q0) (Pl.q2 (.tmp 1)) aa ?_;refine Pl.q1 5 24 (.slice a l c) (Pl.q0) (Pl.q2 (.tmp 2)) aa ?_;refine Pl.q1 7 26 (.int .i64 z) (Pl.q0) (Pl.q2 (.tmp 3)) aa ?_;refine Pl.qc 6 25 72 [(.tmp 24)] #[32] (Pl.q0) Zfw (Calls.mono (hc) ?_);rintro e w2 ⟨s,rfl,ab⟩;obtain⟨w1,ac,af,ae⟩:=hU s w2 ab;refine⟨s.val,rfl,(ad s w2 ab),?_⟩;refine Pl.q1 8 27 (frV s true z) (Pl.q0) (Pl.q_38 140 [(0,.tmp 25),(1,.const (.bool true)),(2,.tmp 26)] (fun w=>ZkU s z w)) (ad s w2 ab) ?_;refine Pl.qd 9 w1 (Pl.q0) (Pl.mapUp 9 124 (.tmp 22) (.tmp 23) (.tmp 27) w1 (by kernel_rfl) (by decide) (by decide) (by decide) ac) af ?_;refine Pl.q7 (fun A' hA'=>?_);rw [Pl.At.ext hA' (((((((((hA.put 19 _).put 20 _).put 21 _).put 22 _).put 23 _).put 24 _).put 26 _).put 25 _).put 27 _)];exact hend hA'.fn _ ae
theorem pr7 (w:World)(p g mb k:Nat)(s:Sl)(dt:Bool)(z:Int)(w1:World)(h0:(fun (w':World)=>w'.cell? ⟨p,3,none⟩=some (.map (some mb))∧FrBlk w' g s dt z) w)(ab:(Instr.mapUpdate 124 (.map (some mb)) (.int .i64 (k:Int)) (frV s dt z)).run Tryz.prog w.drew=.ok () w1)(ac:(fun (w':World)=>w'.cell? ⟨p,3,none⟩=some (.map (some mb))∧FrBlk w' g s dt z) w1)
    {Q:Exit→Act→World→Prop}(ae:A.tmps.size=45)(ad:A.defers=[])(s0:A.tmps.getD 0 undef=.pointer (some ⟨p,0,none⟩))(s1:A.tmps.getD 1 undef=.int .i64 (k:Int))(s6:A.tmps.getD 6 undef=.pointer (some ⟨g,0,none⟩))
    (hend:∀(u:Nat→Value) w',w'=w1→Q .normal (((((((A).put (some 36) (u 36)).put (some 37) (u 37)).put (some 38) (u 38)).put (some 39) (u 39)).put (some 40) (u 40)).put (some 41) (u 41)) w') :
    (Code.region 7 (Pl.find 7 ((Tryz.f68.body).getD .skip)) true).wp Tryz.prog Q A w:=by
  have aa:=(show (fun w'=>w'.cell? ⟨p,3,none⟩=some (.map (some mb))∧FrBlk w' g s dt z) w.drew from h0);have hA:=Pl.At.same (v:=.pointer (some ⟨g,0,none⟩)) (d:=6) (Pl.At.same (v:=.int .i64 (k:Int)) (d:=1) (Pl.At.same (v:=.pointer (some ⟨p,0,none⟩)) (d:=0) (Pl.At.here ae ad) s0) s1) s6;refine Pl.qa (S:=fun w'=>w'.cell? ⟨p,3,none⟩=some (.map (some mb))∧FrBlk w' g s dt z) hA aa ?_;rw [show (Pl.find 7 ((Tryz.f68.body).getD .skip)).size=7 by kernel_rfl];refine Pl.q1 0 36 (.pointer (some ⟨p,0,none⟩)) (Pl.q0) (Pl.q2 (.tmp 0)) aa ?_;refine Pl.q1 1 37 (.pointer (some ⟨p,0,none⟩)) (Pl.q0) (Pl.qg (.tmp 36)) aa ?_;refine Pl.q1 2 38 (.pointer (some ⟨p,3,none⟩)) (Pl.q0) (Pl.q4 126 (.tmp 37) 2 (Zeg p)) aa ?_;refine Pl.q1 3 39 (.map (some mb)) (Pl.q0) (Pl.q6 124 (.tmp 38) (fun w' hS=>ZmX p 3 _ w' hS.1)) aa ?_;refine Pl.q1 4 40 (.int .i64 (k:Int)) (Pl.q0) (Pl.q2 (.tmp 1)) aa ?_;refine Pl.q1 5 41 (frV s dt z) (Pl.q0) (Pl.q6 140 (.tmp 6) (fun w' hS=>ldFr g s dt z w' hS.2)) aa ?_;refine Pl.qd 6 w1 (Pl.q0) (Pl.mapUp 6 124 (.tmp 39) (.tmp 40) (.tmp 41) w1 (by kernel_rfl) (by decide) (by decide) (by decide) ab) ac ?_;refine Pl.q7 (fun A' hA'=>?_);rw [Pl.At.ext hA' ((((((hA.put 36 _).put 37 _).put 38 _).put 39 _).put 40 _).put 41 _)];exact hend hA'.fn _ rfl
theorem Zdi {Y:Nat→Prop}{f:Int→Option Value}(h:PoIn w p d P L Y v mb f)(n:Nat)(hn:P.D.sp.length=512*n)(aa:n≤64)(k:Int):Calls Tryz.prog 99 #[at0 p,.int .i64 k] w fun e w'=>e=.returned (.bool (decide (0≤k∧k<(n:Nat))))∧w'=w:=by
 have HP:=hide (Zci w d P.D L h.dev n hn aa);have c0:=h.blk.c0;clear h hn;unfold at0 at *;by_cases h0:0≤k
 · by_cases h1:k<(n:Int)
   · have h2:decide (k<(n:Int))=true:=decide_eq_true h1;rw [decide_eq_true (show 0≤k∧k<(n:Int) from ⟨h0,h1⟩)];go_enter Tryz.func99,Tryz.ntmps99;go_wp2_with fail;refine HP.out.mono ?_;rintro e w' ⟨rfl,hw⟩;obtain rfl:=hw.symm;go_wp2_with fail;go_ret;exact⟨rfl,rfl⟩
   · have h2:decide (k<(n:Int))=false:=decide_eq_false h1;rw [decide_eq_false (show ¬(0≤k∧k<(n:Int)) from fun e=>h1 e.2)];go_enter Tryz.func99,Tryz.ntmps99;go_wp2_with fail;refine HP.out.mono ?_;rintro e w' ⟨rfl,hw⟩;obtain rfl:=hw.symm;go_wp2_with fail;go_ret;exact⟨rfl,rfl⟩
 · rw [decide_eq_false (show ¬(0≤k∧k<(n:Int)) from fun e=>h0 e.1)];go_enter Tryz.func99,Tryz.ntmps99;go_wp2_with fail;go_ret;exact⟨rfl,rfl⟩
theorem ZeC {Y:Nat→Prop}{f:Int→Option Value}(h:PoIn w p d P L Y v mb f)(hE:P.D.Easy n c)(aj:P.D.ss.length≤65536):Calls Tryz.prog 56 #[at0 p] w fun e w'=>e=.returned (.tuple #[])∧PoIn w' p d P.synced L Y v mb f∧Frm (fun i=>i=p) w w':=by
 have af:=ZbM w d P.D L h.dev n hE.sp hE.n2 hE.n1 (by omega);have c0:=h.blk.c0;have HI:=hide h;have ah:=hide hE.sbn;obtain⟨sb,ae⟩:∃sb,sb=P.D.sb:=⟨_,rfl⟩;rw [← ae] at af ah;have an:=hide af;have am:=hide aj;have ab:=hide ae;clear h hE af aj ae;unfold at0 at *;go_enter Tryz.func56,Tryz.ntmps56;go_wp2_with fail;refine an.out.mono ?_;rintro e w1 ⟨ac,⟨sa,sl,sc⟩,rfl,_,hl,_⟩;simp only [Sl.val] at hl ⊢;have I1:=HI.out.keep ac;obtain⟨W,ai,aa,ad,aq⟩:=stSy I1.blk P.D.fin;have ao:=hide (I1.sync P.D.fin aa ad);have ak:=hide ((Frm.ofBelow (F:=fun i=>i=p) ac).trans ad (fun _ _ e=>e));(have ar:sl≤65536:=by rw [hl];exact am.out);(have al:Hid (P.D.fin=(sb:Int)+(sl:Int)):=by show P.D.fin=_;unfold Ds.fin;rw [hl,← ab.out];omega);have ap:sb≤900000000000:=ah.out;have ag:=hide ai;rw [al.out] at ag;clear I1 ai aa ad aq ac hl c0;go_wp2_with (refine Zab _ rfl rfl 3 (.tmp 20) (.tmp 18) rfl (.pointer (some ⟨p,4,none⟩)) (.int .i64 ((sb:Int)+(sl:Int))) rfl rfl W ag.out ?_);go_end0;exact⟨rfl,ao.out,ak.out⟩
structure Po.Lite (P:Po) (n c:Nat):Prop where
  wet:P.Wet n c
  cap:c≤9600
  ss:P.D.ss.length≤65536
theorem Po.Fine.lite (h:P.Fine n c):P.Lite n c:=⟨h.wet,Nat.le_trans h.cap (by omega),h.ss⟩
theorem FrBlk.frm {w':World}{d:Bool}(h:FrBlk w g s d z){F:Nat→Prop}(hf:Frm F w w')(hF:¬F g):FrBlk w' g s d z:=(hf.block g h.lt hF).trans h
theorem Zgg (w:World)(s:Sl)(d:Bool)(z:Int):FrBlk (w.alloc (.cells #[s.val,.bool d,.int .i64 z] 140)) w.heap.size s d z:=heap_alloc_new w _
theorem PoIn.new {Y:Nat→Prop}{f:Int→Option Value}(h:PoIn w p d P L Y v mb f)(hg:w.heap.size≤g):¬(g=p∨g=mb∨L.F d g)∧¬Y g:=by
 refine⟨fun e=>?_,fun e=>?_⟩
 · rcases e with e | e | e
   · have:=h.blk.lt;omega
   · have:=h.map.lt;omega
   · have:=h.dev.lt e;omega
 · have:=h.lt g e;omega
theorem PoIn.bytes {Y:Nat→Prop}{f:Int→Option Value}(h:PoIn w p d P L Y v mb f){s:Sh}{u:Value}{sl:Sl}(hs:ShIs w Y s u sl z)(hx:Bytes s.b):Came w sl.a sl.len sl.cap s.b∧Off (L.F d) sl.a 512:=by
 refine⟨hs.own.came hx,fun ad e hl hk=>h.ap ad.block (.inr (.inr (hs.home _ ?_))) hk⟩;unfold Sl.blk;rw [e];rfl
theorem Zfn {Y : Nat → Prop} {f : Int → Option Value} (h : PoIn w p d P L Y v mb f) (hF : P.Lite n c) (k : Nat) (s : Sh) (hm : P.m k = some s) (hd : s.dirty = true) : Calls Tryz.prog 90 #[at0 p, .int .i64 (k : Int)] w fun e w' => Did w p d mb L Y w' (P.wrote k s) ∧ e = .returned (.tuple #[]) := by
  obtain ⟨hkn, hsb, hsx⟩ := hF.wet.sh k s hm
  have hE := hF.wet.dev
  have hn64 := hE.n2
  rcases h.sh k with ⟨e, _⟩ | ⟨s', u, sl, z, e1, e2, hsh⟩
  · rw [hm] at e; cases e
  obtain rfl : s = s' := by rw [hm] at e1; exact Option.some.inj e1
  have hz := hsh.place hd
  have hlook := h.map.look (k := (k : Int)) (ZeG k (by omega))
  rw [e2, hsh.val, hd] at hlook
  simp only [Option.getD_some, frV] at hlook
  subst hz
  -- the box of the frame
  obtain ⟨w1, hw1⟩ : ∃ w1, w1 = w.alloc (.cells #[sl.val, .bool true, .int .i64 s.place] 140) := ⟨_, rfl⟩
  have hB1 : Below w.heap.size w w1 := by rw [hw1]; exact Zaa w _
  have hFB1 : FrBlk w1 w.heap.size sl true s.place := by rw [hw1]; exact Zgg w sl true s.place
  have hg := (h.new (Nat.le_refl w.heap.size))
  have hI1 := h.keep hB1
  have hsh1 : ShIs w1 Y s u sl s.place := hsh.frm (fun i hi => hB1.block i (h.lt i hi)) (fun _ e => e)
  -- region 4
  have HT4 : Hid (∀ (W3 : World) (L3 : Dl), PoIn W3 p d (P.ahead s.place) L3 Y v mb f ∧ (∀ i, L3.F d i → L.F d i ∨ w1.heap.size ≤ i) ∧ Frm (fun i => i = p ∨ i = mb ∨ L.F d i) w1 W3 → FrBlk W3 w.heap.size sl true s.place → ∀ {Q : Exit → Act → World → Prop} {A : Act}, A.tmps.size = 41 → A.defers = [] → A.tmps.getD 0 undef = .pointer (some ⟨p, 0, none⟩) → A.tmps.getD 1 undef = .int .i64 (k : Int) → A.tmps.getD 4 undef = .pointer (some ⟨w.heap.size, 0, none⟩) →
      (∀ (u : Nat → Value) (w4 : World), (∃ L4, PoIn w4 p d { P.ahead s.place with D := (P.ahead s.place).D.write k s.b } L4 Y v mb f ∧ FrBlk w4 w.heap.size sl true s.place ∧ Frm (fun i => i = p ∨ i = mb ∨ L3.F d i) W3 w4 ∧ ∀ i, L4.F d i → L3.F d i ∨ W3.heap.size ≤ i) → Q .normal (((((((((A).put (some 25) (u 25)).put (some 26) (u 26)).put (some 27) (u 27)).put (some 28) (u 28)).put (some 29) (u 29)).put (some 30) (u 30)).put (some 31) (u 31)).put (some 32) (u 32)) w4) →
      (Code.region 4 (Pl.find 4 ((Tryz.f90.body).getD .skip)) true).wp Tryz.prog Q A W3) := by
    show ∀ _, _
    intro W3 L3 hI3' hFB3 Q A a1 a2 a3 a4 a5 hend
    obtain ⟨hI3, hFO, hFR⟩ := hI3'
    have hI3d := hI3.keep (Zad W3)
    have hsh3 : ShIs W3.drew Y s u sl s.place := hsh1.frm (fun i hi => hFR.block i (hI1.lt i hi) (fun e => by
      rcases e with e | e | e
      · exact h.yp (e ▸ hi)
      · exact h.ym (e ▸ hi)
      · exact h.ap i (.inr (.inr hi)) e)) (fun _ e => e)
    have hEa := (hF.wet.ahead s.place).dev
    obtain ⟨hcm, hoff⟩ := hI3d.bytes hsh3 hsx
    rw [hsh.len] at hcm
    have hwr := Zml W3.drew d (P.ahead s.place).D L3 hI3d.dev n hEa.sp hEa.n2 (fun x hx => (hEa.wr x hx).len) (Nat.le_trans hEa.wl (by have := hF.cap; omega)) hEa.al k hkn sl.a sl.cap s.b hcm hoff
    refine pw4 W3 p w.heap.size d k sl.a 512 sl.cap (fun w4 => ∃ L4, Zaj W3.drew d L3 w4 ((P.ahead s.place).D.write k s.b) L4) ⟨hI3.blk.c0, by have := hFB3.c0; rw [hsh.len] at this; exact this⟩ (hwr.mono (fun e w' r => r)) (fun w2 hw2 => ?_) a1 a2 a3 a4 a5 (fun u w4 hw4 => ?_)
    · obtain ⟨L4, t⟩ := hw2
      have hg3 : ¬ L3.F d w.heap.size := fun e => by
        rcases hFO _ e with e | e
        · exact hg.1 (.inr (.inr e))
        · have := hFB1.lt
          omega
      refine ⟨(hI3d.turn t).blk.c0, ?_⟩
      have := (FrBlk.frm (show FrBlk W3.drew _ _ _ _ from hFB3) t.frm hg3).c0
      rw [hsh.len] at this
      exact this
    · obtain ⟨L4, t⟩ := hw4
      have hg3 : ¬ L3.F d w.heap.size := fun e => by
        rcases hFO _ e with e | e
        · exact hg.1 (.inr (.inr e))
        · have := hFB1.lt
          omega
      exact hend u w4 ⟨L4, hI3d.turn t, FrBlk.frm (show FrBlk W3.drew _ _ _ _ from hFB3) t.frm hg3, (Frm.ofBelow (Zad W3)).trans (t.frm.mono (fun i _ e => .inr (.inr e))) (fun _ _ e => e), t.foot⟩
  -- region 5
  have HT5 : Hid (∀ (w4 : World) (L4 : Dl), PoIn w4 p d { P.ahead s.place with D := (P.ahead s.place).D.write k s.b } L4 Y v mb f → FrBlk w4 w.heap.size sl true s.place → ∀ {Q : Exit → Act → World → Prop} {A : Act}, A.tmps.size = 41 → A.defers = [] → A.tmps.getD 0 undef = .pointer (some ⟨p, 0, none⟩) → A.tmps.getD 1 undef = .int .i64 (k : Int) → A.tmps.getD 4 undef = .pointer (some ⟨w.heap.size, 0, none⟩) →
      (∀ (u : Nat → Value) (w5 : World), (Did w4 p d mb L4 Y w5 (P.wrote k s)) → Q .normal (((((((((A).put (some 33) (u 33)).put (some 34) (u 34)).put (some 35) (u 35)).put (some 36) (u 36)).put (some 37) (u 37)).put (some 38) (u 38)).put (some 39) (u 39)).put (some 40) (u 40)) w5) →
      (Code.region 5 (Pl.find 5 ((Tryz.f90.body).getD .skip)) true).wp Tryz.prog Q A w4) := by
    show ∀ _, _
    intro w4 L4 hI4 hFB4 Q A a1 a2 a3 a4 a5 hend
    have hI4d := hI4.keep (Zad w4)
    obtain ⟨w5, hrun, hm5, hf5, hs5⟩ := hI4d.map.put k (by omega) (frV sl false 0)
    have hsh4 : ShIs w4 Y s u sl s.place := by
      rcases hI4.sh k with ⟨e, _⟩ | ⟨s', u', sl', z', f1, f2, hs'⟩
      · rw [show ({ P.ahead s.place with D := (P.ahead s.place).D.write k s.b } : Po).m k = P.m k from congrFun (ZaE P s.place).1 k, hm] at e; cases e
      · rw [show ({ P.ahead s.place with D := (P.ahead s.place).D.write k s.b } : Po).m k = P.m k from congrFun (ZaE P s.place).1 k, hm] at f1
        obtain rfl := Option.some.inj f1
        rw [e2] at f2
        obtain rfl := Option.some.inj f2
        have h1 := hs'.val
        rw [hsh.val] at h1
        simp only [frV, Value.agg.injEq, Array.mk.injEq, List.cons.injEq, Sl.val, Value.slice.injEq] at h1
        obtain ⟨⟨q1, q2, q3⟩, _, q4, _⟩ := h1
        obtain rfl : sl = sl' := by cases sl; cases sl'; simp_all
        exact ⟨hsh.val, fun _ => rfl, hs'.own, hs'.len, hs'.home⟩
    have hI5 := hI4d.put k (some { s with dirty := false }) (putF f (k : Int) (some (frV sl false 0))) hm5 (fun j hj => if_neg hj) hf5 (by
      refine .inr ⟨_, _, sl, 0, rfl, if_pos rfl, rfl, (fun e => by cases e), (hsh4.own.frame fun i hi => hf5.block i (hI4d.lt i (hsh4.home i hi)) (fun e => h.ym (e ▸ hsh4.home i hi))), hsh4.len, hsh4.home⟩)
    refine pw5 w4 p w.heap.size mb k sl w5 ⟨hI4.blk.c3, hFB4.c0⟩ hrun ⟨hI5.blk.c3, (FrBlk.frm (show FrBlk w4.drew _ _ _ _ from hFB4) hf5 (fun e => hg.1 (.inr (.inl e)))).c0⟩ a1 a2 a3 a4 a5 (fun u w' hw' => ?_)
    subst hw'
    exact hend u _ ⟨⟨L4, Y, v, _, hI5, fun _ e => .inl e, fun _ e => .inl e⟩, (Frm.ofBelow (Zad w4)).trans (hf5.mono (fun i _ e => .inr (.inl e))) (fun _ _ e => e)⟩
  have HDONE : Hid (∀ (W3 : World) (L3 : Dl) (w4 : World) (L4 : Dl) (w5 : World), Frm (fun i => i = p ∨ i = mb ∨ L.F d i) w1 W3 → (∀ i, L3.F d i → L.F d i ∨ w1.heap.size ≤ i) → Frm (fun i => i = p ∨ i = mb ∨ L3.F d i) W3 w4 → (∀ i, L4.F d i → L3.F d i ∨ W3.heap.size ≤ i) → Did w4 p d mb L4 Y w5 (P.wrote k s) → Did w p d mb L Y w5 (P.wrote k s)) := by
    show ∀ _, _
    intro W3 L3 w4 L4 w5 fr3 fo3 fr4 fo4 hD
    have s1 : w.heap.size ≤ w1.heap.size := hB1.size
    obtain ⟨L5, Y5, v5, f5, hI5, hy5, hl5⟩ := hD.ex
    have k4 : ∀ i, L4.F d i → L.F d i ∨ w1.heap.size ≤ i := fun i e => by
      rcases fo4 i e with e | e
      · exact fo3 i e
      · exact .inr (Nat.le_trans fr3.size e)
    have fr : Frm (fun i => i = p ∨ i = mb ∨ L.F d i) w1 w5 := (fr3.trans fr4 (fun i hlt e => by
      rcases e with e | e | e
      · exact .inl e
      · exact .inr (.inl e)
      · rcases fo3 i e with e | e
        · exact .inr (.inr e)
        · omega)).trans hD.frm (fun i hlt e => by
      rcases e with e | e | e
      · exact .inl e
      · exact .inr (.inl e)
      · rcases k4 i e with e | e
        · exact .inr (.inr e)
        · omega)
    have s4 : w1.heap.size ≤ w4.heap.size := Nat.le_trans fr3.size fr4.size
    refine ⟨⟨L5, Y5, v5, f5, hI5, fun i e => ?_, fun i e => ?_⟩, (Frm.ofBelow hB1).trans fr (fun _ _ e => e)⟩
    · rcases hy5 i e with e | e
      · exact .inl e
      · exact .inr (by omega)
    · rcases hl5 i e with e | e
      · rcases k4 i e with e | e
        · exact .inl e
        · exact .inr (by omega)
      · exact .inr (by omega)
  have HI1 := hide hI1
  have HFB1 := hide hFB1
  have HF := hide hF
  have HG := hide hg
  have c3 := h.blk.c3
  have c4w := hI1.blk.c4
  have c0w := hI1.blk.c0
  have HR1 : Hid (∀ {Q : Exit → Act → World → Prop} {A : Act}, _) := fun {Q A} => pw1 w1 p w.heap.size s.place P.sy ⟨hFB1.c2, c4w⟩ (Q := Q) (A := A)
  have HW1 := hide hw1
  clear hw1
  have hB1' := hide hB1
  clear hI1 hFB1 hB1 hF hg h hsh hsh1 hE hsb hsx hm hd e1 e2 c4w
  obtain ⟨sa, sln, sc⟩ := sl
  simp only [Sl.val] at *
  unfold at0
  by_cases hzs : P.sy < s.place
  · have hAh : P.ahead s.place = { P with D := P.D.sync, sy := P.D.fin } := if_pos hzs
    rw [decide_eq_true hzs] at HR1
    clear hzs
    go_enter Tryz.func90, Tryz.ntmps90
    go_wp2_with fail
    rw [← HW1.out]
    refine Pl.q8 (ops := Pl.find 1 ((Tryz.f90.body).getD .skip)) ?_
    refine HR1.out (by rfl) rfl (by rfl) (by rfl) ?_
    intro u1 w2 hw2
    simp only [Act.put, List.setIfInBounds_toArray, List.set_cons_zero, List.set_cons_succ]
    have I2 : Hid (PoIn w2 p d P L Y v mb f) := by rw [hw2]; exact HI1.out.keep (Zad w1)
    have FB2 : Hid (FrBlk w2 w.heap.size ⟨sa, sln, sc⟩ true s.place) := by rw [hw2]; exact HFB1
    have BL2 : Hid (Below w1.heap.size w1 w2) := by rw [hw2]; exact Zad w1
    clear hw2
    have hE2 := HF.out.wet.dev
    have hss2 := HF.out.ss
    have HSY := hide (Zib w2 d P.D L I2.out.dev n (hE2.sane (Nat.le_trans HF.out.cap (by omega)) (by omega)) (fun _ => hE2.fit))
    have c02 := I2.out.blk.c0
    unfold at0 at HSY
    clear hE2 hss2
    go_wp2_with fail
    refine HSY.out.mono ?_
    rintro e w3 ⟨rfl, L3, hT3⟩
    have I3 := hide (I2.out.turn hT3)
    have FB3 : Hid (FrBlk w3 w.heap.size ⟨sa, sln, sc⟩ true s.place) := FB2.out.frm hT3.frm (fun e => HG.out.1 (.inr (.inr e)))
    have hE3 := HF.out.wet.dev.sync
    have hss3 : P.D.sync.ss.length ≤ 65536 := by rw [P.D.sync_sp.2.1]; exact HF.out.ss
    have HSN := hide (ZeC I3.out hE3 hss3)
    have HFO3' : Hid (∀ i, L3.F d i → L.F d i ∨ w1.heap.size ≤ i) := fun i e => (hT3.foot i e).imp id (fun e => Nat.le_trans BL2.out.size e)
    have HFR3' := hide ((Frm.ofBelow (F := fun i => i = p ∨ i = mb ∨ L.F d i) BL2.out).trans (hT3.frm.mono (fun i _ e => .inr (.inr e))) (fun _ _ e => e))
    unfold at0 at HSN
    clear hT3 hE3 hss3 c02
    go_wp2_with fail
    refine HSN.out.mono ?_
    rintro e W3 ⟨rfl, hI, hFr⟩
    have HI3 : Hid (PoIn W3 p d (P.ahead s.place) L3 Y v mb f ∧ (∀ i, L3.F d i → L.F d i ∨ w1.heap.size ≤ i) ∧ Frm (fun i => i = p ∨ i = mb ∨ L.F d i) w1 W3) := by
      refine ⟨?_, HFO3'.out, HFR3'.out.trans (hFr.mono (fun i _ e => .inl e)) (fun _ _ e => e)⟩
      rw [hAh]
      have e : P.D.sync.fin = P.D.fin := P.D.sync_fin
      unfold Po.synced at hI
      simp only [e] at hI
      exact hI
    have HFR3 := hide HI3.out.2.2
    have HFO3 := HFO3'
    have HFB3 : Hid (FrBlk W3 w.heap.size ⟨sa, sln, sc⟩ true s.place) := FB3.out.frm hFr (fun e => HG.out.1 (.inl e))
    clear hI hFr hAh
    go_wp2_with fail
    -- region 4: the device's Write
    refine Pl.q8 (ops := Pl.find 4 ((Tryz.f90.body).getD .skip)) ?_
    refine HT4.out W3 L3 HI3.out HFB3.out (by rfl) rfl (by rfl) (by rfl) (by rfl) ?_
    intro u4 w4 hw4
    obtain ⟨L4, HI4, HFB4, HFR4, HFO4⟩ := hw4
    simp only [Act.put, List.setIfInBounds_toArray, List.set_cons_zero, List.set_cons_succ]
    go_wp2_with fail
    refine Pl.q8 (ops := Pl.find 5 ((Tryz.f90.body).getD .skip)) ?_
    refine HT5.out w4 L4 HI4 HFB4 (by rfl) rfl (by rfl) (by rfl) (by rfl) ?_
    intro u5 w5 hw5
    simp only [Act.put, List.setIfInBounds_toArray, List.set_cons_zero, List.set_cons_succ]
    go_end0
    exact ⟨(HDONE.out W3 L3 w4 L4 w5 HFR3.out HFO3.out HFR4 HFO4 hw5), rfl⟩
  · have hAh : P.ahead s.place = P := if_neg hzs
    rw [decide_eq_false hzs] at HR1
    clear hzs
    go_enter Tryz.func90, Tryz.ntmps90
    go_wp2_with fail
    rw [← HW1.out]
    refine Pl.q8 (ops := Pl.find 1 ((Tryz.f90.body).getD .skip)) ?_
    refine HR1.out (by rfl) rfl (by rfl) (by rfl) ?_
    intro u1 W3 hw2
    simp only [Act.put, List.setIfInBounds_toArray, List.set_cons_zero, List.set_cons_succ]
    have HI3 : Hid (PoIn W3 p d (P.ahead s.place) L Y v mb f ∧ (∀ i, L.F d i → L.F d i ∨ w1.heap.size ≤ i) ∧ Frm (fun i => i = p ∨ i = mb ∨ L.F d i) w1 W3) := by
      rw [hw2, hAh]
      exact ⟨HI1.out.keep (Zad w1), fun _ e => .inl e, Frm.ofBelow (Zad w1)⟩
    have HFB3 : Hid (FrBlk W3 w.heap.size ⟨sa, sln, sc⟩ true s.place) := by rw [hw2]; exact HFB1
    have HFR3 := hide HI3.out.2.2
    have HFO3 := hide HI3.out.2.1
    clear hw2 hAh
    go_wp2_with fail
    -- region 4: the device's Write
    refine Pl.q8 (ops := Pl.find 4 ((Tryz.f90.body).getD .skip)) ?_
    refine HT4.out W3 L HI3.out HFB3.out (by rfl) rfl (by rfl) (by rfl) (by rfl) ?_
    intro u4 w4 hw4
    obtain ⟨L4, HI4, HFB4, HFR4, HFO4⟩ := hw4
    simp only [Act.put, List.setIfInBounds_toArray, List.set_cons_zero, List.set_cons_succ]
    go_wp2_with fail
    refine Pl.q8 (ops := Pl.find 5 ((Tryz.f90.body).getD .skip)) ?_
    refine HT5.out w4 L4 HI4 HFB4 (by rfl) rfl (by rfl) (by rfl) (by rfl) ?_
    intro u5 w5 hw5
    simp only [Act.put, List.setIfInBounds_toArray, List.set_cons_zero, List.set_cons_succ]
    go_end0
    exact ⟨(HDONE.out W3 L w4 L4 w5 HFR3.out HFO3.out HFR4 HFO4 hw5), rfl⟩
section
variable {ops : Array Oper} {rest : List Oper} {o : Oper} {a : Act} {Q : Exit → Act → World → Prop}
theorem Zfl (w:World)(ab:o.guard=none)(t k ty:TypeId)(ac:o.type=ty)(m x:Operand)(ho:o.op=.call { callee:=.builtin .delete,args:=#[m,x],argTypes:=#[t,k] })(vm vx:Value)(hm:a.eval m=vm)(hx:a.eval x=vx)(w':World)(aa:(Builtin.delete_ #[t,k] ty #[vm,vx]).run Tryz.prog w=.ok (.tuple #[]) w')(hK:wpList Tryz.prog ops Q rest (a.put o.dst (.tuple #[])) w'):wpList Tryz.prog ops Q (o :: rest) a w:=by
 refine wpList_plain ab fun K' hK'=>?_;unfold Oper.wp;simp [execOp,ho,resolve,invoke,builtin,hm,hx,ac,aa,Result.andThen];exact hK' _ _ hK
end
theorem ZeJ (P:Po)(k:Nat)(h:∀s,P.m k=some s→s.dirty=false):P.write k=P:=by
 unfold Po.write;cases e:P.m k with
 | none=>rfl
 | some s=>simp only;rw [if_neg (by rw [h s e];decide)]
theorem ZcX (P:Po)(k:Nat)(s:Sh)(h:P.m k=some s)(hd:s.dirty=true):P.write k=P.wrote k s:=by
 unfold Po.write;rw [h];simp only;rw [if_pos hd]
theorem PoIn.drop {Y:Nat→Prop}{f:Int→Option Value}(h:PoIn w p d P L Y v mb f)(k:Nat)(hk:k<1000000)(ty:TypeId):∃w',(Builtin.delete_ #[124,3] ty #[.map (some mb),.int .i64 (k:Int)]).run Tryz.prog w=.ok (.tuple #[]) w'∧Did w p d mb L Y w' (P.put k none):=by
 obtain⟨w',aa,hm,hf,_⟩:=h.map.del (ZeG k hk) ty;exact⟨w',aa,⟨L,Y,v,_,h.put k none _ hm (fun j hj=>if_neg hj) hf (.inl ⟨rfl,if_pos rfl⟩),fun _ e=>.inl e,fun _ e=>.inl e⟩,hf.mono (fun i _ e=>.inr (.inl e))⟩
theorem PoIn.looks {Y:Nat→Prop}{f:Int→Option Value}(h:PoIn w p d P L Y v mb f)(k:Nat)(hk:k<1000000):∃(sl:Sl)(z:Int),(Instr.lookup 124 (.map (some mb)) (.int .i64 (k:Int)) false).run Tryz.prog w=.ok (.agg #[.slice sl.a sl.len sl.cap,.bool (P.isDirty k),.int .i64 z]) w∧(Instr.lookup 124 (.map (some mb)) (.int .i64 (k:Int)) true).run Tryz.prog w=.ok (.tuple #[.agg #[.slice sl.a sl.len sl.cap,.bool (P.isDirty k),.int .i64 z],.bool (P.m k).isSome]) w∧((P.m k=none∧sl=Sl.nil∧z=0)∨∃s u,P.m k=some s∧f (k:Int)=some u∧ShIs w Y s u sl z):=by
 have h1:=h.map.look (ZeG k hk);have h2:=h.map.lookOk (ZeG k hk);unfold Po.isDirty;rcases h.sh k with ⟨e1,e2⟩ | ⟨s,u,sl,z,e1,e2,hs⟩
 · rw [e2] at h1 h2;rw [e1];exact⟨Sl.nil,0,h1,h2,.inl ⟨rfl,rfl,rfl⟩⟩
 · rw [e2] at h1 h2;rw [e1];refine⟨sl,z,?_,?_,.inr ⟨s,u,rfl,e2,hs⟩⟩
   · rw [h1,Option.getD_some,hs.val];rfl
   · rw [h2,Option.getD_some,hs.val];rfl
theorem ZmO (x:Value)(b:Bool)(y:Value)(w:World):(Instr.field 140 (.agg #[x,.bool b,y]) 1).run Tryz.prog w=.ok (.bool b) w:=by simp [go_sem,Instr.field,asAgg]
theorem ZhH {Y:Nat→Prop}{f:Int→Option Value}(h:PoIn w p d P L Y v mb f)(hF:P.Lite n c)(k:Nat)(hk:k<1000000):Calls Tryz.prog 93 #[at0 p,.int .i64 (k:Int)] w fun e w'=>Did w p d mb L Y w' (P.out k)∧e=.returned (.tuple #[]):=by
 obtain⟨sl,z,aa,_,aj⟩:=h.looks k hk;have c3:=h.blk.c3;unfold Po.out;cases hd:P.isDirty k with
 | true =>
  obtain⟨s,hs,ai⟩:∃s,P.m k=some s∧s.dirty=true:=by
   unfold Po.isDirty at hd;cases e:P.m k with
   | none=>rw [e] at hd;cases hd
   | some s=>rw [e] at hd;exact ⟨s,rfl,hd⟩
  have HW:=hide (Zfn h hF k s hs ai);rw [← ZcX P k s hs ai] at HW;rw [hd] at aa;have HK:Hid (k<1000000):=hk;clear aj h hF hd hs ai hk;unfold at0 at *;obtain⟨sa,sln,sc⟩:=sl;simp only at aa;have am:=ZmO;go_enter Tryz.func93,Tryz.ntmps93;go_wp2_with fail;refine HW.out.mono ?_;rintro e w1 ⟨af,rfl⟩;obtain⟨L1,Y1,v1,f1,ag,ak,ah⟩:=af.ex;obtain⟨w2,ab,ad⟩:=ag.drop k HK.out 0;have c31:=ag.blk.c3;have ae:=hide af;have HD:Hid (Did w p d mb L Y w2 ((P.write k).put k none)):=by
   obtain⟨L2,Y2,v2,f2,al,ao,an⟩:=ad.ex;refine⟨⟨L2,Y2,v2,f2,al,fun i e=>?_,fun i e=>?_⟩,ae.out.frm.trans ad.frm (fun i ap e=>?_)⟩
   · rcases ao i e with e | e
     · exact ak i e
     · exact .inr (Nat.le_trans ae.out.frm.size e)
   · rcases an i e with e | e
     · exact ah i e
     · exact .inr (Nat.le_trans ae.out.frm.size e)
   · rcases e with e | e | e
     · exact .inl e
     · exact .inr (.inl e)
     · rcases ah i e with e | e
       · exact .inr (.inr e)
       · omega
  have ac:=hide ab;clear af ag ak ah ad ab aa c3;go_wp2_with (refine Zfl _ rfl 124 3 0 rfl (.tmp 17) (.tmp 18) rfl _ _ rfl rfl w2 ac.out ?_);go_end0;exact⟨HD.out,rfl⟩
 | false =>
  rw [ZeJ P k (fun s hs=>by unfold Po.isDirty at hd;rw [hs] at hd;exact hd)];rw [hd] at aa;obtain⟨w2,ab,ad⟩:=h.drop k hk 0;have ac:=hide ab;have HD:=hide ad;clear aj h hF hd ad ab hk;unfold at0 at *;obtain⟨sa,sln,sc⟩:=sl;simp only at aa;have am:=ZmO;go_enter Tryz.func93,Tryz.ntmps93;go_wp2_with (refine Zfl _ rfl 124 3 0 rfl (.tmp 17) (.tmp 18) rfl _ _ rfl rfl w2 ac.out ?_);go_end0;exact⟨HD.out,rfl⟩
end Go.Proofs.YtpnlebpnhmibfaaGreat
