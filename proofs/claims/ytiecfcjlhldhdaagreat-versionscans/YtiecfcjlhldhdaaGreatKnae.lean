/-
  Lemmas.
-/
import Derived.Test.YtiecfcjlhldhdaaGreatKnad
import Derived.Test.YtiecfcjlhldhdaaGreatKnaa
import Derived.Laws.MakeOwn
import Derived.Laws.StructEq
import Derived.Test.YtiecfcjlhldhdaaGreatKnab
import Derived.Test.YtiecfcjlhldhdaaGreatKnac
namespace Go.Proofs.YtiecfcjlhldhdaaGreat
open Go.RowKit Go.Proofs.Tryz
set_option linter.unusedVariables false
set_option linter.unusedSimpArgs false
set_option maxRecDepth 100000
set_option maxHeartbeats 4000000
variable {w w':World}{p:Nat}{v:Sl}{A:Act}{r:Rw}{c:Value}
theorem ZdW (r:Rw)(a:Option Addr)(len cap:Nat)(w:World)(h:Fs w a len cap r.xs)(hf:r.fits) :
    Calls prog 146 #[r.val (.slice a len cap)] w fun e w'=>e=.returned (.int .i64 (chk r.may))∧Bl w w':=by
  obtain⟨key,dead,xs,wr,cell,no⟩:=r;have H1:=Zh (Zmg key hf.key);have H2:Hi (∀w',Bl w w'→Calls prog 176 #[.slice a len cap,.bool dead] w' fun e w''=>e=.returned (.bool (haveB dead xs))∧w''=w'):=fun w' hb=>Zi3 a len cap xs dead w' (h.keep hb (Nat.le_refl _));have H3:=Zh (ZeP wr);have H4:=Zh (Zi4 cell no);have HW:Hi (∀o,Bl w (w.alloc o)):=Zab w;clear h hf;unfold Rw.val Rw.may;simp only;generalize (key == Fl.key key)=b1 at *;generalize haveB dead xs=b2 at *;generalize cntB wr=b3 at *;generalize rollB cell no=b4 at *;(have HC:Hi (∀b:Bool,chk (b && false)=1):=fun b=>by cases b <;> rfl);cases b1
  · go_enter func146,ntmps146;go_wp2_with fail;refine(H1.o _).mono ?_;rintro e w' ⟨rfl,hw⟩;obtain rfl:=hw.symm;go_wp2;go_ret;exact⟨rfl,HW.o _⟩
  cases b2
  · go_enter func146,ntmps146;go_wp2_with fail;refine(H1.o _).mono ?_;rintro e w' ⟨rfl,hw⟩;obtain rfl:=hw.symm;go_wp2_with fail;refine(H2.o _ (HW.o _)).mono ?_;rintro e w' ⟨rfl,hw⟩;obtain rfl:=hw.symm;go_wp2;go_ret;exact⟨rfl,HW.o _⟩
  cases b3
  · go_enter func146,ntmps146;go_wp2_with fail;refine(H1.o _).mono ?_;rintro e w' ⟨rfl,hw⟩;obtain rfl:=hw.symm;go_wp2_with fail;refine(H2.o _ (HW.o _)).mono ?_;rintro e w' ⟨rfl,hw⟩;obtain rfl:=hw.symm;go_wp2_with fail;refine(H3.o _).mono ?_;rintro e w' ⟨rfl,hw⟩;obtain rfl:=hw.symm;go_wp2;go_ret;exact⟨rfl,HW.o _⟩
  cases b4;all_goals
   go_enter func146,ntmps146;go_wp2_with fail;refine(H1.o _).mono ?_;rintro e w' ⟨rfl,hw⟩;obtain rfl:=hw.symm;go_wp2_with fail;refine(H2.o _ (HW.o _)).mono ?_;rintro e w' ⟨rfl,hw⟩;obtain rfl:=hw.symm;go_wp2_with fail;refine(H3.o _).mono ?_;rintro e w' ⟨rfl,hw⟩;obtain rfl:=hw.symm;go_wp2_with fail;refine(H4.o _).mono ?_;rintro e w' ⟨rfl,hb⟩;have HB:=Zh (Zac (HW.o _) hb);clear hb;go_wp2;go_ret;exact⟨rfl,HB.o⟩
theorem Zmu (r:Rw):r.may=((r.key == Fl.key r.key) && haveB r.dead r.xs && (decide (0≤r.wr) && decide (r.wr<2147483648) && decide (0≤r.cell) && decide (r.cell<65536) && decide (0≤r.no) && decide (r.no<2147483648) && (decide (0<r.cell) || r.no == 0))):=by
 unfold Rw.may;rw [Bool.and_assoc ((r.key == Fl.key r.key) && haveB r.dead r.xs)];congr 1;unfold cntB rollB;by_cases h0:r.cell=0
 · rw [if_pos h0];rw [Bool.eq_iff_iff];simp [h0];omega
 · rw [if_neg h0];rw [Bool.eq_iff_iff];simp [cntB];omega
theorem Pl.unwantedU {ops:Array Oper}{n:Nat}{f:Nat→Value}(i j dj:Nat)(b:Bool)(h:(Pl.op ops i).guard=some (j,b))(hj:(ops[j]?).bind (·.dst)=some dj)(hn:dj<n)(hv:f dj=undef) :
    ∀A,Pl.At n A f→Region.wanted (Pl.op ops i) (yielded ops A.tmps)=false:=by
  intro A hA;have hs:=hA.1;have h1:=hA.2.2 dj hn;have h2:A.tmps[dj]? = some undef:=by
   rw [hv] at h1;(have aa:dj<A.tmps.size:=by omega);simp only [Array.getD,aa,dif_pos] at h1;rw [Array.getElem?_eq_getElem aa];exact congrArg some h1
  simp [Region.wanted,h,yielded,hj,h2,undef]

theorem Pl.qq {ops:Array Oper}{n:Nat}{f:Nat→Value}{i:Nat}(j:Nat)(dj:Nat)(b:Bool)(h:(Pl.op ops i).guard=some (j,b):=by kernel_rfl)(hj:(ops[j]?).bind (·.dst)=some dj:=by kernel_rfl)(hn:dj<n:=by decide)(hv:f dj=undef:=by exact rfl):∀A,Pl.At n A f→Region.wanted (Pl.op ops i) (yielded ops A.tmps)=false:=Pl.unwantedU i j dj b h hj hn hv
theorem Pl.ext1 {P:Program}{ops:Array Oper}{n:Nat}{f:Nat→Value}(i g:Nat)(x:Operand)(ts:Array TypeId)(v:Value)(h:(Pl.op ops i).op=.call { callee:=.value (.func g),args:=#[x],argTypes:=ts })(hx:Pl.inB n x=true)
    (hv:(callFunc g #[Pl.ev f x]).run P w=.ok (.value v) w):∀A,Pl.At n A f→(execOp A.eval (Pl.op ops i)).run P w=.ok (.value v) w:=by
  intro A hA;have e:execOp A.eval (Pl.op ops i)=callFunc g (#[] ++ #[x].map A.eval ++ #[]):=by
   unfold execOp;rw [h];rfl
  rw [e];simp [hA.ev x hx,hv]

theorem Pl.q_44 {P:Program}{ops:Array Oper}{n:Nat}{f:Nat→Value}{w:World}{i:Nat}{v:Value}(g:Nat)(x:Operand)(ts:Array TypeId)(hv:(callFunc g #[Pl.ev f x]).run P w=.ok (.value v) w)(h:(Pl.op ops i).op=.call { callee:=.value (.func g),args:=#[x],argTypes:=ts }:=by kernel_rfl)(hx:Pl.inB n x=true:=by decide):∀A,Pl.At n A f→(execOp A.eval (Pl.op ops i)).run P w=.ok (.value v) w:=Pl.ext1 i g x ts v h hx hv
theorem Zdd (b o len cap k:Nat)(hk:k<len)(w:World):(Instr.indexAt 35 (.slice (some ⟨b,o,none⟩) len cap) (.int .i64 (k:Nat))).run prog w=.ok (.pointer (some ⟨b,o+k,none⟩)) w:=by
 (have aa:prog.underlying 35=some (.slice (prog.elem 35)):=by kernel_rfl);(have h1:(0:Int)≤(k:Int):=by omega);simp [go_sem,Instr.indexAt,run_underlying aa,h1,Addr.add_lit];intro h;omega
theorem Za7 (b o x:Nat)(w:World)(h:w.cell? ⟨b,o,none⟩=some (.float .f64 x)):(Instr.loadAt 32 (.pointer (some ⟨b,o,none⟩))).run prog w=.ok (.float .f64 x) w:=by
 simp [go_sem,h]
theorem Zbq (b o:Nat)(a:Option Addr)(len cap:Nat)(w:World)(h:w.cell? ⟨b,o,none⟩=some (.slice a len cap)):(Instr.loadAt 35 (.pointer (some ⟨b,o,none⟩))).run prog w=.ok (.slice a len cap) w:=by
 simp [go_sem,h]
theorem ZdF (a:Option Addr)(len cap:Nat)(ty:TypeId)(w:World):(Builtin.len_ #[35] ty #[.slice a len cap]).run prog w=.ok (.int .i64 (len:Nat)) w:=by
 simp [go_sem]
theorem ZeS (b o:Nat)(d:Bool)(w:World)(h:w.cell? ⟨b,o,none⟩=some (.bool d)):(Instr.loadAt 4 (.pointer (some ⟨b,o,none⟩))).run prog w=.ok (.bool d) w:=by
 simp [go_sem,h]
def RwBlk (w:World) (p:Nat) (r:Rw) (c:Value):Prop:=w.heap[p]? = some (Obj.cells #[.float .f64 r.key,.bool r.dead,c,.int .i64 r.wr,.int .i64 r.cell,.int .i64 r.no] 39 (0,0))
theorem Zai (w:World)(r:Rw)(c:Value):RwBlk (w.alloc (.cells #[.float .f64 r.key,.bool r.dead,c,.int .i64 r.wr,.int .i64 r.cell,.int .i64 r.no] 39)) w.heap.size r c:=heap_alloc_new w _
theorem RwBlk.keep (h:RwBlk w p r c)(hb:Bl w w'):RwBlk w' p r c:=(hb.block p (Array.getElem?_eq_some_iff.1 h).1).trans h
theorem RwBlk.c0 (h:RwBlk w p r c):w.cell? ⟨p,0,none⟩=some (.float .f64 r.key):=by unfold RwBlk at h;simp [World.cell?,h]
theorem RwBlk.c1 (h:RwBlk w p r c):w.cell? ⟨p,1,none⟩=some (.bool r.dead):=by unfold RwBlk at h;simp [World.cell?,h]
theorem RwBlk.c2 (h:RwBlk w p r c):w.cell? ⟨p,2,none⟩=some c:=by unfold RwBlk at h;simp [World.cell?,h]
theorem RwBlk.c3 (h:RwBlk w p r c):w.cell? ⟨p,3,none⟩=some (.int .i64 r.wr):=by unfold RwBlk at h;simp [World.cell?,h]
theorem RwBlk.c4 (h:RwBlk w p r c):w.cell? ⟨p,4,none⟩=some (.int .i64 r.cell):=by unfold RwBlk at h;simp [World.cell?,h]
theorem RwBlk.c5 (h:RwBlk w p r c):w.cell? ⟨p,5,none⟩=some (.int .i64 r.no):=by unfold RwBlk at h;simp [World.cell?,h]
theorem RwBlk.fz (h:RwBlk w p r c)(o:Nat):w.frozen? ⟨p,o,none⟩=false:=frozen_of_row w p _ _ 39 h
theorem ZaV (b:Nat)(w:World):(Instr.fieldAt 39 (.pointer (some ⟨b,0,none⟩)) 0).run prog w=.ok (.pointer (some ⟨b,0,none⟩)) w:=by simp [go_sem,Instr.fieldAt]
theorem ZeK (b:Nat)(w:World):(Instr.fieldAt 39 (.pointer (some ⟨b,0,none⟩)) 1).run prog w=.ok (.pointer (some ⟨b,1,none⟩)) w:=by simp [go_sem,Instr.fieldAt]
theorem ZaL (b:Nat)(w:World):(Instr.fieldAt 39 (.pointer (some ⟨b,0,none⟩)) 2).run prog w=.ok (.pointer (some ⟨b,2,none⟩)) w:=by simp [go_sem,Instr.fieldAt]
theorem ZcZ:∀args w,(callFunc 49 args).run prog w=.ok (.enter 49 args) w:=Pl.qi func49
theorem ZnI:∀args w,(callFunc 50 args).run prog w=.ok (.enter 50 args) w:=Pl.qi func50
theorem Zsd (w0 w:World)(p:Nat)(r:Rw)(a:Option Addr)(len cap:Nat)(hx:RwBlk w0 p r (.slice a len cap))(ac:r.key<18446744073709551616)(ad:((r.key:Int) != ((Fl.key r.key:Nat):Int))=true)(hW:Bl w0 w)
    {Q:Exit→Act→World→Prop}(ae:A.tmps.size=91)(ab:A.defers=[])(s1:A.tmps.getD 1 undef=.pointer (some ⟨p,0,none⟩))
    (hend:∀(u:Nat→Value) w',Bl w0 w'→Q .normal ((Pl.pu A u [4,5,7,8,6,9,10,11,12,13,14,15,16,17,18,19,20,21,22,23,24,25]).put (some 26) (.bool true)) w') :
    Pl.rg prog 1 f60 Q A w:=by
  have aa:Bl w0 w.drew:=hW.drew;have hA:=Pl.At.same (v:=.pointer (some ⟨p,0,none⟩)) (d:=1) (Pl.At.here ae ab) s1;refine Pl.qb (S:=fun w'=>Bl w0 w') hA aa ?_;rw [show (Pl.fd 1 f60).size=23 by kernel_rfl];refine Pl.q0 0 4 (.pointer (some ⟨p,0,none⟩)) (Pl.q1) (Pl.q6 39 (.tmp 1) 0 (ZaV p)) aa ?_;refine Pl.q0 1 5 (.float .f64 r.key) (Pl.q1) (Pl.q4 32 (.tmp 4) (fun w' hS=>Za7 p 0 _ w' (hx.keep hS).c0)) aa ?_;refine Pl.q0 3 7 (.pointer (some ⟨p,0,none⟩)) (Pl.q1) (Pl.q6 39 (.tmp 1) 0 (ZaV p)) aa ?_;refine Pl.q0 4 8 (.float .f64 r.key) (Pl.q1) (Pl.q4 32 (.tmp 7) (fun w' hS=>Za7 p 0 _ w' (hx.keep hS).c0)) aa ?_;refine Pl.qw 2 6 (.int .u64 (r.key:Int)) (Pl.q1) (Pl.q_44 84 (.tmp 5) #[32] (ZaT _ _)) aa ?_;refine Pl.qe 5 9 49 [(.tmp 8)] #[32] (Pl.q1) ZcZ (Calls.mono (ZaO r.key ac w.drew) ?_);rintro e w' ⟨rfl,hw⟩;obtain rfl:=hw.symm;refine⟨.int .u64 ((Fl.key r.key:Nat):Int),rfl,aa,?_⟩;refine Pl.q0 6 10 (.bool true) (Pl.q1) (Pl.qc .neq 88 88 (.tmp 6) (.tmp 9) (.int .u64 (r.key:Int)) (.int .u64 ((Fl.key r.key:Nat):Int)) (fun w=>by simp [go_sem,eqGuard,ad])) aa ?_;refine Pl.q0 7 11 (.bool true) (Pl.q1) (Pl.q2 (.tmp 10)) aa ?_;refine Pl.q5 8 12 (Pl.q7 7 11 false) aa ?_;refine Pl.q5 9 13 (Pl.q7 7 11 false) aa ?_;refine Pl.q5 10 14 (Pl.q7 7 11 false) aa ?_;refine Pl.q5 11 15 (Pl.q7 7 11 false) aa ?_;refine Pl.q0 12 16 (.bool true) (Pl.q1) (Pl.qp (.tmp 11) (.const (.bool true)) (.tmp 15)) aa ?_;refine Pl.q0 13 17 (.bool true) (Pl.q1) (Pl.q2 (.tmp 16)) aa ?_;refine Pl.q5 14 18 (Pl.q7 13 17 false) aa ?_;refine Pl.q5 15 19 (Pl.q7 13 17 false) aa ?_;refine Pl.q5 16 20 (Pl.q7 13 17 false) aa ?_;refine Pl.q5 17 21 (Pl.qq 16 20 true) aa ?_;refine Pl.q5 18 22 (Pl.qq 16 20 true) aa ?_;refine Pl.q5 19 23 (Pl.qq 16 20 true) aa ?_;refine Pl.q5 20 24 (Pl.qq 16 20 true) aa ?_;refine Pl.q5 21 25 (Pl.q7 13 17 false) aa ?_;refine Pl.q0 22 26 (.bool true) (Pl.q1) (Pl.qp (.tmp 17) (.const (.bool true)) (.tmp 25)) aa ?_;refine Pl.q8 (fun A' hA'=>?_);exact Pl.en hA' hA [4,5,7,8,6,9,10,11,12,13,14,15,16,17,18,19,20,21,22,23,24,25,26] (hend hA'.fn _ aa)
theorem Zse (w0 w:World)(p:Nat)(r:Rw)(a:Option Addr)(len cap:Nat)(hx:RwBlk w0 p r (.slice a len cap))(ac:r.key<18446744073709551616)(ad:((r.key:Int) != ((Fl.key r.key:Nat):Int))=false)(h4:(4:Int)<(len:Int))(hW:Bl w0 w)
    {Q:Exit→Act→World→Prop}(ae:A.tmps.size=91)(ab:A.defers=[])(s1:A.tmps.getD 1 undef=.pointer (some ⟨p,0,none⟩))
    (hend:∀(u:Nat→Value) w',Bl w0 w'→Q .normal ((Pl.pu A u [4,5,7,8,6,9,10,11,12,13,14,15,16,17,18,19,20,21,22,23,24,25]).put (some 26) (.bool true)) w') :
    Pl.rg prog 1 f60 Q A w:=by
  have aa:Bl w0 w.drew:=hW.drew;have hA:=Pl.At.same (v:=.pointer (some ⟨p,0,none⟩)) (d:=1) (Pl.At.here ae ab) s1;refine Pl.qb (S:=fun w'=>Bl w0 w') hA aa ?_;rw [show (Pl.fd 1 f60).size=23 by kernel_rfl];refine Pl.q0 0 4 (.pointer (some ⟨p,0,none⟩)) (Pl.q1) (Pl.q6 39 (.tmp 1) 0 (ZaV p)) aa ?_;refine Pl.q0 1 5 (.float .f64 r.key) (Pl.q1) (Pl.q4 32 (.tmp 4) (fun w' hS=>Za7 p 0 _ w' (hx.keep hS).c0)) aa ?_;refine Pl.q0 3 7 (.pointer (some ⟨p,0,none⟩)) (Pl.q1) (Pl.q6 39 (.tmp 1) 0 (ZaV p)) aa ?_;refine Pl.q0 4 8 (.float .f64 r.key) (Pl.q1) (Pl.q4 32 (.tmp 7) (fun w' hS=>Za7 p 0 _ w' (hx.keep hS).c0)) aa ?_;refine Pl.qw 2 6 (.int .u64 (r.key:Int)) (Pl.q1) (Pl.q_44 84 (.tmp 5) #[32] (ZaT _ _)) aa ?_;refine Pl.qe 5 9 49 [(.tmp 8)] #[32] (Pl.q1) ZcZ (Calls.mono (ZaO r.key ac w.drew) ?_);rintro e w' ⟨rfl,hw⟩;obtain rfl:=hw.symm;refine⟨.int .u64 ((Fl.key r.key:Nat):Int),rfl,aa,?_⟩;refine Pl.q0 6 10 (.bool false) (Pl.q1) (Pl.qc .neq 88 88 (.tmp 6) (.tmp 9) (.int .u64 (r.key:Int)) (.int .u64 ((Fl.key r.key:Nat):Int)) (fun w=>by simp [go_sem,eqGuard,ad])) aa ?_;refine Pl.q0 7 11 (.bool false) (Pl.q1) (Pl.q2 (.tmp 10)) aa ?_;refine Pl.q0 8 12 (.pointer (some ⟨p,2,none⟩)) (Pl.q3 7 11 false) (Pl.q6 39 (.tmp 1) 2 (ZaL p)) aa ?_;refine Pl.q0 9 13 (.slice a len cap) (Pl.q3 7 11 false) (Pl.q4 35 (.tmp 12) (fun w' hS=>Zbq p 2 _ _ _ w' (hx.keep hS).c2)) aa ?_;refine Pl.q0 10 14 (.int .i64 (len:Nat)) (Pl.q3 7 11 false) (Pl.qr 35 (.tmp 13) (fun ty w=>ZdF _ _ _ ty w)) aa ?_;refine Pl.q0 11 15 (.bool true) (Pl.q3 7 11 false) (Pl.qc .gtr 3 3 (.tmp 14) (.const (.int .i64 4)) (.int .i64 (len:Nat)) (.int .i64 4) (fun w=>by simp [go_sem,eqGuard,h4])) aa ?_;refine Pl.q0 12 16 (.bool true) (Pl.q1) (Pl.qk (.tmp 11) (.const (.bool true)) (.tmp 15)) aa ?_;refine Pl.q0 13 17 (.bool true) (Pl.q1) (Pl.q2 (.tmp 16)) aa ?_;refine Pl.q5 14 18 (Pl.q7 13 17 false) aa ?_;refine Pl.q5 15 19 (Pl.q7 13 17 false) aa ?_;refine Pl.q5 16 20 (Pl.q7 13 17 false) aa ?_;refine Pl.q5 17 21 (Pl.qq 16 20 true) aa ?_;refine Pl.q5 18 22 (Pl.qq 16 20 true) aa ?_;refine Pl.q5 19 23 (Pl.qq 16 20 true) aa ?_;refine Pl.q5 20 24 (Pl.qq 16 20 true) aa ?_;refine Pl.q5 21 25 (Pl.q7 13 17 false) aa ?_;refine Pl.q0 22 26 (.bool true) (Pl.q1) (Pl.qp (.tmp 17) (.const (.bool true)) (.tmp 25)) aa ?_;refine Pl.q8 (fun A' hA'=>?_);exact Pl.en hA' hA [4,5,7,8,6,9,10,11,12,13,14,15,16,17,18,19,20,21,22,23,24,25,26] (hend hA'.fn _ aa)
theorem Zsh (w0 w:World)(p:Nat)(r:Rw)(a:Option Addr)(len cap:Nat)(hx:RwBlk w0 p r (.slice a len cap))(ac:r.key<18446744073709551616)(ad:((r.key:Int) != ((Fl.key r.key:Nat):Int))=false)(h4:¬(4:Int)<(len:Int))(hd:r.dead=true)(h0:(0:Int)<(len:Int))(hW:Bl w0 w)
    {Q:Exit→Act→World→Prop}(ae:A.tmps.size=91)(ab:A.defers=[])(s1:A.tmps.getD 1 undef=.pointer (some ⟨p,0,none⟩))
    (hend:∀(u:Nat→Value) w',Bl w0 w'→Q .normal ((Pl.pu A u [4,5,7,8,6,9,10,11,12,13,14,15,16,17,18,19,20,21,22,23,24,25]).put (some 26) (.bool true)) w') :
    Pl.rg prog 1 f60 Q A w:=by
  have aa:Bl w0 w.drew:=hW.drew;have hA:=Pl.At.same (v:=.pointer (some ⟨p,0,none⟩)) (d:=1) (Pl.At.here ae ab) s1;refine Pl.qb (S:=fun w'=>Bl w0 w') hA aa ?_;rw [show (Pl.fd 1 f60).size=23 by kernel_rfl];refine Pl.q0 0 4 (.pointer (some ⟨p,0,none⟩)) (Pl.q1) (Pl.q6 39 (.tmp 1) 0 (ZaV p)) aa ?_;refine Pl.q0 1 5 (.float .f64 r.key) (Pl.q1) (Pl.q4 32 (.tmp 4) (fun w' hS=>Za7 p 0 _ w' (hx.keep hS).c0)) aa ?_;refine Pl.q0 3 7 (.pointer (some ⟨p,0,none⟩)) (Pl.q1) (Pl.q6 39 (.tmp 1) 0 (ZaV p)) aa ?_;refine Pl.q0 4 8 (.float .f64 r.key) (Pl.q1) (Pl.q4 32 (.tmp 7) (fun w' hS=>Za7 p 0 _ w' (hx.keep hS).c0)) aa ?_;refine Pl.qw 2 6 (.int .u64 (r.key:Int)) (Pl.q1) (Pl.q_44 84 (.tmp 5) #[32] (ZaT _ _)) aa ?_;refine Pl.qe 5 9 49 [(.tmp 8)] #[32] (Pl.q1) ZcZ (Calls.mono (ZaO r.key ac w.drew) ?_);rintro e w' ⟨rfl,hw⟩;obtain rfl:=hw.symm;refine⟨.int .u64 ((Fl.key r.key:Nat):Int),rfl,aa,?_⟩;refine Pl.q0 6 10 (.bool false) (Pl.q1) (Pl.qc .neq 88 88 (.tmp 6) (.tmp 9) (.int .u64 (r.key:Int)) (.int .u64 ((Fl.key r.key:Nat):Int)) (fun w=>by simp [go_sem,eqGuard,ad])) aa ?_;refine Pl.q0 7 11 (.bool false) (Pl.q1) (Pl.q2 (.tmp 10)) aa ?_;refine Pl.q0 8 12 (.pointer (some ⟨p,2,none⟩)) (Pl.q3 7 11 false) (Pl.q6 39 (.tmp 1) 2 (ZaL p)) aa ?_;refine Pl.q0 9 13 (.slice a len cap) (Pl.q3 7 11 false) (Pl.q4 35 (.tmp 12) (fun w' hS=>Zbq p 2 _ _ _ w' (hx.keep hS).c2)) aa ?_;refine Pl.q0 10 14 (.int .i64 (len:Nat)) (Pl.q3 7 11 false) (Pl.qr 35 (.tmp 13) (fun ty w=>ZdF _ _ _ ty w)) aa ?_;refine Pl.q0 11 15 (.bool false) (Pl.q3 7 11 false) (Pl.qc .gtr 3 3 (.tmp 14) (.const (.int .i64 4)) (.int .i64 (len:Nat)) (.int .i64 4) (fun w=>by simp [go_sem,eqGuard,h4])) aa ?_;refine Pl.q0 12 16 (.bool false) (Pl.q1) (Pl.qk (.tmp 11) (.const (.bool true)) (.tmp 15)) aa ?_;refine Pl.q0 13 17 (.bool false) (Pl.q1) (Pl.q2 (.tmp 16)) aa ?_;refine Pl.q0 14 18 (.pointer (some ⟨p,1,none⟩)) (Pl.q3 13 17 false) (Pl.q6 39 (.tmp 1) 1 (ZeK p)) aa ?_;refine Pl.q0 15 19 (.bool true) (Pl.q3 13 17 false) (Pl.q4 4 (.tmp 18) (fun w' hS=>ZeS p 1 _ w' (by rw [← hd];exact (hx.keep hS).c1))) aa ?_;refine Pl.q0 16 20 (.bool true) (Pl.q3 13 17 false) (Pl.q2 (.tmp 19)) aa ?_;refine Pl.q0 17 21 (.pointer (some ⟨p,2,none⟩)) (Pl.q3 16 20 true) (Pl.q6 39 (.tmp 1) 2 (ZaL p)) aa ?_;refine Pl.q0 18 22 (.slice a len cap) (Pl.q3 16 20 true) (Pl.q4 35 (.tmp 21) (fun w' hS=>Zbq p 2 _ _ _ w' (hx.keep hS).c2)) aa ?_;refine Pl.q0 19 23 (.int .i64 (len:Nat)) (Pl.q3 16 20 true) (Pl.qr 35 (.tmp 22) (fun ty w=>ZdF _ _ _ ty w)) aa ?_;refine Pl.q0 20 24 (.bool true) (Pl.q3 16 20 true) (Pl.qc .gtr 3 3 (.tmp 23) (.const (.int .i64 0)) (.int .i64 (len:Nat)) (.int .i64 0) (fun w=>by have h0':=h0;simp [go_sem,eqGuard];omega)) aa ?_;refine Pl.q0 21 25 (.bool true) (Pl.q3 13 17 false) (Pl.qp (.tmp 20) (.tmp 24) (.const (.bool false))) aa ?_;refine Pl.q0 22 26 (.bool true) (Pl.q1) (Pl.qk (.tmp 17) (.const (.bool true)) (.tmp 25)) aa ?_;refine Pl.q8 (fun A' hA'=>?_);exact Pl.en hA' hA [4,5,7,8,6,9,10,11,12,13,14,15,16,17,18,19,20,21,22,23,24,25,26] (hend hA'.fn _ aa)
theorem Zsi (w0 w:World)(p:Nat)(r:Rw)(a:Option Addr)(len cap:Nat)(hx:RwBlk w0 p r (.slice a len cap))(ac:r.key<18446744073709551616)(ad:((r.key:Int) != ((Fl.key r.key:Nat):Int))=false)(h4:¬(4:Int)<(len:Int))(hd:r.dead=true)(h0:¬(0:Int)<(len:Int))(hW:Bl w0 w)
    {Q:Exit→Act→World→Prop}(ae:A.tmps.size=91)(ab:A.defers=[])(s1:A.tmps.getD 1 undef=.pointer (some ⟨p,0,none⟩))
    (hend:∀(u:Nat→Value) w',Bl w0 w'→Q .normal ((Pl.pu A u [4,5,7,8,6,9,10,11,12,13,14,15,16,17,18,19,20,21,22,23,24,25]).put (some 26) (.bool false)) w') :
    Pl.rg prog 1 f60 Q A w:=by
  have aa:Bl w0 w.drew:=hW.drew;have hA:=Pl.At.same (v:=.pointer (some ⟨p,0,none⟩)) (d:=1) (Pl.At.here ae ab) s1;refine Pl.qb (S:=fun w'=>Bl w0 w') hA aa ?_;rw [show (Pl.fd 1 f60).size=23 by kernel_rfl];refine Pl.q0 0 4 (.pointer (some ⟨p,0,none⟩)) (Pl.q1) (Pl.q6 39 (.tmp 1) 0 (ZaV p)) aa ?_;refine Pl.q0 1 5 (.float .f64 r.key) (Pl.q1) (Pl.q4 32 (.tmp 4) (fun w' hS=>Za7 p 0 _ w' (hx.keep hS).c0)) aa ?_;refine Pl.q0 3 7 (.pointer (some ⟨p,0,none⟩)) (Pl.q1) (Pl.q6 39 (.tmp 1) 0 (ZaV p)) aa ?_;refine Pl.q0 4 8 (.float .f64 r.key) (Pl.q1) (Pl.q4 32 (.tmp 7) (fun w' hS=>Za7 p 0 _ w' (hx.keep hS).c0)) aa ?_;refine Pl.qw 2 6 (.int .u64 (r.key:Int)) (Pl.q1) (Pl.q_44 84 (.tmp 5) #[32] (ZaT _ _)) aa ?_;refine Pl.qe 5 9 49 [(.tmp 8)] #[32] (Pl.q1) ZcZ (Calls.mono (ZaO r.key ac w.drew) ?_);rintro e w' ⟨rfl,hw⟩;obtain rfl:=hw.symm;refine⟨.int .u64 ((Fl.key r.key:Nat):Int),rfl,aa,?_⟩;refine Pl.q0 6 10 (.bool false) (Pl.q1) (Pl.qc .neq 88 88 (.tmp 6) (.tmp 9) (.int .u64 (r.key:Int)) (.int .u64 ((Fl.key r.key:Nat):Int)) (fun w=>by simp [go_sem,eqGuard,ad])) aa ?_;refine Pl.q0 7 11 (.bool false) (Pl.q1) (Pl.q2 (.tmp 10)) aa ?_;refine Pl.q0 8 12 (.pointer (some ⟨p,2,none⟩)) (Pl.q3 7 11 false) (Pl.q6 39 (.tmp 1) 2 (ZaL p)) aa ?_;refine Pl.q0 9 13 (.slice a len cap) (Pl.q3 7 11 false) (Pl.q4 35 (.tmp 12) (fun w' hS=>Zbq p 2 _ _ _ w' (hx.keep hS).c2)) aa ?_;refine Pl.q0 10 14 (.int .i64 (len:Nat)) (Pl.q3 7 11 false) (Pl.qr 35 (.tmp 13) (fun ty w=>ZdF _ _ _ ty w)) aa ?_;refine Pl.q0 11 15 (.bool false) (Pl.q3 7 11 false) (Pl.qc .gtr 3 3 (.tmp 14) (.const (.int .i64 4)) (.int .i64 (len:Nat)) (.int .i64 4) (fun w=>by simp [go_sem,eqGuard,h4])) aa ?_;refine Pl.q0 12 16 (.bool false) (Pl.q1) (Pl.qk (.tmp 11) (.const (.bool true)) (.tmp 15)) aa ?_;refine Pl.q0 13 17 (.bool false) (Pl.q1) (Pl.q2 (.tmp 16)) aa ?_;refine Pl.q0 14 18 (.pointer (some ⟨p,1,none⟩)) (Pl.q3 13 17 false) (Pl.q6 39 (.tmp 1) 1 (ZeK p)) aa ?_;refine Pl.q0 15 19 (.bool true) (Pl.q3 13 17 false) (Pl.q4 4 (.tmp 18) (fun w' hS=>ZeS p 1 _ w' (by rw [← hd];exact (hx.keep hS).c1))) aa ?_;refine Pl.q0 16 20 (.bool true) (Pl.q3 13 17 false) (Pl.q2 (.tmp 19)) aa ?_;refine Pl.q0 17 21 (.pointer (some ⟨p,2,none⟩)) (Pl.q3 16 20 true) (Pl.q6 39 (.tmp 1) 2 (ZaL p)) aa ?_;refine Pl.q0 18 22 (.slice a len cap) (Pl.q3 16 20 true) (Pl.q4 35 (.tmp 21) (fun w' hS=>Zbq p 2 _ _ _ w' (hx.keep hS).c2)) aa ?_;refine Pl.q0 19 23 (.int .i64 (len:Nat)) (Pl.q3 16 20 true) (Pl.qr 35 (.tmp 22) (fun ty w=>ZdF _ _ _ ty w)) aa ?_;refine Pl.q0 20 24 (.bool false) (Pl.q3 16 20 true) (Pl.qc .gtr 3 3 (.tmp 23) (.const (.int .i64 0)) (.int .i64 (len:Nat)) (.int .i64 0) (fun w=>by have h0':=h0;simp [go_sem,eqGuard];omega)) aa ?_;refine Pl.q0 21 25 (.bool false) (Pl.q3 13 17 false) (Pl.qp (.tmp 20) (.tmp 24) (.const (.bool false))) aa ?_;refine Pl.q0 22 26 (.bool false) (Pl.q1) (Pl.qk (.tmp 17) (.const (.bool true)) (.tmp 25)) aa ?_;refine Pl.q8 (fun A' hA'=>?_);exact Pl.en hA' hA [4,5,7,8,6,9,10,11,12,13,14,15,16,17,18,19,20,21,22,23,24,25,26] (hend hA'.fn _ aa)
theorem Zsf (w0 w:World)(p:Nat)(r:Rw)(a:Option Addr)(len cap:Nat)(hx:RwBlk w0 p r (.slice a len cap))(ac:r.key<18446744073709551616)(ad:((r.key:Int) != ((Fl.key r.key:Nat):Int))=false)(h4:¬(4:Int)<(len:Int))(hd:r.dead=false)(hW:Bl w0 w)
    {Q:Exit→Act→World→Prop}(ae:A.tmps.size=91)(ab:A.defers=[])(s1:A.tmps.getD 1 undef=.pointer (some ⟨p,0,none⟩))
    (hend:∀(u:Nat→Value) w',Bl w0 w'→Q .normal ((Pl.pu A u [4,5,7,8,6,9,10,11,12,13,14,15,16,17,18,19,20,21,22,23,24,25]).put (some 26) (.bool false)) w') :
    Pl.rg prog 1 f60 Q A w:=by
  have aa:Bl w0 w.drew:=hW.drew;have hA:=Pl.At.same (v:=.pointer (some ⟨p,0,none⟩)) (d:=1) (Pl.At.here ae ab) s1;refine Pl.qb (S:=fun w'=>Bl w0 w') hA aa ?_;rw [show (Pl.fd 1 f60).size=23 by kernel_rfl];refine Pl.q0 0 4 (.pointer (some ⟨p,0,none⟩)) (Pl.q1) (Pl.q6 39 (.tmp 1) 0 (ZaV p)) aa ?_;refine Pl.q0 1 5 (.float .f64 r.key) (Pl.q1) (Pl.q4 32 (.tmp 4) (fun w' hS=>Za7 p 0 _ w' (hx.keep hS).c0)) aa ?_;refine Pl.q0 3 7 (.pointer (some ⟨p,0,none⟩)) (Pl.q1) (Pl.q6 39 (.tmp 1) 0 (ZaV p)) aa ?_;refine Pl.q0 4 8 (.float .f64 r.key) (Pl.q1) (Pl.q4 32 (.tmp 7) (fun w' hS=>Za7 p 0 _ w' (hx.keep hS).c0)) aa ?_;refine Pl.qw 2 6 (.int .u64 (r.key:Int)) (Pl.q1) (Pl.q_44 84 (.tmp 5) #[32] (ZaT _ _)) aa ?_;refine Pl.qe 5 9 49 [(.tmp 8)] #[32] (Pl.q1) ZcZ (Calls.mono (ZaO r.key ac w.drew) ?_);rintro e w' ⟨rfl,hw⟩;obtain rfl:=hw.symm;refine⟨.int .u64 ((Fl.key r.key:Nat):Int),rfl,aa,?_⟩;refine Pl.q0 6 10 (.bool false) (Pl.q1) (Pl.qc .neq 88 88 (.tmp 6) (.tmp 9) (.int .u64 (r.key:Int)) (.int .u64 ((Fl.key r.key:Nat):Int)) (fun w=>by simp [go_sem,eqGuard,ad])) aa ?_;refine Pl.q0 7 11 (.bool false) (Pl.q1) (Pl.q2 (.tmp 10)) aa ?_;refine Pl.q0 8 12 (.pointer (some ⟨p,2,none⟩)) (Pl.q3 7 11 false) (Pl.q6 39 (.tmp 1) 2 (ZaL p)) aa ?_;refine Pl.q0 9 13 (.slice a len cap) (Pl.q3 7 11 false) (Pl.q4 35 (.tmp 12) (fun w' hS=>Zbq p 2 _ _ _ w' (hx.keep hS).c2)) aa ?_;refine Pl.q0 10 14 (.int .i64 (len:Nat)) (Pl.q3 7 11 false) (Pl.qr 35 (.tmp 13) (fun ty w=>ZdF _ _ _ ty w)) aa ?_;refine Pl.q0 11 15 (.bool false) (Pl.q3 7 11 false) (Pl.qc .gtr 3 3 (.tmp 14) (.const (.int .i64 4)) (.int .i64 (len:Nat)) (.int .i64 4) (fun w=>by simp [go_sem,eqGuard,h4])) aa ?_;refine Pl.q0 12 16 (.bool false) (Pl.q1) (Pl.qk (.tmp 11) (.const (.bool true)) (.tmp 15)) aa ?_;refine Pl.q0 13 17 (.bool false) (Pl.q1) (Pl.q2 (.tmp 16)) aa ?_;refine Pl.q0 14 18 (.pointer (some ⟨p,1,none⟩)) (Pl.q3 13 17 false) (Pl.q6 39 (.tmp 1) 1 (ZeK p)) aa ?_;refine Pl.q0 15 19 (.bool false) (Pl.q3 13 17 false) (Pl.q4 4 (.tmp 18) (fun w' hS=>ZeS p 1 _ w' (by rw [← hd];exact (hx.keep hS).c1))) aa ?_;refine Pl.q0 16 20 (.bool false) (Pl.q3 13 17 false) (Pl.q2 (.tmp 19)) aa ?_;refine Pl.q5 17 21 (Pl.q7 16 20 true) aa ?_;refine Pl.q5 18 22 (Pl.q7 16 20 true) aa ?_;refine Pl.q5 19 23 (Pl.q7 16 20 true) aa ?_;refine Pl.q5 20 24 (Pl.q7 16 20 true) aa ?_;refine Pl.q0 21 25 (.bool false) (Pl.q3 13 17 false) (Pl.qk (.tmp 20) (.tmp 24) (.const (.bool false))) aa ?_;refine Pl.q0 22 26 (.bool false) (Pl.q1) (Pl.qk (.tmp 17) (.const (.bool true)) (.tmp 25)) aa ?_;refine Pl.q8 (fun A' hA'=>?_);exact Pl.en hA' hA [4,5,7,8,6,9,10,11,12,13,14,15,16,17,18,19,20,21,22,23,24,25,26] (hend hA'.fn _ aa)
theorem Zsg (w0 w:World)(p:Nat)(r:Rw)(a:Option Addr)(len cap:Nat)(hx:RwBlk w0 p r (.slice a len cap))(ab:r.key<18446744073709551616)(ac:((r.key:Int) != ((Fl.key r.key:Nat):Int))=false)(h4:¬(4:Int)<(len:Int))(hD:¬(r.dead=true∧0<len))(hW:Bl w0 w)
    {Q:Exit→Act→World→Prop}(ad:A.tmps.size=91)(aa:A.defers=[])(s1:A.tmps.getD 1 undef=.pointer (some ⟨p,0,none⟩))
    (hend:∀(u:Nat→Value) w',Bl w0 w'→Q .normal ((Pl.pu A u [4,5,7,8,6,9,10,11,12,13,14,15,16,17,18,19,20,21,22,23,24,25]).put (some 26) (.bool false)) w') :
    Pl.rg prog 1 f60 Q A w:=by
  cases hd:r.dead
  · exact Zsf w0 w p r a len cap hx ab ac h4 hd hW ad aa s1 hend
  · exact Zsi w0 w p r a len cap hx ab ac h4 hd (fun h=>hD ⟨hd,by omega⟩) hW ad aa s1 hend
theorem may6 (w0 w:World)(p:Nat)(r:Rw)(b off len cap k x:Nat)(m:Bool)(hx:RwBlk w0 p r (.slice (some ⟨b,off,none⟩) len cap))(hc:w0.cell? ⟨b,off+k,none⟩=some (.float .f64 x))(ac:x<18446744073709551616)(ad:((x:Int) != ((Fl.val x:Nat):Int))=m)(hk:k<len)(hW:Bl w0 w)
    {Q:Exit→Act→World→Prop}(ae:A.tmps.size=91)(ab:A.defers=[])(s1:A.tmps.getD 1 undef=.pointer (some ⟨p,0,none⟩))(s3:A.tmps.getD 3 undef=.int .i64 (k:Nat))
    (hend:∀(u:Nat→Value) w',Bl w0 w'→Q .normal ((Pl.pu A u [34,35,36,37,38,40,41,42,43,44,39,45]).put (some 46) (.bool m)) w') :
    Pl.rg prog 6 f60 Q A w:=by
  have aa:Bl w0 w.drew:=hW.drew;have hA:=Pl.At.same (v:=.int .i64 (k:Nat)) (d:=3) (Pl.At.same (v:=.pointer (some ⟨p,0,none⟩)) (d:=1) (Pl.At.here ae ab) s1) s3;refine Pl.qb (S:=fun w'=>Bl w0 w') hA aa ?_;rw [show (Pl.fd 6 f60).size=13 by kernel_rfl];refine Pl.q0 0 34 (.pointer (some ⟨p,2,none⟩)) (Pl.q1) (Pl.q6 39 (.tmp 1) 2 (ZaL p)) aa ?_;refine Pl.q0 1 35 (.slice (some ⟨b,off,none⟩) len cap) (Pl.q1) (Pl.q4 35 (.tmp 34) (fun w' hS=>Zbq p 2 _ _ _ w' (hx.keep hS).c2)) aa ?_;refine Pl.q0 2 36 (.int .i64 (k:Nat)) (Pl.q1) (Pl.q2 (.tmp 3)) aa ?_;refine Pl.q0 3 37 (.pointer (some ⟨b,off+k,none⟩)) (Pl.q1) (Pl.qa 35 (.tmp 35) (.tmp 36) (Zdd b off len cap k hk)) aa ?_;refine Pl.q0 4 38 (.float .f64 x) (Pl.q1) (Pl.q4 32 (.tmp 37) (fun w' hS=>Za7 b (off+k) x w' ((hS.cell (World.block_lt_of_cell? w0 _ hc)).trans hc))) aa ?_;refine Pl.q0 6 40 (.pointer (some ⟨p,2,none⟩)) (Pl.q1) (Pl.q6 39 (.tmp 1) 2 (ZaL p)) aa ?_;refine Pl.q0 7 41 (.slice (some ⟨b,off,none⟩) len cap) (Pl.q1) (Pl.q4 35 (.tmp 40) (fun w' hS=>Zbq p 2 _ _ _ w' (hx.keep hS).c2)) aa ?_;refine Pl.q0 8 42 (.int .i64 (k:Nat)) (Pl.q1) (Pl.q2 (.tmp 3)) aa ?_;refine Pl.q0 9 43 (.pointer (some ⟨b,off+k,none⟩)) (Pl.q1) (Pl.qa 35 (.tmp 41) (.tmp 42) (Zdd b off len cap k hk)) aa ?_;refine Pl.q0 10 44 (.float .f64 x) (Pl.q1) (Pl.q4 32 (.tmp 43) (fun w' hS=>Za7 b (off+k) x w' ((hS.cell (World.block_lt_of_cell? w0 _ hc)).trans hc))) aa ?_;refine Pl.qw 5 39 (.int .u64 (x:Int)) (Pl.q1) (Pl.q_44 84 (.tmp 38) #[32] (ZaT _ _)) aa ?_;refine Pl.qe 11 45 50 [(.tmp 44)] #[32] (Pl.q1) ZnI (Calls.mono (Zb5 x ac w.drew) ?_);rintro e w' ⟨rfl,hw⟩;obtain rfl:=hw.symm;refine⟨.int .u64 ((Fl.val x:Nat):Int),rfl,aa,?_⟩;refine Pl.q0 12 46 (.bool m) (Pl.q1) (Pl.qc .neq 88 88 (.tmp 39) (.tmp 45) (.int .u64 (x:Int)) (.int .u64 ((Fl.val x:Nat):Int)) (fun w=>by simp [go_sem,eqGuard,ad])) aa ?_;refine Pl.q8 (fun A' hA'=>?_);exact Pl.en hA' hA [34,35,36,37,38,40,41,42,43,44,39,45,46] (hend hA'.fn _ aa)
theorem Zds (r:Rw)(a:Option Addr)(len cap:Nat)(w:World)(h:Fs w a len cap r.xs)(hf:r.fits) :
    Calls prog 60 #[r.val (.slice a len cap)] w fun e w'=>e=.returned (.bool r.may)∧Bl w w':=by
  have HX:=Zh (Zai w r (.slice a len cap));have HW:Hi (∀o,Bl w (w.alloc o)):=Zab w;have H:=Zh h;have HL:=Zh h.len;have HF:=Zh hf;have au:=h.big;have HM:=Zh (Zmu r);clear h hf;cases hK:(r.key == Fl.key r.key)
  · (have e:r.may=false:=by rw [HM.o,hK];rfl);rw [e];clear e HM;unfold Rw.val;go_enter func60,ntmps60;go_wp2_with fail;refine Pl.q9 (ops:=Pl.fd 1 f60) ?_;refine Zsd _ _ w.heap.size r a len cap HX.o HF.o.key (by rw [Zb3];simpa [bne] using hK) (Below.refl _ _) (by rfl) (by rfl) (by rfl) ?_;intro u w' hb;simp only [Pl.pu,List.foldl,Act.put,List.setIfInBounds_toArray,List.set];go_wp2;go_ret;exact⟨rfl,Zac (HW.o _) hb⟩
  by_cases h4:4<len
  · have e:r.may=false:=by
     have e1:decide (r.xs.length≤4)=false:=decide_eq_false (by rw [HL.o];omega);rw [HM.o];unfold haveB;rw [e1];simp
    rw [e];clear e HM;unfold Rw.val;go_enter func60,ntmps60;go_wp2_with fail;refine Pl.q9 (ops:=Pl.fd 1 f60) ?_;refine Zse _ _ w.heap.size r a len cap HX.o HF.o.key (by rw [Zb3];simpa [bne] using hK) (by omega) (Below.refl _ _) (by rfl) (by rfl) (by rfl) ?_;intro u w' hb;simp only [Pl.pu,List.foldl,Act.put,List.setIfInBounds_toArray,List.set];go_wp2;go_ret;exact⟨rfl,Zac (HW.o _) hb⟩
  by_cases hD:r.dead=true∧0<len
  · have e:r.may=false:=by
     (have e1:(!(r.dead && decide (0<r.xs.length)))=false:=by rw [HL.o,hD.1,decide_eq_true hD.2];rfl);rw [HM.o];unfold haveB;rw [e1];simp
    rw [e];clear e HM;have HD:=Zh hD;clear hD;unfold Rw.val;go_enter func60,ntmps60;go_wp2_with fail;refine Pl.q9 (ops:=Pl.fd 1 f60) ?_;refine Zsh _ _ w.heap.size r a len cap HX.o HF.o.key (by rw [Zb3];simpa [bne] using hK) (by omega) HD.o.1 (by have:=HD.o.2;omega) (Below.refl _ _) (by rfl) (by rfl) (by rfl) ?_;intro u w' hb;simp only [Pl.pu,List.foldl,Act.put,List.setIfInBounds_toArray,List.set];go_wp2;go_ret;exact⟨rfl,Zac (HW.o _) hb⟩
  have HH:Hi (haveB r.dead r.xs=r.xs.all (fun x=>x == Fl.val x)):=by
   have e1:decide (r.xs.length≤4)=true:=decide_eq_true (by rw [HL.o];omega);have e2:(!(r.dead && decide (0<r.xs.length)))=true:=by
    rw [HL.o];cases hd:r.dead
    · rfl
    · have:¬0<len:=fun h=>hD ⟨hd,h⟩;simp [this]
   show _=_;unfold haveB;rw [e1,e2];simp
  have ae:Hi (r.may=(r.xs.all (fun x=>x == Fl.val x) && (decide (0≤r.wr) && decide (r.wr<2147483648) && decide (0≤r.cell) && decide (r.cell<65536) && decide (0≤r.no) && decide (r.no<2147483648) && (decide (0<r.cell) || r.no == 0)))):=by
   show _=_;rw [HM.o,hK,HH.o];simp
  have HD:=Zh hD;have H4:=Zh h4;have HK:=Zh hK;clear HM HH hD hK;unfold Rw.val;go_enter func60,ntmps60;go_wp2_with fail;refine Pl.q9 (ops:=Pl.fd 1 f60) ?_;refine Zsg _ _ w.heap.size r a len cap HX.o HF.o.key (by rw [Zb3];simpa [bne] using HK.o) (by have:=H4.o;omega) HD.o (Below.refl _ _) (by rfl) (by rfl) (by rfl) ?_;intro u w1 aj;simp only [Pl.pu,List.foldl,Act.put,List.setIfInBounds_toArray,List.set];have ao:=Zh (Zac (HW.o _) aj);have ap:=Zh (HX.o.keep aj);clear aj HX;go_wp2_with fail;go_loopw [3] (fun i wr=>∃k:Nat,k≤len∧i=.int .i64 k∧Hi (∀j,j<k→(r.xs.getD j 0 == Fl.val (r.xs.getD j 0))=true)∧Hi (Bl w wr)∧Hi (RwBlk wr w.heap.size r (.slice a len cap))) (fun i _=>len-(intOf i).toNat)
  case atStart=>exact ⟨0,by omega,rfl,fun j hj=>by omega,ao,ap⟩
  case round =>
   obtain⟨k,hk,rfl,ad,ag,aa⟩:=hrel;have an:=aa.o.c2;rcases Nat.lt_or_ge k len with ak | ay
   · obtain⟨b,off,rfl,hc,ab,hx⟩:=(H.o.keep ag.o (Nat.le_refl _)).at k ak;obtain⟨x,al⟩:∃x,x=r.xs.getD k 0:=⟨_,rfl⟩;rw [← al] at hc ab hx;have ar:=Zh al;have ah:=Zh ab;have HC:=Zh hc;have am:=Zh hx;clear ab al hc hx;cases hm:(x == Fl.val x)
     · have HN:Hi (r.may=false):=by
        have:r.xs.all (fun x=>x == Fl.val x)=false:=List.all_eq_false.2 ⟨x,ah.o,by rw [hm];decide⟩;show _=_;rw [ae.o,this];rfl
       have af:=Zh hm;clear hm;go_wp2_with fail;refine Pl.q9 (ops:=Pl.fd 6 f60) ?_;refine may6 _ _ w.heap.size r b off len cap k x true aa.o HC.o am.o (by rw [Zb3];simpa [bne] using af.o) ak (Below.refl _ _) (by rfl) (by rfl) (by rfl) (by rfl) ?_;intro u w2 ac;simp only [Pl.pu,List.foldl,Act.put,List.setIfInBounds_toArray,List.set];have ai:=Zh (Zac ag.o ac);clear ac an;go_wp2;go_ret;exact⟨by rw [HN.o];rfl,ai.o⟩
     · have af:=Zh hm;clear hm;go_wp2_with fail;refine Pl.q9 (ops:=Pl.fd 6 f60) ?_;refine may6 _ _ w.heap.size r b off len cap k x false aa.o HC.o am.o (by rw [Zb3];simpa [bne] using af.o) ak (Below.refl _ _) (by rfl) (by rfl) (by rfl) (by rfl) ?_;intro u w2 ac;simp only [Pl.pu,List.foldl,Act.put,List.setIfInBounds_toArray,List.set];have ai:=Zh (Zac ag.o ac);have aq:=Zh (aa.o.keep ac);clear ac an;go_wp2;go_roundw
       case rel =>
        refine⟨k+1,by omega,by go_num,?_,ai,aq⟩;intro j hj;by_cases e:j=k
        · rw [e,← ar.o];exact af.o
        · exact ad.o j (by omega)
       case measure=>simp only [intOf];omega
   · have hA:r.xs.all (fun x=>x == Fl.val x)=true:=by
      rw [List.all_eq_true];intro x hx;obtain⟨j,hj,rfl⟩:=List.getElem_of_mem hx;have:=ad.o j (by rw [HL.o] at hj;omega);simpa [List.getD,hj] using this
     have av:=aa.o.c3;have aw:=aa.o.c4;have ax:=aa.o.c5;rw [hA] at ae;simp only [Bool.true_and] at ae;clear hA;generalize r.wr=wn at *;generalize r.cell=cn at *;generalize r.no=nn at *;go_wp2_with fail;all_goals (go_ret;refine ⟨?_,ag.o⟩;rw [ae.o];simp [*] <;> (intros;omega))
structure En where
  tx:Int
  st:Int
  last:Int
  com:Int
deriving DecidableEq
def En.zero:En:=⟨0,0,0,0⟩
structure Tbl where
  nx:Int
  no:Int
  cm:Int
  es:List En
deriving DecidableEq
def Tbl.zero:Tbl:=⟨0,0,0,[]⟩
def Zar:Tbl:=⟨1,1,0,List.replicate 12 En.zero⟩
def Tbl.en (t:Tbl) (i:Nat):En:=t.es.getD i En.zero
theorem Zhe {l:List En}{i:Nat}(h:i<l.length):l.getD i En.zero=l[i]:=by simp [List.getD,h]
structure EntOk (t:Tbl) (i:Nat):Prop where
  st:0≤(t.en i).st∧(t.en i).st≤2
  free:(t.en i).st=0→t.en i=En.zero
  tx:(t.en i).st≠0→1≤(t.en i).tx∧(t.en i).tx<t.nx
  last:(t.en i).st≠0→0≤(t.en i).last∧(t.en i).last≤65535
  act:(t.en i).st=1→(t.en i).com=0
  done:(t.en i).st=2→1≤(t.en i).com∧(t.en i).com≤t.cm
  one:(t.en i).st≠0→∀k,k<i→(t.en k).tx≠(t.en i).tx∧(0<(t.en i).com→(t.en k).com≠(t.en i).com)
structure Tbl.May (t:Tbl):Prop where
  nx:1≤t.nx∧t.nx≤2147483647
  no:1≤t.no∧t.no≤2147483647
  cm:0≤t.cm∧t.cm≤2147483647
  len:t.es.length=12
  ok:∀i,i<12→EntOk t i
theorem ZlN:Zar.May:=by
 have hz:∀i,Zar.en i=En.zero:=fun i=>by
  show (List.replicate 12 En.zero).getD i En.zero=En.zero;rw [List.getD_eq_getElem?_getD,List.getElem?_replicate];split <;> rfl
 have h0:En.zero.st=0:=rfl;refine⟨by decide,by decide,by decide,rfl,fun i _=>?_⟩;constructor <;> rw [hz i]
 · decide
 · exact fun _=>rfl
 · exact fun h=>absurd h0 h
 · exact fun h=>absurd h0 h
 · exact fun _=>rfl
 · exact fun h=>by cases h
 · exact fun h=>absurd h0 h
def ixN:Option Nat→Int
  | none=>-1
  | some i=>((i:Nat):Int)
theorem ZqL {p:En→Bool}{l:List En}{i:Nat}(hi:i<l.length)(h1:p (l.getD i En.zero)=true)(h2:∀j,j<i→p (l.getD j En.zero)=false):l.findIdx? p=some i:=by
 refine List.findIdx?_eq_some_iff_getElem.2 ⟨hi,by rw [Zhe hi] at h1;exact h1,fun j hj=>?_⟩;have:=h2 j hj;rw [Zhe (by omega)] at this;simpa using this
theorem ZqM {p:En→Bool}{l:List En}(h:∀j,j<l.length→p (l.getD j En.zero)=false):l.findIdx? p=none:=by
 refine List.findIdx?_eq_none_iff.2 (fun x hx=>?_);obtain⟨j,hj,rfl⟩:=List.getElem_of_mem hx;have:=h j hj;rw [Zhe hj] at this;exact this
namespace Pl
section
variable {P : Program} {ops : Array Oper} {S : World → Prop} {Q : Exit → Act → World → Prop} {n fuel : Nat} {listed : Array Bool} {f : Nat → Value} {w : World}
theorem extr (i:Nat)(x:Operand)(k:Nat)(v:Value)(h:(op ops i).op=.extract x k)(hx:inB n x=true)(hv:∀w,(Instr.extract (ev f x) k).run P w=.ok v w) :
    ∀A,At n A f→∀w,S w→(execOp A.eval (op ops i)).run P w=.ok (.value v) w:=by
  intro A hA w _;have e:execOp A.eval (op ops i)=(do pure (.value (← Instr.extract (A.eval x) k))):=by
   unfold execOp;rw [h]
  rw [e,hA.ev x hx];simp [hv w]
theorem qh {i:Nat}{v:Value}(x:Operand)(k:Nat)(hv:∀w,(Instr.extract (ev f x) k).run P w=.ok v w)(h:(op ops i).op=.extract x k:=by kernel_rfl)(hx:inB n x=true:=by decide):∀A,At n A f→∀w,S w→(execOp A.eval (op ops i)).run P w=.ok (.value v) w:=extr i x k v h hx hv
theorem allocV (i:Nat)(t:TypeId)(v:Value)(w':World)(h:(op ops i).op=.alloc t)(hv:(Instr.alloc t true (.tuple #[])).run P w=.ok v w') :
    ∀A,At n A f→(execOp A.eval (op ops i)).run P w=.ok (.value v) w':=by
  intro A _;have e:execOp A.eval (op ops i)=(do pure (.value (← Instr.alloc t true (.tuple #[])))):=by
   unfold execOp;rw [h]
  rw [e];simp [hv]

theorem qx {i:Nat}{v:Value}{w':World}(t:TypeId)(hv:(Instr.alloc t true (.tuple #[])).run P w=.ok v w')(h:(op ops i).op=.alloc t:=by kernel_rfl):∀A,At n A f→(execOp A.eval (op ops i)).run P w=.ok (.value v) w':=allocV i t v w' h hv
theorem buildV (i:Nat)(t:TypeId)(parts:List (Nat × Operand))(v:Value)(h:(op ops i).op=.build t parts.toArray)(hx:parts.all (fun p=>inB n p.2)=true)(hv:∀w,(Instr.build t (parts.map fun p=>(p.1,ev f p.2)).toArray).run P w=.ok v w) :
    ∀A,At n A f→∀w,S w→(execOp A.eval (op ops i)).run P w=.ok (.value v) w:=by
  intro A hA w _;have e:execOp A.eval (op ops i)=(do pure (.value (← Instr.build t (parts.toArray.map fun p=>(p.1,A.eval p.2))))):=by
   unfold execOp;rw [h]
  have hm:(parts.toArray.map fun p=>(p.1,A.eval p.2))=(parts.map fun p=>(p.1,ev f p.2)).toArray:=by
   simp only [List.map_toArray];congr 1;apply List.map_congr_left;intro p hp;rw [hA.ev p.2 (List.all_eq_true.1 hx p hp)]
  rw [e,hm];simp [hv w]
theorem q_39 {i:Nat}{v:Value}(t:TypeId)(parts:List (Nat × Operand))(hv:∀w,(Instr.build t (parts.map fun p=>(p.1,ev f p.2)).toArray).run P w=.ok v w)(h:(op ops i).op=.build t parts.toArray:=by kernel_rfl)(hx:parts.all (fun p=>inB n p.2)=true:=by decide):∀A,At n A f→∀w,S w→(execOp A.eval (op ops i)).run P w=.ok (.value v) w:=buildV i t parts v h hx hv
theorem mkV (i:Nat)(t:TypeId)(x y:Operand)(v:Value)(w':World)(h:(op ops i).op=.makeSlice t x y)(hx:inB n x=true)(hy:inB n y=true)
    (hv:(Instr.makeSlice t (ev f x) (ev f y)).run P w=.ok v w'):∀A,At n A f→(execOp A.eval (op ops i)).run P w=.ok (.value v) w':=by
  intro A hA;have e:execOp A.eval (op ops i)=(do pure (.value (← Instr.makeSlice t (A.eval x) (A.eval y)))):=by
   unfold execOp;rw [h]
  rw [e,hA.ev x hx,hA.ev y hy];simp [hv]
theorem bsV (i:Nat)(t:TypeId)(m:Nat)(parts:List (Nat × Operand))(v:Value)(w':World)(h:(op ops i).op=.buildSlice t m parts.toArray)(hx:parts.all (fun p=>inB n p.2)=true)(hv:(Instr.buildSlice t m (parts.map fun p=>(p.1,ev f p.2)).toArray).run P w=.ok v w') :
    ∀A,At n A f→(execOp A.eval (op ops i)).run P w=.ok (.value v) w':=by
  intro A hA;have e:execOp A.eval (op ops i)=(do pure (.value (← Instr.buildSlice t m (parts.toArray.map fun p=>(p.1,A.eval p.2))))):=by
   unfold execOp;rw [h]
  have hm:(parts.toArray.map fun p=>(p.1,A.eval p.2))=(parts.map fun p=>(p.1,ev f p.2)).toArray:=by
   simp only [List.map_toArray];congr 1;apply List.map_congr_left;intro p hp;rw [hA.ev p.2 (List.all_eq_true.1 hx p hp)]
  rw [e,hm];simp [hv]
theorem appV (i:Nat)(s1 s2:TypeId)(x y:Operand)(v:Value)(w':World)(h:(op ops i).op=.call { callee:=.builtin .append,args:=#[x,y],argTypes:=#[s1,s2] })(hx:inB n x=true)(hy:inB n y=true)
    (hv:∀ty,(Builtin.append_ #[s1,s2] ty #[ev f x,ev f y]).run P w=.ok v w'):∀A,At n A f→(execOp A.eval (op ops i)).run P w=.ok (.value v) w':=by
  intro A hA;unfold execOp;rw [h];simp [resolve,invoke,builtin,hA.ev x hx,hA.ev y hy,hv]
theorem qz {i:Nat}{v:Value}{w':World}(s1:TypeId)(s2:TypeId)(x:Operand)(y:Operand)(hv:∀ty,(Builtin.append_ #[s1,s2] ty #[ev f x,ev f y]).run P w=.ok v w')(h:(op ops i).op=.call { callee:=.builtin .append,args:=#[x,y],argTypes:=#[s1,s2] }:=by kernel_rfl)(hx:inB n x=true:=by decide)(hy:inB n y=true:=by decide):∀A,At n A f→(execOp A.eval (op ops i)).run P w=.ok (.value v) w':=appV i s1 s2 x y v w' h hx hy hv
end
end Pl
def En.val (e:En):Value:=.agg #[.int .i64 e.tx,.int .i64 e.st,.int .i64 e.last,.int .i64 e.com]
def En.cells (e:En):List Value:=[.int .i64 e.tx,.int .i64 e.st,.int .i64 e.last,.int .i64 e.com]
def Zch (l:List En):List Value:=l.flatMap En.cells
def Tbl.val (t:Tbl) (v:Sl):Value:=.agg #[.int .i64 t.nx,.int .i64 t.no,.int .i64 t.cm,.slice v.a v.len v.cap]
theorem ZcD (e:En)(l:List En):Zch (e :: l)=e.cells ++ Zch l:=rfl
theorem Zf2:∀l:List En,(Zch l).length=l.length*4
 | []=>rfl
 | e :: l=>by
  rw [ZcD,List.length_append,Zf2 l,List.length_cons]
  have:e.cells.length=4:=rfl
  omega
theorem Zf1:∀(l:List En)(j t:Nat),j<l.length→t<4→(Zch l)[j*4+t]? = (l.getD j En.zero).cells[t]?
 | [],j,t,hj,_=>by simp at hj
 | e :: l,0,t,_,ht=>by
  have hl:e.cells.length=4:=rfl
  rw [ZcD,Nat.zero_mul,Nat.zero_add,List.getElem?_append_left (by omega)]
  rfl
 | e :: l,j+1,t,hj,ht=>by
  have hl:e.cells.length=4:=rfl
  rw [ZcD,List.getElem?_append_right (by omega),hl,show (j+1)*4+t-4=j*4+t by omega]
  exact Zf1 l j t (by simpa using hj) ht
structure EnAt (w:World) (b o:Nat) (e:En):Prop where
  c0:w.cell? ⟨b,o,none⟩=some (.int .i64 e.tx)
  c1:w.cell? ⟨b,o+1,none⟩=some (.int .i64 e.st)
  c2:w.cell? ⟨b,o+2,none⟩=some (.int .i64 e.last)
  c3:w.cell? ⟨b,o+3,none⟩=some (.int .i64 e.com)
theorem EnAt.keep {B b o:Nat}{e:En}(h:EnAt w b o e)(hb:Below B w w')(hB:w.heap.size≤B):EnAt w' b o e:=by
 have k:∀{p:Addr} {v:Value},w.cell? p=some v→w'.cell? p=some v:=fun {p v} hc=>(hb.cell (Nat.lt_of_lt_of_le (World.block_lt_of_cell? w _ hc) hB)).trans hc;exact⟨k h.c0,k h.c1,k h.c2,k h.c3⟩
theorem EnAt.of {b o:Nat}{e:En}(h:∀t,t<4→w.cell? ⟨b,o+t,none⟩=e.cells[t]?):EnAt w b o e:=
 ⟨h 0 (by decide),h 1 (by decide),h 2 (by decide),h 3 (by decide)⟩
theorem Ziz (b o:Nat)(e:En)(w:World)(h:EnAt w b o e):(Instr.loadAt 127 (.pointer (some ⟨b,o,none⟩))).run prog w=.ok e.val w:=by
 have c0:=h.c0;have c1:=h.c1;have c2:=h.c2;have c3:=h.c3;simp [go_sem,c0,c1,c2,c3,En.val]
theorem ixEn (b o len cap k:Nat)(hk:k<len)(w:World):(Instr.indexAt 22 (.slice (some ⟨b,o,none⟩) len cap) (.int .i64 (k:Nat))).run prog w=.ok (.pointer (some ⟨b,o+k*4,none⟩)) w:=by
 (have aa:prog.underlying 22=some (.slice (prog.elem 22)):=by kernel_rfl);(have h1:(0:Int)≤(k:Int):=by omega);simp [go_sem,Instr.indexAt,run_underlying aa,h1,Addr.add_lit];omega
structure Es (w:World) (v:Sl) (l:List En):Prop where
  len:l.length=v.len
  nil:v.a=none→v.cap=0
  le:v.len≤v.cap
  big:v.len≤9223372036854775807
  at':∀j,j<v.len→∃b off,v.a=some ⟨b,off,none⟩∧EnAt w b (off+j*4) (l.getD j En.zero)
theorem Es.keep {B:Nat}{l:List En}(h:Es w v l)(hb:Below B w w')(hB:w.heap.size≤B):Es w' v l:=by
 refine⟨h.len,h.nil,h.le,h.big,fun j hj=>?_⟩;obtain⟨b,off,ha,hu⟩:=h.at' j hj;exact⟨b,off,ha,hu.keep hb hB⟩
theorem Es.none (w:World):Es w Sl.nil []:=⟨rfl,fun _=>rfl,Nat.le_refl _,by decide,fun _ h=>absurd h (Nat.not_lt_zero _)⟩
theorem ZoU:(prog.info? 127).map (fun i=>(i.zero,i.size,i.bytes))=some (some (.agg #[.int .i64 0,.int .i64 0,.int .i64 0,.int .i64 0]),4,32):=by kernel_rfl
def OwnE (w:World) (v:Sl) (l:List En):Prop:=Own 127 4 w v (Zch l)
theorem OwnE.len {l:List En}(h:OwnE w v l):l.length=v.len:=by
 have:=h.1;rw [Zf2] at this;omega
theorem OwnE.enAt {l:List En}(h:OwnE w v l){g off:Nat}(ha:v.a=some ⟨g,off,none⟩)(i:Nat)(hi:i<l.length):EnAt w g (off+i*4) (l.getD i En.zero):=by
 refine EnAt.of (fun t ht=>?_);have hg:=Zf1 l i t hi ht;have aa:t<(l.getD i En.zero).cells.length:=ht;obtain⟨u,hu⟩:∃u,(l.getD i En.zero).cells[t]? = some u:=⟨_,List.getElem?_eq_getElem aa⟩;rw [hu] at hg;have:=Own.cell h ha (i*4+t) u hg;rw [Addr.add_lit,← Nat.add_assoc] at this;rw [this,hu]
theorem OwnE.es {l:List En}(h:OwnE w v l):Es w v l:=by
 have hl:=h.len;refine⟨hl,Own.nilcap h,Own.lecap h,by have h1:=Own.capmax h;have h2:=Own.lecap h;unfold maxLen at h1;omega,fun j hj=>?_⟩;rcases h.2 with ⟨h0,_⟩ | ⟨g,off,cur,ha,_⟩
 · rw [h0] at hj;exact absurd hj (Nat.not_lt_zero _)
 · exact⟨g,off,ha,h.enAt ha j (by omega)⟩
theorem OwnE.keep {l:List En}(h:OwnE w v l)(hb:Bl w w'):OwnE w' v l:=Own.frame h (fun k hk=>hb.block k (Own.lt h hk))
theorem OwnE.other {F:Nat→Prop}{l:List En}(h:OwnE w v l)(hf:Frm F w w')(hn:∀k,v.blk=some k→¬F k):OwnE w' v l:=Own.frame h (fun k hk=>hf.block k (Own.lt h hk) (hn k hk))
def Zc7 (w:World) (p:Nat) (e:En):Prop:=w.heap[p]? = some (Obj.cells #[.int .i64 e.tx,.int .i64 e.st,.int .i64 e.last,.int .i64 e.com] 127 (0,0))
theorem Zc7.lt {e:En}(h:Zc7 w p e):p<w.heap.size:=(Array.getElem?_eq_some_iff.1 h).1
theorem Zc7.new (w:World)(e:En):Zc7 (w.alloc (.cells #[.int .i64 e.tx,.int .i64 e.st,.int .i64 e.last,.int .i64 e.com] 127)) w.heap.size e:=heap_alloc_new w _
theorem Zc7.keep {e:En}(h:Zc7 w p e)(hb:Bl w w'):Zc7 w' p e:=(hb.block p h.lt).trans h
theorem Zc7.at {e:En}(h:Zc7 w p e):EnAt w p 0 e:=by
 refine EnAt.of (fun t _=>?_);rw [cell_of_row _ _ _ _ _ _ h,Nat.zero_add];simp [En.cells]
def ZaN (w:World) (p:Nat) (t:Tbl) (v:Sl):Prop:=w.heap[p]? = some (Obj.cells #[.int .i64 t.nx,.int .i64 t.no,.int .i64 t.cm,.slice v.a v.len v.cap] 24 (0,0))
theorem ZaN.lt {t:Tbl}(h:ZaN w p t v):p<w.heap.size:=(Array.getElem?_eq_some_iff.1 h).1
theorem ZaN.new (w:World)(t:Tbl)(v:Sl):ZaN (w.alloc (.cells #[.int .i64 t.nx,.int .i64 t.no,.int .i64 t.cm,.slice v.a v.len v.cap] 24)) w.heap.size t v:=heap_alloc_new w _
theorem ZaN.keep {t:Tbl}(h:ZaN w p t v)(hb:Bl w w'):ZaN w' p t v:=(hb.block p h.lt).trans h
theorem ZaN.c0 {t:Tbl}(h:ZaN w p t v):w.cell? ⟨p,0,none⟩=some (.int .i64 t.nx):=by unfold ZaN at h;simp [World.cell?,h]
theorem ZaN.c1 {t:Tbl}(h:ZaN w p t v):w.cell? ⟨p,1,none⟩=some (.int .i64 t.no):=by unfold ZaN at h;simp [World.cell?,h]
theorem ZaN.c2 {t:Tbl}(h:ZaN w p t v):w.cell? ⟨p,2,none⟩=some (.int .i64 t.cm):=by unfold ZaN at h;simp [World.cell?,h]
theorem ZaN.c3 {t:Tbl}(h:ZaN w p t v):w.cell? ⟨p,3,none⟩=some (.slice v.a v.len v.cap):=by unfold ZaN at h;simp [World.cell?,h]
theorem ZaN.fz {t:Tbl}(h:ZaN w p t v)(o:Nat):w.frozen? ⟨p,o,none⟩=false:=frozen_of_row w p _ _ _ h
theorem ZpF (b:Nat)(t:Tbl)(v:Sl)(w:World)(h:ZaN w b t v):(Instr.loadAt 24 (.pointer (some ⟨b,0,none⟩))).run prog w=.ok (t.val v) w:=by
 have c0:=h.c0;have c1:=h.c1;have c2:=h.c2;have c3:=h.c3;simp [go_sem,c0,c1,c2,c3,Tbl.val]
def Zqo (w:World) (p:Nat) (t:Tbl) (v:Sl):World:=(((w.setCell ⟨p,0,none⟩ (.int .i64 t.nx)).setCell ⟨p,1,none⟩ (.int .i64 t.no)).setCell ⟨p,2,none⟩ (.int .i64 t.cm)).setCell ⟨p,3,none⟩ (.slice v.a v.len v.cap)
theorem ZaN.store {t0:Tbl}{v0:Sl}(h:ZaN w p t0 v0)(t:Tbl)(v:Sl):∃W,(Instr.storeAt 24 (.pointer (some ⟨p,0,none⟩)) (t.val v)).run prog w=.ok () W∧ZaN W p t v∧Frm (fun k=>k=p) w W∧W.heap.size=w.heap.size:=by
 have c0:=h.c0;have c1:=h.c1;have c2:=h.c2;have c3:=h.c3;have f0:=h.fz;refine⟨Zqo w p t v,by simp [go_sem,Instr.storeAt,stored,c0,c1,c2,c3,f0,Tbl.val,Zqo],?_,((((Frm.refl (fun k=>k=p) w).setCell (p:=⟨p,0,none⟩) rfl _).setCell (p:=⟨p,1,none⟩) rfl _).setCell (p:=⟨p,2,none⟩) rfl _).setCell (p:=⟨p,3,none⟩) rfl _,by simp only [Zqo,ZhM]⟩;have s0:=heap_setCell_same w p 0 _ 24 (.int .i64 t.nx) h;have s1:=heap_setCell_same _ p 1 _ 24 (.int .i64 t.no) s0;have s2:=heap_setCell_same _ p 2 _ 24 (.int .i64 t.cm) s1;have s3:=heap_setCell_same _ p 3 _ 24 (.slice v.a v.len v.cap) s2;exact s3
theorem Zjz (p:Nat)(w:World):(Instr.fieldAt 127 (.pointer (some ⟨p,0,none⟩)) 0).run prog w=.ok (.pointer (some ⟨p,0,none⟩)) w:=by simp [go_sem,Instr.fieldAt]
theorem ZnJ (p o:Nat)(w:World):(Instr.fieldAt 127 (.pointer (some ⟨p,o,none⟩)) 0).run prog w=.ok (.pointer (some ⟨p,o,none⟩)) w:=by simp [go_sem,Instr.fieldAt,Addr.add_lit]
theorem Zkm (p:Nat)(w:World):(Instr.fieldAt 24 (.pointer (some ⟨p,0,none⟩)) 3).run prog w=.ok (.pointer (some ⟨p,3,none⟩)) w:=by simp [go_sem,Instr.fieldAt]
theorem Zhj (p:Nat)(w:World):(Instr.fieldAt 127 (.pointer (some ⟨p,0,none⟩)) 3).run prog w=.ok (.pointer (some ⟨p,3,none⟩)) w:=by simp [go_sem,Instr.fieldAt]
theorem ZqH (p o:Nat)(w:World):(Instr.fieldAt 127 (.pointer (some ⟨p,o,none⟩)) 3).run prog w=.ok (.pointer (some ⟨p,o+3,none⟩)) w:=by simp [go_sem,Instr.fieldAt,Addr.add_lit]
theorem ZbT (b o:Nat)(x:Int)(w:World)(h:w.cell? ⟨b,o,none⟩=some (.int .i64 x)):(Instr.loadAt 3 (.pointer (some ⟨b,o,none⟩))).run prog w=.ok (.int .i64 x) w:=by simp [go_sem,h]
theorem ldEs (b o:Nat)(a:Option Addr)(n c:Nat)(w:World)(h:w.cell? ⟨b,o,none⟩=some (.slice a n c)):(Instr.loadAt 22 (.pointer (some ⟨b,o,none⟩))).run prog w=.ok (.slice a n c) w:=by simp [go_sem,h]
theorem Zqe (w:World)(b o len cap b2 o2 len2 cap2 i:Nat)(x y:Int)(hi:i<len)(ab:i<len2)(hx:w.cell? ⟨b,o+i,none⟩=some (.int .i64 x))(hy:w.cell? ⟨b2,o2+i,none⟩=some (.int .i64 y))(hr:x≠y)
    {Q:Exit→Act→World→Prop}(ac:A.tmps.size=26)(aa:A.defers=[])(s0:A.tmps.getD 0 undef=.slice (some ⟨b,o,none⟩) len cap)(s1:A.tmps.getD 1 undef=.slice (some ⟨b2,o2,none⟩) len2 cap2)(s5:A.tmps.getD 5 undef=.int .i64 (i:Int))
    (hend:∀(u:Nat→Value) w',Bl w w'→Q .normal ((Pl.pu A u [17,18,19,20,21,22,23,24]).put (some 25) (.bool true)) w') :
    Pl.rg prog 6 f15 Q A w:=by
  have hA:=Pl.At.same (v:=.int .i64 (i:Int)) (d:=5) (Pl.At.same (v:=.slice (some ⟨b2,o2,none⟩) len2 cap2) (d:=1) (Pl.At.same (v:=.slice (some ⟨b,o,none⟩) len cap) (d:=0) (Pl.At.here ac aa) s0) s1) s5;refine Pl.qb (S:=(fun w'=>Bl w w')) hA (Zaa w) ?_;rw [show (Pl.fd 6 f15).size=9 by kernel_rfl];refine Pl.q0 0 17 (.slice (some ⟨b,o,none⟩) len cap) (Pl.q1) (Pl.q2 (.tmp 0)) (Zaa w) ?_;refine Pl.q0 1 18 (.int .i64 (i:Int)) (Pl.q1) (Pl.q2 (.tmp 5)) (Zaa w) ?_;refine Pl.q0 2 19 (.pointer (some ⟨b,o+i,none⟩)) (Pl.q1) (Pl.qa 29 (.tmp 17) (.tmp 18) (ixI1 b o len cap i hi)) (Zaa w) ?_;refine Pl.q0 3 20 (.int .i64 x) (Pl.q1) (Pl.q4 3 (.tmp 19) (fun w' hS=>ZbT b (o+i) x w' ((hS.cell (p:=⟨b,o+i,none⟩) (World.block_lt_of_cell? w _ hx)).trans hx))) (Zaa w) ?_;refine Pl.q0 4 21 (.slice (some ⟨b2,o2,none⟩) len2 cap2) (Pl.q1) (Pl.q2 (.tmp 1)) (Zaa w) ?_;refine Pl.q0 5 22 (.int .i64 (i:Int)) (Pl.q1) (Pl.q2 (.tmp 5)) (Zaa w) ?_;refine Pl.q0 6 23 (.pointer (some ⟨b2,o2+i,none⟩)) (Pl.q1) (Pl.qa 29 (.tmp 21) (.tmp 22) (ixI1 b2 o2 len2 cap2 i ab)) (Zaa w) ?_;refine Pl.q0 7 24 (.int .i64 y) (Pl.q1) (Pl.q4 3 (.tmp 23) (fun w' hS=>ZbT b2 (o2+i) y w' ((hS.cell (p:=⟨b2,o2+i,none⟩) (World.block_lt_of_cell? w _ hy)).trans hy))) (Zaa w) ?_;refine Pl.q0 8 25 (.bool true) (Pl.q1) (Pl.qc .neq 3 3 (.tmp 20) (.tmp 24) (.int .i64 x) (.int .i64 y) (fun w=>neqT x y _ _ hr w)) (Zaa w) ?_;refine Pl.q8 (fun A' hA'=>?_);exact Pl.en hA' hA [17,18,19,20,21,22,23,24,25] (hend hA'.fn _ (Zaa w))
theorem Zqf (w:World)(b o len cap b2 o2 len2 cap2 i:Nat)(x y:Int)(hi:i<len)(ab:i<len2)(hx:w.cell? ⟨b,o+i,none⟩=some (.int .i64 x))(hy:w.cell? ⟨b2,o2+i,none⟩=some (.int .i64 y))(hr:x=y)
    {Q:Exit→Act→World→Prop}(ac:A.tmps.size=26)(aa:A.defers=[])(s0:A.tmps.getD 0 undef=.slice (some ⟨b,o,none⟩) len cap)(s1:A.tmps.getD 1 undef=.slice (some ⟨b2,o2,none⟩) len2 cap2)(s5:A.tmps.getD 5 undef=.int .i64 (i:Int))
    (hend:∀(u:Nat→Value) w',Bl w w'→Q .normal ((Pl.pu A u [17,18,19,20,21,22,23,24]).put (some 25) (.bool false)) w') :
    Pl.rg prog 6 f15 Q A w:=by
  have hA:=Pl.At.same (v:=.int .i64 (i:Int)) (d:=5) (Pl.At.same (v:=.slice (some ⟨b2,o2,none⟩) len2 cap2) (d:=1) (Pl.At.same (v:=.slice (some ⟨b,o,none⟩) len cap) (d:=0) (Pl.At.here ac aa) s0) s1) s5;refine Pl.qb (S:=(fun w'=>Bl w w')) hA (Zaa w) ?_;rw [show (Pl.fd 6 f15).size=9 by kernel_rfl];refine Pl.q0 0 17 (.slice (some ⟨b,o,none⟩) len cap) (Pl.q1) (Pl.q2 (.tmp 0)) (Zaa w) ?_;refine Pl.q0 1 18 (.int .i64 (i:Int)) (Pl.q1) (Pl.q2 (.tmp 5)) (Zaa w) ?_;refine Pl.q0 2 19 (.pointer (some ⟨b,o+i,none⟩)) (Pl.q1) (Pl.qa 29 (.tmp 17) (.tmp 18) (ixI1 b o len cap i hi)) (Zaa w) ?_;refine Pl.q0 3 20 (.int .i64 x) (Pl.q1) (Pl.q4 3 (.tmp 19) (fun w' hS=>ZbT b (o+i) x w' ((hS.cell (p:=⟨b,o+i,none⟩) (World.block_lt_of_cell? w _ hx)).trans hx))) (Zaa w) ?_;refine Pl.q0 4 21 (.slice (some ⟨b2,o2,none⟩) len2 cap2) (Pl.q1) (Pl.q2 (.tmp 1)) (Zaa w) ?_;refine Pl.q0 5 22 (.int .i64 (i:Int)) (Pl.q1) (Pl.q2 (.tmp 5)) (Zaa w) ?_;refine Pl.q0 6 23 (.pointer (some ⟨b2,o2+i,none⟩)) (Pl.q1) (Pl.qa 29 (.tmp 21) (.tmp 22) (ixI1 b2 o2 len2 cap2 i ab)) (Zaa w) ?_;refine Pl.q0 7 24 (.int .i64 y) (Pl.q1) (Pl.q4 3 (.tmp 23) (fun w' hS=>ZbT b2 (o2+i) y w' ((hS.cell (p:=⟨b2,o2+i,none⟩) (World.block_lt_of_cell? w _ hy)).trans hy))) (Zaa w) ?_;refine Pl.q0 8 25 (.bool false) (Pl.q1) (Pl.qc .neq 3 3 (.tmp 20) (.tmp 24) (.int .i64 x) (.int .i64 y) (fun w=>neqF x y _ _ (fun h=>h hr) w)) (Zaa w) ?_;refine Pl.q8 (fun A' hA'=>?_);exact Pl.en hA' hA [17,18,19,20,21,22,23,24,25] (hend hA'.fn _ (Zaa w))
theorem ZjH (w:World)(b o len cap k g p:Nat)(t:Tbl)(x e:En)(hk:k<len)(hg:ZaN w g t ⟨some ⟨b,o,none⟩,len,cap⟩)(he:Zc7 w p e)(hx:EnAt w b (o+k*4) x)(h1:x.tx=e.tx)
    {Q:Exit→Act→World→Prop}(ab:A.tmps.size=140)(aa:A.defers=[])(s1:A.tmps.getD 1 undef=.pointer (some ⟨g,0,none⟩))(s4:A.tmps.getD 4 undef=.pointer (some ⟨p,0,none⟩))(s5:A.tmps.getD 5 undef=.int .i64 (k:Int))
    (hend:∀(u:Nat→Value) w',Bl w w'→Q .normal ((Pl.pu A u [115,116,117,118,119,120,121,122,123,124,125,126,127,128,129,130,131,132,133,134,135,136,137,138]).put (some 139) (.bool true)) w') :
    Pl.rg prog 17 f37 Q A w:=by
  have hA:=Pl.At.same (v:=.int .i64 (k:Int)) (d:=5) (Pl.At.same (v:=.pointer (some ⟨p,0,none⟩)) (d:=4) (Pl.At.same (v:=.pointer (some ⟨g,0,none⟩)) (d:=1) (Pl.At.here ab aa) s1) s4) s5;refine Pl.qb (S:=(fun w'=>Bl w w')) hA (Zaa w) ?_;rw [show (Pl.fd 17 f37).size=25 by kernel_rfl];refine Pl.q0 0 115 (.pointer (some ⟨g,3,none⟩)) (Pl.q1) (Pl.q6 24 (.tmp 1) 3 (Zkm g)) (Zaa w) ?_;refine Pl.q0 1 116 (.slice (some ⟨b,o,none⟩) len cap) (Pl.q1) (Pl.q4 22 (.tmp 115) (fun w' hS=>ldEs g 3 _ _ _ w' (hg.keep hS).c3)) (Zaa w) ?_;refine Pl.q0 2 117 (.int .i64 (k:Int)) (Pl.q1) (Pl.q2 (.tmp 5)) (Zaa w) ?_;refine Pl.q0 3 118 (.pointer (some ⟨b,o+k*4,none⟩)) (Pl.q1) (Pl.qa 22 (.tmp 116) (.tmp 117) (ixEn b o len cap k hk)) (Zaa w) ?_;refine Pl.q0 4 119 (.pointer (some ⟨b,o+k*4,none⟩)) (Pl.q1) (Pl.q6 127 (.tmp 118) 0 (ZnJ b (o+k*4))) (Zaa w) ?_;refine Pl.q0 5 120 (.int .i64 x.tx) (Pl.q1) (Pl.q4 3 (.tmp 119) (fun w' hS=>ZbT b (o+k*4) x.tx w' (hx.keep hS (Nat.le_refl _)).c0)) (Zaa w) ?_;refine Pl.q0 6 121 (.pointer (some ⟨p,0,none⟩)) (Pl.q1) (Pl.q6 127 (.tmp 4) 0 (Zjz p)) (Zaa w) ?_;refine Pl.q0 7 122 (.int .i64 e.tx) (Pl.q1) (Pl.q4 3 (.tmp 121) (fun w' hS=>ZbT p 0 e.tx w' (he.keep hS).at.c0)) (Zaa w) ?_;refine Pl.q0 8 123 (.bool true) (Pl.q1) (Pl.qc .eql 3 3 (.tmp 120) (.tmp 122) (.int .i64 x.tx) (.int .i64 e.tx) (fun w=>eqlT x.tx e.tx _ _ h1 w)) (Zaa w) ?_;refine Pl.q0 9 124 (.bool true) (Pl.q1) (Pl.q2 (.tmp 123)) (Zaa w) ?_;refine Pl.q5 10 125 (Pl.q7 9 124 false) (Zaa w) ?_;refine Pl.q5 11 126 (Pl.q7 9 124 false) (Zaa w) ?_;refine Pl.q5 12 127 (Pl.q7 9 124 false) (Zaa w) ?_;refine Pl.q5 13 128 (Pl.q7 9 124 false) (Zaa w) ?_;refine Pl.q5 14 129 (Pl.qq 13 128 true) (Zaa w) ?_;refine Pl.q5 15 130 (Pl.qq 13 128 true) (Zaa w) ?_;refine Pl.q5 16 131 (Pl.qq 13 128 true) (Zaa w) ?_;refine Pl.q5 17 132 (Pl.qq 13 128 true) (Zaa w) ?_;refine Pl.q5 18 133 (Pl.qq 13 128 true) (Zaa w) ?_;refine Pl.q5 19 134 (Pl.qq 13 128 true) (Zaa w) ?_;refine Pl.q5 20 135 (Pl.qq 13 128 true) (Zaa w) ?_;refine Pl.q5 21 136 (Pl.qq 13 128 true) (Zaa w) ?_;refine Pl.q5 22 137 (Pl.qq 13 128 true) (Zaa w) ?_;refine Pl.q5 23 138 (Pl.q7 9 124 false) (Zaa w) ?_;refine Pl.q0 24 139 (.bool true) (Pl.q1) (Pl.qp (.tmp 124) (.const (.bool true)) (.tmp 138)) (Zaa w) ?_;refine Pl.q8 (fun A' hA'=>?_);exact Pl.en hA' hA [115,116,117,118,119,120,121,122,123,124,125,126,127,128,129,130,131,132,133,134,135,136,137,138,139] (hend hA'.fn _ (Zaa w))
theorem Zow (w:World)(b o len cap k g p:Nat)(t:Tbl)(x e:En)(hk:k<len)(hg:ZaN w g t ⟨some ⟨b,o,none⟩,len,cap⟩)(he:Zc7 w p e)(hx:EnAt w b (o+k*4) x)(h1:¬x.tx=e.tx)(h2:¬0<e.com)
    {Q:Exit→Act→World→Prop}(ab:A.tmps.size=140)(aa:A.defers=[])(s1:A.tmps.getD 1 undef=.pointer (some ⟨g,0,none⟩))(s4:A.tmps.getD 4 undef=.pointer (some ⟨p,0,none⟩))(s5:A.tmps.getD 5 undef=.int .i64 (k:Int))
    (hend:∀(u:Nat→Value) w',Bl w w'→Q .normal ((Pl.pu A u [115,116,117,118,119,120,121,122,123,124,125,126,127,128,129,130,131,132,133,134,135,136,137,138]).put (some 139) (.bool false)) w') :
    Pl.rg prog 17 f37 Q A w:=by
  have hA:=Pl.At.same (v:=.int .i64 (k:Int)) (d:=5) (Pl.At.same (v:=.pointer (some ⟨p,0,none⟩)) (d:=4) (Pl.At.same (v:=.pointer (some ⟨g,0,none⟩)) (d:=1) (Pl.At.here ab aa) s1) s4) s5;refine Pl.qb (S:=(fun w'=>Bl w w')) hA (Zaa w) ?_;rw [show (Pl.fd 17 f37).size=25 by kernel_rfl];refine Pl.q0 0 115 (.pointer (some ⟨g,3,none⟩)) (Pl.q1) (Pl.q6 24 (.tmp 1) 3 (Zkm g)) (Zaa w) ?_;refine Pl.q0 1 116 (.slice (some ⟨b,o,none⟩) len cap) (Pl.q1) (Pl.q4 22 (.tmp 115) (fun w' hS=>ldEs g 3 _ _ _ w' (hg.keep hS).c3)) (Zaa w) ?_;refine Pl.q0 2 117 (.int .i64 (k:Int)) (Pl.q1) (Pl.q2 (.tmp 5)) (Zaa w) ?_;refine Pl.q0 3 118 (.pointer (some ⟨b,o+k*4,none⟩)) (Pl.q1) (Pl.qa 22 (.tmp 116) (.tmp 117) (ixEn b o len cap k hk)) (Zaa w) ?_;refine Pl.q0 4 119 (.pointer (some ⟨b,o+k*4,none⟩)) (Pl.q1) (Pl.q6 127 (.tmp 118) 0 (ZnJ b (o+k*4))) (Zaa w) ?_;refine Pl.q0 5 120 (.int .i64 x.tx) (Pl.q1) (Pl.q4 3 (.tmp 119) (fun w' hS=>ZbT b (o+k*4) x.tx w' (hx.keep hS (Nat.le_refl _)).c0)) (Zaa w) ?_;refine Pl.q0 6 121 (.pointer (some ⟨p,0,none⟩)) (Pl.q1) (Pl.q6 127 (.tmp 4) 0 (Zjz p)) (Zaa w) ?_;refine Pl.q0 7 122 (.int .i64 e.tx) (Pl.q1) (Pl.q4 3 (.tmp 121) (fun w' hS=>ZbT p 0 e.tx w' (he.keep hS).at.c0)) (Zaa w) ?_;refine Pl.q0 8 123 (.bool false) (Pl.q1) (Pl.qc .eql 3 3 (.tmp 120) (.tmp 122) (.int .i64 x.tx) (.int .i64 e.tx) (fun w=>eqlF x.tx e.tx _ _ h1 w)) (Zaa w) ?_;refine Pl.q0 9 124 (.bool false) (Pl.q1) (Pl.q2 (.tmp 123)) (Zaa w) ?_;refine Pl.q0 10 125 (.pointer (some ⟨p,3,none⟩)) (Pl.q3 9 124 false) (Pl.q6 127 (.tmp 4) 3 (Zhj p)) (Zaa w) ?_;refine Pl.q0 11 126 (.int .i64 e.com) (Pl.q3 9 124 false) (Pl.q4 3 (.tmp 125) (fun w' hS=>ZbT p 3 e.com w' (he.keep hS).at.c3)) (Zaa w) ?_;refine Pl.q0 12 127 (.bool false) (Pl.q3 9 124 false) (Pl.qc .gtr 3 3 (.tmp 126) (.const (.int .i64 0)) (.int .i64 e.com) (.int .i64 0) (fun w=>gtrF e.com 0 _ _ h2 w)) (Zaa w) ?_;refine Pl.q0 13 128 (.bool false) (Pl.q3 9 124 false) (Pl.q2 (.tmp 127)) (Zaa w) ?_;refine Pl.q5 14 129 (Pl.q7 13 128 true) (Zaa w) ?_;refine Pl.q5 15 130 (Pl.q7 13 128 true) (Zaa w) ?_;refine Pl.q5 16 131 (Pl.q7 13 128 true) (Zaa w) ?_;refine Pl.q5 17 132 (Pl.q7 13 128 true) (Zaa w) ?_;refine Pl.q5 18 133 (Pl.q7 13 128 true) (Zaa w) ?_;refine Pl.q5 19 134 (Pl.q7 13 128 true) (Zaa w) ?_;refine Pl.q5 20 135 (Pl.q7 13 128 true) (Zaa w) ?_;refine Pl.q5 21 136 (Pl.q7 13 128 true) (Zaa w) ?_;refine Pl.q5 22 137 (Pl.q7 13 128 true) (Zaa w) ?_;refine Pl.q0 23 138 (.bool false) (Pl.q3 9 124 false) (Pl.qk (.tmp 128) (.tmp 137) (.const (.bool false))) (Zaa w) ?_;refine Pl.q0 24 139 (.bool false) (Pl.q1) (Pl.qk (.tmp 124) (.const (.bool true)) (.tmp 138)) (Zaa w) ?_;refine Pl.q8 (fun A' hA'=>?_);exact Pl.en hA' hA [115,116,117,118,119,120,121,122,123,124,125,126,127,128,129,130,131,132,133,134,135,136,137,138,139] (hend hA'.fn _ (Zaa w))
theorem Zox (w:World)(b o len cap k g p:Nat)(t:Tbl)(x e:En)(hk:k<len)(hg:ZaN w g t ⟨some ⟨b,o,none⟩,len,cap⟩)(he:Zc7 w p e)(hx:EnAt w b (o+k*4) x)(h1:¬x.tx=e.tx)(h2:0<e.com)(h3:x.com=e.com)
    {Q:Exit→Act→World→Prop}(ab:A.tmps.size=140)(aa:A.defers=[])(s1:A.tmps.getD 1 undef=.pointer (some ⟨g,0,none⟩))(s4:A.tmps.getD 4 undef=.pointer (some ⟨p,0,none⟩))(s5:A.tmps.getD 5 undef=.int .i64 (k:Int))
    (hend:∀(u:Nat→Value) w',Bl w w'→Q .normal ((Pl.pu A u [115,116,117,118,119,120,121,122,123,124,125,126,127,128,129,130,131,132,133,134,135,136,137,138]).put (some 139) (.bool true)) w') :
    Pl.rg prog 17 f37 Q A w:=by
  have hA:=Pl.At.same (v:=.int .i64 (k:Int)) (d:=5) (Pl.At.same (v:=.pointer (some ⟨p,0,none⟩)) (d:=4) (Pl.At.same (v:=.pointer (some ⟨g,0,none⟩)) (d:=1) (Pl.At.here ab aa) s1) s4) s5;refine Pl.qb (S:=(fun w'=>Bl w w')) hA (Zaa w) ?_;rw [show (Pl.fd 17 f37).size=25 by kernel_rfl];refine Pl.q0 0 115 (.pointer (some ⟨g,3,none⟩)) (Pl.q1) (Pl.q6 24 (.tmp 1) 3 (Zkm g)) (Zaa w) ?_;refine Pl.q0 1 116 (.slice (some ⟨b,o,none⟩) len cap) (Pl.q1) (Pl.q4 22 (.tmp 115) (fun w' hS=>ldEs g 3 _ _ _ w' (hg.keep hS).c3)) (Zaa w) ?_;refine Pl.q0 2 117 (.int .i64 (k:Int)) (Pl.q1) (Pl.q2 (.tmp 5)) (Zaa w) ?_;refine Pl.q0 3 118 (.pointer (some ⟨b,o+k*4,none⟩)) (Pl.q1) (Pl.qa 22 (.tmp 116) (.tmp 117) (ixEn b o len cap k hk)) (Zaa w) ?_;refine Pl.q0 4 119 (.pointer (some ⟨b,o+k*4,none⟩)) (Pl.q1) (Pl.q6 127 (.tmp 118) 0 (ZnJ b (o+k*4))) (Zaa w) ?_;refine Pl.q0 5 120 (.int .i64 x.tx) (Pl.q1) (Pl.q4 3 (.tmp 119) (fun w' hS=>ZbT b (o+k*4) x.tx w' (hx.keep hS (Nat.le_refl _)).c0)) (Zaa w) ?_;refine Pl.q0 6 121 (.pointer (some ⟨p,0,none⟩)) (Pl.q1) (Pl.q6 127 (.tmp 4) 0 (Zjz p)) (Zaa w) ?_;refine Pl.q0 7 122 (.int .i64 e.tx) (Pl.q1) (Pl.q4 3 (.tmp 121) (fun w' hS=>ZbT p 0 e.tx w' (he.keep hS).at.c0)) (Zaa w) ?_;refine Pl.q0 8 123 (.bool false) (Pl.q1) (Pl.qc .eql 3 3 (.tmp 120) (.tmp 122) (.int .i64 x.tx) (.int .i64 e.tx) (fun w=>eqlF x.tx e.tx _ _ h1 w)) (Zaa w) ?_;refine Pl.q0 9 124 (.bool false) (Pl.q1) (Pl.q2 (.tmp 123)) (Zaa w) ?_;refine Pl.q0 10 125 (.pointer (some ⟨p,3,none⟩)) (Pl.q3 9 124 false) (Pl.q6 127 (.tmp 4) 3 (Zhj p)) (Zaa w) ?_;refine Pl.q0 11 126 (.int .i64 e.com) (Pl.q3 9 124 false) (Pl.q4 3 (.tmp 125) (fun w' hS=>ZbT p 3 e.com w' (he.keep hS).at.c3)) (Zaa w) ?_;refine Pl.q0 12 127 (.bool true) (Pl.q3 9 124 false) (Pl.qc .gtr 3 3 (.tmp 126) (.const (.int .i64 0)) (.int .i64 e.com) (.int .i64 0) (fun w=>gtrT e.com 0 _ _ h2 w)) (Zaa w) ?_;refine Pl.q0 13 128 (.bool true) (Pl.q3 9 124 false) (Pl.q2 (.tmp 127)) (Zaa w) ?_;refine Pl.q0 14 129 (.pointer (some ⟨g,3,none⟩)) (Pl.q3 13 128 true) (Pl.q6 24 (.tmp 1) 3 (Zkm g)) (Zaa w) ?_;refine Pl.q0 15 130 (.slice (some ⟨b,o,none⟩) len cap) (Pl.q3 13 128 true) (Pl.q4 22 (.tmp 129) (fun w' hS=>ldEs g 3 _ _ _ w' (hg.keep hS).c3)) (Zaa w) ?_;refine Pl.q0 16 131 (.int .i64 (k:Int)) (Pl.q3 13 128 true) (Pl.q2 (.tmp 5)) (Zaa w) ?_;refine Pl.q0 17 132 (.pointer (some ⟨b,o+k*4,none⟩)) (Pl.q3 13 128 true) (Pl.qa 22 (.tmp 130) (.tmp 131) (ixEn b o len cap k hk)) (Zaa w) ?_;refine Pl.q0 18 133 (.pointer (some ⟨b,o+k*4+3,none⟩)) (Pl.q3 13 128 true) (Pl.q6 127 (.tmp 132) 3 (ZqH b (o+k*4))) (Zaa w) ?_;refine Pl.q0 19 134 (.int .i64 x.com) (Pl.q3 13 128 true) (Pl.q4 3 (.tmp 133) (fun w' hS=>ZbT b (o+k*4+3) x.com w' (hx.keep hS (Nat.le_refl _)).c3)) (Zaa w) ?_;refine Pl.q0 20 135 (.pointer (some ⟨p,3,none⟩)) (Pl.q3 13 128 true) (Pl.q6 127 (.tmp 4) 3 (Zhj p)) (Zaa w) ?_;refine Pl.q0 21 136 (.int .i64 e.com) (Pl.q3 13 128 true) (Pl.q4 3 (.tmp 135) (fun w' hS=>ZbT p 3 e.com w' (he.keep hS).at.c3)) (Zaa w) ?_;refine Pl.q0 22 137 (.bool true) (Pl.q3 13 128 true) (Pl.qc .eql 3 3 (.tmp 134) (.tmp 136) (.int .i64 x.com) (.int .i64 e.com) (fun w=>eqlT x.com e.com _ _ h3 w)) (Zaa w) ?_;refine Pl.q0 23 138 (.bool true) (Pl.q3 9 124 false) (Pl.qp (.tmp 128) (.tmp 137) (.const (.bool false))) (Zaa w) ?_;refine Pl.q0 24 139 (.bool true) (Pl.q1) (Pl.qk (.tmp 124) (.const (.bool true)) (.tmp 138)) (Zaa w) ?_;refine Pl.q8 (fun A' hA'=>?_);exact Pl.en hA' hA [115,116,117,118,119,120,121,122,123,124,125,126,127,128,129,130,131,132,133,134,135,136,137,138,139] (hend hA'.fn _ (Zaa w))
theorem Zoy (w:World)(b o len cap k g p:Nat)(t:Tbl)(x e:En)(hk:k<len)(hg:ZaN w g t ⟨some ⟨b,o,none⟩,len,cap⟩)(he:Zc7 w p e)(hx:EnAt w b (o+k*4) x)(h1:¬x.tx=e.tx)(h2:0<e.com)(h3:¬x.com=e.com)
    {Q:Exit→Act→World→Prop}(ab:A.tmps.size=140)(aa:A.defers=[])(s1:A.tmps.getD 1 undef=.pointer (some ⟨g,0,none⟩))(s4:A.tmps.getD 4 undef=.pointer (some ⟨p,0,none⟩))(s5:A.tmps.getD 5 undef=.int .i64 (k:Int))
    (hend:∀(u:Nat→Value) w',Bl w w'→Q .normal ((Pl.pu A u [115,116,117,118,119,120,121,122,123,124,125,126,127,128,129,130,131,132,133,134,135,136,137,138]).put (some 139) (.bool false)) w') :
    Pl.rg prog 17 f37 Q A w:=by
  have hA:=Pl.At.same (v:=.int .i64 (k:Int)) (d:=5) (Pl.At.same (v:=.pointer (some ⟨p,0,none⟩)) (d:=4) (Pl.At.same (v:=.pointer (some ⟨g,0,none⟩)) (d:=1) (Pl.At.here ab aa) s1) s4) s5;refine Pl.qb (S:=(fun w'=>Bl w w')) hA (Zaa w) ?_;rw [show (Pl.fd 17 f37).size=25 by kernel_rfl];refine Pl.q0 0 115 (.pointer (some ⟨g,3,none⟩)) (Pl.q1) (Pl.q6 24 (.tmp 1) 3 (Zkm g)) (Zaa w) ?_;refine Pl.q0 1 116 (.slice (some ⟨b,o,none⟩) len cap) (Pl.q1) (Pl.q4 22 (.tmp 115) (fun w' hS=>ldEs g 3 _ _ _ w' (hg.keep hS).c3)) (Zaa w) ?_;refine Pl.q0 2 117 (.int .i64 (k:Int)) (Pl.q1) (Pl.q2 (.tmp 5)) (Zaa w) ?_;refine Pl.q0 3 118 (.pointer (some ⟨b,o+k*4,none⟩)) (Pl.q1) (Pl.qa 22 (.tmp 116) (.tmp 117) (ixEn b o len cap k hk)) (Zaa w) ?_;refine Pl.q0 4 119 (.pointer (some ⟨b,o+k*4,none⟩)) (Pl.q1) (Pl.q6 127 (.tmp 118) 0 (ZnJ b (o+k*4))) (Zaa w) ?_;refine Pl.q0 5 120 (.int .i64 x.tx) (Pl.q1) (Pl.q4 3 (.tmp 119) (fun w' hS=>ZbT b (o+k*4) x.tx w' (hx.keep hS (Nat.le_refl _)).c0)) (Zaa w) ?_;refine Pl.q0 6 121 (.pointer (some ⟨p,0,none⟩)) (Pl.q1) (Pl.q6 127 (.tmp 4) 0 (Zjz p)) (Zaa w) ?_;refine Pl.q0 7 122 (.int .i64 e.tx) (Pl.q1) (Pl.q4 3 (.tmp 121) (fun w' hS=>ZbT p 0 e.tx w' (he.keep hS).at.c0)) (Zaa w) ?_;refine Pl.q0 8 123 (.bool false) (Pl.q1) (Pl.qc .eql 3 3 (.tmp 120) (.tmp 122) (.int .i64 x.tx) (.int .i64 e.tx) (fun w=>eqlF x.tx e.tx _ _ h1 w)) (Zaa w) ?_;refine Pl.q0 9 124 (.bool false) (Pl.q1) (Pl.q2 (.tmp 123)) (Zaa w) ?_;refine Pl.q0 10 125 (.pointer (some ⟨p,3,none⟩)) (Pl.q3 9 124 false) (Pl.q6 127 (.tmp 4) 3 (Zhj p)) (Zaa w) ?_;refine Pl.q0 11 126 (.int .i64 e.com) (Pl.q3 9 124 false) (Pl.q4 3 (.tmp 125) (fun w' hS=>ZbT p 3 e.com w' (he.keep hS).at.c3)) (Zaa w) ?_;refine Pl.q0 12 127 (.bool true) (Pl.q3 9 124 false) (Pl.qc .gtr 3 3 (.tmp 126) (.const (.int .i64 0)) (.int .i64 e.com) (.int .i64 0) (fun w=>gtrT e.com 0 _ _ h2 w)) (Zaa w) ?_;refine Pl.q0 13 128 (.bool true) (Pl.q3 9 124 false) (Pl.q2 (.tmp 127)) (Zaa w) ?_;refine Pl.q0 14 129 (.pointer (some ⟨g,3,none⟩)) (Pl.q3 13 128 true) (Pl.q6 24 (.tmp 1) 3 (Zkm g)) (Zaa w) ?_;refine Pl.q0 15 130 (.slice (some ⟨b,o,none⟩) len cap) (Pl.q3 13 128 true) (Pl.q4 22 (.tmp 129) (fun w' hS=>ldEs g 3 _ _ _ w' (hg.keep hS).c3)) (Zaa w) ?_;refine Pl.q0 16 131 (.int .i64 (k:Int)) (Pl.q3 13 128 true) (Pl.q2 (.tmp 5)) (Zaa w) ?_;refine Pl.q0 17 132 (.pointer (some ⟨b,o+k*4,none⟩)) (Pl.q3 13 128 true) (Pl.qa 22 (.tmp 130) (.tmp 131) (ixEn b o len cap k hk)) (Zaa w) ?_;refine Pl.q0 18 133 (.pointer (some ⟨b,o+k*4+3,none⟩)) (Pl.q3 13 128 true) (Pl.q6 127 (.tmp 132) 3 (ZqH b (o+k*4))) (Zaa w) ?_;refine Pl.q0 19 134 (.int .i64 x.com) (Pl.q3 13 128 true) (Pl.q4 3 (.tmp 133) (fun w' hS=>ZbT b (o+k*4+3) x.com w' (hx.keep hS (Nat.le_refl _)).c3)) (Zaa w) ?_;refine Pl.q0 20 135 (.pointer (some ⟨p,3,none⟩)) (Pl.q3 13 128 true) (Pl.q6 127 (.tmp 4) 3 (Zhj p)) (Zaa w) ?_;refine Pl.q0 21 136 (.int .i64 e.com) (Pl.q3 13 128 true) (Pl.q4 3 (.tmp 135) (fun w' hS=>ZbT p 3 e.com w' (he.keep hS).at.c3)) (Zaa w) ?_;refine Pl.q0 22 137 (.bool false) (Pl.q3 13 128 true) (Pl.qc .eql 3 3 (.tmp 134) (.tmp 136) (.int .i64 x.com) (.int .i64 e.com) (fun w=>eqlF x.com e.com _ _ h3 w)) (Zaa w) ?_;refine Pl.q0 23 138 (.bool false) (Pl.q3 9 124 false) (Pl.qp (.tmp 128) (.tmp 137) (.const (.bool false))) (Zaa w) ?_;refine Pl.q0 24 139 (.bool false) (Pl.q1) (Pl.qk (.tmp 124) (.const (.bool true)) (.tmp 138)) (Zaa w) ?_;refine Pl.q8 (fun A' hA'=>?_);exact Pl.en hA' hA [115,116,117,118,119,120,121,122,123,124,125,126,127,128,129,130,131,132,133,134,135,136,137,138,139] (hend hA'.fn _ (Zaa w))
theorem ZgO (w:World)(t:Tbl)(v:Sl):Bl w (w.alloc (.cells #[.int .i64 t.nx,.int .i64 t.no,.int .i64 t.cm,.slice v.a v.len v.cap] 24)):=Zab w _
theorem ZmH (a:Option Addr)(len cap:Nat)(l:List Int)(b:Option Addr)(len2 cap2:Nat)(m:List Int)(w:World)(h:Ks w a len l)(k:Ks w b len2 m)(hl:len≤9223372036854775807)(ak:len2≤9223372036854775807) :
    Calls prog 15 #[.slice a len cap,.slice b len2 cap2] w fun e w'=>e=.returned (.bool (decide (l=m)))∧Bl w w':=by
  by_cases ai:len=len2
  · subst ai;have H:=Zh h;have HK:=Zh k;have H0:=Zh (Below.refl w.heap.size w);clear h k ak;go_enter func15,ntmps15;go_wp2_with fail;go_loopw [5] (fun iv wr=>∃i:Nat,i≤len∧iv=.int .i64 (i:Nat)∧Hi (∀j,j<i→l.getD j 0=m.getD j 0)∧Hi (Bl w wr)) (fun iv _=>len-(intOf iv).toNat)
    case atStart=>exact ⟨0,Nat.zero_le _,rfl,fun j hj=>absurd hj (Nat.not_lt_zero _),H0⟩
    case round =>
     obtain⟨i,hi,rfl,ae,ad⟩:=hrel;rcases Nat.lt_or_ge i len with aa | al
     · (have i1:(i:Int)<(len:Int):=by omega);obtain⟨b1,o1,ha,hx⟩:=(H.o.keep ad.o (Nat.le_refl _)).2 i aa;subst ha;obtain⟨b2,o2,aj,hy⟩:=(HK.o.keep ad.o (Nat.le_refl _)).2 i aa;subst aj;have HX:=Zh hx;have HY:=Zh hy;clear hx hy;by_cases ab:l.getD i 0=m.getD i 0
       · have HN:Hi (∀j,j<i+1→l.getD j 0=m.getD j 0):=by
          intro j hj;by_cases e:j=i
          · rw [e];exact ab
          · exact ae.o j (by omega)
         have ah:=Zh ab;clear ae ab;go_wp2_with fail;refine Pl.q9 (ops:=Pl.fd 6 f15) ?_;refine Zqf _ b1 o1 len cap b2 o2 len cap2 i _ _ aa aa HX.o HY.o ah.o (by rfl) rfl (by rfl) (by rfl) (by rfl) ?_;intro u1 w1 ac;simp only [Pl.pu,List.foldl,Act.put,List.setIfInBounds_toArray,List.set];have af:=Zh (Zac ad.o ac);clear ac;go_wp2;go_roundw;exact ⟨i+1,by omega,by go_num,HN,af⟩;simp only [intOf];omega
       · have ag:Hi (decide (l=m)=false):=decide_eq_false (fun e=>ab (by rw [e]));have ah:=Zh ab;clear ae ab;go_wp2_with fail;refine Pl.q9 (ops:=Pl.fd 6 f15) ?_;refine Zqe _ b1 o1 len cap b2 o2 len cap2 i _ _ aa aa HX.o HY.o ah.o (by rfl) rfl (by rfl) (by rfl) (by rfl) ?_;intro u1 w1 ac;simp only [Pl.pu,List.foldl,Act.put,List.setIfInBounds_toArray,List.set];have af:=Zh (Zac ad.o ac);clear ac;go_wp2;go_ret;exact⟨by rw [ag.o];rfl,af.o⟩
     · (have i1:¬(i:Int)<(len:Int):=by omega);have HY:Hi (decide (l=m)=true):=decide_eq_true (by
        apply List.ext_getElem
        · rw [H.o.1,HK.o.1]
        · intro j h1 h2;have:=ae.o j (by rw [H.o.1] at h1;omega);simpa [List.getD,h1,h2] using this)
       clear ae;go_wp2;go_ret;exact⟨by rw [HY.o];rfl,ad.o⟩
  · have ag:Hi (decide (l=m)=false):=decide_eq_false (fun e=>ai (by rw [← h.1,← k.1,e]));(have q4:((len:Int) != (len2:Int))=true:=by simp;omega);(have q5:¬(len:Int)=(len2:Int):=by omega);clear h k ai;go_enter func15,ntmps15;go_wp2;go_ret;exact⟨by rw [ag.o];rfl,Below.refl _ _⟩
theorem Gi.ks {D:Nat→Prop}{t:List Int}(h:Gi D w v t):Ks w v.a v.len t:=⟨h.len,h.cell⟩
theorem Zru {D E:Nat→Prop}(w:World)(u v:Sl)(s t:List Int)(h:Gi D w u s)(k:Gi E w v t) :
    Calls prog 15 #[u.val,v.val] w fun e w'=>e=.returned (.bool (decide (s=t)))∧Bl w w':=
  ZmH u.a u.len u.cap s v.a v.len v.cap t w h.ks k.ks (by have:=h.big;omega) (by have:=k.big;omega)
end Go.Proofs.YtiecfcjlhldhdaaGreat
