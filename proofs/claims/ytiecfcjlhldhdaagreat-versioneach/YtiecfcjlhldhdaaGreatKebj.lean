/-
  Lemmas.
-/
import Derived.Test.YtiecfcjlhldhdaaGreatKebi
import Derived.Test.YtiecfcjlhldhdaaGreatKebb
import Derived.Test.YtiecfcjlhldhdaaGreatKean
import Derived.Test.YtiecfcjlhldhdaaGreatKeaz
import Derived.Test.YtiecfcjlhldhdaaGreatKebf
import Derived.Test.YtiecfcjlhldhdaaGreatKeaw
namespace Go.Proofs.YtiecfcjlhldhdaaGreat
open Go.RowKit
set_option linter.unusedVariables false
set_option linter.unusedSimpArgs false
set_option maxRecDepth 100000
set_option maxHeartbeats 4000000
variable {w W w0:World}{g n p:Nat}{z y:Bz}{s:Sl}{L:List Lb}{A:Act}
theorem ZiF {fn:Func}{x:Nat}(hr:fn.results=#[.cell x 24]){t:Tbl}{v:Sl}(h:ZaJ W g t v)(tmps:Array Value)(ht:tmps.getD x undef=.pointer (some ⟨g,0,none⟩)):(results fn tmps).run Tryz.prog W=.ok (t.val v) W:=by
 have c0:=h.c0;have c1:=h.c1;have c2:=h.c2;have c3:=h.c3;rw [Array.getD_eq_getD_getElem?] at ht;unfold results;rw [hr];simp [go_sem,ht,c0,c1,c2,c3,Tbl.val]
theorem Zik:madeCells (Value.agg #[.int .i64 0,.int .i64 0,.int .i64 0,.int .i64 0]).cells (12*4)=(Zca (List.replicate 12 En.zero)).toArray:=by kernel_rfl
theorem Zil (w:World):(Instr.makeSlice 22 (.int .i64 12) (.int .i64 12)).run Tryz.prog w=.ok (.slice (some ⟨w.heap.size,0,none⟩) 12 12) (w.alloc (.cells (Zca (List.replicate 12 En.zero)).toArray 127)):=by
 obtain⟨i0,hi,ab,aa,ac⟩:=info_parts Zo3;have h:=run_makeSlice (P:=Tryz.prog) w 22 127 i0 (.agg #[.int .i64 0,.int .i64 0,.int .i64 0,.int .i64 0]) Tryz.underlying22 hi ab .i64 .i64 12 12 (by omega) (by omega) (by rw [aa];decide) (by rw [ac];decide) (by omega);rw [aa,show (12:Int).toNat=12 from rfl,Zik] at h;exact h
theorem ZkA (w:World):OwnE (w.alloc (.cells (Zca (List.replicate 12 En.zero)).toArray 127)) ⟨some ⟨w.heap.size,0,none⟩,12,12⟩ (List.replicate 12 En.zero):=
 ⟨rfl,.inr ⟨w.heap.size,0,_,rfl,heap_alloc_new w _,(by show 0+12*4≤(Zca (List.replicate 12 En.zero)).toArray.size;decide),Nat.le_refl _,(by show (12:Nat)≤maxLen;unfold maxLen;decide),rfl⟩⟩
section
variable {ops : Array Oper} {rest : List Oper} {o : Oper} {a : Act} {Q : Exit → Act → World → Prop}
theorem ZhK (w:World)(ab:o.guard=none)(t:TypeId)(x y:Operand)(ho:o.op=.makeSlice t x y)(u u' v:Value)(hu:a.eval x=u)(hu':a.eval y=u')(w':World)(aa:(Instr.makeSlice t u u').run Tryz.prog w=.ok v w')(hK:wpList Tryz.prog ops Q rest (a.put o.dst v) w'):wpList Tryz.prog ops Q (o :: rest) a w:=by
 refine Zc3 w ab v w' ?_ hK;have e:execOp a.eval o=(do pure (.value (← Instr.makeSlice t (a.eval x) (a.eval y)))):=by
  unfold execOp;rw [ho]
 rw [e,hu,hu'];simp [aa]
end
def Zrb (t:Tbl) (w:World) (mk:Value→Value) (e:Ending) (w':World):Prop:=∃s:Sl,e=.returned (mk (t.val s))∧OwnE w' s t.es∧(∀k,s.blk=some k→w.heap.size≤k)∧Below w.heap.size w w'
theorem ZeP (w:World):Calls Tryz.prog 58 #[] w (Zrb Zar w id):=by
 have hz:=ZaJ.new w Tbl.zero Sl.nil
 have s1:(w.alloc (.cells #[.int .i64 0,.int .i64 0,.int .i64 0,.slice none 0 0] 24)).heap.size=w.heap.size+1:=by simp
 have hb1:=Zaa w (.cells #[.int .i64 0,.int .i64 0,.int .i64 0,.slice none 0 0] 24)
 have hz':ZaJ (w.alloc (.cells #[.int .i64 0,.int .i64 0,.int .i64 0,.slice none 0 0] 24)) w.heap.size Tbl.zero Sl.nil:=hz
 have hmk:=Zil (w.alloc (.cells #[.int .i64 0,.int .i64 0,.int .i64 0,.slice none 0 0] 24))
 have ho:=ZkA (w.alloc (.cells #[.int .i64 0,.int .i64 0,.int .i64 0,.slice none 0 0] 24))
 have hb2:=Zaa (w.alloc (.cells #[.int .i64 0,.int .i64 0,.int .i64 0,.slice none 0 0] 24)) (.cells (Zca (List.replicate 12 En.zero)).toArray 127)
 rw [s1] at hmk ho
 generalize (w.alloc (.cells #[.int .i64 0,.int .i64 0,.int .i64 0,.slice none 0 0] 24)).alloc (.cells (Zca (List.replicate 12 En.zero)).toArray 127)=W2 at *
 obtain⟨W3,hst,hbk,hfr,hsz⟩:=(hz'.keep hb2).store Zar ⟨some ⟨w.heap.size+1,0,none⟩,12,12⟩
 have HO:Hid (OwnE W3 ⟨some ⟨w.heap.size+1,0,none⟩,12,12⟩ Zar.es):=ho.other hfr (fun k hk=>by have e:some (w.heap.size+1)=some k:=hk;cases e;omega)
 have HN:Hid (∀k,(⟨some ⟨w.heap.size+1,0,none⟩,12,12⟩:Sl).blk=some k→w.heap.size≤k):=fun k hk=>by have e:some (w.heap.size+1)=some k:=hk;cases e;omega
 have HB:Hid (Below w.heap.size w W3):=(Zac hb1 hb2).trans (hfr.below (Zac hb1 hb2).size (fun k hk=>by omega))
 have HMK:=hide hmk
 have HST:Hid ((Instr.storeAt 24 (.pointer (some ⟨w.heap.size,0,none⟩)) (.agg #[.int .i64 1,.int .i64 1,.int .i64 0,.slice (some ⟨w.heap.size+1,0,none⟩) 12 12])).run Tryz.prog W2=.ok () W3):=hst
 have HBK:=hide hbk
 clear hz hz' s1 hb1 hb2 hmk ho hst hbk hfr hsz
 go_enter Tryz.func58,Tryz.ntmps58
 go_wp2_with (first | refine ZhK _ rfl 22 (.const (.int .i64 12)) (.const (.int .i64 12)) rfl (.int .i64 12) (.int .i64 12) (.slice (some ⟨w.heap.size+1,0,none⟩) 12 12) rfl rfl W2 HMK.out ?_ | refine Zad _ rfl rfl 24 (.tmp 0) (.tmp 2) rfl (.pointer (some ⟨w.heap.size,0,none⟩)) (.agg #[.int .i64 1,.int .i64 1,.int .i64 0,.slice (some ⟨w.heap.size+1,0,none⟩) 12 12]) rfl rfl W3 HST.out ?_)
 refine bodyPost_ret (ZiF rfl HBK.out _ rfl) rfl ?_
 exact⟨_,rfl,HO.out,HN.out,HB.out⟩
def setBs (w:World) (p:Nat) (z:Bz):World:=((((((w.setCell ⟨p,0,none⟩ (.int .i64 z.t.nx)).setCell ⟨p,1,none⟩ (.int .i64 z.t.no)).setCell ⟨p,2,none⟩ (.int .i64 z.t.cm)).setCell ⟨p,3,none⟩ (.slice z.es.a z.es.len z.es.cap)).setCell ⟨p,4,none⟩ (.slice z.cs.a z.cs.len z.cs.cap)).setCell ⟨p,5,none⟩ (.slice z.ls.a z.ls.len z.ls.cap))
theorem Zdr (w:World)(p:Nat)(z:Bz):Frm (fun k=>k=p) w (setBs w p z):=(((((((Frm.refl (fun k=>k=p) w).setCell (p:=⟨p,0,none⟩) rfl _).setCell (p:=⟨p,1,none⟩) rfl _).setCell (p:=⟨p,2,none⟩) rfl _).setCell (p:=⟨p,3,none⟩) rfl _).setCell (p:=⟨p,4,none⟩) rfl _).setCell (p:=⟨p,5,none⟩) rfl _)
theorem Zdq (h:BsBlk w p y)(z:Bz):BsBlk (setBs w p z) p z:=by
 have s0:=heap_setCell_same w p 0 _ 28 (.int .i64 z.t.nx) h;have s1:=heap_setCell_same _ p 1 _ 28 (.int .i64 z.t.no) s0;have s2:=heap_setCell_same _ p 2 _ 28 (.int .i64 z.t.cm) s1;have s3:=heap_setCell_same _ p 3 _ 28 (.slice z.es.a z.es.len z.es.cap) s2;have s4:=heap_setCell_same _ p 4 _ 28 (.slice z.cs.a z.cs.len z.cs.cap) s3;have s5:=heap_setCell_same _ p 5 _ 28 (.slice z.ls.a z.ls.len z.ls.cap) s4;exact s5
theorem Zog (h:BsBlk w p y)(z:Bz):(Instr.storeAt 28 (.pointer (some ⟨p,0,none⟩)) z.val).run Tryz.prog w=.ok () (setBs w p z):=by
 have c0:=h.c0;have c1:=h.c1;have c2:=h.c2;have c3:=h.c3;have c4:=h.c4;have c5:=h.c5;have f0:=h.fz;simp [go_sem,Instr.storeAt,stored,c0,c1,c2,c3,c4,c5,f0,Bz.val,setBs]
theorem ZqQ (h:BsBlk w p y)(s:Sl)(L:List Lb):∃W,(Instr.storeAt 26 (.pointer (some ⟨p,5,none⟩)) (.slice s.a s.len s.cap)).run Tryz.prog w=.ok () W∧BsBlk W p ⟨y.t,y.es,y.cs,y.ux,s,L⟩∧Frm (fun k=>k=p) w W:=by
 have c5:=h.c5;have f0:=h.fz;refine⟨w.setCell ⟨p,5,none⟩ (.slice s.a s.len s.cap),by simp [go_sem,Instr.storeAt,stored,c5,f0],?_,(Frm.refl (fun k=>k=p) w).setCell (p:=⟨p,5,none⟩) rfl _⟩;have s5:=heap_setCell_same w p 5 _ 28 (.slice s.a s.len s.cap) h;exact s5
theorem ZfT (z:Bz)(w:World):(Instr.build 28 #[(0,z.t.val z.es),(1,.slice z.cs.a z.cs.len z.cs.cap),(2,.slice z.ls.a z.ls.len z.ls.cap)]).run Tryz.prog w=.ok z.val w:=by
 obtain⟨⟨nx,no,cm,es⟩,⟨a,b,c⟩,⟨d,e,f⟩,ux,⟨g,h,i⟩,lb⟩:=z;simp [go_sem,Tbl.val,Bz.val]
theorem Es.box {v:Sl}{l:List En}(h:Es w v l)(hg:BsBlk w g z)(hf:Frm (fun k=>k=g) w W):Es W v l:=by
 refine⟨h.len,h.nil,h.le,h.big,fun j hj=>?_⟩;obtain⟨b,off,ha,e⟩:=h.at' j hj;have hb:b≠g:=by
  intro e2;subst e2;have c0:=e.c0;have c1:=e.c1;have c2:=e.c2;have c3:=e.c3;unfold BsBlk at hg;rw [cell_of_row _ _ _ _ _ _ hg] at c0 c1 c2 c3;generalize off+j*4=q at *;rcases q with _ | _ | _ | _ | _ | _ | q <;> simp at c0 c1 c2 c3
 have hs:W.heap[b]? = w.heap[b]?:=hf.block b (World.block_lt_of_cell? w _ e.c0) hb;refine⟨b,off,ha,⟨?_,?_,?_,?_⟩⟩
 · have:=e.c0;simp only [World.cell?] at this ⊢;rw [hs];exact this
 · have:=e.c1;simp only [World.cell?] at this ⊢;rw [hs];exact this
 · have:=e.c2;simp only [World.cell?] at this ⊢;rw [hs];exact this
 · have:=e.c3;simp only [World.cell?] at this ⊢;rw [hs];exact this
theorem Fs.box {a:Option Addr}{c:Nat}{xs:List Nat}(h:Fs w a n c xs)(hg:BsBlk w g z)(hf:Frm (fun k=>k=g) w W):Fs W a n c xs:=by
 refine h.same (fun b off ha hn=>?_);obtain⟨b',off',ha',hc,_,_⟩:=h.at 0 hn;rw [ha'] at ha;cases ha;refine hf.block b (World.block_lt_of_cell? _ _ hc) (fun e=>?_);subst e;unfold BsBlk at hg;rw [cell_of_row _ _ _ _ _ _ hg] at hc;generalize off+0=q at *;rcases q with _ | _ | _ | _ | _ | _ | q <;> simp at hc
theorem Us.box {a:Option Addr}{l:List Ux}(h:Us w a n l)(hg:BsBlk w g z)(hf:Frm (fun k=>k=g) w W):Us W a n l:=by
 refine⟨h.len,fun j hj=>?_,fun x hx=>(h.cols x hx).box hg hf,h.fits⟩;obtain⟨b,off,ha,e⟩:=h.at' j hj;have hb:b≠g:=by
  intro e2;subst e2;have c7:=e.c7;unfold BsBlk at hg;rw [cell_of_row _ _ _ _ _ _ hg] at c7;generalize off+j*12=q at *;rcases q with _ | _ | _ | _ | _ | _ | q <;> simp at c7
 have hs:W.heap[b]? = w.heap[b]?:=hf.block b (World.block_lt_of_cell? w _ e.c0) hb;(have k:∀{q:Nat} {u:Value},w.cell? ⟨b,q,none⟩=some u→W.cell? ⟨b,q,none⟩=some u:=fun {q u} hq=>by simp only [World.cell?] at hq ⊢;rw [hs];exact hq);exact⟨b,off,ha,⟨k e.c0,k e.c1,k e.c2,k e.c3,k e.c4,k e.c5,k e.c6,k e.c7,k e.c8,k e.c9,k e.c10,k e.c11⟩⟩
theorem Own.box {e:TypeId}{vs:List Value}(h:Own e n w s vs)(hg:BsBlk w g z)(he:e≠28)(hf:Frm (fun k=>k=g) w W):Own e n W s vs:=Own.frmT h hg he hf
structure EmB (w0 w:World) (n:Nat) (z:Bz):Prop where
  t:z.t=Zar
  es:OwnE w z.es z.t.es
  ux:z.ux=List.replicate 6 Ux.zero
  cs:Ud w0 w z.cs z.ux
  ls:EmI w0 w z.ls z.lb
  ll:z.ls.len=n
  em:lfs z.lb=ZaB n
theorem EmI.keep {w':World}(h:EmI w0 w s L)(hb:Below w.heap.size w w'):EmI w0 w' s L:=
 ⟨Own.frame h.own (fun k hk=>hb.block k (Own.lt h.own hk)),h.new,Zac h.below hb,fun x hx=>by obtain ⟨a,b,c,g,e,f⟩:=h.it x hx;exact ⟨a,b,c,g,e,(hb.block g (Array.getElem?_eq_some_iff.1 f).1).trans f⟩⟩
theorem EmI.base {w1:World}(h:EmI w1 w s L)(hb:Below w0.heap.size w0 w1):EmI w0 w s L:=⟨h.own,fun k hk=>Nat.le_trans hb.size (h.new k hk),Zac hb h.below,h.it⟩
theorem EmI.glN (h:EmI w0 w s L)(hm:s.len≤900)(hg:BsBlk w g z):Gl (fun k=>k≠g) w s L:=by
 have h1:=h.gl hm;have hn:∀k,s.blk=some k→k≠g:=fun k hk e=>by
  obtain⟨c,hc⟩:=Own.kind h.own hk;unfold BsBlk at hg;rw [e,hg] at hc;simp only [Option.some.injEq,Obj.cells.injEq] at hc;exact absurd hc.2.1 (by decide)
 exact h.own.gl hm hn (fun x hx=>by
  obtain⟨a1,a2,a3,g2,a4,a5⟩:=h.it x hx;have aa:g2≠g:=fun e=>by
   unfold BsBlk at hg;rw [e,hg] at a5;simp only [Option.some.injEq,Obj.cells.injEq] at a5;exact absurd a5.2.1 (by decide)
  have h3:=(h1.it x hx).1;refine⟨⟨h3.len,h3.nil,h3.le,h3.big,fun ad ha hl=>?_,h3.cell⟩,?_⟩
  · rw [a4] at ha;cases ha;exact aa
  · rw [a1,a2];exact Gb.none w)
theorem EmI.frmT {cs:Array Value}{t:TypeId}(h:EmI w0 w s L)(hg:w.heap[g]? = some (Obj.cells cs t (0,0)))(h1:101≠t)(h2:3≠t)(hf:Frm (fun k=>k=g) w W)(aa:w0.heap.size≤g):EmI w0 W s L:=by
 refine⟨Own.frmT h.own hg h1 hf,h.new,h.below.trans (hf.below h.below.size (fun k e=>by rw [e];exact aa)),fun x hx=>?_⟩;obtain⟨a1,a2,a3,g2,a4,a5⟩:=h.it x hx;refine⟨a1,a2,a3,g2,a4,(hf.block g2 (Array.getElem?_eq_some_iff.1 a5).1 (fun e=>?_)).trans a5⟩;rw [e,hg] at a5;simp only [Option.some.injEq,Obj.cells.injEq] at a5;exact h2 a5.2.1.symm
theorem Zjg:∀args w,(callFunc 58 args).run Tryz.prog w=.ok (.enter 58 args) w:=Pl.qi Tryz.func58
theorem Zga:∀args w,(callFunc 59 args).run Tryz.prog w=.ok (.enter 59 args) w:=Pl.qi Tryz.func59
theorem Zib {ts us ls:Sl}(hk:BsBlk w g y)(ht:OwnE w ts Zar.es)(hu:Ud w0 w us (List.replicate 6 Ux.zero))(hm:EmI w0 w ls L)(ab:L.length=n)(hn:n≤800)(aa:w0.heap.size≤g)(hf:Frm (fun k=>k=g) w W):EmB w0 W n ⟨Zar,ts,us,List.replicate 6 Ux.zero,ls,L⟩:=by
 refine⟨rfl,Own.box ht hk (by decide) hf,rfl,⟨Own.box hu.own hk (by decide) hf,hu.new,hu.below.trans (hf.below hu.below.size (fun k e=>by rw [e];exact aa)),fun x hx=>?_,hu.fits⟩,hm.frmT hk (by decide) (by decide) hf aa,by have h1:L.length=ls.len:=OwnL.len hm.own;show ls.len=n;omega,by rw [hm.lfs,ab]⟩;rw [(List.mem_replicate.1 hx).2];exact Col.zero _ _
theorem ZpZ (w0 w:World)(hw:Below w0.heap.size w0 w)(g n:Nat)(hn:n≤800)(al:w0.heap.size≤g)(hK:BsBlk w g ⟨Tbl.zero,Sl.nil,Sl.nil,[],Sl.nil,[]⟩)
    {Q:Exit→Act→World→Prop}(bc:A.tmps.size=8)(bb:A.defers=[])(s0:A.tmps.getD 0 undef=.int .i64 (n:Int))(s2:A.tmps.getD 2 undef=.pointer (some ⟨g,0,none⟩))
    (hend:∀(u:Nat→Value)(z:Bz) w',BsBlk w' g z→EmB w0 w' n z→Below w0.heap.size w0 w'→Q .normal (Pl.pu A u [5,3,4,6,7]) w') :
    (Code.region 1 (Pl.find 1 ((Tryz.f27.body).getD .skip)) true).wp Tryz.prog Q A w:=by
  have ap:Below w0.heap.size w0 w.drew:=hw.drew;have ay:BsBlk w.drew g ⟨Tbl.zero,Sl.nil,Sl.nil,[],Sl.nil,[]⟩:=hK;have hA:=Pl.At.same (v:=.pointer (some ⟨g,0,none⟩)) (d:=2) (Pl.At.same (v:=.int .i64 (n:Int)) (d:=0) (Pl.At.here bc bb) s0) s2;refine Pl.qa (S:=fun w'=>Below w0.heap.size w0 w') hA ap ?_;rw [show (Pl.find 1 ((Tryz.f27.body).getD .skip)).size=6 by kernel_rfl];refine Pl.q0 2 5 (.int .i64 (n:Int)) (Pl.q1) (Pl.q2 (.tmp 0)) ap ?_;refine Pl.qs 0 1 ?_ ?_
  · refine Pl.qz 0 3 58 [] #[] Zjg (Calls.mono (ZeP w.drew) ?_);rintro e w3 ⟨ts,rfl,av,bd,ak⟩;have ag:Below w0.heap.size w0 w3:=Zac ap ak;have au:=ay.keep ak;refine⟨Zar.val ts,rfl,ag,?_⟩;refine Pl.qs 1 3 ?_ ?_
    · have ad:=Zaa w3 (.cells (Zas (List.replicate 6 Ux.zero)).toArray 65);have aq:=Ud.six w0 w3 ag;have ac:Below w0.heap.size w0 (w3.alloc (.cells (Zas (List.replicate 6 Ux.zero)).toArray 65)):=Zac ag ad;have aj:=au.keep ad;have aw:=av.keep ad;refine Pl.qm 1 4 (.slice (some ⟨w3.heap.size,0,none⟩) 6 6) (w3.alloc (.cells (Zas (List.replicate 6 Ux.zero)).toArray 65)) (Pl.mkV 1 25 (.const (.int .i64 6)) (.const (.int .i64 6)) _ _ (by kernel_rfl) (by decide) (by decide) (Zgo w3)) ac ?_;refine Pl.qd 3 6 59 [(.tmp 5)] #[3] (Pl.q1) Zga (Calls.mono (Zd5 ((w3.alloc (.cells (Zas (List.replicate 6 Ux.zero)).toArray 65))) n hn) ?_);rintro e w6 ⟨ls,L,rfl,aa,ar⟩;have ab:Below w0.heap.size w0 w6:=Zac ac aa.below;have af:=aj.keep aa.below;have am:=aw.keep aa.below;have ax:=aq.keep aa.below;have ao:=aa.base ac;refine⟨.slice ls.a ls.len ls.cap,rfl,ab,?_⟩;refine Pl.q0 4 7 ((Bz.mk Zar ts ⟨some ⟨w3.heap.size,0,none⟩,6,6⟩ (List.replicate 6 Ux.zero) ls L).val) (Pl.q1) (Pl.q_38 28 [(0,.tmp 3),(1,.tmp 4),(2,.tmp 6)] (fun wq=>ZfT (Bz.mk Zar ts ⟨some ⟨w3.heap.size,0,none⟩,6,6⟩ (List.replicate 6 Ux.zero) ls L) wq)) ab ?_;have ai:=Zdr w6 g (Bz.mk Zar ts ⟨some ⟨w3.heap.size,0,none⟩,6,6⟩ (List.replicate 6 Ux.zero) ls L);have an:=Zdq af (Bz.mk Zar ts ⟨some ⟨w3.heap.size,0,none⟩,6,6⟩ (List.replicate 6 Ux.zero) ls L);have ah:Below w0.heap.size w0 (setBs w6 g (Bz.mk Zar ts ⟨some ⟨w3.heap.size,0,none⟩,6,6⟩ (List.replicate 6 Ux.zero) ls L)):=ab.trans (ai.below ab.size (fun k hk=>by rw [hk];exact al));have ae:=Zib af am ax ao ar hn al ai;refine Pl.qj 5 (setBs w6 g (Bz.mk Zar ts ⟨some ⟨w3.heap.size,0,none⟩,6,6⟩ (List.replicate 6 Ux.zero) ls L)) (Pl.q1) (Pl.qk 28 (.tmp 2) (.tmp 7) (Zog af (Bz.mk Zar ts ⟨some ⟨w3.heap.size,0,none⟩,6,6⟩ (List.replicate 6 Ux.zero) ls L))) ah ?_;refine Pl.q8 (fun A' hA'=>?_);rw [Pl.At.ext hA' (((((hA.put 5 _).put 3 _).put 4 _).put 6 _).put 7 _)];exact hend hA'.fn _ _ an ae ah
    · refine Pl.qz 3 6 59 [(.tmp 5)] #[3] Zga (Calls.mono (Zd5 w3 n hn) ?_);rintro e w6 ⟨ls,L,rfl,aa,ar⟩;have ab:Below w0.heap.size w0 w6:=Zac ag aa.below;have af:=au.keep aa.below;have am:=av.keep aa.below;have ao:=aa.base ag;refine⟨.slice ls.a ls.len ls.cap,rfl,ab,?_⟩;have ad:=Zaa w6 (.cells (Zas (List.replicate 6 Ux.zero)).toArray 65);have aq:=Ud.six w0 w6 ab;have ac:Below w0.heap.size w0 (w6.alloc (.cells (Zas (List.replicate 6 Ux.zero)).toArray 65)):=Zac ab ad;have aj:=af.keep ad;have aw:=am.keep ad;have az:=ao.keep ad;refine Pl.qh 1 4 (.slice (some ⟨w6.heap.size,0,none⟩) 6 6) (w6.alloc (.cells (Zas (List.replicate 6 Ux.zero)).toArray 65)) (Pl.q1) (Pl.mkV 1 25 (.const (.int .i64 6)) (.const (.int .i64 6)) _ _ (by kernel_rfl) (by decide) (by decide) (Zgo w6)) ac ?_;rw [Pl.qg 6 4];refine Pl.q0 4 7 ((Bz.mk Zar ts ⟨some ⟨w6.heap.size,0,none⟩,6,6⟩ (List.replicate 6 Ux.zero) ls L).val) (Pl.q1) (Pl.q_38 28 [(0,.tmp 3),(1,.tmp 4),(2,.tmp 6)] (fun wq=>ZfT (Bz.mk Zar ts ⟨some ⟨w6.heap.size,0,none⟩,6,6⟩ (List.replicate 6 Ux.zero) ls L) wq)) ac ?_;have ai:=Zdr ((w6.alloc (.cells (Zas (List.replicate 6 Ux.zero)).toArray 65))) g (Bz.mk Zar ts ⟨some ⟨w6.heap.size,0,none⟩,6,6⟩ (List.replicate 6 Ux.zero) ls L);have an:=Zdq aj (Bz.mk Zar ts ⟨some ⟨w6.heap.size,0,none⟩,6,6⟩ (List.replicate 6 Ux.zero) ls L);have ah:Below w0.heap.size w0 (setBs ((w6.alloc (.cells (Zas (List.replicate 6 Ux.zero)).toArray 65))) g (Bz.mk Zar ts ⟨some ⟨w6.heap.size,0,none⟩,6,6⟩ (List.replicate 6 Ux.zero) ls L)):=ac.trans (ai.below ac.size (fun k hk=>by rw [hk];exact al));have ae:=Zib aj aw aq az ar hn al ai;refine Pl.qj 5 (setBs ((w6.alloc (.cells (Zas (List.replicate 6 Ux.zero)).toArray 65))) g (Bz.mk Zar ts ⟨some ⟨w6.heap.size,0,none⟩,6,6⟩ (List.replicate 6 Ux.zero) ls L)) (Pl.q1) (Pl.qk 28 (.tmp 2) (.tmp 7) (Zog aj (Bz.mk Zar ts ⟨some ⟨w6.heap.size,0,none⟩,6,6⟩ (List.replicate 6 Ux.zero) ls L))) ah ?_;refine Pl.q8 (fun A' hA'=>?_);rw [Pl.At.ext hA' (((((hA.put 5 _).put 3 _).put 4 _).put 6 _).put 7 _)];exact hend hA'.fn _ _ an ae ah
  · have ad:=Zaa w.drew (.cells (Zas (List.replicate 6 Ux.zero)).toArray 65);have aq:=Ud.six w0 w.drew ap;have ac:Below w0.heap.size w0 (w.drew.alloc (.cells (Zas (List.replicate 6 Ux.zero)).toArray 65)):=Zac ap ad;have aj:=ay.keep ad;refine Pl.qm 1 4 (.slice (some ⟨w.drew.heap.size,0,none⟩) 6 6) (w.drew.alloc (.cells (Zas (List.replicate 6 Ux.zero)).toArray 65)) (Pl.mkV 1 25 (.const (.int .i64 6)) (.const (.int .i64 6)) _ _ (by kernel_rfl) (by decide) (by decide) (Zgo w.drew)) ac ?_;refine Pl.qd 0 3 58 [] #[] (Pl.q1) Zjg (Calls.mono (ZeP ((w.drew.alloc (.cells (Zas (List.replicate 6 Ux.zero)).toArray 65)))) ?_);rintro e w3 ⟨ts,rfl,av,bd,ak⟩;have ag:Below w0.heap.size w0 w3:=Zac ac ak;have au:=aj.keep ak;have ba:=aq.keep ak;refine⟨Zar.val ts,rfl,ag,?_⟩;rw [Pl.qg 4 3];refine Pl.qd 3 6 59 [(.tmp 5)] #[3] (Pl.q1) Zga (Calls.mono (Zd5 w3 n hn) ?_);rintro e w6 ⟨ls,L,rfl,aa,ar⟩;have ab:Below w0.heap.size w0 w6:=Zac ag aa.below;have af:=au.keep aa.below;have am:=av.keep aa.below;have ax:=ba.keep aa.below;have ao:=aa.base ag;refine⟨.slice ls.a ls.len ls.cap,rfl,ab,?_⟩;refine Pl.q0 4 7 ((Bz.mk Zar ts ⟨some ⟨w.drew.heap.size,0,none⟩,6,6⟩ (List.replicate 6 Ux.zero) ls L).val) (Pl.q1) (Pl.q_38 28 [(0,.tmp 3),(1,.tmp 4),(2,.tmp 6)] (fun wq=>ZfT (Bz.mk Zar ts ⟨some ⟨w.drew.heap.size,0,none⟩,6,6⟩ (List.replicate 6 Ux.zero) ls L) wq)) ab ?_;have ai:=Zdr w6 g (Bz.mk Zar ts ⟨some ⟨w.drew.heap.size,0,none⟩,6,6⟩ (List.replicate 6 Ux.zero) ls L);have an:=Zdq af (Bz.mk Zar ts ⟨some ⟨w.drew.heap.size,0,none⟩,6,6⟩ (List.replicate 6 Ux.zero) ls L);have ah:Below w0.heap.size w0 (setBs w6 g (Bz.mk Zar ts ⟨some ⟨w.drew.heap.size,0,none⟩,6,6⟩ (List.replicate 6 Ux.zero) ls L)):=ab.trans (ai.below ab.size (fun k hk=>by rw [hk];exact al));have ae:=Zib af am ax ao ar hn al ai;refine Pl.qj 5 (setBs w6 g (Bz.mk Zar ts ⟨some ⟨w.drew.heap.size,0,none⟩,6,6⟩ (List.replicate 6 Ux.zero) ls L)) (Pl.q1) (Pl.qk 28 (.tmp 2) (.tmp 7) (Zog af (Bz.mk Zar ts ⟨some ⟨w.drew.heap.size,0,none⟩,6,6⟩ (List.replicate 6 Ux.zero) ls L))) ah ?_;refine Pl.q8 (fun A' hA'=>?_);rw [Pl.At.ext hA' (((((hA.put 5 _).put 3 _).put 4 _).put 6 _).put 7 _)];exact hend hA'.fn _ _ an ae ah
theorem ZhU {fn:Func}{x:Nat}(hr:fn.results=#[.cell x 28])(h:BsBlk W g z)(tmps:Array Value)(tx:tmps.getD x undef=.pointer (some ⟨g,0,none⟩)) :
    (results fn tmps).run Tryz.prog W=.ok z.val W:=by
  have c0:=h.c0;have c1:=h.c1;have c2:=h.c2;have c3:=h.c3;have c4:=h.c4;have c5:=h.c5;(have tx2:tmps[x]?.getD undef=.pointer (some ⟨g,0,none⟩):=by simpa using tx);simp [results,hr,tx2,go_sem,c0,c1,c2,c3,c4,c5,Bz.val]
theorem ZjU (w:World)(n:Nat)(hn:n≤800):Calls Tryz.prog 27 #[.int .i64 (n:Int)] w fun e w'=>(∃z:Bz,e=.returned z.val∧EmB w w' n z)∧Below w.heap.size w w':=by
 have hA:=Zaa w (.cells #[.int .i64 0,.int .i64 0,.int .i64 0,.slice none 0 0,.slice none 0 0,.slice none 0 0] 28);have HK:Hid (BsBlk (w.alloc (.cells #[.int .i64 0,.int .i64 0,.int .i64 0,.slice none 0 0,.slice none 0 0,.slice none 0 0] 28)) w.heap.size ⟨Tbl.zero,Sl.nil,Sl.nil,[],Sl.nil,[]⟩):=Zbi w ⟨Tbl.zero,Sl.nil,Sl.nil,[],Sl.nil,[]⟩;have HA:=hide hA;clear hA;go_enter Tryz.func27,Tryz.ntmps27;go_wp2_with fail;refine Pl.q9 (ops:=Pl.find 1 ((Tryz.f27.body).getD .skip)) ?_;refine ZpZ w _ HA.out w.heap.size n hn (Nat.le_refl _) HK.out (by rfl) rfl (by rfl) (by rfl) ?_;intro u z w1 hk he hb;simp only [Pl.pu,List.foldl,Act.put,List.setIfInBounds_toArray,List.set_cons_zero,List.set_cons_succ];have ac:=hide hk;have ab:=hide he;have aa:=hide hb;clear hk he hb;go_wp2_with fail;refine bodyPost_ret (ZhU rfl ac.out _ rfl) rfl ?_;exact⟨⟨z,rfl,ab.out⟩,aa.out⟩
theorem Zg5.here {l:List Lf}{r:Rw}{live:List Int}{i:Nat}(p:Zg5 l r live i)(h:MayH l)(hf:r.fits):findH (putH l r live).l r.key=some ⟨r,i,atE (lf l i).slots⟩:=by
 have hm:=p.mayH h hf;have t:=Zj9 p.hi live p.ins;rw [p.is];refine Zjk ((Zce.1 hm).2.2.1) (h:=⟨r,i,atE (lf l i).slots⟩) ?_ (Zjp p.may).symm;show decH (cellH _ i (atE (lf l i).slots))=some r;rw [t.here];exact Zjb p.may hf
def u17:Un:=⟨9,1,0,1,0,0,zeroR⟩
def x17:Ux:=⟨u17,none,0,0⟩
def six17:List Un:=(List.replicate 6 zeroU).set 0 u17
def r17:Rw:=⟨4613937818241073152,false,[],9,1,1⟩
theorem Zp2:r17.may=true:=by decide
theorem Zgx:r17.fits:=⟨by decide,by decide,by decide,by decide,by decide⟩
theorem Zon:u17.fits:=⟨by decide,by decide,by decide,by decide,by decide,by decide,Zbp⟩
theorem ZmF:MayU six17=true:=by decide
theorem ZhD:uns ((List.replicate 6 Ux.zero).set 0 x17)=six17:=rfl
theorem ZqD:Zg5 (ZaB 1) r17 [] 0:=Zmr (by decide) (by decide) Zp2 (by decide)
theorem Zrz:MayBs ⟨Zar,six17,(putH (ZaB 1) r17 []).l⟩:=by
 refine⟨fun i hi=>?_,Zl3,ZmF,Zma (Zcy (by decide) (by decide)) Zgx []⟩;(have hl:((putH (ZaB 1) r17 []).l.length:Int)=1:=by rw [ZqD.is];rfl);show (six17.getD i zeroU).page<((putH (ZaB 1) r17 []).l.length:Int);rw [hl];have aa:i<6:=hi;(have:i=0∨i=1∨i=2∨i=3∨i=4∨i=5:=by omega);rcases this with rfl | rfl | rfl | rfl | rfl | rfl <;> decide
theorem ZqY:MayV ⟨5,6,[]⟩:=by decide
theorem ZqI:readB six17 (putH (ZaB 1) r17 []).l ⟨5,6,[]⟩ 4613937818241073152=(none,[9],0):=by
 have h:=ZqD.here (Zcy (by decide) (by decide)) Zgx;have h2:readB six17 (putH (ZaB 1) r17 []).l ⟨5,6,[]⟩ 4613937818241073152=(vnB six17 ⟨5,6,[]⟩).look 400 r17:=ZdE h;rw [h2,(vnB six17 ⟨5,6,[]⟩).look_new 399 (r:=r17) (by decide) (Zmf (u:=six17) (r:=r17) (by decide) (by decide))];rfl
theorem ZpO (w:World)(z:Bz):∃W,(Instr.storeAt 28 (.pointer (some ⟨w.heap.size,0,none⟩)) z.val).run Tryz.prog (w.alloc (.cells #[.int .i64 0,.int .i64 0,.int .i64 0,.slice none 0 0,.slice none 0 0,.slice none 0 0] 28))=.ok () W∧BsBlk W w.heap.size z∧Below w.heap.size w W:=by
 have hz:BsBlk (w.alloc (.cells #[.int .i64 0,.int .i64 0,.int .i64 0,.slice none 0 0,.slice none 0 0,.slice none 0 0] 28)) w.heap.size ⟨Tbl.zero,Sl.nil,Sl.nil,[],Sl.nil,[]⟩:=Zbi w ⟨Tbl.zero,Sl.nil,Sl.nil,[],Sl.nil,[]⟩;have hA:=Zaa w (.cells #[.int .i64 0,.int .i64 0,.int .i64 0,.slice none 0 0,.slice none 0 0,.slice none 0 0] 28);exact⟨_,Zog hz z,Zdq hz z,hA.trans ((Zdr _ _ _).below hA.size (fun k hk=>by rw [hk];exact Nat.le_refl _))⟩
theorem ZpP (w:World)(b:Bt):∃W,(Instr.storeAt 67 (.pointer (some ⟨w.heap.size,0,none⟩)) (.agg #[.int .i64 b.1,.int .i64 b.2])).run Tryz.prog (w.alloc (.cells #[.int .i64 0,.int .i64 0] 67))=.ok () W∧BtBlk W w.heap.size b∧Below w.heap.size w W:=by
 have hz:=Zbq w (0,0);have hA:=Zaa w (.cells #[.int .i64 0,.int .i64 0] 67);have hf:=Za8 (w.alloc (.cells #[.int .i64 0,.int .i64 0] 67)) w.heap.size b;exact⟨_,ZeY _ w.heap.size _ hz b,ZaP hz b,hA.trans (hf.below hA.size (fun k hk=>by rw [hk];exact Nat.le_refl _))⟩
theorem Zrt {w1:World}(h:EmB w w1 1 z)(hg:BsBlk w1 g y)(ah:w.heap.size≤g) :
    ∃b off c,z.cs=⟨some ⟨b,off,none⟩,6,c⟩∧∃W,(Instr.storeAt 65 (.pointer (some ⟨b,off,none⟩)) (.agg #[.int .i64 9,.int .i64 1,.int .i64 0,.int .i64 1,.int .i64 0,.int .i64 0,.float .f64 0,.bool false,.slice none 0 0,.int .i64 0,.int .i64 0,.int .i64 0])).run Tryz.prog w1=.ok () W∧BsBlk W g y∧Ud w W z.cs ((List.replicate 6 Ux.zero).set 0 x17)∧OwnE W z.es z.t.es∧EmI w W z.ls z.lb∧Below w.heap.size w W:=by
  have hu:=h.cs;rw [h.ux] at hu;obtain⟨t,es,⟨ca,cn,cc⟩,ux,ls,lb⟩:=z;have hl:6=cn:=hu.len;subst hl;obtain⟨b,off,ha,_⟩:=hu.us.at' 0 (by show 0<6;decide);have ad:ca=some ⟨b,off,none⟩:=ha;subst ad;obtain⟨W,ag,ac,ab⟩:=hu.set (g:=b) (off:=off) rfl 0 (by decide) x17 ⟨ZcX _,fun _ _ _ hn=>absurd hn (Nat.lt_irrefl 0)⟩ Zon;obtain⟨cur,aa⟩:=Own.kind hu.own (k:=b) rfl;have ae:w.heap.size≤b:=hu.new b rfl;have af:¬g=b:=fun e=>by
   unfold BsBlk at hg;rw [e,aa] at hg;simp only [Option.some.injEq,Obj.cells.injEq] at hg;exact absurd hg.2.1 (by decide)
  exact⟨b,off,cc,rfl,W,ag,hg.frm ab af,ac,Own.frmT h.es aa (by decide) ab,h.ls.frmT aa (by decide) (by decide) ab ae,ac.below⟩
theorem ZjG {F:Prop}(HS:ZfP F)(w:World):Calls Tryz.prog 8 #[] w fun e w'=>e=.returned (.bool true)∧Below w.heap.size w w':=by
 have HH:=hide HS
 have HE:Hid (Calls Tryz.prog 27 #[.int .i64 1] w fun e w'=>(∃z:Bz,e=.returned z.val∧EmB w w' 1 z)∧Below w.heap.size w w'):=ZjU w 1 (by decide)
 clear HS
 go_enter Tryz.func8,Tryz.ntmps8
 go_wp2_with fail
 refine HE.out.mono ?_
 rintro e w1 ⟨⟨z,rfl,hem⟩,hb1⟩
 obtain⟨W2,hst2,hbk2,hB2⟩:=ZpO w1 z
 have hem2:EmB w W2 1 z:=⟨hem.t,Own.frame hem.es (fun k hk=>hB2.block k (Own.lt hem.es hk)),hem.ux,hem.cs.keep hB2,hem.ls.keep hB2,hem.ll,hem.em⟩
 obtain⟨b,off,cc,hcs,W3,hst3,hbk3,hud3,hes3,hls3,hB3⟩:=Zrt hem2 hbk2 hb1.size
 have hgl3:=hls3.glN (by rw [hem.ll];decide) hbk3
 have hml:∀f∈lfs z.lb,MayL f:=by rw [hem.em];exact (Zcy (n:=1) (by decide) (by decide)).leaf
 have hp3:=Zm9 W3 z.ls z.lb hgl3 hml r17 none 0 0 (ZcX W3) Zgx Sl.nil [] (Gi.none W3)
 rw [hem.em] at hp3
 have hg1:w.heap.size≤w1.heap.size:=hb1.size
 have HST2:=hide hst2
 have HST3:=hide hst3
 have HBK3:=hide hbk3
 have HUD3:=hide hud3
 have HES3:=hide hes3
 have HB3:=hide hB3
 have HTT:=hide hem.t
 have c4:=hbk2.c4
 have d5:=hbk3.c5
 rw [hcs] at c4
 simp only at c4
 obtain⟨t,es,cs,ux,⟨la,ln,lc⟩,lb⟩:=z
 simp only at hcs
 subst hcs
 have HP3:Hid (Calls Tryz.prog 28 #[.slice la ln lc,.agg #[.float .f64 4613937818241073152,.bool false,.slice none 0 0,.int .i64 9,.int .i64 1,.int .i64 1],.slice none 0 0] W3 (ZbK (fun k=>k≠w1.heap.size) W3 (putH (ZaB 1) r17 []))):=hp3
 unfold Bz.val at HST2
 simp only at HST2 HST3 c4 d5
 unfold Bz.val
 simp only
 clear hst2 hst3 hbk2 hbk3 hB2 hud3 hes3 hgl3 hml hp3 hB3 hem2 hem hls3 hb1 HE
 go_wp2_with (first | refine Zad _ rfl rfl 28 (.tmp 1) (.tmp 9) rfl (.pointer (some ⟨w1.heap.size,0,none⟩)) (.agg #[.int .i64 t.nx,.int .i64 t.no,.int .i64 t.cm,.slice es.a es.len es.cap,.slice (some ⟨b,off,none⟩) 6 cc,.slice la ln lc]) rfl rfl W2 HST2.out ?_ | refine Zad _ rfl rfl 65 (.tmp 13) (.tmp 12) rfl (.pointer (some ⟨b,off,none⟩)) (.agg #[.int .i64 9,.int .i64 1,.int .i64 0,.int .i64 1,.int .i64 0,.int .i64 0,.float .f64 0,.bool false,.slice none 0 0,.int .i64 0,.int .i64 0,.int .i64 0]) rfl rfl W3 HST3.out ?_)
 refine HP3.out.mono ?_
 rintro e w4 ⟨hb4,⟨xa,xn,xc⟩,L',rfl,hgl4,hls4⟩
 obtain⟨W5,hst5,hbt5,hB5⟩:=ZpP w4 (putH (ZaB 1) r17 []).b
 have hbk5:=(HBK3.out.keep hb4).keep hB5
 obtain⟨W6,hst6,hbk6,hfr6⟩:=ZqQ hbk5 ⟨xa,xn,xc⟩ L'
 have hB46:=Zac hb4 hB5
 have hg3:w1.heap.size<W3.heap.size:=HBK3.out.lt
 have HBIN:Hid (Bin W6 ⟨t,es,⟨some ⟨b,off,none⟩,6,cc⟩,(List.replicate 6 Ux.zero).set 0 x17,⟨xa,xn,xc⟩,L'⟩):=by
  refine⟨?_,?_,by show 6≤1000;decide,?_⟩
  · exact((OwnE.es HES3.out).keep hB46 (Nat.le_refl _)).box hbk5 hfr6
  · exact((HUD3.out.us).keep hB46 (Nat.le_refl _)).box hbk5 hfr6
  · refine((hgl4.below hB5 (Nat.le_refl _)).keep (Kept.frm hfr6 (fun k hk e=>?_))).wide (fun _ _=>trivial)
    rcases hk with h | h
    · exact h e
    · omega
 have hB6:Below w.heap.size w W6:=(Zac HB3.out hB46).trans (hfr6.below (by have:=HB3.out.size;have:=hB46.size;omega) (fun k hk=>by rw [hk];exact hg1))
 have hbs:(⟨t,uns ((List.replicate 6 Ux.zero).set 0 x17),lfs L'⟩:Bse)=⟨Zar,six17,(putH (ZaB 1) r17 []).l⟩:=by
  have ht:t=Zar:=HTT.out
  rw [hls4,ht,ZhD]
 have hmay:MayBs (⟨t,uns ((List.replicate 6 Ux.zero).set 0 x17),lfs L'⟩:Bse):=by rw [hbs];exact Zrz
 have HRD:=hide (HH.out.read W6 W6 ⟨t,es,⟨some ⟨b,off,none⟩,6,cc⟩,(List.replicate 6 Ux.zero).set 0 x17,⟨xa,xn,xc⟩,L'⟩ ⟨5,6,[]⟩ Sl.nil 4613937818241073152 (Below.refl _ _) HBIN.out (Gi.none W6) (by show 0≤200;decide) (by decide) hmay ZqY)
 have hrd:Vn.cut (readB (uns ((List.replicate 6 Ux.zero).set 0 x17)) (lfs L') ⟨5,6,[]⟩ 4613937818241073152)=(none,[9],0):=by rw [hls4,ZhD,ZqI];rfl
 simp only [hrd] at HRD
 have HCK:Hid (∀W,Below W6.heap.size W6 W→Calls Tryz.prog 10 #[(Bz.mk t es ⟨some ⟨b,off,none⟩,6,cc⟩ ((List.replicate 6 Ux.zero).set 0 x17) ⟨xa,xn,xc⟩ L').val] W fun e w'=>e=.returned (.int .i64 0)∧Below W.heap.size W w'):=fun W hb=>(HH.out.check W _ (HBIN.out.keep hb)).mono (fun e w' h=>⟨by rcases h.1 with k | k;exact k.2;exact absurd hmay k.1,h.2⟩)
 have HST5:=hide hst5
 have HST6:=hide hst6
 have HBK6:=hide hbk6
 have HB6:=hide hB6
 generalize (putH (ZaB 1) r17 []).b=pb at *
 generalize (putH (ZaB 1) r17 []).e=pe at *
 obtain⟨pb1,pb2⟩:=pb
 have k0:=hbk6.c0
 have k1:=hbk6.c1
 have k2:=hbk6.c2
 have k3:=hbk6.c3
 have k4:=hbk6.c4
 have k5:=hbk6.c5
 unfold Bz.val vwV Sl.nil Sl.val at HRD
 unfold Bz.val at HCK
 simp only at HRD HCK HST5 HST6 k0 k1 k2 k3 k4 k5
 unfold btV
 simp only
 clear hb4 hgl4 hls4 hst5 hbt5 hB5 hbk5 hst6 hbk6 hfr6 hB46 hB6 hbs hmay hrd c4 d5 HP3
 go_wp2_with (first | refine Zad _ rfl rfl 67 (.tmp 3) (.tmp 21) rfl (.pointer (some ⟨w4.heap.size,0,none⟩)) (.agg #[.int .i64 pb1,.int .i64 pb2]) rfl rfl W5 HST5.out ?_ | refine Zad _ rfl rfl 26 (.tmp 24) (.tmp 23) rfl (.pointer (some ⟨w1.heap.size,5,none⟩)) (.slice xa xn xc) rfl rfl W6 HST6.out ?_)
 refine HRD.out.mono ?_
 rintro e w7 ⟨hb7,y,⟨qa,qn,qc⟩,rfl,hyr,hyf,hyq⟩
 replace hyf:=hyf.fs
 obtain⟨W8,hst8,hrw8,hB8⟩:=Zl7 w7 y
 have hb78:=Zac hb7 hB8
 have HST8:=hide hst8
 have HB8:=hide (Zac HB6.out hb78)
 have HCK8:=hide (HCK.out W8 hb78)
 have hk8:=HBK6.out.keep hb78
 have k0:=hk8.c0
 have k1:=hk8.c1
 have k2:=hk8.c2
 have k3:=hk8.c3
 have k4:=hk8.c4
 have k5:=hk8.c5
 have hq8:=hyq.below hB8 (Nat.le_refl _)
 have hqn:([9]:List Int).length=qn:=hq8.len
 obtain⟨qb,qo,hqa,hq9⟩:=hq8.cell 0 (by show 0<qn;rw [← hqn];decide)
 have hqa2:qa=some ⟨qb,qo,none⟩:=hqa
 subst hqa2
 have hqn2:1=qn:=hqn
 subst hqn2
 have q9:W8.cell? ⟨qb,qo,none⟩=some (.int .i64 9):=hq9
 simp only at k0 k1 k2 k3 k4 k5
 unfold Rx.val Rw.val Sl.val
 simp only
 clear hb7 hyr hyf hyq hst8 hrw8 hB8 hb78 hk8 hq8 hqn hqa hq9 HRD HCK
 go_wp2_with (first | refine Zad _ rfl rfl 39 (.tmp 5) (.tmp 29) rfl (.pointer (some ⟨w7.heap.size,0,none⟩)) (.agg #[.float .f64 y.r.key,.bool y.r.dead,.slice y.a y.n y.c,.int .i64 y.r.wr,.int .i64 y.r.cell,.int .i64 y.r.no]) rfl rfl W8 HST8.out ?_)
 refine HCK8.out.mono ?_
 rintro e w9 ⟨rfl,hb9⟩
 have HB9:=hide (Zac HB8.out hb9)
 have q9':=Zag q9 hb9
 clear hb9 q9
 go_wp2_with fail
 go_ret
 exact⟨rfl,HB9.out⟩
theorem Zq1 (w:World)(g b off len c m lc i:Nat)(la:Option Addr)(x:Ux)(hi:i<len)(h4:w.cell? ⟨g,4,none⟩=some (.slice (some ⟨b,off,none⟩) len c))(h5:w.cell? ⟨g,5,none⟩=some (.slice la m lc))(hx:w.cell? ⟨b,off+i*12+4,none⟩=some (.int .i64 x.u.page))(hc:(m:Int)≤x.u.page)
    {Q:Exit→Act→World→Prop}(ac:A.tmps.size=34)(ab:A.defers=[])(s1:A.tmps.getD 1 undef=.pointer (some ⟨g,0,none⟩))(s3:A.tmps.getD 3 undef=.int .i64 (i:Int))
    (hend:∀(u:Nat→Value) w',Below w.heap.size w w'→Q .normal ((Pl.pu A u [11,12,13,14,15,16,17,18,19]).put (some 20) (.bool true)) w') :
    (Code.region 4 (Pl.find 4 ((Tryz.f11.body).getD .skip)) true).wp Tryz.prog Q A w:=by
  have aa:Below w.heap.size w w.drew:=Zab w;have hA:=Pl.At.same (v:=.int .i64 (i:Int)) (d:=3) (Pl.At.same (v:=.pointer (some ⟨g,0,none⟩)) (d:=1) (Pl.At.here ac ab) s1) s3;refine Pl.qa (S:=fun w'=>Below w.heap.size w w') hA aa ?_;rw [show (Pl.find 4 ((Tryz.f11.body).getD .skip)).size=10 by kernel_rfl];refine Pl.q0 0 11 (.pointer (some ⟨g,4,none⟩)) (Pl.q1) (Pl.q5 28 (.tmp 1) 1 (ZoM g)) aa ?_;refine Pl.q0 1 12 (.slice (some ⟨b,off,none⟩) len c) (Pl.q1) (Pl.q4 25 (.tmp 11) (fun w' hS=>ldCs (Zag h4 hS))) aa ?_;refine Pl.q0 2 13 (.int .i64 (i:Int)) (Pl.q1) (Pl.q2 (.tmp 3)) aa ?_;refine Pl.q0 3 14 (.pointer (some ⟨b,off+i*12,none⟩)) (Pl.q1) (Pl.qb 25 (.tmp 12) (.tmp 13) (Zcw b off len c i hi)) aa ?_;refine Pl.q0 4 15 (.pointer (some ⟨b,off+i*12+4,none⟩)) (Pl.q1) (Pl.q5 65 (.tmp 14) 4 (Zqf b (off+i*12))) aa ?_;refine Pl.q0 5 16 (.int .i64 x.u.page) (Pl.q1) (Pl.q4 3 (.tmp 15) (fun w' hS=>ldI1 b (off+i*12+4) _ w' (Zag hx hS))) aa ?_;refine Pl.q0 6 17 (.pointer (some ⟨g,5,none⟩)) (Pl.q1) (Pl.q5 28 (.tmp 1) 2 (ZoN g)) aa ?_;refine Pl.q0 7 18 (.slice la m lc) (Pl.q1) (Pl.q4 26 (.tmp 17) (fun w' hS=>ldLs (Zag h5 hS))) aa ?_;refine Pl.q0 8 19 (.int .i64 (m:Int)) (Pl.q1) (Pl.qr 26 (.tmp 18) (fun _ _=>rfl)) aa ?_;refine Pl.q0 9 20 (.bool true) (Pl.q1) (Pl.qc .geq 3 3 (.tmp 16) (.tmp 19) (.int .i64 x.u.page) (.int .i64 (m:Int)) (fun w=>geqT x.u.page (m:Int) _ _ hc w)) aa ?_;refine Pl.q8 (fun A' hA'=>?_);rw [Pl.At.ext hA' ((((((((((hA.put 11 _).put 12 _).put 13 _).put 14 _).put 15 _).put 16 _).put 17 _).put 18 _).put 19 _).put 20 _)];exact hend hA'.fn _ aa
theorem Zq0 (w:World)(g b off len c m lc i:Nat)(la:Option Addr)(x:Ux)(hi:i<len)(h4:w.cell? ⟨g,4,none⟩=some (.slice (some ⟨b,off,none⟩) len c))(h5:w.cell? ⟨g,5,none⟩=some (.slice la m lc))(hx:w.cell? ⟨b,off+i*12+4,none⟩=some (.int .i64 x.u.page))(hc:¬(m:Int)≤x.u.page)
    {Q:Exit→Act→World→Prop}(ac:A.tmps.size=34)(ab:A.defers=[])(s1:A.tmps.getD 1 undef=.pointer (some ⟨g,0,none⟩))(s3:A.tmps.getD 3 undef=.int .i64 (i:Int))
    (hend:∀(u:Nat→Value) w',Below w.heap.size w w'→Q .normal ((Pl.pu A u [11,12,13,14,15,16,17,18,19]).put (some 20) (.bool false)) w') :
    (Code.region 4 (Pl.find 4 ((Tryz.f11.body).getD .skip)) true).wp Tryz.prog Q A w:=by
  have aa:Below w.heap.size w w.drew:=Zab w;have hA:=Pl.At.same (v:=.int .i64 (i:Int)) (d:=3) (Pl.At.same (v:=.pointer (some ⟨g,0,none⟩)) (d:=1) (Pl.At.here ac ab) s1) s3;refine Pl.qa (S:=fun w'=>Below w.heap.size w w') hA aa ?_;rw [show (Pl.find 4 ((Tryz.f11.body).getD .skip)).size=10 by kernel_rfl];refine Pl.q0 0 11 (.pointer (some ⟨g,4,none⟩)) (Pl.q1) (Pl.q5 28 (.tmp 1) 1 (ZoM g)) aa ?_;refine Pl.q0 1 12 (.slice (some ⟨b,off,none⟩) len c) (Pl.q1) (Pl.q4 25 (.tmp 11) (fun w' hS=>ldCs (Zag h4 hS))) aa ?_;refine Pl.q0 2 13 (.int .i64 (i:Int)) (Pl.q1) (Pl.q2 (.tmp 3)) aa ?_;refine Pl.q0 3 14 (.pointer (some ⟨b,off+i*12,none⟩)) (Pl.q1) (Pl.qb 25 (.tmp 12) (.tmp 13) (Zcw b off len c i hi)) aa ?_;refine Pl.q0 4 15 (.pointer (some ⟨b,off+i*12+4,none⟩)) (Pl.q1) (Pl.q5 65 (.tmp 14) 4 (Zqf b (off+i*12))) aa ?_;refine Pl.q0 5 16 (.int .i64 x.u.page) (Pl.q1) (Pl.q4 3 (.tmp 15) (fun w' hS=>ldI1 b (off+i*12+4) _ w' (Zag hx hS))) aa ?_;refine Pl.q0 6 17 (.pointer (some ⟨g,5,none⟩)) (Pl.q1) (Pl.q5 28 (.tmp 1) 2 (ZoN g)) aa ?_;refine Pl.q0 7 18 (.slice la m lc) (Pl.q1) (Pl.q4 26 (.tmp 17) (fun w' hS=>ldLs (Zag h5 hS))) aa ?_;refine Pl.q0 8 19 (.int .i64 (m:Int)) (Pl.q1) (Pl.qr 26 (.tmp 18) (fun _ _=>rfl)) aa ?_;refine Pl.q0 9 20 (.bool false) (Pl.q1) (Pl.qc .geq 3 3 (.tmp 16) (.tmp 19) (.int .i64 x.u.page) (.int .i64 (m:Int)) (fun w=>geqF x.u.page (m:Int) _ _ hc w)) aa ?_;refine Pl.q8 (fun A' hA'=>?_);rw [Pl.At.ext hA' ((((((((((hA.put 11 _).put 12 _).put 13 _).put 14 _).put 15 _).put 16 _).put 17 _).put 18 _).put 19 _).put 20 _)];exact hend hA'.fn _ aa
def Zbw (b:Bse) (e:Ending):Prop:=∃r:Bool,e=.returned (.bool r)∧(r=true↔MayBs b)
theorem Zh3 (w:World)(z:Bz)(h:Bin w z) :
    Calls Tryz.prog 11 #[z.val] w fun e w'=>Zbw z.b e∧Below w.heap.size w w':=by
  have hA:=Zaa w (.cells #[.int .i64 z.t.nx,.int .i64 z.t.no,.int .i64 z.t.cm,.slice z.es.a z.es.len z.es.cap,.slice z.cs.a z.cs.len z.cs.cap,.slice z.ls.a z.ls.len z.ls.cap] 28);have HA:=hide hA;have HB:=hide (Zbi w z);have HI:=hide (h.keep hA);have bf:z.cs.len≤1000:=h.cb;have bh:z.ls.len≤900:=h.ls.big;(have an:Hid (z.b.u.length=z.cs.len):=by show (uns z.ux).length=_;rw [ZcN];exact h.cs.len);(have al:Hid (z.b.l.length=z.ls.len):=by show (lfs z.lb).length=_;rw [Zbe];exact h.ls.len);have HT:=hide (fun W (hb:Below (w.alloc (.cells #[.int .i64 z.t.nx,.int .i64 z.t.no,.int .i64 z.t.cm,.slice z.es.a z.es.len z.es.cap,.slice z.cs.a z.cs.len z.cs.cap,.slice z.ls.a z.ls.len z.ls.cap] 28)).heap.size (w.alloc (.cells #[.int .i64 z.t.nx,.int .i64 z.t.no,.int .i64 z.t.cm,.slice z.es.a z.es.len z.es.cap,.slice z.cs.a z.cs.len z.cs.cap,.slice z.ls.a z.ls.len z.ls.cap] 28)) W)=>Zm0 z.t z.es W (HI.out.keep hb).es);have HU:=hide (fun W (hb:Below (w.alloc (.cells #[.int .i64 z.t.nx,.int .i64 z.t.no,.int .i64 z.t.cm,.slice z.es.a z.es.len z.es.cap,.slice z.cs.a z.cs.len z.cs.cap,.slice z.ls.a z.ls.len z.ls.cap] 28)).heap.size (w.alloc (.cells #[.int .i64 z.t.nx,.int .i64 z.t.no,.int .i64 z.t.cm,.slice z.es.a z.es.len z.es.cap,.slice z.cs.a z.cs.len z.cs.cap,.slice z.ls.a z.ls.len z.ls.cap] 28)) W)=>ZnV z.cs.a z.cs.len z.cs.cap z.ux W (HI.out.keep hb).cs (by omega));have HL:=hide (fun W (hb:Below (w.alloc (.cells #[.int .i64 z.t.nx,.int .i64 z.t.no,.int .i64 z.t.cm,.slice z.es.a z.es.len z.es.cap,.slice z.cs.a z.cs.len z.cs.cap,.slice z.ls.a z.ls.len z.ls.cap] 28)).heap.size (w.alloc (.cells #[.int .i64 z.t.nx,.int .i64 z.t.no,.int .i64 z.t.cm,.slice z.es.a z.es.len z.es.cap,.slice z.cs.a z.cs.len z.cs.cap,.slice z.ls.a z.ls.len z.ls.cap] 28)) W)=>Zmz W z.ls z.lb (HI.out.keep hb).ls);have ao:Hid (∀i,(z.b.u.getD i zeroU)=(z.ux.getD i Ux.zero).u):=fun i=>Zb6 z.ux i;have ab:Hid (MayBs z.b↔(∀i,i<z.cs.len→(z.ux.getD i Ux.zero).u.page<(z.ls.len:Int))∧mayB z.t=true∧MayU (uns z.ux)=true∧MayH (lfs z.lb)):=by
   show _↔_;constructor
   · intro m;refine⟨fun i hi=>?_,Zeq.2 m.t,m.u,m.l⟩;have:=m.pg i (by rw [an.out];exact hi);rw [al.out,ao.out] at this;exact this
   · rintro ⟨a,b,c,d⟩;refine⟨fun i hi=>?_,Zeq.1 b,c,d⟩;have:=a i (by rw [an.out] at hi;exact hi);rw [al.out,ao.out];exact this
  obtain⟨q,hq⟩:∃q:Prop,q=MayBs z.b:=⟨_,rfl⟩;rw [← hq] at ab;have HQ:=hide hq;obtain⟨mt,bb⟩:∃m,m=mayB z.t:=⟨_,rfl⟩;rw [← bb] at ab HT;obtain⟨mu,bc⟩:∃m,m=MayU (uns z.ux):=⟨_,rfl⟩;rw [← bc] at ab HU;have HS:Hid (∀(r:Bool),(r=true↔q)→Zbw z.b (.returned (.bool r))):=fun r hr=>⟨r,rfl,by rw [← HQ.out];exact hr⟩;obtain⟨bs,az⟩:∃bs,bs=z.b:=⟨_,rfl⟩;rw [← az] at HS ⊢;clear h hA hq bb bc az HQ an al ao;obtain⟨⟨nx,no,cm,es⟩,⟨ea,el,ec⟩,⟨ca,cl,cc⟩,ux,⟨la,ll,lc⟩,lb⟩:=z;unfold Tbl.val Sl.val at *;unfold Bz.val;simp only at *;generalize aw:w.alloc (.cells #[.int .i64 nx,.int .i64 no,.int .i64 cm,.slice ea el ec,.slice ca cl cc,.slice la ll lc] 28)=W0 at *;have bd:=hide aw;clear aw;go_enter Tryz.func11,Tryz.ntmps11;have k0:=HB.out.c0;have k1:=HB.out.c1;have k2:=HB.out.c2;have k3:=HB.out.c3;have k4:=HB.out.c4;have k5:=HB.out.c5;simp only at k0 k1 k2 k3 k4 k5;go_wp2_with fail;rw [bd.out];go_loopw [3] (fun iv wr=>∃i:Nat,i≤cl∧iv=.int .i64 (i:Nat)∧Hid (∀j,j<i→(ux.getD j Ux.zero).u.page<(ll:Int))∧Hid (Below W0.heap.size W0 wr)) (fun iv _=>cl-(intOf iv).toNat)
  case atStart=>exact ⟨0,Nat.zero_le _,rfl,fun j hj=>absurd hj (Nat.not_lt_zero _),Below.refl _ _⟩
  case round =>
   obtain⟨i,hi,rfl,ag,ae⟩:=hrel;have ad:=HB.out.keep ae.out;have be:=hide ad;clear k0 k1 k2 k3 k4 k5;have k0:=ad.c0;have k1:=ad.c1;have k2:=ad.c2;have k3:=ad.c3;have k4:=ad.c4;have k5:=ad.c5;simp only at k0 k1 k2 k3 k4 k5;clear ad;rcases Nat.lt_or_ge i cl with ai | bg
   · (have i1:(i:Int)<(cl:Int):=by omega);obtain⟨b,off,ha,ap⟩:=(HI.out.keep ae.out).cs.at' i ai;replace ha:ca=some ⟨b,off,none⟩:=ha;subst ha;obtain⟨x,hx⟩:∃x,x=ux.getD i Ux.zero:=⟨_,rfl⟩;rw [← hx] at ap;have HX:=hide hx;have HC:=hide ap.c4;clear hx ap;by_cases aj:(ll:Int)≤x.u.page
     · have HR:Hid (Zbw bs (.returned (.bool false))):=HS.out false ⟨(fun e=>by cases e),fun m=>by
        have:=(ab.out.1 m).1 i ai;rw [← HX.out] at this;omega⟩
       have am:=hide aj;clear ag aj;go_wp2_with fail;refine Pl.q9 (ops:=Pl.find 4 ((Tryz.f11.body).getD .skip)) ?_;refine Zq1 _ w.heap.size b off cl cc ll lc i la x ai k4 k5 HC.out (by have:=am.out;omega) (by rfl) rfl (by rfl) (by rfl) ?_;intro u1 w1 ac;simp only [Pl.pu,List.foldl,Act.put,List.setIfInBounds_toArray,List.set_cons_zero,List.set_cons_succ];have aa:=hide (Zac HA.out (Zac ae.out ac));clear ac;go_wp2_with fail;go_ret;exact⟨HR.out,aa.out⟩
     · have HN:Hid (∀j,j<i+1→(ux.getD j Ux.zero).u.page<(ll:Int)):=by
        intro j hj;by_cases e:j=i
        · rw [e,← HX.out];omega
        · exact ag.out j (by omega)
       have am:=hide aj;clear ag aj;go_wp2_with fail;refine Pl.q9 (ops:=Pl.find 4 ((Tryz.f11.body).getD .skip)) ?_;refine Zq0 _ w.heap.size b off cl cc ll lc i la x ai k4 k5 HC.out (by have:=am.out;omega) (by rfl) rfl (by rfl) (by rfl) ?_;intro u1 w1 ac;simp only [Pl.pu,List.foldl,Act.put,List.setIfInBounds_toArray,List.set_cons_zero,List.set_cons_succ];have aa:=hide (Zac ae.out ac);clear ac;go_wp2_with fail;go_roundw
       case rel=>exact ⟨i+1,by omega,by go_num,HN,aa⟩
       case measure=>simp only [intOf];omega
   · (have i1:¬(i:Int)<(cl:Int):=by omega);have ak:Hid (∀j,j<cl→(ux.getD j Ux.zero).u.page<(ll:Int)):=fun j hj=>ag.out j (by omega);have au:=hide (HT.out _ ae.out);clear ag HT;go_wp2_with fail;refine au.out.mono ?_;rintro e w1 ⟨rfl,ac⟩;have aa:=hide (Zac ae.out ac);have aq:=HB.out.keep aa.out;clear ac au k0 k1 k2 k3 k4 k5;have k4:=aq.c4;have k5:=aq.c5;simp only at k4 k5;clear aq;cases mt with
     | false =>
      have HR:Hid (Zbw bs (.returned (.bool false))):=HS.out false ⟨(fun e=>by cases e),(fun m=>by cases (ab.out.1 m).2.1)⟩;have af:=hide (Zac HA.out aa.out);go_wp2_with fail;go_ret;exact⟨HR.out,af.out⟩
     | true =>
      have av:=hide (HU.out w1 aa.out);clear HU;go_wp2_with fail;refine av.out.mono ?_;rintro e w2 ⟨rfl,ax⟩;have ah:=hide (Zac aa.out ax);have ba:=HB.out.keep ah.out;clear ax av k4 k5;have k5:=ba.c5;simp only at k5;clear ba;cases mu with
      | false =>
       have HR:Hid (Zbw bs (.returned (.bool false))):=HS.out false ⟨(fun e=>by cases e),(fun m=>by cases (ab.out.1 m).2.2.1)⟩;have af:=hide (Zac HA.out ah.out);go_wp2_with fail;go_ret;exact⟨HR.out,af.out⟩
      | true =>
       have ar:=hide (HL.out w2 ah.out);clear HL;go_wp2_with fail;refine ar.out.mono ?_;rintro e w3 ⟨⟨r,rfl,hr⟩,ay⟩;have HR:Hid (Zbw bs (.returned (.bool r))):=HS.out r (hr.trans ⟨fun m=>ab.out.2 ⟨ak.out,(by first | rfl | trivial),(by first | rfl | trivial),m⟩,fun m=>(ab.out.1 m).2.2.2⟩);have af:=hide (Zac HA.out (Zac ah.out ay));clear ay ar hr;go_wp2_with fail;go_ret;exact⟨HR.out,af.out⟩
end Go.Proofs.YtiecfcjlhldhdaaGreat
