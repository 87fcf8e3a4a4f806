/-
  Lemmas.
-/
import Derived.Test.YtiecfcjlhldhdaaGreatKebi
import Derived.Test.YtiecfcjlhldhdaaGreatKebq
import Derived.Test.YtiecfcjlhldhdaaGreatKebf
import Derived.Test.YtiecfcjlhldhdaaGreatKebe
import Derived.Test.YtiecfcjlhldhdaaGreatKebg
import Derived.Test.YtiecfcjlhldhdaaGreatKebh
import Derived.Test.YtiecfcjlhldhdaaGreatKebd
namespace Go.Proofs.YtiecfcjlhldhdaaGreat
open Go.RowKit
set_option linter.unusedVariables false
set_option linter.unusedSimpArgs false
set_option maxRecDepth 100000
set_option maxHeartbeats 4000000
variable {w w0 wr w':World}{q vs:Sl}{p i g:Nat}{y x:Rx}{b:Bool}{e:Int}{t pre:List Int}{z:Bz}{v:Vw}{x0:Rw}
def lkV (y:Rx) (b:Bool) (q:Sl) (e:Int):Value:=.agg #[.float .f64 y.r.key,.bool y.r.dead,.slice y.a y.n y.c,.int .i64 y.r.wr,.int .i64 y.r.cell,.int .i64 y.r.no,.bool b,.slice q.a q.len q.cap,.int .i64 e]
def LkBlk (w:World) (p:Nat) (y:Rx) (b:Bool) (q:Sl) (e:Int):Prop:=w.heap[p]? = some (Obj.cells #[.float .f64 y.r.key,.bool y.r.dead,.slice y.a y.n y.c,.int .i64 y.r.wr,.int .i64 y.r.cell,.int .i64 y.r.no,.bool b,.slice q.a q.len q.cap,.int .i64 e] 75 (0,0))
theorem LkBlk.lt (h:LkBlk w p y b q e):p<w.heap.size:=(Array.getElem?_eq_some_iff.1 h).1
theorem LkBlk.keep (h:LkBlk w p y b q e)(hb:Below w.heap.size w w'):LkBlk w' p y b q e:=(hb.block p h.lt).trans h
theorem LkBlk.frm {F:Nat→Prop}(h:LkBlk w p y b q e)(hf:Frm F w w')(hn:¬F p):LkBlk w' p y b q e:=(hf.block p h.lt hn).trans h
theorem LkBlk.fz (h:LkBlk w p y b q e)(o:Nat):w.frozen? ⟨p,o,none⟩=false:=frozen_of_row w p _ _ 75 h
theorem Zhk (w:World)(y:Rx)(b:Bool)(q:Sl)(e:Int):LkBlk (w.alloc (.cells #[.float .f64 y.r.key,.bool y.r.dead,.slice y.a y.n y.c,.int .i64 y.r.wr,.int .i64 y.r.cell,.int .i64 y.r.no,.bool b,.slice q.a q.len q.cap,.int .i64 e] 75)) w.heap.size y b q e:=heap_alloc_new w _
theorem LkBlk.c0 (h:LkBlk w p y b q e):w.cell? ⟨p,0,none⟩=some (.float .f64 y.r.key):=by unfold LkBlk at h;simp [World.cell?,h]
theorem LkBlk.c1 (h:LkBlk w p y b q e):w.cell? ⟨p,1,none⟩=some (.bool y.r.dead):=by unfold LkBlk at h;simp [World.cell?,h]
theorem LkBlk.c2 (h:LkBlk w p y b q e):w.cell? ⟨p,2,none⟩=some (.slice y.a y.n y.c):=by unfold LkBlk at h;simp [World.cell?,h]
theorem LkBlk.c3 (h:LkBlk w p y b q e):w.cell? ⟨p,3,none⟩=some (.int .i64 y.r.wr):=by unfold LkBlk at h;simp [World.cell?,h]
theorem LkBlk.c4 (h:LkBlk w p y b q e):w.cell? ⟨p,4,none⟩=some (.int .i64 y.r.cell):=by unfold LkBlk at h;simp [World.cell?,h]
theorem LkBlk.c5 (h:LkBlk w p y b q e):w.cell? ⟨p,5,none⟩=some (.int .i64 y.r.no):=by unfold LkBlk at h;simp [World.cell?,h]
theorem LkBlk.c6 (h:LkBlk w p y b q e):w.cell? ⟨p,6,none⟩=some (.bool b):=by unfold LkBlk at h;simp [World.cell?,h]
theorem LkBlk.c7 (h:LkBlk w p y b q e):w.cell? ⟨p,7,none⟩=some (.slice q.a q.len q.cap):=by unfold LkBlk at h;simp [World.cell?,h]
theorem LkBlk.c8 (h:LkBlk w p y b q e):w.cell? ⟨p,8,none⟩=some (.int .i64 e):=by unfold LkBlk at h;simp [World.cell?,h]
def setLk (w:World) (p:Nat) (y:Rx) (b:Bool) (q:Sl) (e:Int):World:=(((((((((w.setCell ⟨p,0,none⟩ (.float .f64 y.r.key)).setCell ⟨p,1,none⟩ (.bool y.r.dead)).setCell ⟨p,2,none⟩ (.slice y.a y.n y.c)).setCell ⟨p,3,none⟩ (.int .i64 y.r.wr)).setCell ⟨p,4,none⟩ (.int .i64 y.r.cell)).setCell ⟨p,5,none⟩ (.int .i64 y.r.no)).setCell ⟨p,6,none⟩ (.bool b)).setCell ⟨p,7,none⟩ (.slice q.a q.len q.cap)).setCell ⟨p,8,none⟩ (.int .i64 e))
theorem Zh9 (w:World)(p:Nat)(y:Rx)(b:Bool)(q:Sl)(e:Int):Frm (fun k=>k=p) w (setLk w p y b q e):=((((((((((Frm.refl (fun k=>k=p) w).setCell (p:=⟨p,0,none⟩) rfl _).setCell (p:=⟨p,1,none⟩) rfl _).setCell (p:=⟨p,2,none⟩) rfl _).setCell (p:=⟨p,3,none⟩) rfl _).setCell (p:=⟨p,4,none⟩) rfl _).setCell (p:=⟨p,5,none⟩) rfl _).setCell (p:=⟨p,6,none⟩) rfl _).setCell (p:=⟨p,7,none⟩) rfl _).setCell (p:=⟨p,8,none⟩) rfl _)
theorem Zh8 {y0:Rx}{b0:Bool}{q0:Sl}{e0:Int}(h:LkBlk w p y0 b0 q0 e0)(y:Rx)(b:Bool)(q:Sl)(e:Int):LkBlk (setLk w p y b q e) p y b q e:=by
 have h1:=heap_setCell_same w p 0 _ 75 (.float .f64 y.r.key) h;have h2:=heap_setCell_same _ p 1 _ 75 (.bool y.r.dead) h1;have h3:=heap_setCell_same _ p 2 _ 75 (.slice y.a y.n y.c) h2;have h4:=heap_setCell_same _ p 3 _ 75 (.int .i64 y.r.wr) h3;have h5:=heap_setCell_same _ p 4 _ 75 (.int .i64 y.r.cell) h4;have h6:=heap_setCell_same _ p 5 _ 75 (.int .i64 y.r.no) h5;have h7:=heap_setCell_same _ p 6 _ 75 (.bool b) h6;have h8:=heap_setCell_same _ p 7 _ 75 (.slice q.a q.len q.cap) h7;have h9:=heap_setCell_same _ p 8 _ 75 (.int .i64 e) h8;unfold LkBlk setLk;rw [h9];simp
theorem ZqS (w:World)(p:Nat){y0:Rx}{b0:Bool}{q0:Sl}{e0:Int}(k:LkBlk w p y0 b0 q0 e0)(y:Rx)(b:Bool)(q:Sl)(e:Int):(Instr.storeAt 75 (.pointer (some ⟨p,0,none⟩)) (lkV y b q e)).run Tryz.prog w=.ok () (setLk w p y b q e):=by
 have aa:∀(w:World) (a:Addr) (m:Mode) (x:Nat),(store a (.float .f64 x) m).run Tryz.prog w=stored Tryz.prog w a (.float .f64 x) m:=fun w a m x=>run_store Tryz.prog w a _ m rfl;have c0:=k.c0;have c1:=k.c1;have c2:=k.c2;have c3:=k.c3;have c4:=k.c4;have c5:=k.c5;have c6:=k.c6;have c7:=k.c7;have c8:=k.c8;have f0:=k.fz;simp [go_sem,Instr.storeAt,stored,aa,c0,c1,c2,c3,c4,c5,c6,c7,c8,f0,lkV,setLk]
theorem Zoy (w:World)(y:Rx)(b:Bool)(q:Sl)(e:Int):∃W,(Instr.storeAt 75 (.pointer (some ⟨w.heap.size,0,none⟩)) (lkV y b q e)).run Tryz.prog (w.alloc (.cells #[.float .f64 0,.bool false,.slice none 0 0,.int .i64 0,.int .i64 0,.int .i64 0,.bool false,.slice none 0 0,.int .i64 0] 75))=.ok () W∧LkBlk W w.heap.size y b q e∧Below w.heap.size w W:=by
 have hz:LkBlk (w.alloc (.cells #[.float .f64 0,.bool false,.slice none 0 0,.int .i64 0,.int .i64 0,.int .i64 0,.bool false,.slice none 0 0,.int .i64 0] 75)) w.heap.size Rx.zero false Sl.nil 0:=Zhk w Rx.zero false Sl.nil 0;have hA:=Zaa w (.cells #[.float .f64 0,.bool false,.slice none 0 0,.int .i64 0,.int .i64 0,.int .i64 0,.bool false,.slice none 0 0,.int .i64 0] 75);exact⟨_,ZqS _ _ hz y b q e,Zh8 hz y b q e,hA.trans ((Zh9 _ _ y b q e).below hA.size (fun k hk=>by rw [hk];exact Nat.le_refl _))⟩
theorem ZbC {fn:Func}{x:Nat}(hr:fn.results=#[.cell x 75]){W:World}(h:LkBlk W g y b q e)(tmps:Array Value)(tx:tmps.getD x undef=.pointer (some ⟨g,0,none⟩)) :
    (results fn tmps).run Tryz.prog W=.ok (lkV y b q e) W:=by
  have c0:=h.c0;have c1:=h.c1;have c2:=h.c2;have c3:=h.c3;have c4:=h.c4;have c5:=h.c5;have c6:=h.c6;have c7:=h.c7;have c8:=h.c8;(have tx2:tmps[x]?.getD undef=.pointer (some ⟨g,0,none⟩):=by simpa using tx);simp [results,hr,tx2,go_sem,c0,c1,c2,c3,c4,c5,c6,c7,c8,lkV]
def ZiO (w0 w:World) (o:Option Rw × List Int × Int) (e:Ending) (w':World):Prop:=Below w.heap.size w w'∧∃(y:Rx) (q:Sl),e=.returned (lkV y o.1.isSome q o.2.2)∧y.r=o.1.getD zeroR∧ColR w0 w' y∧y.r.fits∧Gi (fun k=>w.heap.size≤k) w' q o.2.1
structure LkI (w0 w wr:World) (z:Bz) (v:Vw) (vs:Sl) (x0:Rw) (i:Nat) (q:Sl) (x:Rx) (pre:List Int):Prop where
  vw:ZaR wr w.heap.size v vs
  row:RwBlk wr (w.heap.size+1) x.r (.slice x.a x.n x.c)
  res:LkBlk wr (w.heap.size+1+1) Rx.zero false Sl.nil 0
  col:ColR w0 wr x
  fit:x.r.fits
  nq:Nq w wr q pre
  len:pre.length=i
  look:(vnB (uns z.ux) v).look 400 x0=(((vnB (uns z.ux) v).look (400-i) x.r).1,pre ++ ((vnB (uns z.ux) v).look (400-i) x.r).2.1,((vnB (uns z.ux) v).look (400-i) x.r).2.2)
theorem LkI.keep (h:LkI w0 w wr z v vs x0 i q x pre)(hb:Below wr.heap.size wr w'):LkI w0 w w' z v vs x0 i q x pre:=
 ⟨h.vw.keep hb,h.row.keep hb,h.res.keep hb,h.col.keep hb,h.fit,h.nq.keep hb,h.len,h.look⟩
structure LkJ (w0 w wr:World) (z:Bz) (v:Vw) (vs:Sl) (x0:Rw) (i:Nat) (q:Sl) (x:Rx) (pre:List Int):Prop where
  vw:ZaR wr w.heap.size v vs
  row:RwBlk wr (w.heap.size+1) x.r (.slice x.a x.n x.c)
  res:LkBlk wr (w.heap.size+1+1) Rx.zero false Sl.nil 0
  nq:Nq w wr q (pre ++ [x.r.wr])
  len:pre.length=i
  look:(vnB (uns z.ux) v).look 400 x0=(((vnB (uns z.ux) v).look (400-i) x.r).1,pre ++ ((vnB (uns z.ux) v).look (400-i) x.r).2.1,((vnB (uns z.ux) v).look (400-i) x.r).2.2)
theorem LkJ.keep (h:LkJ w0 w wr z v vs x0 i q x pre)(hb:Below wr.heap.size wr w'):LkJ w0 w w' z v vs x0 i q x pre:=
 ⟨h.vw.keep hb,h.row.keep hb,h.res.keep hb,h.nq.keep hb,h.len,h.look⟩
theorem LkI.app (h:LkI w0 w wr z v vs x0 i q x pre)(hi:i≤400)(hw:w0.heap.size≤w.heap.size) :
    ∃q' W,(∀ty,(Builtin.append_ #[29,29] ty #[q.val,.slice (some ⟨wr.heap.size,0,none⟩) 1 1]).run Tryz.prog (wr.alloc (.cells #[.int .i64 x.r.wr] 3))=.ok q'.val W)∧LkJ w0 w W z v vs x0 i q' x pre∧Below w.heap.size w W:=by
  have hb:=Zaa wr (.cells #[.int .i64 x.r.wr] 3);have k:=h.keep hb;(have hl:q.len=i:=by rw [← OwnN.len h.nq.own];exact h.len);obtain⟨q',W,ab,ac,aa,ad⟩:=k.nq.app ((Zqg wr x.r.wr).src) (by show q.len+1≤_;omega);have hB:Below w.heap.size w W:=ac.below;refine⟨q',W,ab,⟨k.vw.frm aa (k.nq.not k.vw (by decide)),?_,k.res.frm aa (k.nq.not k.res (by decide)),ac,h.len,h.look⟩,hB⟩;exact(aa.block _ (Array.getElem?_eq_some_iff.1 k.row).1 (k.nq.not k.row (by decide))).trans k.row
theorem LkJ.row_ (h:LkJ w0 w wr z v vs x0 i q x pre)(hw:w0.heap.size≤w.heap.size)(hi:i<400)(y:Rx)(hc:ColR w0 wr y)(hf:y.r.fits)(hs:seesV v x.r.wr=false)(hn:nxB (uns z.ux) x.r=some (some y.r)) :
    ∃W,(Instr.storeAt 39 (.pointer (some ⟨w.heap.size+1,0,none⟩)) (y.r.val (.slice y.a y.n y.c))).run Tryz.prog wr=.ok () W∧LkI w0 w W z v vs x0 (i+1) q y (pre ++ [x.r.wr]):=by
  have aa:=ZaQ wr (w.heap.size+1) y.r (.slice y.a y.n y.c);have hB:Below w.heap.size w (setRw wr (w.heap.size+1) y.r (.slice y.a y.n y.c)):=h.nq.below.trans (aa.below h.nq.below.size (fun k hk=>by rw [hk];omega));refine⟨_,Zfi wr (w.heap.size+1) _ _ h.row y.r y.a y.n y.c,⟨h.vw.frm aa (by omega),ZaI h.row _ _,h.res.frm aa (by omega),?_,hf,⟨Own.frmT h.nq.own h.row (by decide) aa,h.nq.home,hB⟩,by rw [List.length_append,h.len];rfl,?_⟩⟩
  · exact hc.frm aa (fun k hk=>by rw [hk];exact ⟨by omega,_,_,h.row,by decide⟩)
  · rw [h.look,show 400-i=(400-(i+1))+1 by omega,(vnB (uns z.ux) v).look_next (400-(i+1)) (r:=x.r) (q:=y.r) hs hn];show (_,pre ++ (x.r.wr :: _),_)=(_,(pre ++ [x.r.wr]) ++ _,_);rw [List.append_assoc];rfl
theorem Zcn (hq:Nq w wr q t)(aa:LkBlk wr (w.heap.size+1+1) Rx.zero false Sl.nil 0)(hw:w0.heap.size≤w.heap.size)(hl:q.len≤1000000)(y:Rx)(hc:ColR w0 wr y)(hf:y.r.fits){o:Option Rw × List Int × Int}(h1:y.r=o.1.getD zeroR)(h2:o.2.1=t)(b:Bool)(hb:o.1.isSome=b)(e:Int)(he:o.2.2=e) :
    ∃W,(Instr.storeAt 75 (.pointer (some ⟨w.heap.size+1+1,0,none⟩)) (lkV y b q e)).run Tryz.prog wr=.ok () W∧LkBlk W (w.heap.size+1+1) y b q e∧ZiO w0 w o (.returned (lkV y b q e)) W:=by
  have ab:=Zh9 wr (w.heap.size+1+1) y b q e;have hB:Below w.heap.size w (setLk wr (w.heap.size+1+1) y b q e):=hq.below.trans (ab.below hq.below.size (fun k hk=>by rw [hk];omega));subst hb he;refine⟨_,ZqS wr (w.heap.size+1+1) aa y _ q _,Zh8 aa _ _ _ _,hB,y,q,rfl,h1,?_,hf,?_⟩
  · exact hc.frm ab (fun k hk=>by rw [hk];exact ⟨by omega,_,_,aa,by decide⟩)
  · rw [h2];exact OwnN.gi (Own.frmT hq.own aa (by decide) ab) hq.home hl
def lenV:Value→Nat
  | .slice _ n _=>n
  | _=>0
theorem Nq.nil0 (h:Below w0.heap.size w0 w):Nq w0 w Sl.nil []:=⟨Own.nil _ _ _,(fun k hk=>by cases hk),h⟩
theorem ZhY {α:Type}{a:Option α}{c:Int}(h:t.length≤400):Vn.cut (a,t,c)=(a,t,c):=by
 show (a,t.take 400,c)=_;rw [List.take_of_length_le h]
theorem Znp {α:Type}{a:Option α}{x c:Int}(h:t.length=400):Vn.cut (a,t ++ [x],c)=(a,t,c):=by
 show (a,(t ++ [x]).take 400,c)=_;rw [List.take_left' h]
theorem Zkw (w0 w:World)(hw:Below w0.heap.size w0 w)(z:Bz)(v:Vw)(s:Sl)(x:Rx)(hx:ColR w0 w x)(hf:x.r.fits) :
    ∃Wa Wb W0,w.alloc (.cells #[.int .i64 v.self,.int .i64 v.next,s.val] 31)=Wa∧Wa.alloc (.cells #[.float .f64 x.r.key,.bool x.r.dead,.slice x.a x.n x.c,.int .i64 x.r.wr,.int .i64 x.r.cell,.int .i64 x.r.no] 39)=Wb∧Wb.alloc (.cells #[.float .f64 0,.bool false,.slice none 0 0,.int .i64 0,.int .i64 0,.int .i64 0,.bool false,.slice none 0 0,.int .i64 0] 75)=W0∧Wa.heap.size=w.heap.size+1∧Wb.heap.size=w.heap.size+1+1∧LkI w0 w W0 z v s x.r 0 Sl.nil x []:=by
  have ac:=Zaa w (.cells #[.int .i64 v.self,.int .i64 v.next,s.val] 31);have b1:=Zdt w v s;obtain⟨Wa,ha⟩:∃W,w.alloc (.cells #[.int .i64 v.self,.int .i64 v.next,s.val] 31)=W:=⟨_,rfl⟩;(have sa:Wa.heap.size=w.heap.size+1:=by rw [← ha];exact Zae _ _);rw [ha] at ac b1;have ab:=Zaa Wa (.cells #[.float .f64 x.r.key,.bool x.r.dead,.slice x.a x.n x.c,.int .i64 x.r.wr,.int .i64 x.r.cell,.int .i64 x.r.no] 39);have b2:=Zai Wa x.r (.slice x.a x.n x.c);obtain⟨Wb,hb⟩:∃W,Wa.alloc (.cells #[.float .f64 x.r.key,.bool x.r.dead,.slice x.a x.n x.c,.int .i64 x.r.wr,.int .i64 x.r.cell,.int .i64 x.r.no] 39)=W:=⟨_,rfl⟩;(have sb:Wb.heap.size=w.heap.size+1+1:=by rw [← hb,Zae,sa]);rw [hb] at ab b2;rw [sa] at b2;have aa:=Zaa Wb (.cells #[.float .f64 0,.bool false,.slice none 0 0,.int .i64 0,.int .i64 0,.int .i64 0,.bool false,.slice none 0 0,.int .i64 0] 75);have b3:LkBlk (Wb.alloc (.cells #[.float .f64 0,.bool false,.slice none 0 0,.int .i64 0,.int .i64 0,.int .i64 0,.bool false,.slice none 0 0,.int .i64 0] 75)) Wb.heap.size Rx.zero false Sl.nil 0:=Zhk Wb Rx.zero false Sl.nil 0;obtain⟨W0,hc⟩:∃W,Wb.alloc (.cells #[.float .f64 0,.bool false,.slice none 0 0,.int .i64 0,.int .i64 0,.int .i64 0,.bool false,.slice none 0 0,.int .i64 0] 75)=W:=⟨_,rfl⟩;rw [hc] at aa b3;rw [sb] at b3;have hA:=Zac ac (Zac ab aa);exact⟨Wa,Wb,W0,ha,hb,hc,sa,sb,b1.keep (Zac ab aa),b2.keep aa,b3,hx.keep hA,hf,Nq.nil0 hA,rfl,Zkx _ _⟩
theorem ZhL (w0 w:World)(hw:Below w0.heap.size w0 w)(z:Bz)(h:Bin w0 z)(bm:MayU (uns z.ux)=true)(v:Vw)(s:Sl)(hv:Gi (fun _=>True) w s v.act)(bq:s.len≤200)(bn:MayV v)(x:Rx)(hx:ColR w0 w x)(hf:x.r.fits) :
    Calls Tryz.prog 32 #[.slice z.cs.a z.cs.len z.cs.cap,vwV v s,x.val] w (ZiO w0 w (Vn.cut ((vnB (uns z.ux) v).look 400 x.r))):=by
  obtain⟨Wa,Wb,W0,ha,hb,hc,sa,sb,bj⟩:=Zkw w0 w hw z v s x hx hf;have ba:=hide bj;have HH:=hide h;have HV:=hide hv;have HW:=hide hw;have bu:=hide bm;have bv:=hide bn;have an:w0.heap.size≤w.heap.size:=hw.size;have HA:=hide ha;have HB:=hide hb;have HC:=hide hc;obtain⟨x0,bt⟩:∃x0,x0=x.r:=⟨_,rfl⟩;rw [← bt] at ba ⊢;have bb:Hid (z.cs.len≤1000):=h.cb;obtain⟨o,ho⟩:∃o,o=Vn.cut ((vnB (uns z.ux) v).look 400 x0):=⟨_,rfl⟩;rw [← ho];have HO:=hide ho;clear bj h hv hw hx hf bt ho ha hb hc bm bn;obtain⟨⟨xk,xd,xs,xw,xc,xn⟩,xa,xl,xcp⟩:=x;obtain⟨vs,vn,vt⟩:=v;obtain⟨sa',sn,sc⟩:=s;unfold vwV Rx.val Rw.val;simp only [Sl.val] at *;go_enter Tryz.func32,Tryz.ntmps32;go_wp2_with fail;simp only [sa,sb] at *;rw [HA.out,HB.out,HC.out];clear HA HB HC sa sb;go_loopw [7] (fun sv wr=>∃(i:Nat) (q:Sl) (x:Rx) (pre:List Int),i≤400∧sv=q.val∧q.len=i∧Hid (LkI w0 w wr z ⟨vs,vn,vt⟩ ⟨sa',sn,sc⟩ x0 i q x pre)) (fun sv _=>401-lenV sv)
  case atStart=>exact ⟨0,Sl.nil,_,_,Nat.zero_le _,rfl,rfl,ba⟩
  case round =>
   clear ba;obtain⟨i,⟨qa,qn,qc⟩,⟨⟨k0,k1,k2,k3,k4,k5⟩,ya,yl,yc⟩,pre,hi,rfl,bp,ah⟩:=hrel;simp only at bp;subst bp;simp only [Sl.val];have g0:=ah.out.vw.c0;have g1:=ah.out.vw.c1;have g2:=ah.out.vw.c2;have r0:=ah.out.row.c0;have r1:=ah.out.row.c1;have r2:=ah.out.row.c2;have r3:=ah.out.row.c3;have r4:=ah.out.row.c4;have r5:=ah.out.row.c5;simp only [Sl.val] at g0 g1 g2 r0 r1 r2 r3 r4 r5;have ap:=hide (ZmW wr ⟨sa',sn,sc⟩ ⟨vs,vn,vt⟩ (HV.out.below ah.out.nq.below (Nat.le_refl _)) (by show sn≤200;omega) k3);(have br:seesA ⟨vs,vn,vt⟩ k3=seesV ⟨vs,vn,vt⟩ k3:=by unfold seesA;rw [decide_eq_true bv.out,Bool.true_and]);rw [br] at ap;unfold vwV at ap;simp only [Sl.val] at ap;clear br;go_wp2_with fail;refine ap.out.mono ?_;rintro e w1 ⟨rfl,bk⟩;have H1:=hide (ah.out.keep bk);clear bk ap ah g0 g1 g2 r0 r1 r2 r3 r4 r5;have r0:=H1.out.row.c0;have r1:=H1.out.row.c1;have r2:=H1.out.row.c2;have r3:=H1.out.row.c3;have r4:=H1.out.row.c4;have r5:=H1.out.row.c5;simp only [Sl.val] at r0 r1 r2 r3 r4 r5;(have bf:qn≤1000000:=by omega);have aw:Hid (pre.length=qn):=H1.out.len;obtain⟨m,hm⟩:∃m,m=seesV ⟨vs,vn,vt⟩ k3:=⟨_,rfl⟩;rw [← hm];have HM:=hide hm;clear hm;cases m with
   | true =>
    have ac:Hid (o=((if k1=true then none else some ⟨k0,k1,k2,k3,k4,k5⟩),pre,0)):=by
     show o=_;rw [HO.out,H1.out.look,(vnB (uns z.ux) ⟨vs,vn,vt⟩).look_seen (400-qn) (r:=⟨k0,k1,k2,k3,k4,k5⟩) HM.out.symm,List.append_nil];exact ZhY (by rw [aw.out];exact hi)
    cases k1 with
    | true =>
     clear HM;obtain⟨W,af,aa,ab⟩:=Zcn (o:=o) H1.out.nq H1.out.res an bf Rx.zero (ColR.zero _ _) Zbp (by rw [ac.out];rfl) (by rw [ac.out]) false (by rw [ac.out];rfl) 0 (by rw [ac.out]);have ae:=hide af;have ai:=hide aa;have ag:=hide ab;clear af aa ab ac;simp only [lkV,Rx.zero,zeroR] at ae ag;go_wp2_with (first | refine Zad _ rfl rfl 75 (.tmp 6) (.tmp 46) rfl (.pointer (some ⟨w.heap.size+1+1,0,none⟩)) (.agg #[.float .f64 0,.bool false,.slice none 0 0,.int .i64 0,.int .i64 0,.int .i64 0,.bool false,.slice qa qn qc,.int .i64 0]) rfl rfl W ae.out ?_);refine bodyPost_ret (ZbC rfl ai.out _ rfl) rfl ?_;exact ag.out
    | false =>
     clear HM;obtain⟨W,af,aa,ab⟩:=Zcn (o:=o) H1.out.nq H1.out.res an bf ⟨⟨k0,false,k2,k3,k4,k5⟩,ya,yl,yc⟩ H1.out.col H1.out.fit (by rw [ac.out];rfl) (by rw [ac.out]) true (by rw [ac.out];rfl) 0 (by rw [ac.out]);have ae:=hide af;have ai:=hide aa;have ag:=hide ab;clear af aa ab ac;simp only [lkV,Rx.zero,zeroR] at ae ag;go_wp2_with (first | refine Zad _ rfl rfl 75 (.tmp 6) (.tmp 49) rfl (.pointer (some ⟨w.heap.size+1+1,0,none⟩)) (.agg #[.float .f64 k0,.bool false,.slice ya yl yc,.int .i64 k3,.int .i64 k4,.int .i64 k5,.bool true,.slice qa qn qc,.int .i64 0]) rfl rfl W ae.out ?_);refine bodyPost_ret (ZbC rfl ai.out _ rfl) rfl ?_;exact ag.out
   | false =>
    have ak:Hid ((vnB (uns z.ux) ⟨vs,vn,vt⟩).see ⟨k0,k1,k2,k3,k4,k5⟩=false):=HM.out.symm;by_cases aj:qn=400
    · (have i4:((qn:Int) == 400)=true:=by rw [aj];rfl);have ac:Hid (o=(none,pre,13)):=by
       show o=_;rw [HO.out,H1.out.look,aj,show 400-400=0 from rfl,(vnB (uns z.ux) ⟨vs,vn,vt⟩).look_end ak.out];exact Znp (by rw [aw.out,aj])
      clear HM ak aj;obtain⟨W,af,aa,ab⟩:=Zcn (o:=o) H1.out.nq H1.out.res an bf Rx.zero (ColR.zero _ _) Zbp (by rw [ac.out];rfl) (by rw [ac.out]) false (by rw [ac.out];rfl) 13 (by rw [ac.out]);have ae:=hide af;have ai:=hide aa;have ag:=hide ab;clear af aa ab ac;simp only [lkV,Rx.zero,zeroR] at ae ag;go_wp2_with (first | refine Zad _ rfl rfl 75 (.tmp 6) (.tmp 19) rfl (.pointer (some ⟨w.heap.size+1+1,0,none⟩)) (.agg #[.float .f64 0,.bool false,.slice none 0 0,.int .i64 0,.int .i64 0,.int .i64 0,.bool false,.slice qa qn qc,.int .i64 13]) rfl rfl W ae.out ?_);refine bodyPost_ret (ZbC rfl ai.out _ rfl) rfl ?_;exact ag.out
    have i4:((qn:Int) == 400)=false:=beq_eq_false_iff_ne.2 (by omega);obtain⟨⟨q2a,q2n,q2c⟩,W2,au,ax,bi⟩:=H1.out.app hi an;have ar:q2n=qn+1:=by
     have h9:=OwnN.len ax.nq.own;have bz:=ax.len;rw [List.length_append] at h9;have ca:pre.length+1=q2n:=h9;omega
    have ao:=hide ar;(have bo:q2n≤1000000:=by omega);clear ar;have al:=hide au;have H2:=hide ax;simp only [Sl.val] at al;clear au ax;have bh:=hide bi;clear bi;have s4:=H2.out.row.c4;have s5:=H2.out.row.c5;simp only [Sl.val] at s4 s5;have az:=hide (Zn1 z.cs.a z.cs.len z.cs.cap z.ux W2 (HH.out.keep (Zac HW.out bh.out)).cs (by have:=bb.out;omega) k4 k5);rw [if_pos bu.out] at az;go_wp2_with (first | refine Zc2 _ rfl 29 (.tmp 20) (.tmp 23) rfl (.slice qa qn qc) (.slice (some ⟨w1.heap.size,0,none⟩) 1 1) rfl rfl _ W2 al.out ?_);refine az.out.mono ?_;rintro e w3 ⟨xu,rfl,bg,aq,bl⟩;obtain⟨W4,av,ad,bd⟩:=ZiW w3 xu;have H4:=hide ((H2.out.keep bl).keep bd);have ay:=hide (((aq w0).keep bd).colR);have am:=hide av;have bc:=hide bg;have u3:=ad.c3;have u6:=ad.c6;have u7:=ad.c7;have u8:=ad.c8;have u9:=ad.c9;have u10:=ad.c10;have u11:=ad.c11;(have bx:Hid (xu.u.row.fits):=by show _;rw [bg];exact (Zl6 HH.out.cs.fits k4 k5).row);clear bl bd aq av bg ad az al H2 bh s4 s5 r0 r1 r2 r3 r4 r5;obtain⟨g,hg⟩:∃g,g=(getU (uns z.ux) k4 k5).2:=⟨_,rfl⟩;rw [← hg];have HG:=hide hg;clear hg H1;(have be:qn<400:=by omega);cases g with
    | false =>
     have ac:Hid (o=(none,pre ++ [k3],13)):=by
      show o=_;rw [HO.out,H4.out.look,(vnB (uns z.ux) ⟨vs,vn,vt⟩).look_old (400-qn) ak.out (show nxB (uns z.ux) ⟨k0,k1,k2,k3,k4,k5⟩=none from Zjx HG.out.symm)];exact ZhY (by rw [List.length_append,aw.out];exact be)
     clear HM ak HG;obtain⟨W,af,aa,ab⟩:=Zcn (o:=o) H4.out.nq H4.out.res an bo Rx.zero (ColR.zero _ _) Zbp (by rw [ac.out];rfl) (by rw [ac.out]) false (by rw [ac.out];rfl) 13 (by rw [ac.out]);have ae:=hide af;have ai:=hide aa;have ag:=hide ab;clear af aa ab ac;simp only [lkV,Rx.zero,zeroR] at ae ag;go_wp2_with (first | refine Zad _ rfl rfl 65 (.tmp 8) (.tmp 30) rfl (.pointer (some ⟨w3.heap.size,0,none⟩)) xu.val rfl rfl W4 am.out ?_ | refine Zad _ rfl rfl 75 (.tmp 6) (.tmp 35) rfl (.pointer (some ⟨w.heap.size+1+1,0,none⟩)) (.agg #[.float .f64 0,.bool false,.slice none 0 0,.int .i64 0,.int .i64 0,.int .i64 0,.bool false,.slice q2a q2n q2c,.int .i64 13]) rfl rfl W ae.out ?_);refine bodyPost_ret (ZbC rfl ai.out _ rfl) rfl ?_;exact ag.out
    | true =>
     by_cases hk:xu.u.kind=1
     · have ac:Hid (o=(none,pre ++ [k3],0)):=by
        show o=_;rw [HO.out,H4.out.look,show 400-qn=(400-(qn+1))+1 by omega,(vnB (uns z.ux) ⟨vs,vn,vt⟩).look_new (400-(qn+1)) ak.out (show nxB (uns z.ux) ⟨k0,k1,k2,k3,k4,k5⟩=some none from Zmf HG.out.symm (by show (getU (uns z.ux) k4 k5).1.kind=1;rw [← bc.out,hk]))];exact ZhY (by rw [List.length_append,aw.out];exact be)
       clear HM ak HG;rw [hk] at u3;obtain⟨W,af,aa,ab⟩:=Zcn (o:=o) H4.out.nq H4.out.res an bo Rx.zero (ColR.zero _ _) Zbp (by rw [ac.out];rfl) (by rw [ac.out]) false (by rw [ac.out];rfl) 0 (by rw [ac.out]);have ae:=hide af;have ai:=hide aa;have ag:=hide ab;clear af aa ab ac;simp only [lkV,Rx.zero,zeroR] at ae ag;go_wp2_with (first | refine Zad _ rfl rfl 65 (.tmp 8) (.tmp 30) rfl (.pointer (some ⟨w3.heap.size,0,none⟩)) xu.val rfl rfl W4 am.out ?_ | refine Zad _ rfl rfl 75 (.tmp 6) (.tmp 40) rfl (.pointer (some ⟨w.heap.size+1+1,0,none⟩)) (.agg #[.float .f64 0,.bool false,.slice none 0 0,.int .i64 0,.int .i64 0,.int .i64 0,.bool false,.slice q2a q2n q2c,.int .i64 0]) rfl rfl W ae.out ?_);refine bodyPost_ret (ZbC rfl ai.out _ rfl) rfl ?_;exact ag.out
     · have cc:(xu.u.kind == 1)=false:=beq_eq_false_iff_ne.2 hk;obtain⟨W,af,bs⟩:=H4.out.row_ an be ⟨xu.u.row,xu.a,xu.n,xu.c⟩ ay.out bx.out HM.out.symm (by
        have:=ZnN (u:=uns z.ux) (r:=⟨k0,k1,k2,k3,k4,k5⟩) HG.out.symm (by show ¬(getU (uns z.ux) k4 k5).1.kind=1;rw [← bc.out];exact hk);rw [this];show some (some (getU (uns z.ux) k4 k5).1.row)=_;rw [← bc.out])
       have ae:=hide af;have bw:=hide bs;clear af bs HM ak HG hk;simp only [Rw.val] at ae;go_wp2_with (first | refine Zad _ rfl rfl 65 (.tmp 8) (.tmp 30) rfl (.pointer (some ⟨w3.heap.size,0,none⟩)) xu.val rfl rfl W4 am.out ?_ | refine Zad _ rfl rfl 39 (.tmp 5) (.tmp 42) rfl (.pointer (some ⟨w.heap.size+1,0,none⟩)) (.agg #[.float .f64 xu.u.row.key,.bool xu.u.row.dead,.slice xu.a xu.n xu.c,.int .i64 xu.u.row.wr,.int .i64 xu.u.row.cell,.int .i64 xu.u.row.no]) rfl rfl W ae.out ?_);go_roundw
       case rel=>exact ⟨qn+1,⟨q2a,q2n,q2c⟩,_,_,by omega,rfl,ao.out,bw⟩
       case measure=>simp only [lenV];have:=ao.out;omega
theorem Zes (c d:Bool):orN [chk c,errV d]=errV (c && d):=by cases c <;> cases d <;> rfl
theorem Zrh (p:Nat)(w:World):(Instr.fieldAt 75 (.pointer (some ⟨p,0,none⟩)) 0).run Tryz.prog w=.ok (.pointer (some ⟨p,0,none⟩)) w:=by simp [go_sem,Instr.fieldAt]
theorem Zri (p:Nat)(w:World):(Instr.fieldAt 75 (.pointer (some ⟨p,0,none⟩)) 1).run Tryz.prog w=.ok (.pointer (some ⟨p,6,none⟩)) w:=by simp [go_sem,Instr.fieldAt]
theorem Zrj (p:Nat)(w:World):(Instr.fieldAt 75 (.pointer (some ⟨p,0,none⟩)) 2).run Tryz.prog w=.ok (.pointer (some ⟨p,7,none⟩)) w:=by simp [go_sem,Instr.fieldAt]
theorem Zrk (p:Nat)(w:World):(Instr.fieldAt 75 (.pointer (some ⟨p,0,none⟩)) 3).run Tryz.prog w=.ok (.pointer (some ⟨p,8,none⟩)) w:=by simp [go_sem,Instr.fieldAt]
theorem Zrx (h:LkBlk w p y b q e):(Instr.loadAt 39 (.pointer (some ⟨p,0,none⟩))).run Tryz.prog w=.ok (y.r.val (.slice y.a y.n y.c)) w:=by
 have c0:=h.c0;have c1:=h.c1;have c2:=h.c2;have c3:=h.c3;have c4:=h.c4;have c5:=h.c5;simp [go_sem,c0,c1,c2,c3,c4,c5,Rw.val]
theorem Zru (h:LkBlk w p y b q e):(Instr.loadAt 4 (.pointer (some ⟨p,6,none⟩))).run Tryz.prog w=.ok (.bool b) w:=by
 have c6:=h.c6;simp [go_sem,c6]
theorem Zrw (h:LkBlk w p y b q e):(Instr.loadAt 29 (.pointer (some ⟨p,7,none⟩))).run Tryz.prog w=.ok (.slice q.a q.len q.cap) w:=by
 have c7:=h.c7;simp [go_sem,c7]
theorem Zrv (h:LkBlk w p y b q e):(Instr.loadAt 40 (.pointer (some ⟨p,8,none⟩))).run Tryz.prog w=.ok (.int .i64 e) w:=by
 have c8:=h.c8;simp [go_sem,c8]
theorem Zo1:∀args w,(callFunc 10 args).run Tryz.prog w=.ok (.enter 10 args) w:=Pl.qi Tryz.func10
theorem Zo2:∀args w,(callFunc 30 args).run Tryz.prog w=.ok (.enter 30 args) w:=Pl.qi Tryz.func30
theorem ZqH (w:World)(g k:Nat)(z:Bz)(v:Vw)(s:Sl)(a b:Int)(hg:BsBlk w g z)(hk:ZaR w k v s)(hC:∀W,Below w.heap.size w W→Calls Tryz.prog 10 #[z.val] W fun e w'=>e=.returned (.int .i64 a)∧Below W.heap.size W w')(hV:∀W,Below w.heap.size w W→Calls Tryz.prog 30 #[vwV v s] W fun e w'=>e=.returned (.int .i64 b)∧Below W.heap.size W w')
    {Q:Exit→Act→World→Prop}{A:Act}(aj:A.tmps.size=49)(ai:A.defers=[])(s3:A.tmps.getD 3 undef=.pointer (some ⟨g,0,none⟩))(s4:A.tmps.getD 4 undef=.pointer (some ⟨k,0,none⟩))
    (hend:∀(u:Nat→Value) w',Below w.heap.size w w'→Q .normal ((Pl.pu A u [15,17,16,18,19,20]).put (some 10) (.int .i64 (orN [a,b]))) w') :
    (Code.region 1 (Pl.find 1 ((Tryz.f9.body).getD .skip)) true).wp Tryz.prog Q A w:=by
  have aa:Below w.heap.size w w.drew:=Zab w;have hA:=Pl.At.same (v:=.pointer (some ⟨k,0,none⟩)) (d:=4) (Pl.At.same (v:=.pointer (some ⟨g,0,none⟩)) (d:=3) (Pl.At.here aj ai) s3) s4;refine Pl.qa (S:=fun w'=>Below w.heap.size w w') hA aa ?_;rw [show (Pl.find 1 ((Tryz.f9.body).getD .skip)).size=7 by kernel_rfl];refine Pl.q0 0 15 (z.val) (Pl.q1) (Pl.q4 28 (.tmp 3) (fun w' hS=>Zgn (hg.keep hS))) aa ?_;refine Pl.q0 2 17 (vwV v s) (Pl.q1) (Pl.q4 31 (.tmp 4) (fun w' hS=>Zpj (hk.keep hS))) aa ?_;refine Pl.qd 1 16 10 [(.tmp 15)] #[28] (Pl.q1) Zo1 (Calls.mono (hC _ aa) ?_);rintro e w1 ⟨rfl,af⟩;have ab:Below w.heap.size w w1:=Zac aa af;refine⟨.int .i64 a,rfl,ab,?_⟩;refine Pl.qd 3 18 30 [(.tmp 17)] #[31] (Pl.q1) Zo2 (Calls.mono (hV _ ab) ?_);rintro e w3 ⟨rfl,ag⟩;have ac:Below w.heap.size w w3:=Zac ab ag;refine⟨.int .i64 b,rfl,ac,?_⟩;have ae:Below w.heap.size w (w3.alloc (.cells #[.int .i64 a,.int .i64 b] 40)):=Zac ac (Zaa w3 _);refine Pl.qh 4 19 (.slice (some ⟨w3.heap.size,0,none⟩) 2 2) (w3.alloc (.cells #[.int .i64 a,.int .i64 b] 40)) (Pl.q1) (Pl.bsV 4 112 2 [(0,.tmp 16),(1,.tmp 18)] _ _ (by kernel_rfl) (by decide) (Zqs w3 a b)) ae ?_;refine Pl.qd 5 20 29 [(.tmp 19)] #[112] (Pl.q1) Zly (Calls.mono (Zgv w3 a b) ?_);rintro e w5 ⟨rfl,ah⟩;have ad:Below w.heap.size w w5:=Zac ac ah;refine⟨.int .i64 (orN [a,b]),rfl,ad,?_⟩;refine Pl.q0 6 10 (.int .i64 (orN [a,b])) (Pl.q1) (Pl.qe (.tmp 20)) ad ?_;refine Pl.q8 (fun A' hA'=>?_);rw [Pl.At.ext hA' (((((((hA.put 15 _).put 17 _).put 16 _).put 18 _).put 19 _).put 20 _).put 10 _)];exact hend hA'.fn _ ad
theorem Zr8 (w:World)(g p:Nat)(y:Rx)(b:Bool)(q:Sl)(e:Int)(r0:Rw)(c0:Value)(hg:LkBlk w g y b q e)(hp:RwBlk w p r0 c0)(ad:¬g=p)
    {Q:Exit→Act→World→Prop}{A:Act}(ag:A.tmps.size=49)(af:A.defers=[])(s6:A.tmps.getD 6 undef=.pointer (some ⟨p,0,none⟩))(s14:A.tmps.getD 14 undef=.pointer (some ⟨g,0,none⟩))
    (hend:∀(u:Nat→Value) w',RwBlk w' p y.r (.slice y.a y.n y.c)→Frm (fun k=>k=p) w w'→Q .normal ((((Pl.pu A u [41,42,43,44,45,46,47,48]).put (some 7) (.bool b)).put (some 8) (.slice q.a q.len q.cap)).put (some 9) (.int .i64 e)) w') :
    (Code.region 8 (Pl.find 8 ((Tryz.f9.body).getD .skip)) true).wp Tryz.prog Q A w:=by
  have aa:Frm (fun k=>k=p) w w.drew:=(Frm.refl _ w).drew;have hA:=Pl.At.same (v:=.pointer (some ⟨g,0,none⟩)) (d:=14) (Pl.At.same (v:=.pointer (some ⟨p,0,none⟩)) (d:=6) (Pl.At.here ag af) s6) s14;refine Pl.qa (S:=fun w'=>Frm (fun k=>k=p) w w') hA aa ?_;rw [show (Pl.find 8 ((Tryz.f9.body).getD .skip)).size=12 by kernel_rfl];refine Pl.q0 0 41 (.pointer (some ⟨g,0,none⟩)) (Pl.q1) (Pl.q5 75 (.tmp 14) 0 (Zrh g)) aa ?_;refine Pl.q0 1 42 (y.r.val (.slice y.a y.n y.c)) (Pl.q1) (Pl.q4 39 (.tmp 41) (fun w' hS=>Zrx (hg.frm hS ad))) aa ?_;refine Pl.q0 2 43 (.pointer (some ⟨g,6,none⟩)) (Pl.q1) (Pl.q5 75 (.tmp 14) 1 (Zri g)) aa ?_;refine Pl.q0 3 44 (.bool b) (Pl.q1) (Pl.q4 4 (.tmp 43) (fun w' hS=>Zru (hg.frm hS ad))) aa ?_;refine Pl.q0 4 45 (.pointer (some ⟨g,7,none⟩)) (Pl.q1) (Pl.q5 75 (.tmp 14) 2 (Zrj g)) aa ?_;refine Pl.q0 5 46 (.slice q.a q.len q.cap) (Pl.q1) (Pl.q4 29 (.tmp 45) (fun w' hS=>Zrw (hg.frm hS ad))) aa ?_;refine Pl.q0 6 47 (.pointer (some ⟨g,8,none⟩)) (Pl.q1) (Pl.q5 75 (.tmp 14) 3 (Zrk g)) aa ?_;refine Pl.q0 7 48 (.int .i64 e) (Pl.q1) (Pl.q4 40 (.tmp 47) (fun w' hS=>Zrv (hg.frm hS ad))) aa ?_;have ab:Frm (fun k=>k=p) w (setRw w.drew p y.r (.slice y.a y.n y.c)):=((Frm.refl (fun k=>k=p) w).drew).trans (ZaQ w.drew p y.r (.slice y.a y.n y.c)) (fun _ _ h=>h);have ac:RwBlk w.drew p r0 c0:=hp;have ae:RwBlk (setRw w.drew p y.r (.slice y.a y.n y.c)) p y.r (.slice y.a y.n y.c):=ZaI ac y.r (.slice y.a y.n y.c);refine Pl.qj 8 (setRw w.drew p y.r (.slice y.a y.n y.c)) (Pl.q1) (Pl.qk 39 (.tmp 6) (.tmp 42) (Zfi w.drew p _ _ ac y.r y.a y.n y.c)) ab ?_;refine Pl.q0 9 7 (.bool b) (Pl.q1) (Pl.qe (.tmp 44)) ab ?_;refine Pl.q0 10 8 (.slice q.a q.len q.cap) (Pl.q1) (Pl.qe (.tmp 46)) ab ?_;refine Pl.q0 11 9 (.int .i64 e) (Pl.q1) (Pl.qe (.tmp 48)) ab ?_;refine Pl.q8 (fun A' hA'=>?_);rw [Pl.At.ext hA' (((((((((((hA.put 41 _).put 42 _).put 43 _).put 44 _).put 45 _).put 46 _).put 47 _).put 48 _).put 7 _).put 8 _).put 9 _)];exact hend hA'.fn _ ae ab
theorem ZiO.told {w1 w2 W:World}{o:Option Rw × List Int × Int}(aa:Frm (fun k=>k=p) w2 W)(ab:RwBlk w2 p zeroR (.slice none 0 0))(hB:Below w.heap.size w w2)(hp:w.heap.size≤p)(ac:p<w1.heap.size)(hw:w0.heap.size≤w.heap.size)(hc:ColR w0 w2 y)(hr:y.r=o.1.getD zeroR)(hq:Gi (fun k=>w1.heap.size≤k) w2 q o.2.1):Zco w0 w o (.returned (.tuple #[y.val,.bool o.1.isSome,q.val,.int .i64 o.2.2])) W:=
 ⟨hB.trans (aa.below hB.size (fun k hk=>by rw [hk];exact hp)),y,q,rfl,hr,hc.frm aa (fun k hk=>by rw [hk];exact ⟨by omega,_,_,ab,by decide⟩),(hq.keep (Kept.frm aa (fun k h1 e=>by omega))).wide (fun _ _=>trivial)⟩
theorem ZmT (w0 w:World)(hw:Below w0.heap.size w0 w)(z:Bz)(h:Bin w0 z)(v:Vw)(s:Sl)(hv:Gi (fun _=>True) w s v.act)(ae:s.len≤200)(key:Nat)(ad:key<18446744073709551616)(hm:¬(MayBs z.b∧MayV v)) :
    Calls Tryz.prog 9 #[z.val,vwV v s,.float .f64 key] w fun e w'=>(∃(a:Option Addr) (c:Nat),e=.returned (.tuple #[Zdw,.bool false,.slice a 0 c,.int .i64 1]))∧Below w.heap.size w w':=by
  obtain⟨Wa,Wb,W0,ha,hb,hd,ax,bb,az,hA,ba⟩:=Zf7 w z v s;have ar:=hide ha;have au:=hide hb;have aw:=hide hd;have ah:=hide ax;have ak:=hide bb;have aq:=hide az;have HA:=hide hA;have be:=hide ba;have HW:=hide hw;have HH:=hide h;have HV:=hide hv;have bd:=hide ad;have bh:w0.heap.size≤w.heap.size:=hw.size;obtain⟨cb,af⟩:∃c:Bool,c=true↔MayBs z.b:=by
   by_cases hm:MayBs z.b
   · exact⟨true,fun _=>hm,fun _=>rfl⟩
   · exact⟨false,fun e=>(by cases e),fun e=>absurd e hm⟩
  have ai:Hid (∀W,Below W0.heap.size W0 W→Calls Tryz.prog 10 #[z.val] W fun e w'=>e=.returned (.int .i64 (chk cb))∧Below W.heap.size W w'):=fun W hW=>(Zbv W z (h.keep (hw.trans ((Zac hA hW).mono bh)))).mono fun e w' k=>by
   refine⟨?_,k.2⟩;rcases k.1 with ⟨k1,k2⟩ | ⟨k1,k2⟩
   · rw [k2,af.2 k1];rfl
   · cases cb with
     | false=>exact k2
     | true=>exact absurd (af.1 rfl) k1
  have aj:Hid (∀W,Below W0.heap.size W0 W→_):=fun W hW=>ZbJ W s v (hv.below (Zac hA hW) (Nat.le_refl _)) ae;obtain⟨av,al⟩:∃a,a=chk cb:=⟨_,rfl⟩;obtain⟨bv,am⟩:∃b,b=errV (decide (MayV v)):=⟨_,rfl⟩;(have ag:orN [av,bv]=errV (cb && decide (MayV v)):=by rw [al,am,Zes]);rw [← al] at ai;rw [← am] at aj;clear al am;have hz:(cb && decide (MayV v))=false:=by
   rw [Bool.eq_false_iff];intro e;rw [Bool.and_eq_true] at e;exact hm ⟨af.1 e.1,of_decide_eq_true e.2⟩
  (replace ag:orN [av,bv]=1:=by rw [ag,hz];rfl);clear hz hm;clear h hv hw ha hb hd ax bb az hA ba ad af;unfold vwV Bz.val;go_enter Tryz.func9,Tryz.ntmps9;go_wp2_with fail;rw [ar.out,au.out,aw.out];clear ar au aw;refine Pl.q9 (ops:=Pl.find 1 ((Tryz.f9.body).getD .skip)) ?_;refine ZqH W0 w.heap.size (w.heap.size+1) z v s av bv ah.out ak.out ai.out aj.out (by rfl) rfl (by rfl) (by rfl) ?_;intro u1 w1 aa;simp only [Pl.pu,List.foldl,Act.put,List.setIfInBounds_toArray,List.set_cons_zero,List.set_cons_succ];rw [ag];have an:=hide (Zac HA.out aa);have bc:=hide (ah.out.keep aa);have bf:=hide (ak.out.keep aa);have ab:=hide (aq.out.keep aa);(have bg:w.heap.size+1+1+1≤w1.heap.size:=by have h1:=aa.size;have h2:=be.out;omega);clear aa ai aj ah ak aq ag;obtain⟨sa,sn,sc⟩:=s;obtain⟨vs,vn,vt⟩:=v;(try simp only [Sl.val] at *);have ay:=ZaQ w1 (w.heap.size+1+1) zeroR (.slice none 0 0);have ac:=hide (Zfi w1 (w.heap.size+1+1) _ _ ab.out zeroR none 0 0);have ap:=hide (ZaI ab.out zeroR (.slice none 0 0));have ao:Hid (Below w.heap.size w (setRw w1 (w.heap.size+1+1) zeroR (.slice none 0 0))):=an.out.trans (ay.below an.out.size (fun k hk=>by rw [hk];omega));clear ay;simp only [zeroR,Rw.val] at ac ap ao;go_wp2_with (first | refine Zad _ rfl rfl 39 (.tmp 6) (.tmp 23) rfl (.pointer (some ⟨w.heap.size+1+1,0,none⟩)) (.agg #[.float .f64 0,.bool false,.slice none 0 0,.int .i64 0,.int .i64 0,.int .i64 0]) rfl rfl _ ac.out ?_);refine bodyPost_ret (ZdN rfl ap.out _ _ _ _ rfl rfl rfl rfl) rfl ?_;exact⟨⟨none,0,rfl⟩,ao.out⟩
theorem ZmS (w0 w:World)(hw:Below w0.heap.size w0 w)(z:Bz)(h:Bin w0 z)(v:Vw)(s:Sl)(hv:Gi (fun _=>True) w s v.act)(be:s.len≤200)(key:Nat)(bc:key<18446744073709551616)(ca:MayBs z.b)(cc:MayV v) :
    Calls Tryz.prog 9 #[z.val,vwV v s,.float .f64 key] w (Zco w0 w (Vn.cut (readB (uns z.ux) (lfs z.lb) v key))):=by
  obtain⟨Wa,Wb,W0,ha,hb,hd,co,cs,cq,hA,cr⟩:=Zf7 w z v s;have ck:=hide ha;have cl:=hide hb;have cm:=hide hd;have bn:=hide co;have bu:=hide cs;have cj:=hide cq;have HA:=hide hA;have cz:=hide cr;have HW:=hide hw;have HH:=hide h;have HV:=hide hv;have bq:=hide bc;have ct:w0.heap.size≤w.heap.size:=hw.size;obtain⟨cb,bk⟩:∃c:Bool,c=true↔MayBs z.b:=by
   by_cases hm:MayBs z.b
   · exact⟨true,fun _=>hm,fun _=>rfl⟩
   · exact⟨false,fun e=>(by cases e),fun e=>absurd e hm⟩
  have bo:Hid (∀W,Below W0.heap.size W0 W→Calls Tryz.prog 10 #[z.val] W fun e w'=>e=.returned (.int .i64 (chk cb))∧Below W.heap.size W w'):=fun W hW=>(Zbv W z (h.keep (hw.trans ((Zac hA hW).mono ct)))).mono fun e w' k=>by
   refine⟨?_,k.2⟩;rcases k.1 with ⟨k1,k2⟩ | ⟨k1,k2⟩
   · rw [k2,bk.2 k1];rfl
   · cases cb with
     | false=>exact k2
     | true=>exact absurd (bk.1 rfl) k1
  have bt:Hid (∀W,Below W0.heap.size W0 W→_):=fun W hW=>ZbJ W s v (hv.below (Zac hA hW) (Nat.le_refl _)) be;obtain⟨av,bx⟩:∃a,a=chk cb:=⟨_,rfl⟩;obtain⟨bv,bz⟩:∃b,b=errV (decide (MayV v)):=⟨_,rfl⟩;(have bl:orN [av,bv]=errV (cb && decide (MayV v)):=by rw [bx,bz,Zes]);rw [← bx] at bo;rw [← bz] at bt;clear bx bz;obtain⟨o,ho⟩:∃o,o=Vn.cut (readB (uns z.ux) (lfs z.lb) v key):=⟨_,rfl⟩;rw [← ho];have HO:=hide ho;(replace bl:orN [av,bv]=0:=by rw [bl,bk.2 ca,decide_eq_true cc];rfl);have ci:=hide ca;have cy:=hide cc;clear ho ca cc;clear h hv hw ha hb hd co cs cq hA cr bc bk;unfold vwV Bz.val;go_enter Tryz.func9,Tryz.ntmps9;go_wp2_with fail;rw [ck.out,cl.out,cm.out];clear ck cl cm;refine Pl.q9 (ops:=Pl.find 1 ((Tryz.f9.body).getD .skip)) ?_;refine ZqH W0 w.heap.size (w.heap.size+1) z v s av bv bn.out bu.out bo.out bt.out (by rfl) rfl (by rfl) (by rfl) ?_;intro u1 w1 an;simp only [Pl.pu,List.foldl,Act.put,List.setIfInBounds_toArray,List.set_cons_zero,List.set_cons_succ];rw [bl];have cg:=hide (Zac HA.out an);have aj:=hide (bn.out.keep an);have ax:=hide (bu.out.keep an);have ap:=hide (cj.out.keep an);(have bg:w.heap.size+1+1+1≤w1.heap.size:=by have h1:=an.size;have h2:=cz.out;omega);clear an bo bt bn bu cj bl;obtain⟨sa,sn,sc⟩:=s;obtain⟨vs,vn,vt⟩:=v;(try simp only [Sl.val] at *);have z5:=aj.out.c5;have bp:=hide (ZlC w1 z.ls z.lb key (((HH.out.keep HW.out).keep cg.out).ls) bq.out ci.out.l);unfold Sl.val at bp;(try simp only [Sl.val] at z5);go_wp2_with fail;refine bp.out.mono ?_;rintro e w3 ⟨ao,hn,hs⟩;have ch:=hide (Zac cg.out ao);have ak:=aj.out.keep ao;have al:=ax.out.keep ao;have ag:=ap.out.keep ao;have cd:w.heap.size+1+1+1≤w3.heap.size:=Nat.le_trans bg ao.size;clear ao bp z5 aj ax ap bg;cases hfd:findH (lfs z.lb) key with
  | none =>
   obtain rfl:=hn hfd;have am:Hid (o=(none,[],0)):=HO.out.trans (by rw [ZkG hfd];rfl);obtain⟨Wx,W4,ac,ad,ai,cf,aa,_⟩:=Zjl w3 Rx.zero (0,0);have ab:=ag.keep aa;have bw:=Zac ch.out aa;have bb:=ZaQ W4 (w.heap.size+1+1) zeroR (.slice none 0 0);have au:=hide (Zfi W4 (w.heap.size+1+1) _ _ ab zeroR none 0 0);have bh:=hide (ZaI ab zeroR (.slice none 0 0));have bi:Hid (Zco w0 w o (.returned (.tuple #[zeroR.val (.slice none 0 0),.bool false,.slice none 0 0,.int .i64 0])) (setRw W4 (w.heap.size+1+1) zeroR (.slice none 0 0))):=by
    refine⟨bw.trans (bb.below bw.size (fun k hk=>by rw [hk];omega)),Rx.zero,Sl.nil,by rw [am.out];rfl,by rw [am.out];rfl,ColR.zero _ _,?_⟩;rw [am.out];exact Gi.none _
   have ae:=hide ac;have af:=hide ad;clear hn hs ak al ag ac ad ai cf aa ab bw bb am hfd;unfold Zdw btV;simp only [Rx.zero,zeroR,Rw.val] at ae af au bh bi;go_wp2_with (first | refine Zad _ rfl rfl 39 (.tmp 11) (.tmp 30) rfl (.pointer (some ⟨w3.heap.size,0,none⟩)) (.agg #[.float .f64 0,.bool false,.slice none 0 0,.int .i64 0,.int .i64 0,.int .i64 0]) rfl rfl Wx ae.out ?_ | refine Zad _ rfl rfl 67 (.tmp 12) (.tmp 31) rfl (.pointer (some ⟨w3.heap.size+1,0,none⟩)) (.agg #[.int .i64 0,.int .i64 0]) rfl rfl W4 af.out ?_ | refine Zad _ rfl rfl 39 (.tmp 6) (.tmp 35) rfl (.pointer (some ⟨w.heap.size+1+1,0,none⟩)) (.agg #[.float .f64 0,.bool false,.slice none 0 0,.int .i64 0,.int .i64 0,.int .i64 0]) rfl rfl _ au.out ?_);refine bodyPost_ret (ZdN rfl bh.out _ _ _ _ rfl rfl rfl rfl) rfl ?_;exact bi.out
  | some g =>
   obtain⟨ba,x,ce,rfl,cp⟩:=hs g hfd;have am:Hid (o=Vn.cut ((vnB (uns z.ux) ⟨vs,vn,vt⟩).look 400 x.r)):=HO.out.trans (by rw [ZdE hfd,ce]);obtain⟨Wx,W4,ac,ad,ai,cf,aa,_⟩:=Zjl w3 x ((g.i:Int),(g.k:Int));have bs:=hide (ag.keep aa);have bm:=hide (Zac ch.out aa);have az:=ak.keep aa;have ah:=al.keep aa;have z4:=az.c4;have g0:=ah.c0;have g1:=ah.c1;have g2:=ah.c2;have r0:=ai.c0;have r1:=ai.c1;have r2:=ai.c2;have r3:=ai.c3;have r4:=ai.c4;have r5:=ai.c5;(try simp only [Sl.val] at g0 g1 g2);have de:w.heap.size+1+1+1≤W4.heap.size:=Nat.le_trans cd aa.size;have ar:=hide (ZhL w0 W4 (Zac HW.out bm.out) z HH.out ci.out.u ⟨vs,vn,vt⟩ ⟨sa,sn,sc⟩ (HV.out.below bm.out (Nat.le_refl _)) (by show sn≤200;omega) cy.out x ((cp.keep aa).colR w0) (by rw [ce];exact ba));unfold vwV Rx.val Rw.val at ar;(try simp only [Sl.val] at ar);rw [← am.out] at ar;have ae:=hide ac;have af:=hide ad;clear hn hs ak al ag ac ad ai cf aa az ah hfd cp ce ba;unfold Rx.val Rw.val btV;simp only;go_wp2_with (first | refine Zad _ rfl rfl 39 (.tmp 11) (.tmp 30) rfl (.pointer (some ⟨w3.heap.size,0,none⟩)) (.agg #[.float .f64 x.r.key,.bool x.r.dead,.slice x.a x.n x.c,.int .i64 x.r.wr,.int .i64 x.r.cell,.int .i64 x.r.no]) rfl rfl Wx ae.out ?_ | refine Zad _ rfl rfl 67 (.tmp 12) (.tmp 31) rfl (.pointer (some ⟨w3.heap.size+1,0,none⟩)) (.agg #[.int .i64 (g.i:Int),.int .i64 (g.k:Int)]) rfl rfl W4 af.out ?_);refine ar.out.mono ?_;rintro e w5 ⟨bj,y,⟨qa,qn,qc⟩,rfl,cw,cu,df,cv⟩;obtain⟨W6,bf,bd,ay⟩:=Zoy w5 y o.1.isSome ⟨qa,qn,qc⟩ o.2.2;have cx:=hide (Zac bm.out (Zac bj ay));have aq:=hide ((bs.out.keep bj).keep ay);have br:=hide bd;have aw:=hide bf;have da:=hide (cu.keep ay);have db:=hide (cv.below ay (Nat.le_refl _));have dc:=hide cw;(have dd:¬w5.heap.size=w.heap.size+1+1:=by have:=bj.size;omega);clear bj ay cw cu df cv bf bd z4 g0 g1 g2 r0 r1 r2 r3 r4 r5 ar;simp only [lkV] at aw;unfold lkV;simp only;go_wp2_with (first | refine Zad _ rfl rfl 75 (.tmp 14) (.tmp 40) rfl (.pointer (some ⟨w5.heap.size,0,none⟩)) (.agg #[.float .f64 y.r.key,.bool y.r.dead,.slice y.a y.n y.c,.int .i64 y.r.wr,.int .i64 y.r.cell,.int .i64 y.r.no,.bool o.1.isSome,.slice qa qn qc,.int .i64 o.2.2]) rfl rfl W6 aw.out ?_);refine Pl.q9 (ops:=Pl.find 8 ((Tryz.f9.body).getD .skip)) ?_;refine Zr8 W6 w5.heap.size (w.heap.size+1+1) y o.1.isSome ⟨qa,qn,qc⟩ o.2.2 _ _ br.out aq.out dd (by rfl) rfl (by rfl) (by rfl) ?_;intro u8 w8 cn bb;simp only [Pl.pu,List.foldl,Act.put,List.setIfInBounds_toArray,List.set_cons_zero,List.set_cons_succ];have bh:=hide cn;have bi:=hide (ZiO.told (w1:=W4) bb aq.out cx.out (by omega) (by omega) ct da.out dc.out db.out);clear cn bb;go_wp2_with fail;refine bodyPost_ret (ZdN rfl bh.out _ _ _ _ rfl rfl rfl rfl) rfl ?_;exact bi.out
open Go.RowKit Go.Sort Go.Lib
def srtV (ks:List Int):List Int:=ks.mergeSort fun x y=>decide (x≤y)
theorem ZhF (ks:List Int):(srtV ks).Perm ks:=List.mergeSort_perm _ _
theorem Zj3 (ks:List Int):(srtV ks).length=ks.length:=(ZhF ks).length_eq
theorem ZoD (ks:List Int):(srtV ks).Pairwise (· ≤ ·):=by
 have h:(srtV ks).Pairwise (fun a b=>decide (a≤b)=true):=List.pairwise_mergeSort (fun a b c h1 h2=>by simp only [decide_eq_true_eq] at *;exact Int.le_trans h1 h2) (fun a b=>by simp only [Bool.or_eq_true,decide_eq_true_eq];omega) ks;exact h.imp (fun e=>of_decide_eq_true e)
def cmpct (t:List Int):List Int:=compactUpTo t.toArray t.length
theorem Zgj (d:List Int)(j:Nat)(hj:j<d.length):keeps d.toArray j=true↔j=0∨d.getD j 0≠d.getD (j-1) 0:=by
 unfold keeps;rw [decide_eq_true_eq,getElem!_pos d.toArray j (by simpa using hj),getElem!_pos d.toArray (j-1) (by simp;omega)];(have e:j-1<d.length:=by omega);simp [List.getD,hj,e]
theorem Zlp {x:Int}:x∈cmpct t↔∃j,j<t.length∧keeps t.toArray j=true∧t.getD j 0=x:=by
 unfold cmpct compactUpTo;simp only [List.mem_map,List.mem_filter,List.mem_range];constructor
 · rintro ⟨j,⟨h1,h2⟩,h3⟩;refine⟨j,h1,h2,?_⟩;rw [← h3,getElem!_pos t.toArray j (by simpa using h1)];simp [List.getD,h1]
 · rintro ⟨j,h1,h2,h3⟩;refine⟨j,⟨h1,h2⟩,?_⟩;rw [← h3,getElem!_pos t.toArray j (by simpa using h1)];simp [List.getD,h1]
theorem ZlT (h:t.Pairwise (· ≤ ·)){j:Nat}(aa:i≤j)(hj:j<t.length):t.getD i 0≤t.getD j 0:=by
 by_cases e:i=j
 · rw [e];exact Int.le_refl _
 · (have hi:i<t.length:=by omega);have:=List.pairwise_iff_getElem.1 h i j hi hj (by omega);simpa [List.getD,hi,hj] using this
theorem ZjP (h:t.Pairwise (· ≤ ·)){x:Int}:x∈cmpct t↔x∈t:=by
 rw [Zlp];constructor
 · rintro ⟨j,h1,_,h3⟩;rw [← h3];exact Zhs h1
 · intro hx;obtain⟨j,hj,e⟩:=List.mem_iff_getElem.1 hx;(have e2:t.getD j 0=x:=by simpa [List.getD,hj] using e);clear e
   induction j with
   | zero=>exact ⟨0,hj,(Zgj t 0 hj).2 (.inl rfl),e2⟩
   | succ j ih =>
    by_cases hk:t.getD (j+1) 0=t.getD j 0
    · exact ih (by omega) (hk ▸ e2)
    · exact⟨j+1,hj,(Zgj t (j+1) hj).2 (.inr hk),e2⟩
theorem Znn (h:t.Pairwise (· ≤ ·)):Up (cmpct t):=by
 unfold cmpct compactUpTo Up;refine List.pairwise_map.2 ?_;have hr:((List.range t.length).filter (keeps t.toArray)).Pairwise (fun a b=>a<b∧(b<t.length∧keeps t.toArray b=true)):=by
  have h1:(List.range t.length).Pairwise (· < ·):=List.pairwise_lt_range;have h2:=h1.filter (keeps t.toArray);refine h2.imp_of_mem ?_;intro a b ha hb aa;have:=List.mem_filter.1 hb;exact⟨aa,List.mem_range.1 this.1,this.2⟩
 refine hr.imp ?_;rintro a b ⟨aa,hb,hk⟩;have ab:=(Zgj t b hb).1 hk;(have ha:a<t.length:=by omega);rw [getElem!_pos t.toArray a (by simpa using ha),getElem!_pos t.toArray b (by simpa using hb)];(have e1:t.toArray[a]'(by simpa using ha)=t.getD a 0:=by simp [List.getD,ha]);(have e2:t.toArray[b]'(by simpa using hb)=t.getD b 0:=by simp [List.getD,hb]);rw [e1,e2];have l1:=ZlT h (i:=a) (j:=b-1) (by omega) (by omega);have l2:=ZlT h (i:=b-1) (j:=b) (by omega) hb;rcases ab with h0 | h0
 · omega
 · omega
theorem Zlo (t:List Int):(cmpct t).length≤t.length:=by
 unfold cmpct compactUpTo;rw [List.length_map];exact Nat.le_trans (List.length_filter_le _ _) (by simp)
structure Hd (w0 w:World) (s:Sl) (t:List Int):Prop where
  len:t.length=s.len
  le:s.len≤s.cap
  below:Below w0.heap.size w0 w
  at_:(s.a=none∧s.cap=0)∨∃g off,s.a=some ⟨g,off,none⟩∧w0.heap.size≤g∧g<w.heap.size∧Holds (Value.int .i64) w g off t.toArray
theorem Zn4 {off:Nat}(h:Holds (Value.int .i64) w g off t.toArray)(hi:i<t.length):w.cell? ⟨g,off+i,none⟩=some (.int .i64 (t.getD i 0)):=by
 have:=(h i (by simpa using hi)).1;rw [this,getElem!_pos t.toArray i (by simpa using hi)];simp [List.getD,hi]
theorem Nq.hd {s:Sl}(h:Nq w0 w s t):Hd w0 w s t:=by
 refine⟨h.own.len,Own.lecap h.own,h.below,?_⟩;cases ha:s.a with
 | none=>exact .inl ⟨rfl,Own.nilcap h.own ha⟩
 | some q =>
  rcases h.own.2 with ⟨h0,_⟩ | ⟨g,off,cur,aa,_⟩
  · rw [h0] at ha;cases ha
  · rw [aa] at ha;cases ha;(have hb:s.blk=some g:=by rw [Sl.blk,aa];rfl);refine .inr ⟨g,off,rfl,h.home g hb,Own.lt h.own hb,fun j hj=>?_⟩;(have hj':j<t.length:=by simpa using hj);refine⟨?_,OwnN.frozen h.own aa _⟩;rw [OwnN.cellAt h.own aa (by rw [← h.own.len];exact hj'),getElem!_pos t.toArray j hj];simp [List.getD,hj']
theorem Hd.gi {s:Sl}(h:Hd w0 w s t)(hl:s.len≤1000000):Gi (fun k=>w0.heap.size≤k) w s t:=by
 refine⟨h.len,fun e=>?_,h.le,hl,fun ad ha _=>?_,fun i hi=>?_⟩
 · rcases h.at_ with ⟨_,h2⟩ | ⟨g,off,ha,_⟩
   · exact h2
   · rw [ha] at e;cases e
 · rcases h.at_ with ⟨h1,_⟩ | ⟨g,off,aa,h2,_⟩
   · rw [h1] at ha;cases ha
   · rw [aa] at ha;cases ha;exact h2
 · rcases h.at_ with ⟨_,h2⟩ | ⟨g,off,ha,_,_,hh⟩
   · have:=h.le;omega
   · exact⟨g,off,ha,Zn4 hh (by rw [h.len];exact hi)⟩
theorem Zhx {off n:Nat}{os:Array Obj}(d:Array Int)(hg:w0.heap.size≤g)(h:Below w0.heap.size w0 w):Below w0.heap.size w0 (grow (putRow (Value.int .i64) (Sort.ahead w n) g off d) os):=by
 refine h.trans ⟨rfl,rfl,rfl,by simp,fun k hk=>?_⟩;have hs:=h.size;rw [heap_grow_old _ _ (by simp;omega)];(have:g≠k:=by omega);simp [putRow,mapBlock,Sort.ahead,Array.getElem?_modify,this]
end Go.Proofs.YtiecfcjlhldhdaaGreat
