/-
  Lemmas.
-/
import Derived.Test.YtiecfcjlhldhdaaGreatKnah
namespace Go.Proofs.YtiecfcjlhldhdaaGreat
open Go.RowKit Go.Proofs.Tryz
set_option linter.unusedVariables false
set_option linter.unusedSimpArgs false
set_option maxRecDepth 100000
set_option maxHeartbeats 4000000
variable {w W W0 V:World}{g q p B b1 o1 b2 o2 i:Nat}{s:Sl}{y:Bt}{x:Rx}{r:Rw}{l:List Lb}{A:Act}{live:List Int}
theorem ZaE (w:World)(g:Nat)(r:Rw)(c:Value):Frm (fun k=>k=g) w (setRw w g r c):=
 ((((((Frm.refl (fun k=>k=g) w).setCell (p:=⟨g,0,none⟩) rfl _).setCell (p:=⟨g,1,none⟩) rfl _).setCell (p:=⟨g,2,none⟩) rfl _).setCell (p:=⟨g,3,none⟩) rfl _).setCell (p:=⟨g,4,none⟩) rfl _).setCell (p:=⟨g,5,none⟩) rfl _
theorem Zen (w:World)(p:Nat)(X:Rw)(C:Value)(k:RwBlk w p X C)(r:Rw)(a:Option Addr)(n c:Nat):(Instr.storeAt 39 (.pointer (some ⟨p,0,none⟩)) (r.val (.slice a n c))).run prog w=.ok () (setRw w p r (.slice a n c)):=by
 have aa:∀(w:World) (a:Addr) (m:Mode) (x:Nat),(store a (.float .f64 x) m).run prog w=stored prog w a (.float .f64 x) m:=fun w a m x=>run_store prog w a _ m rfl;have c0:=k.c0;have c1:=k.c1;have c2:=k.c2;have c3:=k.c3;have c4:=k.c4;have c5:=k.c5;have f0:=k.fz;simp [go_sem,Instr.storeAt,stored,aa,c0,c1,c2,c3,c4,c5,f0,Rw.val,setRw]
def setBt (w:World) (g:Nat) (x:Bt):World:=(w.setCell ⟨g,0,none⟩ (.int .i64 x.1)).setCell ⟨g,1,none⟩ (.int .i64 x.2)
theorem ZaD (w:World)(g:Nat)(x:Bt):Frm (fun k=>k=g) w (setBt w g x):=((Frm.refl (fun k=>k=g) w).setCell (p:=⟨g,0,none⟩) rfl _).setCell (p:=⟨g,1,none⟩) rfl _
theorem ZaW (h:BtBlk w g y)(x:Bt):BtBlk (setBt w g x) g x:=by
 unfold BtBlk setBt at *;have h1:(w.setCell ⟨g,0,none⟩ (.int .i64 x.1)).heap[g]? = some (Obj.cells #[.int .i64 x.1,.int .i64 y.2] 67 (0,0)):=by
  rw [heap_setCell_same w g 0 _ 67 (.int .i64 x.1) h];rfl
 rw [heap_setCell_same _ g 1 _ 67 (.int .i64 x.2) h1];rfl
theorem Zfm (w:World)(p:Nat)(y:Bt)(k:BtBlk w p y)(x:Bt):(Instr.storeAt 67 (.pointer (some ⟨p,0,none⟩)) (btV x)).run prog w=.ok () (setBt w p x):=by
 have c0:=k.c0;have c1:=k.c1;have f0:=k.fz;simp [go_sem,Instr.storeAt,stored,c0,c1,f0,btV,setBt]
structure FS (B:Nat) (W0 V:World) (b1 o1 b2 o2 p q:Nat) (x:Rx) (y:Bt) (w:World):Prop where
  rx:RwAt w b1 o1 x
  y0:w.cell? ⟨b2,o2,none⟩=some (.int .i64 y.1)
  y1:w.cell? ⟨b2,o2+1,none⟩=some (.int .i64 y.2)
  kp:∃X C,RwBlk w p X C
  kq:∃Y,BtBlk w q Y
  e:Below B W0 w
  f:Frm (fun k=>k=p∨k=q) V w
  ne:b1≠p∧b1≠q∧b2≠p∧b2≠q∧p≠q∧B≤p∧B≤q
theorem RwAt.frm {b o:Nat}(h:RwAt w b o x)(hs:W.heap[b]? = w.heap[b]?):RwAt W b o x:=
 ⟨(Za2 hs _).trans h.c0,(Za2 hs _).trans h.c1,(Za2 hs _).trans h.c2,(Za2 hs _).trans h.c3,(Za2 hs _).trans h.c4,(Za2 hs _).trans h.c5⟩
theorem FS.frm (h:FS B W0 V b1 o1 b2 o2 p q x y w)(hg:g=p∨g=q)(f:Frm (fun k=>k=g) w W)(kp:∃X C,RwBlk W p X C)(kq:∃Y,BtBlk W q Y):FS B W0 V b1 o1 b2 o2 p q x y W:=by
 obtain⟨n1,n2,n3,n4,n5,n6,n7⟩:=h.ne;have l1:=World.block_lt_of_cell? _ _ h.rx.c0;have l2:=World.block_lt_of_cell? _ _ h.y0;have s1:W.heap[b1]? = w.heap[b1]?:=f.block b1 l1 (fun e=>by rcases hg with rfl | rfl <;> omega);have s2:W.heap[b2]? = w.heap[b2]?:=f.block b2 l2 (fun e=>by rcases hg with rfl | rfl <;> omega);have hB:B≤w.heap.size:=by
  obtain⟨_,_,k⟩:=h.kp;have:=(Array.getElem?_eq_some_iff.1 k).1;omega
 refine⟨h.rx.frm s1,(Za2 s2 _).trans h.y0,(Za2 s2 _).trans h.y1,kp,kq,h.e.trans (f.below hB (fun k hk=>by rcases hg with rfl | rfl <;> omega)),h.f.trans f (fun i _ hi=>by rcases hg with rfl | rfl;exact .inl hi;exact .inr hi),h.ne⟩
theorem FS.row (h:FS B W0 V b1 o1 b2 o2 p q x y w) :
    ∃W,(Instr.storeAt 39 (.pointer (some ⟨p,0,none⟩)) x.val).run prog w=.ok () W∧FS B W0 V b1 o1 b2 o2 p q x y W∧RwBlk W p x.r (.slice x.a x.n x.c):=by
  obtain⟨X,C,kp⟩:=h.kp;obtain⟨Y,kq⟩:=h.kq;have k':=Za5 kp x.r (.slice x.a x.n x.c);have f:=ZaE w p x.r (.slice x.a x.n x.c);exact⟨_,Zen w p X C kp x.r x.a x.n x.c,h.frm (.inl rfl) f ⟨_,_,k'⟩ ⟨Y,(f.block q kq.lt (fun e=>h.ne.2.2.2.2.1 e.symm)).trans kq⟩,k'⟩
theorem FS.bt (h:FS B W0 V b1 o1 b2 o2 p q x y w){X:Rw}{C:Value}(kp:RwBlk w p X C) :
    ∃W,(Instr.storeAt 67 (.pointer (some ⟨q,0,none⟩)) (btV y)).run prog w=.ok () W∧FS B W0 V b1 o1 b2 o2 p q x y W∧RwBlk W p X C∧BtBlk W q y:=by
  obtain⟨Y,kq⟩:=h.kq;have k':=ZaW kq y;have f:=ZaD w q y;have kp':RwBlk (setBt w q y) p X C:=(f.block p (Array.getElem?_eq_some_iff.1 kp).1 (fun e=>h.ne.2.2.2.2.1 e)).trans kp;exact⟨_,Zfm w q Y kq y,h.frm (.inr rfl) f ⟨_,_,kp'⟩ ⟨_,k'⟩,kp',k'⟩
theorem FS.drew (h:FS B W0 V b1 o1 b2 o2 p q x y w):FS B W0 V b1 o1 b2 o2 p q x y w.drew:=
 ⟨⟨h.rx.c0,h.rx.c1,h.rx.c2,h.rx.c3,h.rx.c4,h.rx.c5⟩,h.y0,h.y1,h.kp,h.kq,h.e.drew,h.f.drew,h.ne⟩
theorem ZrP (B:Nat)(W0 V w:World)(b1 o1 len c1 b2 o2 len2 c2 p q i:Nat)(hi:i<len)(ag:i<len2)(x:Rx)(y:Bt)(hW:FS B W0 V b1 (o1+i*6) b2 (o2+i*2) p q x y w)
    {Q:Exit→Act→World→Prop}(ak:A.tmps.size=38)(af:A.defers=[])(s7:A.tmps.getD 7 undef=.slice (some ⟨b1,o1,none⟩) len c1)(s8:A.tmps.getD 8 undef=.slice (some ⟨b2,o2,none⟩) len2 c2)(s9:A.tmps.getD 9 undef=.int .i64 (i:Int))(s4:A.tmps.getD 4 undef=.pointer (some ⟨p,0,none⟩))(s5:A.tmps.getD 5 undef=.pointer (some ⟨q,0,none⟩))
    (hend:∀(u:Nat→Value) w',RwBlk w' p x.r (.slice x.a x.n x.c)→BtBlk w' q y→Below B W0 w'→Frm (fun k=>k=p∨k=q) V w'→Q .normal ((Pl.pu A u [28,29,30,31,32,33,34,35]).put (some 6) (.bool true)) w') :
    Pl.rg prog 6 f41 Q A w:=by
  have aa:FS B W0 V b1 (o1+i*6) b2 (o2+i*2) p q x y w.drew:=hW.drew;have hA:=Pl.At.same (v:=.pointer (some ⟨q,0,none⟩)) (d:=5) (Pl.At.same (v:=.pointer (some ⟨p,0,none⟩)) (d:=4) (Pl.At.same (v:=.int .i64 (i:Int)) (d:=9) (Pl.At.same (v:=.slice (some ⟨b2,o2,none⟩) len2 c2) (d:=8) (Pl.At.same (v:=.slice (some ⟨b1,o1,none⟩) len c1) (d:=7) (Pl.At.here ak af) s7) s8) s9) s4) s5;refine Pl.qb (S:=(FS B W0 V b1 (o1+i*6) b2 (o2+i*2) p q x y)) hA aa ?_;rw [show (Pl.fd 6 f41).size=11 by kernel_rfl];refine Pl.q0 0 28 (.slice (some ⟨b1,o1,none⟩) len c1) (Pl.q1) (Pl.q2 (.tmp 7)) aa ?_;refine Pl.q0 1 29 (.int .i64 (i:Int)) (Pl.q1) (Pl.q2 (.tmp 9)) aa ?_;refine Pl.q0 2 30 (.pointer (some ⟨b1,o1+i*6,none⟩)) (Pl.q1) (Pl.qa 49 (.tmp 28) (.tmp 29) (ZaX b1 o1 len c1 i hi)) aa ?_;refine Pl.q0 3 31 (x.val) (Pl.q1) (Pl.q4 39 (.tmp 30) (fun w' hS=>Zbl b1 (o1+i*6) x w' hS.rx)) aa ?_;refine Pl.q0 4 32 (.slice (some ⟨b2,o2,none⟩) len2 c2) (Pl.q1) (Pl.q2 (.tmp 8)) aa ?_;refine Pl.q0 5 33 (.int .i64 (i:Int)) (Pl.q1) (Pl.q2 (.tmp 9)) aa ?_;refine Pl.q0 6 34 (.pointer (some ⟨b2,o2+i*2,none⟩)) (Pl.q1) (Pl.qa 84 (.tmp 32) (.tmp 33) (ZnV b2 o2 len2 c2 i ag)) aa ?_;refine Pl.q0 7 35 (btV y) (Pl.q1) (Pl.q4 67 (.tmp 34) (fun w' hS=>Zmo hS.y0 hS.y1)) aa ?_;obtain⟨W1,ac,ae,ah⟩:=aa.row;refine Pl.ql 8 W1 (Pl.q1) (Pl.qm 39 (.tmp 4) (.tmp 31) ac) ae ?_;obtain⟨W2,ad,ab,ai,aj⟩:=ae.bt ah;refine Pl.ql 9 W2 (Pl.q1) (Pl.qm 67 (.tmp 5) (.tmp 35) ad) ab ?_;refine Pl.q0 10 6 (.bool true) (Pl.q1) (Pl.qd (.const (.bool true))) ab ?_;refine Pl.q8 (fun A' hA'=>?_);exact Pl.en hA' hA [28,29,30,31,32,33,34,35,6] (hend hA'.fn _ ai aj ab.e ab.f)
theorem Zpt {l:List Hr}{p:Hr→Bool}(hi:i<l.length)(hp:p l[i]=true)(hn:∀j,(hj:j<i)→p (l[j]'(by omega))=false):l.find? p=some l[i]:=by
 induction l generalizing i with
 | nil=>exact absurd hi (Nat.not_lt_zero _)
 | cons x l ih =>
  cases i with
  | zero =>
   simp only [List.getElem_cons_zero] at hp ⊢;rw [List.find?_cons,hp]
  | succ i =>
   have h0:p x=false:=hn 0 (Nat.zero_lt_succ _);rw [List.find?_cons,h0];simp only [List.getElem_cons_succ] at hp ⊢;exact ih (by simpa using hi) hp (fun j hj=>hn (j+1) (Nat.succ_lt_succ hj))
theorem ZnN {l:List Hr}{p:Hr→Bool}(hn:∀j,(hj:j<l.length)→p l[j]=false):l.find? p=none:=by
 rw [List.find?_eq_none];intro x hx;obtain⟨j,hj,rfl⟩:=List.getElem_of_mem hx;rw [hn j hj];decide
structure Zpj (w w':World) (e:Ending) (r:Rw) (b:Bt):Prop where
  f:r.fits
  col:∃x:Rx,x.r=r∧e=.returned (.tuple #[x.val,btV b,.bool true])∧ColF w' x
def Zjf (w:World) (l:List Lf) (k:Nat) (e:Ending) (w':World):Prop:=
  Bl w w'∧(findH l k=none→e=.returned (.tuple #[Zd1,btV (0,0),.bool false]))∧∀h,findH l k=some h→Zpj w w' e h.r ((h.i:Int),(h.k:Int))
theorem ZcF {fn:Func}{x y z:Nat}(hr:fn.results=#[.cell x 39,.cell y 67,.tmp z]){a:Option Addr}{n c:Nat}{b:Bt}(h:RwBlk W g r (.slice a n c))(hq:BtBlk W q b)(tmps:Array Value)(u:Value)(tx:tmps.getD x undef=.pointer (some ⟨g,0,none⟩))(ty:tmps.getD y undef=.pointer (some ⟨q,0,none⟩))(tz:tmps.getD z undef=u) :
    (results fn tmps).run prog W=.ok (.tuple #[r.val (.slice a n c),btV b,u]) W:=by
  have c0:=h.c0;have c1:=h.c1;have c2:=h.c2;have c3:=h.c3;have c4:=h.c4;have c5:=h.c5;have d0:=hq.c0;have d1:=hq.c1;(have tx2:tmps[x]?.getD undef=.pointer (some ⟨g,0,none⟩):=by simpa using tx);(have ty2:tmps[y]?.getD undef=.pointer (some ⟨q,0,none⟩):=by simpa using ty);(have tz2:tmps[z]?.getD undef=u:=by simpa using tz);simp [results,hr,tx2,ty2,tz2,go_sem,c0,c1,c2,c3,c4,c5,d0,d1,Rw.val,btV]
theorem Zpz {l:List Hr}(hi:i<l.length):(hrsB l).getD i (0,0)=((l[i].i:Int),(l[i].k:Int)):=by simp [hrsB,List.getD,hi]
theorem ZkY {D:Nat→Prop}(w:World)(s:Sl)(L:List Lb)(h:Gl D w s L)(key:Nat)(ay:key<18446744073709551616) :
    Calls prog 41 #[s.val,.float .f64 key] w (Zjf w (lfs L) key):=by
  have cp:∀(w:World) (a:Addr) (m:Mode) (x:Nat),(store a (.float .f64 x) m).run prog w=stored prog w a (.float .f64 x) m:=fun w a m x=>run_store prog w a _ m rfl;have br:=Zab w (.cells #[.float .f64 0,.bool false,.slice none 0 0,.int .i64 0,.int .i64 0,.int .i64 0] 39);have au:=Zab (w.alloc (.cells #[.float .f64 0,.bool false,.slice none 0 0,.int .i64 0,.int .i64 0,.int .i64 0] 39)) (.cells #[.int .i64 0,.int .i64 0] 67);have hX:RwBlk ((w.alloc (.cells #[.float .f64 0,.bool false,.slice none 0 0,.int .i64 0,.int .i64 0,.int .i64 0] 39)).alloc (.cells #[.int .i64 0,.int .i64 0] 67)) w.heap.size zeroR (.slice none 0 0):=(Zai w zeroR (.slice none 0 0)).keep au;have hY:BtBlk ((w.alloc (.cells #[.float .f64 0,.bool false,.slice none 0 0,.int .i64 0,.int .i64 0,.int .i64 0] 39)).alloc (.cells #[.int .i64 0,.int .i64 0] 67)) (w.heap.size+1) (0,0):=by
   have:=Zbv (w.alloc (.cells #[.float .f64 0,.bool false,.slice none 0 0,.int .i64 0,.int .i64 0,.int .i64 0] 39)) (0,0);rwa [Zae] at this
  obtain⟨W0,af⟩:∃W0,W0=(w.alloc (.cells #[.float .f64 0,.bool false,.slice none 0 0,.int .i64 0,.int .i64 0,.int .i64 0] 39)).alloc (.cells #[.int .i64 0,.int .i64 0] 67):=⟨_,rfl⟩;rw [← af] at hX hY;(have bm:Hi (Bl w W0):=by rw [af];exact Zac br au);(have be:W0.heap.size=w.heap.size+2:=by rw [af,Zae,Zae]);have HX:=Zh hX;have HY:=Zh hY;have an:=Zh (ZgG W0 s L (h.below bm.o (Nat.le_refl _)));have cb:=Zh be;have cc:=Zh af;obtain⟨a,len,cap⟩:=s;clear h br au hX hY af be;unfold Sl.val at *;simp only at *;go_enter func41,ntmps41;go_wp2_with fail;rw [← cc.o];refine an.o.mono ?_;rintro e w1 ⟨⟨ra,rn,rc⟩,⟨ba,bn,bc⟩,R,rfl,hT⟩;have bd:R.length=rn:=hT.i.rows.len;have cl:=Zh bd;(have am:Hi ((allH (lfs L)).length=rn):=by show _=_;rw [← Ze3 hT.r,bd]);have bi:Hi (rn=bn):=by
   show _=_;have:(hrsB (allH (lfs L))).length=bn:=hT.i.bts.len;rw [← this];simp [hrsB,am.o]
  have HT:=Zh hT;have bo:=Zh (Zac bm.o hT.i.below);have ag:=Zh (HX.o.keep hT.i.below);have ah:=Zh (HY.o.keep hT.i.below);have cf:rn≤9223372036854775807:=by
   have:=hT.i.rows.own.2;rcases this with ⟨h0,_⟩ | ⟨g,off,cur,ha,hb,hc,hd,he,hf⟩
   · have e:rn=0:=congrArg Sl.len h0;omega
   · have hm:rn≤rc:=hd;have cg:rc≤maxLen:=he;unfold maxLen at cg;omega
  clear hT bd;go_wp2_with fail;go_loopw [9] (fun iv wr=>∃i:Nat,i≤rn∧iv=.int .i64 (i:Nat)∧wr=w1∧Hi (∀j,j<i→(Fl.key (rk R j) == Fl.key key)=false)) (fun iv _=>rn-(intOf iv).toNat)
  case atStart=>exact ⟨0,Nat.zero_le _,rfl,rfl,fun j hj=>absurd hj (Nat.not_lt_zero _)⟩
  case round =>
   obtain⟨i,hi,rfl,rfl,ae⟩:=hrel;rcases Nat.lt_or_ge i rn with aa | cm
   · (have j1:(i:Int)<(rn:Int):=by omega);have ak:=HT.o.i.rows.rz;obtain⟨b1,o1,bb,hx⟩:=ak.at' i aa;replace bb:ra=some ⟨b1,o1,none⟩:=bb;subst bb;have cj:=(ak.fits _ (ak.mem aa)).key;have c0:=hx.c0;have bl:=Zh hx;have al:=Zh (Zeg (rk R i) key cj ay wr);have ch:(R.getD i Rx.zero).r.key=rk R i:=rfl;rw [ch] at c0;have ck:=Zh (ZaX b1 o1 rn rc i aa);clear ak hx;go_wp2_with fail;refine al.o.mono ?_;rintro e w2 ⟨rfl,ci⟩;obtain rfl:=ci.symm;cases hq:(Fl.key (rk R i) == Fl.key key) with
     | false =>
      have ca:Hi (∀j,j<i+1→(Fl.key (rk R j) == Fl.key key)=false):=by
       intro j hj;rcases Nat.lt_or_ge j i with h1 | h1
       · exact ae.o j h1
       · rw [show j=i by omega];exact hq
      clear hq ae al;go_wp2;go_roundw;exact ⟨i+1,by omega,by go_num,trivial,ca⟩;simp only [intOf];omega
     | true =>
      (have ai:i<(allH (lfs L)).length:=by rw [am.o];exact aa);have ax:findH (lfs L) key=some (allH (lfs L))[i]:=by
       refine Zpt ai ?_ (fun j hj=>?_)
       · have:=ZfX HT.o.r ai;rw [← this];exact hq
       · have:=ZfX HT.o.r (show j<(allH (lfs L)).length by omega);rw [← this];exact ae.o j hj
      have aj:=ZfX HT.o.r ai;obtain⟨H1,av⟩:∃H1,H1=(allH (lfs L))[i]:=⟨_,rfl⟩;rw [← av] at ax aj;obtain⟨b2,o2,aw,bf,bg⟩:=ZcC.at HT.o.i.bts (show i<(Sl.mk ba bn bc).len by rw [← bi.o];exact aa);replace aw:ba=some ⟨b2,o2,none⟩:=aw;subst aw;rw [Zpz ai,← av] at bf bg;have ac:=HT.o.i.flt _ (HT.o.i.rows.rz.mem aa);have ad:=HT.o.i.rows.fits _ (HT.o.i.rows.rz.mem aa);obtain⟨x,hx⟩:∃x,x=R.getD i Rx.zero:=⟨_,rfl⟩;rw [← hx] at ac ad aj bl;have cn:W0.heap.size≤b1:=HT.o.i.rows.new b1 rfl;have co:W0.heap.size≤b2:=HT.o.i.new b2 rfl;have be:=cb.o;have bw:Hi (FS w.heap.size w wr b1 (o1+i*6) b2 (o2+i*2) w.heap.size (w.heap.size+1) x ((H1.i:Int),(H1.k:Int)) wr):=
       ⟨bl.o,bf,bg,⟨_,_,ag.o⟩,⟨_,ah.o⟩,bo.o,Frm.refl _ _,by refine ⟨?_,?_,?_,?_,?_,?_,?_⟩ <;> omega⟩
      have ap:=Zh ac;have bj:=Zh ax;have bk:=Zh aj;have aq:=Zh ad;(have az:i<bn:=by rw [← bi.o];exact aa);clear hq ae al bf bg ac ad ax aj hx av;go_wp2_with fail;refine Pl.q9 (ops:=Pl.fd 6 f41) ?_;refine ZrP w.heap.size w wr wr b1 o1 rn rc b2 o2 bn bc w.heap.size (w.heap.size+1) i aa az x ((H1.i:Int),(H1.k:Int)) bw.o (by rfl) (by rfl) (by rfl) (by rfl) (by rfl) (by rfl) (by rfl) ?_;intro u w3 k1 k2 hb bt;simp only [Pl.pu,List.foldl,Act.put,List.setIfInBounds_toArray,List.set];have bx:=Zh k1;have bz:=Zh k2;have ao:=Zh hb;have bu:Hi (ColF w3 x):=ap.o.frm bt (fun k hk C fr hc=>by
       rcases hk with rfl | rfl
       · have:=ag.o;rw [RwBlk,hc] at this;simp only [Option.some.injEq,Obj.cells.injEq] at this;exact absurd this.2.1 (by decide)
       · have:=ah.o;rw [BtBlk,hc] at this;simp only [Option.some.injEq,Obj.cells.injEq] at this;exact absurd this.2.1 (by decide))
      clear k1 k2 hb bt;go_wp2;refine bodyPost_ret (ZcF rfl bx.o bz.o _ _ rfl rfl rfl) rfl ?_;refine⟨ao.o,(fun h=>by rw [bj.o] at h;cases h),fun g hg=>?_⟩;rw [bj.o] at hg;cases hg;exact⟨bk.o ▸ aq.o,x,bk.o,rfl,bu.o⟩
   · (have j1:¬(i:Int)<(rn:Int):=by omega);have bs:findH (lfs L) key=none:=by
      refine ZnN (fun j hj=>?_);have:=ZfX HT.o.r hj;rw [← this];exact ae.o j (by rw [am.o] at hj;omega)
     have bv:=Zh bs;have ar:=Zh (Zen wr w.heap.size _ _ ag.o zeroR none 0 0);have bp:=Zh (Za5 ag.o zeroR (.slice none 0 0));have bq:Hi (BtBlk (setRw wr w.heap.size zeroR (.slice none 0 0)) (w.heap.size+1) (0,0)):=((ZaE wr w.heap.size zeroR (.slice none 0 0)).block _ ah.o.lt (by omega)).trans ah.o;have bh:=Zh (Zal bo.o (Nat.le_refl _) zeroR (.slice none 0 0));generalize setRw wr w.heap.size zeroR (.slice none 0 0)=W2 at *;have ab:=Zh (Zfm W2 (w.heap.size+1) _ bq.o (0,0));have ce:=Zh (ZaW bq.o (0,0));have cd:Hi (RwBlk (setBt W2 (w.heap.size+1) (0,0)) w.heap.size zeroR (.slice none 0 0)):=((ZaD W2 (w.heap.size+1) (0,0)).block _ (Array.getElem?_eq_some_iff.1 bp.o).1 (by omega)).trans bp.o;have ao:Hi (Bl w (setBt W2 (w.heap.size+1) (0,0))):=bh.o.trans ((ZaD W2 (w.heap.size+1) (0,0)).below bh.o.size (fun k hk=>by rw [hk];omega));generalize setBt W2 (w.heap.size+1) (0,0)=W3 at *;clear bs ae;unfold Rw.val zeroR at ar;unfold btV at ab;simp only at ar ab;go_wp2_with (first | refine Zad _ rfl rfl 39 (.tmp 4) (.tmp 36) rfl (.pointer (some ⟨w.heap.size,0,none⟩)) (.agg #[.float .f64 0,.bool false,.slice none 0 0,.int .i64 0,.int .i64 0,.int .i64 0]) rfl rfl W2 ar.o ?_ | refine Zad _ rfl rfl 67 (.tmp 5) (.tmp 37) rfl (.pointer (some ⟨w.heap.size+1,0,none⟩)) (.agg #[.int .i64 0,.int .i64 0]) rfl rfl W3 ab.o ?_);refine bodyPost_ret (ZcF rfl cd.o ce.o _ _ rfl rfl rfl) rfl ?_;exact⟨ao.o,fun _=>rfl,fun g hg=>by rw [bv.o] at hg;cases hg⟩
def Za3 (l:List Lb):List Value:=l.flatMap fun x=>[x.u.val,x.v.val]
theorem Zcw:∀l:List Lb,(Za3 l).length=l.length*2
 | []=>rfl
 | x :: l=>by
  have e:Za3 (x :: l)=[x.u.val,x.v.val] ++ Za3 l:=rfl
  rw [e,List.length_append,Zcw l,List.length_cons]
  simp only [List.length_cons,List.length_nil]
  omega
theorem Zgm (l m:List Lb):Za3 (l ++ m)=Za3 l ++ Za3 m:=by simp [Za3]
theorem Zd7 (l:List Lb):∀u∈Za3 l,u.oneCell'=true:=by
 intro u hu;obtain⟨x,_,hx⟩:=List.mem_flatMap.1 hu;simp only [List.mem_cons,List.not_mem_nil,or_false] at hx;rcases hx with rfl | rfl <;> rfl
theorem Zcv:∀(l:List Lb)(j t:Nat),j<l.length→t<2→(Za3 l)[j*2+t]? = ([(l.getD j Lb.zero).u.val,(l.getD j Lb.zero).v.val]:List Value)[t]?
 | [],j,t,hj,_=>by simp at hj
 | x :: l,0,t,_,ht=>by
  have e:Za3 (x :: l)=[x.u.val,x.v.val] ++ Za3 l:=rfl
  rw [e,Nat.zero_mul,Nat.zero_add,List.getElem?_append_left (by simpa using ht)]
  rfl
 | x :: l,j+1,t,hj,ht=>by
  have e:Za3 (x :: l)=[x.u.val,x.v.val] ++ Za3 l:=rfl
  rw [e,List.getElem?_append_right (by simp only [List.length_cons,List.length_nil];omega)]
  simp only [List.length_cons,List.length_nil]
  rw [show (j+1)*2+t-(0+1+1)=j*2+t by omega]
  exact Zcv l j t (by simpa using hj) ht
theorem Zf3:∀(l:List Lb)(i:Nat)(x:Lb),Za3 (l.set i x)=((Za3 l).set (i*2) x.u.val).set (i*2+1) x.v.val
 | [],i,x=>by simp [Za3]
 | y :: l,0,x=>rfl
 | y :: l,i+1,x=>by
  have e:Za3 (y :: l)=y.u.val :: y.v.val :: Za3 l:=rfl
  have e2:Za3 ((y :: l).set (i+1) x)=y.u.val :: y.v.val :: Za3 (l.set i x):=rfl
  rw [e,e2,Zf3 l i x,show (i+1)*2=i*2+1+1 by omega]
  rfl
theorem ZoV:(prog.info? 101).map (fun i=>(i.zero,i.size,i.bytes))=some (some (.agg #[.slice none 0 0,.slice none 0 0]),2,48):=by kernel_rfl
def OwnL (w:World) (s:Sl) (l:List Lb):Prop:=Own 101 2 w s (Za3 l)
theorem OwnL.len (h:OwnL w s l):l.length=s.len:=by
 have:=h.1;rw [Zcw] at this;omega
theorem OwnL.at (h:OwnL w s l){j:Nat}(hj:j<s.len):∃b off,s.a=some ⟨b,off,none⟩∧w.cell? ⟨b,off+j*2,none⟩=some (l.getD j Lb.zero).u.val∧w.cell? ⟨b,off+j*2+1,none⟩=some (l.getD j Lb.zero).v.val:=by
 rcases h.2 with ⟨h0,_⟩ | ⟨g,off,cur,ha,_⟩
 · rw [h0] at hj;exact absurd hj (Nat.not_lt_zero _)
 · (have hl:j<l.length:=by rw [h.len];exact hj);have e0:=Zcv l j 0 hl (by decide);have e1:=Zcv l j 1 hl (by decide);have k0:=Own.cell h ha _ _ e0;have k1:=Own.cell h ha _ _ e1;rw [Addr.add_lit] at k0 k1;exact⟨g,off,ha,by simpa using k0,by rw [Nat.add_assoc];simpa using k1⟩
theorem OwnL.gl {D:Nat→Prop}(h:OwnL w s l)(hm:s.len≤900)(hD:∀k,s.blk=some k→D k)(aa:∀x∈l,Gi D w x.u x.t∧Gb D w x.v x.l):Gl D w s l:=by
 refine⟨h.len,fun e=>?_,?_,hm,fun ad ha hl=>hD _ (by rw [Sl.blk,ha];rfl),fun i hi=>h.at hi,aa⟩
 · rcases h.2 with ⟨h0,_⟩ | ⟨g,off,cur,ha,_⟩
   · rw [h0];rfl
   · rw [ha] at e;cases e
 · rcases h.2 with ⟨h0,_⟩ | ⟨g,off,cur,ha,hc,hd,he,_⟩
   · rw [h0];exact Nat.le_refl _
   · exact he
theorem Gl.src {D:Nat→Prop}(h:Gl D w s l):Src prog 2 26 s.val s.len (Za3 l) w:=by
 obtain⟨a,m,c⟩:=s;have aa:l.length=m:=h.len;cases a with
 | none =>
  have hc:c=0:=h.nil rfl;(have hm:m=0:=by have:m≤c:=h.le;omega);subst hc hm;have hl:l=[]:=List.eq_nil_of_length_eq_zero aa;subst hl;exact Src.ofNil w underlying26 0
 | some ad =>
  refine Src.ofSlice _ underlying26 ad m c (Za3 l) (by rw [Zcw,aa]) (fun j u hj=>?_) (Zd7 _);have ab:j<l.length*2:=by
   have:=(List.getElem?_eq_some_iff.1 hj).1;rwa [Zcw] at this
  (have hq:j / 2<m:=by rw [← aa];omega);obtain⟨b,off,ha,c0,c1⟩:=h.cell (j / 2) hq;cases ha;have hg:=Zcv l (j / 2) (j % 2) (by rw [aa];exact hq) (Nat.mod_lt _ (by decide));rw [show j / 2*2+j % 2=j by omega] at hg;rw [hg] at hj;rw [Addr.add_lit];(have hm:j % 2=0∨j % 2=1:=by omega);rcases hm with e | e <;> rw [e] at hj <;> simp only [List.getElem?_cons_zero,List.getElem?_cons_succ,Option.some.injEq] at hj <;> subst hj
  · rw [show off+j=off+j / 2*2 by omega];exact c0
  · rw [show off+j=off+j / 2*2+1 by omega];exact c1
theorem OwnL.new0 (w:World):OwnL (w.alloc (.cells #[] 101)) ⟨some ⟨w.heap.size,0,none⟩,0,0⟩ []:=
 ⟨rfl,.inr ⟨w.heap.size,0,_,rfl,heap_alloc_new w _,by simp,Nat.le_refl _,by simp,rfl⟩⟩
theorem Zih {D:Nat→Prop}(w:World)(s:Sl)(l:List Lb)(h:Gl D w s l) :
    ∃s' W,(∀ty,(Builtin.append_ #[26,26] ty #[.slice (some ⟨w.heap.size,0,none⟩) 0 0,s.val]).run prog (w.alloc (.cells #[] 101))=.ok s'.val W)∧OwnL W s' l∧s'.len=s.len∧Bl w W∧∀k,s'.blk=some k→w.heap.size≤k:=by
  have hA:=Zab w (.cells #[] 101);obtain⟨s',W,ab,ho,aa,ad,ac⟩:=Zaz underlying26 ZoV rfl (by decide) _ ⟨some ⟨w.heap.size,0,none⟩,0,0⟩ [] (OwnL.new0 w) (fun u hu=>by cases hu) s.val s.len (Za3 l) (h.below hA (Nat.le_refl _)).src (by have:=h.big;show 0+s.len≤_;omega) 0;refine⟨s',W,fun ty=>ab,ho,by rw [aa];show 0+s.len=_;omega,hA.trans (ad.below hA.size (fun k e=>?_)),fun k e=>?_⟩
  · have:some w.heap.size=some k:=e;cases this;exact Nat.le_refl _
  · rcases ac with e' | ⟨e',_⟩
    · rw [e'] at e;have:some w.heap.size=some k:=e;cases this;exact Nat.le_refl _
    · rw [e'] at e;cases e;rw [Zae];omega
theorem Zqr {off len cap:Nat}(h:OwnL w ⟨some ⟨g,off,none⟩,len,cap⟩ l)(i:Nat)(hi:i<len)(x:Lb) :
    ∃W,(Instr.storeAt 101 (.pointer (some ⟨g,off+i*2,none⟩)) (lfV x.u x.v)).run prog w=.ok () W∧OwnL W ⟨some ⟨g,off,none⟩,len,cap⟩ (l.set i x)∧Frm (fun k=>k=g) w W:=by
  obtain⟨b,o,ha,c0,c1⟩:=h.at (j:=i) hi;simp only [Option.some.injEq,Addr.mk.injEq,and_true] at ha;obtain⟨rfl,rfl⟩:=ha;have f0:∀o,w.frozen? ⟨g,o,none⟩=false:=fun o=>by
   rcases h.2 with ⟨h0,_⟩ | ⟨g',off',cur,ha,hg,_⟩
   · cases h0
   · simp only [Option.some.injEq,Addr.mk.injEq,and_true] at ha;obtain⟨rfl,rfl⟩:=ha;exact frozen_of_row w g _ cur _ hg
  have h1:=Own.setCell (Own.setCell h rfl (i*2) x.u.val) rfl (i*2+1) x.v.val;rw [← Zf3] at h1;refine⟨(w.setCell ⟨g,off+i*2,none⟩ x.u.val).setCell ⟨g,off+(i*2+1),none⟩ x.v.val,?_,h1,((Frm.refl (fun k=>k=g) w).setCell (p:=⟨g,off+i*2,none⟩) rfl _).setCell (p:=⟨g,off+(i*2+1),none⟩) rfl _⟩;unfold lfV Sl.val at *;rw [Nat.add_assoc] at c1;simp [go_sem,Instr.storeAt,stored,c0,c1,f0,Nat.add_assoc]
def LsIs (D:Nat→Prop) (w:World) (l:List Lf) (e:Ending) (w':World):Prop:=Bl w w'∧∃(s':Sl) (L':List Lb),e=.returned s'.val∧Gl (Old D w) w' s' L'∧lfs L'=l
theorem ZmU {D:Nat→Prop}(w:World)(s:Sl)(L:List Lb)(h:Gl D w s L)(i:Nat)(hi:i<s.len)(x:Lb)(hx:Gi D w x.u x.t∧Gb D w x.v x.l) :
    Calls prog 64 #[s.val,.int .i64 (i:Int),lfV x.u x.v] w (LsIs D w ((lfs L).set i x.lf)):=by
  have hA:=Zab w (.cells #[x.u.val,x.v.val] 101);have hk:=ZaB w x.u.val x.v.val;obtain⟨s1,W1,ai,ho,ab,ae,ak⟩:=Zih (w.alloc (.cells #[x.u.val,x.v.val] 101)) s L (h.below hA (Nat.le_refl _));have ad:=Zac hA ae;(have ac:0<s1.len:=by omega);obtain⟨g,off,af⟩:∃g off,s1.a=some ⟨g,off,none⟩:=by
   obtain⟨b,o,ha,_⟩:=ho.at ac;exact⟨b,o,ha⟩
  have aq:=ak g (by rw [Sl.blk,af];rfl);rw [Zae] at aq;obtain⟨a1,n1,c1⟩:=s1;simp only at af ab;subst af;subst ab;obtain⟨W2,am,al,aj⟩:=Zqr ho i hi x;have ag:LfBlk W1 w.heap.size x.u.val x.v.val:=hk.below ae;have aa:Bl w W2:=ad.trans (aj.below ad.size (fun k hk=>by rw [hk];omega));have HG:Hi (Gl (Old D w) W2 ⟨some ⟨g,off,none⟩,s.len,c1⟩ (L.set i x)):=by
   refine OwnL.gl al h.big (fun k hk=>?_) (fun y hy=>?_)
   · have:some g=some k:=hk;cases this;exact .inr (by omega)
   · rcases List.mem_or_eq_of_mem_set hy with h1 | rfl
     · exact⟨(h.it y h1).1.old aa,(h.it y h1).2.old aa⟩
     · exact⟨hx.1.old aa,hx.2.old aa⟩
  have an:=Zh aa;have ah:=Zh ai;have ao:=Zh am;have d0:=ag.c0;have d1:=ag.c1;have ar:=Zh (Zde g off s.len c1 i hi);have ap:s.len≤900:=h.big;clear hA hk ai ho ae ad am al aj ag aa ak h hx ac;obtain⟨a,len,cap⟩:=s;obtain⟨⟨xa,xn,xc⟩,⟨ya,yn,yc⟩,xt,xl⟩:=x;unfold lfV Sl.val at *;simp only at *;rw [Zae] at ah;go_enter func64,ntmps64;go_wp2_with (first | (at_builtin;refine Zaq _ rfl 26 (.tmp 8) (.tmp 9) rfl (.slice (some ⟨w.heap.size+1,0,none⟩) 0 0) (.slice a len cap) (.slice (some ⟨g,off,none⟩) len c1) rfl rfl W1 ah.o ?_) | refine Zad _ rfl rfl 101 (.tmp 14) (.tmp 13) rfl (.pointer (some ⟨g,off+i*2,none⟩)) (.agg #[.slice xa xn xc,.slice ya yn yc]) rfl rfl W2 ao.o ?_);go_ret;exact⟨an.o,⟨some ⟨g,off,none⟩,len,c1⟩,_,rfl,HG.o,by rw [ZpE]⟩
theorem Gi.mono {D E:Nat→Prop}{v:Sl}{t:List Int}(h:Gi D w v t)(hE:∀k,D k→k<w.heap.size→E k):Gi E w v t:=by
 refine⟨h.len,h.nil,h.le,h.big,fun ad ha hl=>?_,h.cell⟩;obtain⟨b,off,hb,hc⟩:=h.cell 0 hl;rw [ha] at hb;cases hb;exact hE _ (h.home _ ha hl) (World.block_lt_of_cell? _ _ hc)
theorem Gb.mono {D E:Nat→Prop}{v:Sl}{l:List Sb}(h:Gb D w v l)(hE:∀k,D k→k<w.heap.size→E k):Gb E w v l:=by
 refine⟨h.len,h.nil,h.le,h.big,fun ad ha hl=>?_,h.cell,fun x hx=>⟨(h.bs x hx).1.mono hE,(h.bs x hx).2⟩⟩;obtain⟨b,off,hb,hc⟩:=h.cell 0 hl;rw [ha] at hb;cases hb;exact hE _ (h.home _ ha hl) (World.block_lt_of_cell? _ _ hc)
theorem Gl.mono {D E:Nat→Prop}{L:List Lb}(h:Gl D w s L)(hE:∀k,D k→k<w.heap.size→E k):Gl E w s L:=by
 refine⟨h.len,h.nil,h.le,h.big,fun ad ha hl=>?_,h.cell,fun x hx=>⟨(h.it x hx).1.mono hE,(h.it x hx).2.mono hE⟩⟩;obtain⟨b,off,hb,hc,_⟩:=h.cell 0 hl;rw [ha] at hb;cases hb;exact hE _ (h.home _ ha hl) (World.block_lt_of_cell? _ _ hc)
theorem Owns.slot {base:Nat}{v:Value}{xs:List Nat}(h:Owns w base v xs)(hx:Bytes xs)(hm:xs.length≤1000000):∃s:Sl,v=.slice s.a s.len s.cap∧Cm (fun k=>base≤k) w s xs:=by
 obtain⟨a,c,hv,hc⟩:=h.cameN hx rfl hm;refine⟨⟨a,xs.length,c⟩,hv,hc,fun ad ha hl=>?_⟩;rcases h.2 with ⟨e,h0⟩ | ⟨g,cp,cur,hv',hb,_⟩
 · have:xs.length=0:=h0;simp only at hl;omega
 · rw [hv] at hv';simp only [Value.slice.injEq] at hv';simp only at ha;rw [hv'.1] at ha;cases ha;exact hb
theorem ex3 (a b c:Value)(w:World):(Instr.extract (.tuple #[a,b,c]) 0).run prog w=.ok a w∧(Instr.extract (.tuple #[a,b,c]) 1).run prog w=.ok b w∧(Instr.extract (.tuple #[a,b,c]) 2).run prog w=.ok c w:=Zit a b c w
theorem ex2 (a b:Value)(w:World):(Instr.extract (.tuple #[a,b]) 0).run prog w=.ok a w∧(Instr.extract (.tuple #[a,b]) 1).run prog w=.ok b w:=⟨rfl,rfl⟩
theorem ZrO (p:Nat)(w:World):(Instr.fieldAt 39 (.pointer (some ⟨p,0,none⟩)) 3).run prog w=.ok (.pointer (some ⟨p,3,none⟩)) w:=by simp [go_sem,Instr.fieldAt]
theorem Zmp {b o:Nat}{v:Int}(h:w.cell? ⟨b,o,none⟩=some (.int .i64 v)):(Instr.loadAt 3 (.pointer (some ⟨b,o,none⟩))).run prog w=.ok (.int .i64 v) w:=by simp [go_sem,h]
theorem LfBlk.frmH {w':World}{F:Nat→Prop}{u v:Value}(k:LfBlk w p u v)(f:Frm F w w')(hn:¬F p):LfBlk w' p u v:=(f.block p k.lt hn).trans k
theorem Zev:∀args w,(callFunc 61 args).run prog w=.ok (.enter 61 args) w:=Pl.qi func61
theorem Zjx:∀args w,(callFunc 63 args).run prog w=.ok (.enter 63 args) w:=Pl.qi func63
theorem ZrT {D:Nat→Prop}(w0 w:World)(b off len c i:Nat)(hi:i<len)(x:Lb)(bd:w0.cell? ⟨b,off+i*2,none⟩=some x.u.val)(be:w0.cell? ⟨b,off+i*2+1,none⟩=some x.v.val)(hx:Gi D w0 x.u x.t∧Gb D w0 x.v x.l)(ar:x.v.len≤900)(p:Nat)(r:Rw)(ra:Option Addr)(rn rc:Nat)(hr:RwBlk w0 p r (.slice ra rn rc))(au:Fs w0 ra rn rc r.xs)(ax:r.fits)(hm:r.may=true)(hW:Bl w0 w)
    {Q:Exit→Act→World→Prop}(bb:A.tmps.size=90)(az:A.defers=[])(s0:A.tmps.getD 0 undef=.slice (some ⟨b,off,none⟩) len c)(s12:A.tmps.getD 12 undef=.int .i64 (i:Int))(s4:A.tmps.getD 4 undef=.pointer (some ⟨p,0,none⟩))
    (hend:∀(u:Nat→Value)(g:Nat) w',w0.heap.size≤g→(∃u v,LfBlk w' g u v)→Bl w0 w'→Q .normal ((((Pl.pu A u [45,46,47,48,49,50,51,44,52,53,54]).put (some 13) (.pointer (some ⟨g,0,none⟩))).put (some 14) (.int .i64 (insA (bss x.l) (hpB r)).at_)).put (some 15) (.int .i64 (insA (bss x.l) (hpB r)).e)) w') :
    Pl.rg prog 7 f28 Q A w:=by
  have ac:Bl w0 w.drew:=hW.drew;have hA:=Pl.At.same (v:=.pointer (some ⟨p,0,none⟩)) (d:=4) (Pl.At.same (v:=.int .i64 (i:Int)) (d:=12) (Pl.At.same (v:=.slice (some ⟨b,off,none⟩) len c) (d:=0) (Pl.At.here bb az) s0) s12) s4;refine Pl.qb (S:=fun w'=>Bl w0 w') hA ac ?_;rw [show (Pl.fd 7 f28).size=15 by kernel_rfl];refine Pl.q0 0 45 (.slice (some ⟨b,off,none⟩) len c) (Pl.q1) (Pl.q2 (.tmp 0)) ac ?_;refine Pl.q0 1 46 (.int .i64 (i:Int)) (Pl.q1) (Pl.q2 (.tmp 12)) ac ?_;refine Pl.q0 2 47 (.pointer (some ⟨b,off+i*2,none⟩)) (Pl.q1) (Pl.qa 26 (.tmp 45) (.tmp 46) (Zde b off len c i hi)) ac ?_;refine Pl.q0 3 48 (lfV x.u x.v) (Pl.q1) (Pl.q4 101 (.tmp 47) (fun w' hS=>ZdI (Zaf bd hS) (Zaf be hS))) ac ?_;refine Pl.q0 4 49 (r.val (.slice ra rn rc)) (Pl.q1) (Pl.q4 39 (.tmp 4) (fun w' hS=>ZbU p r (.slice ra rn rc) ⟨_,_,_,rfl⟩ w' (hr.keep hS))) ac ?_;refine Pl.qs 5 11 ?_ ?_
  · refine Pl.q_36 5 50 62 [(.tmp 49)] #[39] Zda (Calls.mono (Zbw r ra rn rc w.drew (au.keep ac (Nat.le_refl _)) ax hm) ?_);rintro e w5 ⟨v5,rfl,aq,ao⟩;have af:Bl w0 w5:=Zac ac ao;obtain⟨⟨ba,bn,bc⟩,rfl,aj⟩:=aq.slot (ZbD hm) (by rw [ZeN hm];decide);have ag:Cm (fun k=>True) w5 ⟨ba,bn,bc⟩ (hpB r):=aj.wide (fun _ _=>trivial);refine⟨.slice ba bn bc,rfl,af,?_⟩;refine Pl.qs 6 11 ?_ ?_
    · have al:Bl w5 w5:=Below.refl _ _;refine Pl.q_36 6 51 61 [(.tmp 48),(.tmp 50)] #[101,107] Zev (Calls.mono (Ze1 (D:=fun k=>True) w5 x.u x.v x.l ((hx.2.below af (Nat.le_refl _)).wide (fun _ _=>trivial)) ar ⟨⟨ba,bn,bc⟩,hpB r⟩ (ag.keep (Kept.all al (Nat.le_refl _)))) ?_);rintro e w6 ⟨ai,v6,l6,rfl,av,aw⟩;have aa:Bl w0 w6:=Zac af ai;refine⟨.tuple #[lfV x.u v6,.int .i64 (insA (bss x.l) (hpB r)).at_,.int .i64 (insA (bss x.l) (hpB r)).e],rfl,aa,?_⟩;refine Pl.q0 7 44 (.tuple #[lfV x.u v6,.int .i64 (insA (bss x.l) (hpB r)).at_,.int .i64 (insA (bss x.l) (hpB r)).e]) (Pl.q1) (Pl.q2 (.tmp 51)) aa ?_;refine Pl.q0 8 52 (lfV x.u v6) (Pl.q1) (Pl.qh (.tmp 44) 0 (fun w=>(ex3 _ _ _ w).1)) aa ?_;refine Pl.q0 9 53 (.int .i64 (insA (bss x.l) (hpB r)).at_) (Pl.q1) (Pl.qh (.tmp 44) 1 (fun w=>(ex3 _ _ _ w).2.1)) aa ?_;refine Pl.q0 10 54 (.int .i64 (insA (bss x.l) (hpB r)).e) (Pl.q1) (Pl.qh (.tmp 44) 2 (fun w=>(ex3 _ _ _ w).2.2)) aa ?_;have ad:Bl w0 (w6.alloc (.cells #[.slice none 0 0,.slice none 0 0] 101)):=aa.alloc aa.size _;have ak:=ZaB w6 (Sl.val Sl.nil) (Sl.val Sl.nil);have ah:w0.heap.size≤w6.heap.size:=aa.size;refine Pl.qf 11 13 (.pointer (some ⟨w6.heap.size,0,none⟩)) (w6.alloc (.cells #[.slice none 0 0,.slice none 0 0] 101)) (Pl.q1) (Pl.qx 101 (ZcU w6)) ad ?_;obtain⟨w9,ae,an,am⟩:=ZgK (w6.alloc (.cells #[.slice none 0 0,.slice none 0 0] 101)) w6.heap.size _ _ ak x.u v6;have ab:Bl w0 w9:=ad.trans (am.below ad.size (fun k hk=>by rw [hk];exact ah));refine Pl.ql 12 w9 (Pl.q1) (Pl.qm 101 (.tmp 13) (.tmp 52) ae) ab ?_;refine Pl.q0 13 14 (.int .i64 (insA (bss x.l) (hpB r)).at_) (Pl.q1) (Pl.qd (.tmp 53)) ab ?_;refine Pl.q0 14 15 (.int .i64 (insA (bss x.l) (hpB r)).e) (Pl.q1) (Pl.qd (.tmp 54)) ab ?_;refine Pl.q8 (fun A' hA'=>?_);exact Pl.en hA' hA [45,46,47,48,49,50,51,44,52,53,54,13,14,15] (hend hA'.fn _ _ ah ⟨_,_,an⟩ ab)
    · have ad:Bl w0 (w5.alloc (.cells #[.slice none 0 0,.slice none 0 0] 101)):=af.alloc af.size _;have ak:=ZaB w5 (Sl.val Sl.nil) (Sl.val Sl.nil);have ah:w0.heap.size≤w5.heap.size:=af.size;refine Pl.qj 11 13 (.pointer (some ⟨w5.heap.size,0,none⟩)) (w5.alloc (.cells #[.slice none 0 0,.slice none 0 0] 101)) (Pl.qx 101 (ZcU w5)) ad ?_;have al:Bl w5 ((w5.alloc (.cells #[.slice none 0 0,.slice none 0 0] 101))):=Zab w5 _;refine Pl.qe 6 51 61 [(.tmp 48),(.tmp 50)] #[101,107] (Pl.q1) Zev (Calls.mono (Ze1 (D:=fun k=>True) ((w5.alloc (.cells #[.slice none 0 0,.slice none 0 0] 101))) x.u x.v x.l ((hx.2.below ad (Nat.le_refl _)).wide (fun _ _=>trivial)) ar ⟨⟨ba,bn,bc⟩,hpB r⟩ (ag.keep (Kept.all al (Nat.le_refl _)))) ?_);rintro e w6 ⟨ai,v6,l6,rfl,av,aw⟩;have aa:Bl w0 w6:=Zac ad ai;have ap:=ak.below ai;refine⟨.tuple #[lfV x.u v6,.int .i64 (insA (bss x.l) (hpB r)).at_,.int .i64 (insA (bss x.l) (hpB r)).e],rfl,aa,?_⟩;rw [Pl.qg 13 51];refine Pl.q0 7 44 (.tuple #[lfV x.u v6,.int .i64 (insA (bss x.l) (hpB r)).at_,.int .i64 (insA (bss x.l) (hpB r)).e]) (Pl.q1) (Pl.q2 (.tmp 51)) aa ?_;rw [Pl.qg 13 44];refine Pl.q0 8 52 (lfV x.u v6) (Pl.q1) (Pl.qh (.tmp 44) 0 (fun w=>(ex3 _ _ _ w).1)) aa ?_;rw [Pl.qg 13 52];refine Pl.q0 9 53 (.int .i64 (insA (bss x.l) (hpB r)).at_) (Pl.q1) (Pl.qh (.tmp 44) 1 (fun w=>(ex3 _ _ _ w).2.1)) aa ?_;rw [Pl.qg 13 53];refine Pl.q0 10 54 (.int .i64 (insA (bss x.l) (hpB r)).e) (Pl.q1) (Pl.qh (.tmp 44) 2 (fun w=>(ex3 _ _ _ w).2.2)) aa ?_;rw [Pl.qg 13 54];obtain⟨w9,ae,an,am⟩:=ZgK w6 w5.heap.size _ _ ap x.u v6;have ab:Bl w0 w9:=aa.trans (am.below aa.size (fun k hk=>by rw [hk];exact ah));refine Pl.ql 12 w9 (Pl.q1) (Pl.qm 101 (.tmp 13) (.tmp 52) ae) ab ?_;refine Pl.q0 13 14 (.int .i64 (insA (bss x.l) (hpB r)).at_) (Pl.q1) (Pl.qd (.tmp 53)) ab ?_;refine Pl.q0 14 15 (.int .i64 (insA (bss x.l) (hpB r)).e) (Pl.q1) (Pl.qd (.tmp 54)) ab ?_;refine Pl.q8 (fun A' hA'=>?_);exact Pl.en hA' hA [45,46,47,48,49,50,51,44,52,53,54,13,14,15] (hend hA'.fn _ _ ah ⟨_,_,an⟩ ab)
  · have ad:Bl w0 (w.drew.alloc (.cells #[.slice none 0 0,.slice none 0 0] 101)):=ac.alloc ac.size _;have ak:=ZaB w.drew (Sl.val Sl.nil) (Sl.val Sl.nil);have ah:w0.heap.size≤w.drew.heap.size:=ac.size;refine Pl.qj 11 13 (.pointer (some ⟨w.drew.heap.size,0,none⟩)) (w.drew.alloc (.cells #[.slice none 0 0,.slice none 0 0] 101)) (Pl.qx 101 (ZcU w.drew)) ad ?_;refine Pl.qe 5 50 62 [(.tmp 49)] #[39] (Pl.q1) Zda (Calls.mono (Zbw r ra rn rc ((w.drew.alloc (.cells #[.slice none 0 0,.slice none 0 0] 101))) (au.keep ad (Nat.le_refl _)) ax hm) ?_);rintro e w5 ⟨v5,rfl,aq,ao⟩;have af:Bl w0 w5:=Zac ad ao;obtain⟨⟨ba,bn,bc⟩,rfl,aj⟩:=aq.slot (ZbD hm) (by rw [ZeN hm];decide);have ag:Cm (fun k=>True) w5 ⟨ba,bn,bc⟩ (hpB r):=aj.wide (fun _ _=>trivial);have ay:=ak.below ao;refine⟨.slice ba bn bc,rfl,af,?_⟩;rw [Pl.qg 13 50];have al:Bl w5 w5:=Below.refl _ _;refine Pl.qe 6 51 61 [(.tmp 48),(.tmp 50)] #[101,107] (Pl.q1) Zev (Calls.mono (Ze1 (D:=fun k=>True) w5 x.u x.v x.l ((hx.2.below af (Nat.le_refl _)).wide (fun _ _=>trivial)) ar ⟨⟨ba,bn,bc⟩,hpB r⟩ (ag.keep (Kept.all al (Nat.le_refl _)))) ?_);rintro e w6 ⟨ai,v6,l6,rfl,av,aw⟩;have aa:Bl w0 w6:=Zac af ai;have ap:=ay.below ai;refine⟨.tuple #[lfV x.u v6,.int .i64 (insA (bss x.l) (hpB r)).at_,.int .i64 (insA (bss x.l) (hpB r)).e],rfl,aa,?_⟩;rw [Pl.qg 13 51];refine Pl.q0 7 44 (.tuple #[lfV x.u v6,.int .i64 (insA (bss x.l) (hpB r)).at_,.int .i64 (insA (bss x.l) (hpB r)).e]) (Pl.q1) (Pl.q2 (.tmp 51)) aa ?_;rw [Pl.qg 13 44];refine Pl.q0 8 52 (lfV x.u v6) (Pl.q1) (Pl.qh (.tmp 44) 0 (fun w=>(ex3 _ _ _ w).1)) aa ?_;rw [Pl.qg 13 52];refine Pl.q0 9 53 (.int .i64 (insA (bss x.l) (hpB r)).at_) (Pl.q1) (Pl.qh (.tmp 44) 1 (fun w=>(ex3 _ _ _ w).2.1)) aa ?_;rw [Pl.qg 13 53];refine Pl.q0 10 54 (.int .i64 (insA (bss x.l) (hpB r)).e) (Pl.q1) (Pl.qh (.tmp 44) 2 (fun w=>(ex3 _ _ _ w).2.2)) aa ?_;rw [Pl.qg 13 54];obtain⟨w9,ae,an,am⟩:=ZgK w6 w.drew.heap.size _ _ ap x.u v6;have ab:Bl w0 w9:=aa.trans (am.below aa.size (fun k hk=>by rw [hk];exact ah));refine Pl.ql 12 w9 (Pl.q1) (Pl.qm 101 (.tmp 13) (.tmp 52) ae) ab ?_;refine Pl.q0 13 14 (.int .i64 (insA (bss x.l) (hpB r)).at_) (Pl.q1) (Pl.qd (.tmp 53)) ab ?_;refine Pl.q0 14 15 (.int .i64 (insA (bss x.l) (hpB r)).e) (Pl.q1) (Pl.qd (.tmp 54)) ab ?_;refine Pl.q8 (fun A' hA'=>?_);exact Pl.en hA' hA [45,46,47,48,49,50,51,44,52,53,54,13,14,15] (hend hA'.fn _ _ ah ⟨_,_,an⟩ ab)
def Nw (D:Nat→Prop) (w0:World) (g:Nat):Nat→Prop:=fun k=>(D k∧k<w0.heap.size)∨(w0.heap.size≤k∧k≠g)
theorem ZoY {D:Nat→Prop}{w0 wc w7:World}(h0:w0.heap.size≤wc.heap.size)(hz:g<wc.heap.size∨g=w7.heap.size):∀k,Old (fun k=>D k∧k<w0.heap.size) wc k→k<w7.heap.size→Nw D w0 g k:=by
 intro k hk hl;rcases hk with h | h
 · exact .inl h
 · exact .inr ⟨by omega,by rcases hz with h1 | h1 <;> omega⟩
theorem ZjB {D:Nat→Prop}{w0:World}(hg:w0.heap.size≤g):∀k,Nw D w0 g k→¬k=g:=by
 intro k hk e;subst e;rcases hk with h | h
 · omega
 · exact h.2 rfl
theorem ZrU {D:Nat→Prop}(w0 w:World)(b off len c i:Nat)(hi:i<len)(x:Lb)(ax:w0.cell? ⟨b,off+i*2,none⟩=some x.u.val)(ay:w0.cell? ⟨b,off+i*2+1,none⟩=some x.v.val)(hx:Gi D w0 x.u x.t∧Gb D w0 x.v x.l)(ar:x.u.len=4)(lv:Sl)(live:List Int)(aq:Gi D w0 lv live)(p:Nat)(r:Rw)(ra:Option Addr)(rn rc:Nat)(hr:RwBlk w0 p r (.slice ra rn rc))(hW:Bl w0 w)
    {Q:Exit→Act→World→Prop}(aw:A.tmps.size=90)(av:A.defers=[])(s0:A.tmps.getD 0 undef=.slice (some ⟨b,off,none⟩) len c)(s12:A.tmps.getD 12 undef=.int .i64 (i:Int))(s4:A.tmps.getD 4 undef=.pointer (some ⟨p,0,none⟩))(s2:A.tmps.getD 2 undef=lv.val)
    (hend:∀(u:Nat→Value)(g:Nat)(u7 v7:Sl) w',w0.heap.size≤g→LfBlk w' g u7.val v7.val→Gi (Nw D w0 g) w' u7 (joinI x.t r.wr live).t→Gb (Nw D w0 g) w' v7 x.l→Bl w0 w'→Q .normal (((Pl.pu A u [58,59,60,61,62,63,64,65,57,66,67]).put (some 16) (.pointer (some ⟨g,0,none⟩))).put (some 15) (.int .i64 (joinI x.t r.wr live).e)) w') :
    Pl.rg prog 9 f28 Q A w:=by
  have aa:Bl w0 w.drew:=hW.drew;have hA:=Pl.At.same (v:=lv.val) (d:=2) (Pl.At.same (v:=.pointer (some ⟨p,0,none⟩)) (d:=4) (Pl.At.same (v:=.int .i64 (i:Int)) (d:=12) (Pl.At.same (v:=.slice (some ⟨b,off,none⟩) len c) (d:=0) (Pl.At.here aw av) s0) s12) s4) s2;refine Pl.qb (S:=fun w'=>Bl w0 w') hA aa ?_;rw [show (Pl.fd 9 f28).size=14 by kernel_rfl];refine Pl.q0 0 58 (.slice (some ⟨b,off,none⟩) len c) (Pl.q1) (Pl.q2 (.tmp 0)) aa ?_;refine Pl.q0 1 59 (.int .i64 (i:Int)) (Pl.q1) (Pl.q2 (.tmp 12)) aa ?_;refine Pl.q0 2 60 (.pointer (some ⟨b,off+i*2,none⟩)) (Pl.q1) (Pl.qa 26 (.tmp 58) (.tmp 59) (Zde b off len c i hi)) aa ?_;refine Pl.q0 3 61 (lfV x.u x.v) (Pl.q1) (Pl.q4 101 (.tmp 60) (fun w' hS=>ZdI (Zaf ax hS) (Zaf ay hS))) aa ?_;refine Pl.q0 4 62 (.pointer (some ⟨p,3,none⟩)) (Pl.q1) (Pl.q6 39 (.tmp 4) 3 (ZrO p)) aa ?_;refine Pl.q0 5 63 (.int .i64 r.wr) (Pl.q1) (Pl.q4 3 (.tmp 62) (fun w' hS=>Zmp (hr.keep hS).c3)) aa ?_;refine Pl.q0 6 64 (lv.val) (Pl.q1) (Pl.q2 (.tmp 2)) aa ?_;refine Pl.qs 7 11 ?_ ?_
  · have an:Bl w0 w.drew:=aa;refine Pl.q_36 7 65 63 [(.tmp 61),(.tmp 63),(.tmp 64)] #[101,3,29] Zjx (Calls.mono (ZhH (D:=fun k=>D k∧k<w0.heap.size) w.drew x.u x.v x.t x.l ((hx.1.mono (fun k h hl=>⟨h,hl⟩)).below aa (Nat.le_refl _)) ((hx.2.mono (fun k h hl=>⟨h,hl⟩)).below aa (Nat.le_refl _)) r.wr lv live ((aq.mono (fun k h hl=>⟨h,hl⟩)).below aa (Nat.le_refl _)) ar) ?_);rintro e w7 ⟨am,u7,v7,rfl,aj,ai⟩;have ab:Bl w0 w7:=Zac aa am;refine⟨.tuple #[lfV u7 v7,.int .i64 (joinI x.t r.wr live).e],rfl,ab,?_⟩;refine Pl.q0 8 57 (.tuple #[lfV u7 v7,.int .i64 (joinI x.t r.wr live).e]) (Pl.q1) (Pl.q2 (.tmp 65)) ab ?_;refine Pl.q0 9 66 (lfV u7 v7) (Pl.q1) (Pl.qh (.tmp 57) 0 (fun w=>(ex2 _ _ w).1)) ab ?_;refine Pl.q0 10 67 (.int .i64 (joinI x.t r.wr live).e) (Pl.q1) (Pl.qh (.tmp 57) 1 (fun w=>(ex2 _ _ w).2)) ab ?_;have ae:Bl w0 (w7.alloc (.cells #[.slice none 0 0,.slice none 0 0] 101)):=ab.alloc ab.size _;have ao:=ZaB w7 (Sl.val Sl.nil) (Sl.val Sl.nil);have af:w0.heap.size≤w7.heap.size:=ab.size;refine Pl.qf 11 16 (.pointer (some ⟨w7.heap.size,0,none⟩)) (w7.alloc (.cells #[.slice none 0 0,.slice none 0 0] 101)) (Pl.q1) (Pl.qx 101 (ZcU w7)) ae ?_;have hz:w7.heap.size<w.drew.heap.size∨w7.heap.size=w7.heap.size:=.inr rfl;have al:=ZoY (D:=D) (w0:=w0) (wc:=w.drew) (w7:=w7) (g:=w7.heap.size) an.size hz;obtain⟨w9,ak,ap,ah⟩:=ZgK (w7.alloc (.cells #[.slice none 0 0,.slice none 0 0] 101)) w7.heap.size _ _ ao u7 v7;have ag:Bl w0 w9:=ae.trans (ah.below ae.size (fun k hk=>by rw [hk];exact af));have ad:=((aj.mono al).below (Zab w7 (.cells #[.slice none 0 0,.slice none 0 0] 101)) (Nat.le_refl _)).keep (Kept.frm ah (ZjB af));have ac:=((ai.mono al).below (Zab w7 (.cells #[.slice none 0 0,.slice none 0 0] 101)) (Nat.le_refl _)).keep (Kept.frm ah (ZjB af));refine Pl.ql 12 w9 (Pl.q1) (Pl.qm 101 (.tmp 16) (.tmp 66) ak) ag ?_;refine Pl.q0 13 15 (.int .i64 (joinI x.t r.wr live).e) (Pl.q1) (Pl.qd (.tmp 67)) ag ?_;refine Pl.q8 (fun A' hA'=>?_);exact Pl.en hA' hA [58,59,60,61,62,63,64,65,57,66,67,16,15] (hend hA'.fn _ _ _ _ af ap ad ac ag)
  · have ae:Bl w0 (w.drew.alloc (.cells #[.slice none 0 0,.slice none 0 0] 101)):=aa.alloc aa.size _;have ao:=ZaB w.drew (Sl.val Sl.nil) (Sl.val Sl.nil);have af:w0.heap.size≤w.drew.heap.size:=aa.size;refine Pl.qj 11 16 (.pointer (some ⟨w.drew.heap.size,0,none⟩)) (w.drew.alloc (.cells #[.slice none 0 0,.slice none 0 0] 101)) (Pl.qx 101 (ZcU w.drew)) ae ?_;have an:Bl w0 ((w.drew.alloc (.cells #[.slice none 0 0,.slice none 0 0] 101))):=ae;refine Pl.qe 7 65 63 [(.tmp 61),(.tmp 63),(.tmp 64)] #[101,3,29] (Pl.q1) Zjx (Calls.mono (ZhH (D:=fun k=>D k∧k<w0.heap.size) ((w.drew.alloc (.cells #[.slice none 0 0,.slice none 0 0] 101))) x.u x.v x.t x.l ((hx.1.mono (fun k h hl=>⟨h,hl⟩)).below ae (Nat.le_refl _)) ((hx.2.mono (fun k h hl=>⟨h,hl⟩)).below ae (Nat.le_refl _)) r.wr lv live ((aq.mono (fun k h hl=>⟨h,hl⟩)).below ae (Nat.le_refl _)) ar) ?_);rintro e w7 ⟨am,u7,v7,rfl,aj,ai⟩;have ab:Bl w0 w7:=Zac ae am;have au:=ao.below am;refine⟨.tuple #[lfV u7 v7,.int .i64 (joinI x.t r.wr live).e],rfl,ab,?_⟩;rw [Pl.qg 16 65];refine Pl.q0 8 57 (.tuple #[lfV u7 v7,.int .i64 (joinI x.t r.wr live).e]) (Pl.q1) (Pl.q2 (.tmp 65)) ab ?_;rw [Pl.qg 16 57];refine Pl.q0 9 66 (lfV u7 v7) (Pl.q1) (Pl.qh (.tmp 57) 0 (fun w=>(ex2 _ _ w).1)) ab ?_;rw [Pl.qg 16 66];refine Pl.q0 10 67 (.int .i64 (joinI x.t r.wr live).e) (Pl.q1) (Pl.qh (.tmp 57) 1 (fun w=>(ex2 _ _ w).2)) ab ?_;rw [Pl.qg 16 67];have hz:w.drew.heap.size<((w.drew.alloc (.cells #[.slice none 0 0,.slice none 0 0] 101))).heap.size∨w.drew.heap.size=w7.heap.size:=.inl (by rw [Zae];exact Nat.lt_succ_self _);have al:=ZoY (D:=D) (w0:=w0) (wc:=(w.drew.alloc (.cells #[.slice none 0 0,.slice none 0 0] 101))) (w7:=w7) (g:=w.drew.heap.size) an.size hz;obtain⟨w9,ak,ap,ah⟩:=ZgK w7 w.drew.heap.size _ _ au u7 v7;have ag:Bl w0 w9:=ab.trans (ah.below ab.size (fun k hk=>by rw [hk];exact af));have ad:=(aj.mono al).keep (Kept.frm ah (ZjB af));have ac:=(ai.mono al).keep (Kept.frm ah (ZjB af));refine Pl.ql 12 w9 (Pl.q1) (Pl.qm 101 (.tmp 16) (.tmp 66) ak) ag ?_;refine Pl.q0 13 15 (.int .i64 (joinI x.t r.wr live).e) (Pl.q1) (Pl.qd (.tmp 67)) ag ?_;refine Pl.q8 (fun A' hA'=>?_);exact Pl.en hA' hA [58,59,60,61,62,63,64,65,57,66,67,16,15] (hend hA'.fn _ _ _ _ af ap ad ac ag)
theorem ZqK {E:Nat→Prop}(w0 w:World)(gx g:Nat)(an:∀k,E k→k≠g)(ao:∀k,w0.heap.size≤k→E k)(y:Lb)(aq:LfBlk w0 gx y.u.val y.v.val)(ap:¬gx=g)(u0 v0:Value)(az:LfBlk w0 g u0 v0)(bk:g<w0.heap.size)(hy:Gi E w0 y.u y.t∧Gb E w0 y.v y.l)(bj:y.v.len≤900)(p:Nat)(r:Rw)(ra:Option Addr)(rn rc:Nat)(hr:RwBlk w0 p r (.slice ra rn rc))(ax:Fs w0 ra rn rc r.xs)(bh:r.fits)(hm:r.may=true)(bg:¬p=g)(hW:Bl w0 w)
    {Q:Exit→Act→World→Prop}(bi:A.tmps.size=90)(aw:A.defers=[])(s16:A.tmps.getD 16 undef=.pointer (some ⟨gx,0,none⟩))(s4:A.tmps.getD 4 undef=.pointer (some ⟨p,0,none⟩))(s13:A.tmps.getD 13 undef=.pointer (some ⟨g,0,none⟩))
    (hend:∀(u:Nat→Value)(v6:Sl)(l6:List Sb) w',LfBlk w' g y.u.val v6.val→Gi E w' y.u y.t→Gb E w' v6 l6→bss l6=(insA (bss y.l) (hpB r)).s→Frm (fun k=>k=g) w0 w'→Q .normal ((Pl.pu A u [74,75,76,77,73,78,79,80]).put (some 14) (.int .i64 (insA (bss y.l) (hpB r)).at_)) w') :
    Pl.rg prog 12 f28 Q A w:=by
  have ab:Bl w0 w.drew:=hW.drew;have ae:Frm (fun k=>k=g) w0 w.drew:=Frm.ofBelow ab;have hA:=Pl.At.same (v:=.pointer (some ⟨g,0,none⟩)) (d:=13) (Pl.At.same (v:=.pointer (some ⟨p,0,none⟩)) (d:=4) (Pl.At.same (v:=.pointer (some ⟨gx,0,none⟩)) (d:=16) (Pl.At.here bi aw) s16) s4) s13;refine Pl.qb (S:=fun w'=>Frm (fun k=>k=g) w0 w') hA ae ?_;rw [show (Pl.fd 12 f28).size=10 by kernel_rfl];refine Pl.q0 0 74 (lfV y.u y.v) (Pl.q1) (Pl.q4 101 (.tmp 16) (fun w' hS=>ZdI (LfBlk.c0 (aq.frmH hS ap)) (LfBlk.c1 (aq.frmH hS ap)))) ae ?_;refine Pl.q0 1 75 (r.val (.slice ra rn rc)) (Pl.q1) (Pl.q4 39 (.tmp 4) (fun w' hS=>ZbU p r (.slice ra rn rc) ⟨_,_,_,rfl⟩ w' ((hS.block p (Array.getElem?_eq_some_iff.1 hr).1 bg).trans hr))) ae ?_;refine Pl.qe 2 76 62 [(.tmp 75)] #[39] (Pl.q1) Zda (Calls.mono (Zbw r ra rn rc w.drew (ax.keep ab (Nat.le_refl _)) bh hm) ?_);rintro e w5 ⟨v5,rfl,bf,au⟩;have ac:Bl w0 w5:=Zac ab au;have ar:Frm (fun k=>k=g) w0 w5:=Frm.ofBelow ac;obtain⟨⟨ba,bn,bc⟩,rfl,ag⟩:=bf.slot (ZbD hm) (by rw [ZeN hm];decide);have bm:w0.heap.size≤w.drew.heap.size:=ab.size;have ah:Cm E w5 ⟨ba,bn,bc⟩ (hpB r):=ag.wide (fun k hk=>ao k (by omega));refine⟨.slice ba bn bc,rfl,ar,?_⟩;refine Pl.qe 3 77 61 [(.tmp 74),(.tmp 76)] #[101,107] (Pl.q1) Zev (Calls.mono (Ze1 (D:=E) w5 y.u y.v y.l (hy.2.below ac (Nat.le_refl _)) bj ⟨⟨ba,bn,bc⟩,hpB r⟩ ah) ?_);rintro e w6 ⟨av,v6,l6,rfl,ay,be⟩;have ad:Bl w0 w6:=Zac ac av;have aa:Frm (fun k=>k=g) w0 w6:=Frm.ofBelow ad;have bl:w0.heap.size≤w5.heap.size:=ac.size;have aj:Gb E w6 v6 l6:=ay.wide (fun k hk=>by rcases hk with h | h;exact h;exact ao k (by omega));refine⟨.tuple #[lfV y.u v6,.int .i64 (insA (bss y.l) (hpB r)).at_,.int .i64 (insA (bss y.l) (hpB r)).e],rfl,aa,?_⟩;refine Pl.q0 4 73 (.tuple #[lfV y.u v6,.int .i64 (insA (bss y.l) (hpB r)).at_,.int .i64 (insA (bss y.l) (hpB r)).e]) (Pl.q1) (Pl.q2 (.tmp 77)) aa ?_;refine Pl.q0 5 78 (lfV y.u v6) (Pl.q1) (Pl.qh (.tmp 73) 0 (fun w=>(ex3 _ _ _ w).1)) aa ?_;refine Pl.q0 6 79 (.int .i64 (insA (bss y.l) (hpB r)).at_) (Pl.q1) (Pl.qh (.tmp 73) 1 (fun w=>(ex3 _ _ _ w).2.1)) aa ?_;refine Pl.q0 7 80 (.int .i64 (insA (bss y.l) (hpB r)).e) (Pl.q1) (Pl.qh (.tmp 73) 2 (fun w=>(ex3 _ _ _ w).2.2)) aa ?_;have bb:=az.below ad;obtain⟨w9,am,bd,ai⟩:=ZgK w6 g _ _ bb y.u v6;have af:Frm (fun k=>k=g) w0 w9:=(Frm.ofBelow ad).trans ai (fun _ _ h=>h);have al:=(hy.1.below ad (Nat.le_refl _)).keep (Kept.frm ai (fun k hk e=>an k hk e));have ak:=aj.keep (Kept.frm ai (fun k hk e=>an k hk e));refine Pl.ql 8 w9 (Pl.q1) (Pl.qm 101 (.tmp 13) (.tmp 78) am) af ?_;refine Pl.q0 9 14 (.int .i64 (insA (bss y.l) (hpB r)).at_) (Pl.q1) (Pl.qd (.tmp 79)) af ?_;refine Pl.q8 (fun A' hA'=>?_);exact Pl.en hA' hA [74,75,76,77,73,78,79,80,14] (hend hA'.fn _ _ _ bd al ak be af)
def ZbM (D:Nat→Prop) (w:World) (P:Ph) (e:Ending) (w':World):Prop:=Bl w w'∧∃(s':Sl) (L':List Lb),e=.returned (.tuple #[.slice s'.a s'.len s'.cap,btV P.b,.int .i64 P.e])∧Gl (Old D w) w' s' L'∧lfs L'=P.l
theorem ZbM.same {D:Nat→Prop}{w':World}{L:List Lb}(h:Gl D w s L)(hb:Bl w w')(c:Int):ZbM D w ⟨lfs L,(0,0),c⟩ (.returned (.tuple #[.slice s.a s.len s.cap,btV (0,0),.int .i64 c])) w':=
 ⟨hb,s,L,rfl,(h.below hb (Nat.le_refl _)).wide (fun _ hk=>.inl hk),rfl⟩
theorem ZgE {l:List Lf}(h:r.may=false∨r.wr=0∨(findH l r.key).isSome=true):putH l r live=⟨l,(0,0),1⟩:=by unfold putH;rw [if_pos h]
theorem Zm8 {l:List Lf}(h:¬(r.may=false∨r.wr=0∨(findH l r.key).isSome=true))(hr:Zcf (hpB r) l 0=none):putH l r live=⟨l,(0,0),7⟩:=by unfold putH;rw [if_neg h,hr]
theorem Zoq {l:List Lf}(h:¬(r.may=false∨r.wr=0∨(findH l r.key).isSome=true))(hr:Zcf (hpB r) l 0=some i)(hj:(joinI (lf l i).itl r.wr live).e≠0):putH l r live=⟨l,(0,0),(joinI (lf l i).itl r.wr live).e⟩:=by
 unfold putH;rw [if_neg h,hr];simp only [if_neg hj]
theorem ZpV {l:List Lf}(h:¬(r.may=false∨r.wr=0∨(findH l r.key).isSome=true))(hr:Zcf (hpB r) l 0=some i)(hj:(joinI (lf l i).itl r.wr live).e=0):putH l r live=⟨l.set i (putL (lf l i) r live),((i:Int),(insA (lf l i).slots (hpB r)).at_),0⟩:=by
 unfold putH;rw [if_neg h,hr];simp only [if_pos hj]
theorem Zbf {fn:Func}{x y z:Nat}(hr:fn.results=#[.tmp x,.cell y 67,.tmp z]){b:Bt}(hq:BtBlk W q b)(tmps:Array Value)(u v:Value)(tx:tmps.getD x undef=u)(ty:tmps.getD y undef=.pointer (some ⟨q,0,none⟩))(tz:tmps.getD z undef=v) :
    (results fn tmps).run prog W=.ok (.tuple #[u,btV b,v]) W:=by
  have d0:=hq.c0;have d1:=hq.c1;(have tx2:tmps[x]?.getD undef=u:=by simpa using tx);(have ty2:tmps[y]?.getD undef=.pointer (some ⟨q,0,none⟩):=by simpa using ty);(have tz2:tmps[z]?.getD undef=v:=by simpa using tz);simp [results,hr,tx2,ty2,tz2,go_sem,d0,d1,btV]
theorem ZmS {D:Nat→Prop}(w:World)(s:Sl)(L:List Lb)(h:Gl D w s L)(hmay:∀f∈lfs L,MayL f)(r:Rw)(ra:Option Addr)(rn rc:Nat)(hr:Fs w ra rn rc r.xs)(hrf:r.fits)(lv:Sl)(live:List Int)(hlv:Gi D w lv live) :
    Calls prog 28 #[s.val,r.val (.slice ra rn rc),lv.val] w (ZbM D w (putH (lfs L) r live)):=by
  have hsf:∀(w:World) (a:Addr) (m:Mode) (x:Nat),(store a (.float .f64 x) m).run prog w=stored prog w a (.float .f64 x) m:=fun w a m x=>run_store prog w a _ m rfl
  obtain⟨X,hX⟩:∃X,X=putH (lfs L) r live:=⟨_,rfl⟩
  rw [← hX]
  have HXE:=Zh hX
  clear hX
  have hA1:=Zab w (.cells #[.float .f64 r.key,.bool r.dead,.slice ra rn rc,.int .i64 r.wr,.int .i64 r.cell,.int .i64 r.no] 39)
  have hA2:=Zab (w.alloc (.cells #[.float .f64 r.key,.bool r.dead,.slice ra rn rc,.int .i64 r.wr,.int .i64 r.cell,.int .i64 r.no] 39)) (.cells #[.int .i64 0,.int .i64 0] 67)
  have hR:RwBlk ((w.alloc (.cells #[.float .f64 r.key,.bool r.dead,.slice ra rn rc,.int .i64 r.wr,.int .i64 r.cell,.int .i64 r.no] 39)).alloc (.cells #[.int .i64 0,.int .i64 0] 67)) w.heap.size r (.slice ra rn rc):=(Zai w r (.slice ra rn rc)).keep hA2
  have hQ:BtBlk ((w.alloc (.cells #[.float .f64 r.key,.bool r.dead,.slice ra rn rc,.int .i64 r.wr,.int .i64 r.cell,.int .i64 r.no] 39)).alloc (.cells #[.int .i64 0,.int .i64 0] 67)) (w.heap.size+1) (0,0):=by
   have:=Zbv (w.alloc (.cells #[.float .f64 r.key,.bool r.dead,.slice ra rn rc,.int .i64 r.wr,.int .i64 r.cell,.int .i64 r.no] 39)) (0,0)
   rwa [Zae] at this
  have hA:=Zac hA1 hA2
  obtain⟨W0,hW0⟩:∃W0,W0=(w.alloc (.cells #[.float .f64 r.key,.bool r.dead,.slice ra rn rc,.int .i64 r.wr,.int .i64 r.cell,.int .i64 r.no] 39)).alloc (.cells #[.int .i64 0,.int .i64 0] 67):=⟨_,rfl⟩
  rw [← hW0] at hA hR hQ
  have hs0:W0.heap.size=w.heap.size+2:=by rw [hW0,Zae,Zae]
  have HR:=Zh hR
  have HQ:=Zh hQ
  have HA:=Zh hA
  have H:=Zh h
  have HLV:=Zh hlv
  have HFR:=Zh hr
  have HRF:=Zh hrf
  have HML:=Zh hmay
  have HS0:=Zh hs0
  have HFIND:=Zh (ZkY W0 s L (h.below hA (Nat.le_refl _)) r.key hrf.key)
  have HWE:=Zh hW0
  have r0:=hR.c0
  have hbig:s.len≤900:=h.big
  obtain⟨a,len,cap⟩:=s
  obtain⟨la,ln,lc⟩:=lv
  clear h hA hR hQ hA1 hA2 hlv hr hrf hmay hs0
  unfold Sl.val at *
  simp only at *
  rw [hW0] at r0
  clear hW0
  unfold Rw.val at *
  go_enter func28,ntmps28
  go_wp2_with fail
  rw [← HWE.o]
  refine HFIND.o.mono ?_
  intro e w1 ht
  obtain⟨th,FR,FB,hth,hre⟩:∃(th:Bool) (FR:Rx) (FB:Bt),th=(findH (lfs L) r.key).isSome∧e=.returned (.tuple #[FR.val,btV FB,.bool th]):=by
   cases hf:findH (lfs L) r.key with
   | none=>exact ⟨false,Rx.zero,(0,0),rfl,ht.2.1 hf⟩
   | some g =>
    obtain⟨_,x,_,hx,_⟩:=ht.2.2 g hf
    exact⟨true,x,_,rfl,hx⟩
  subst hre
  have HTH:=Zh hth
  have hb1:=ht.1
  have hs1:w.heap.size+2≤w1.heap.size:=by have:=hb1.size;rw [HS0.o] at this;exact this
  have hz1:=Zab w1 (.cells #[.float .f64 0,.bool false,.slice none 0 0,.int .i64 0,.int .i64 0,.int .i64 0] 39)
  have hz2:=Zab (w1.alloc (.cells #[.float .f64 0,.bool false,.slice none 0 0,.int .i64 0,.int .i64 0,.int .i64 0] 39)) (.cells #[.int .i64 0,.int .i64 0] 67)
  have hzr:RwBlk ((w1.alloc (.cells #[.float .f64 0,.bool false,.slice none 0 0,.int .i64 0,.int .i64 0,.int .i64 0] 39)).alloc (.cells #[.int .i64 0,.int .i64 0] 67)) w1.heap.size zeroR (.slice none 0 0):=(Zai w1 zeroR (.slice none 0 0)).keep hz2
  have hzq:BtBlk ((w1.alloc (.cells #[.float .f64 0,.bool false,.slice none 0 0,.int .i64 0,.int .i64 0,.int .i64 0] 39)).alloc (.cells #[.int .i64 0,.int .i64 0] 67)) (w1.heap.size+1) (0,0):=by
   have:=Zbv (w1.alloc (.cells #[.float .f64 0,.bool false,.slice none 0 0,.int .i64 0,.int .i64 0,.int .i64 0] 39)) (0,0)
   rwa [Zae] at this
  have hzs:((w1.alloc (.cells #[.float .f64 0,.bool false,.slice none 0 0,.int .i64 0,.int .i64 0,.int .i64 0] 39)).alloc (.cells #[.int .i64 0,.int .i64 0] 67)).heap.size=w1.heap.size+2:=by rw [Zae,Zae]
  have hst1:=Zen _ w1.heap.size _ _ hzr FR.r FR.a FR.n FR.c
  have hfr1:=ZaE ((w1.alloc (.cells #[.float .f64 0,.bool false,.slice none 0 0,.int .i64 0,.int .i64 0,.int .i64 0] 39)).alloc (.cells #[.int .i64 0,.int .i64 0] 67)) w1.heap.size FR.r (.slice FR.a FR.n FR.c)
  have hzq1:BtBlk (setRw ((w1.alloc (.cells #[.float .f64 0,.bool false,.slice none 0 0,.int .i64 0,.int .i64 0,.int .i64 0] 39)).alloc (.cells #[.int .i64 0,.int .i64 0] 67)) w1.heap.size FR.r (.slice FR.a FR.n FR.c)) (w1.heap.size+1) (0,0):=(hfr1.block _ hzq.lt (by omega)).trans hzq
  have hB1:Bl w1 (setRw ((w1.alloc (.cells #[.float .f64 0,.bool false,.slice none 0 0,.int .i64 0,.int .i64 0,.int .i64 0] 39)).alloc (.cells #[.int .i64 0,.int .i64 0] 67)) w1.heap.size FR.r (.slice FR.a FR.n FR.c)):=(Zac hz1 hz2).trans (hfr1.below (by omega) (fun k hk=>by rw [hk];exact Nat.le_refl _))
  generalize setRw ((w1.alloc (.cells #[.float .f64 0,.bool false,.slice none 0 0,.int .i64 0,.int .i64 0,.int .i64 0] 39)).alloc (.cells #[.int .i64 0,.int .i64 0] 67)) w1.heap.size FR.r (.slice FR.a FR.n FR.c)=Wa at *
  have hst2:=Zfm Wa (w1.heap.size+1) _ hzq1 FB
  have hfr2:=ZaD Wa (w1.heap.size+1) FB
  have hB2:Bl w1 (setBt Wa (w1.heap.size+1) FB):=hB1.trans (hfr2.below hB1.size (fun k hk=>by rw [hk];omega))
  generalize setBt Wa (w1.heap.size+1) FB=W2 at *
  have hs2:w1.heap.size≤W2.heap.size:=hB2.size
  have HST1:=Zh hst1
  have HST2:=Zh hst2
  unfold Rw.val at HST1
  unfold btV at HST2
  have HB2:=Zh (Zac (Zac HA.o hb1) hB2)
  have HR2:=Zh ((HR.o.keep hb1).keep hB2)
  have HQ2:=Zh ((HQ.o.keep hb1).keep hB2)
  have HF2:=Zh (HFR.o.keep HB2.o (Nat.le_refl _))
  have HMAYC:=Zh (fun m (hm:r.may=m)=>Zdn r m hm ra rn rc W2 HF2.o HRF.o)
  unfold Rw.val at HMAYC
  clear HWE ht hth hb1 hz1 hz2 hzr hzq hzs hst1 hfr1 hzq1 hB1 hst2 hfr2 hB2 HFIND r0
  have r0:=HR2.o.c0
  have r1:=HR2.o.c1
  have r2:=HR2.o.c2
  have r3:=HR2.o.c3
  have r4:=HR2.o.c4
  have r5:=HR2.o.c5
  unfold Rx.val Rw.val btV
  go_wp2_with (first | refine Zad _ rfl rfl 39 (.tmp 9) (.tmp 22) rfl (.pointer (some ⟨w1.heap.size,0,none⟩)) (.agg #[.float .f64 FR.r.key,.bool FR.r.dead,.slice FR.a FR.n FR.c,.int .i64 FR.r.wr,.int .i64 FR.r.cell,.int .i64 FR.r.no]) rfl rfl Wa HST1.o ?_ | refine Zad _ rfl rfl 67 (.tmp 10) (.tmp 23) rfl (.pointer (some ⟨w1.heap.size+1,0,none⟩)) (.agg #[.int .i64 FB.1,.int .i64 FB.2]) rfl rfl W2 HST2.o ?_)
  cases hm:r.may with
  | false =>
   refine(HMAYC.o false hm).mono ?_
   rintro e w5 ⟨rfl,hb5⟩
   have HBR:=Zh (Zac HB2.o hb5)
   have HQ5:=Zh (HQ2.o.keep hb5)
   have hno:r.may=false∨r.wr=0∨(findH (lfs L) r.key).isSome=true:=.inl hm
   clear hb5
   have HD:=Zh (HXE.o.trans (ZgE hno))
   have HSTB:=Zh (Zfm w5 (w.heap.size+1) _ HQ5.o (0,0))
   have HQE:=Zh (ZaW HQ5.o (0,0))
   have HBE:Hi (Bl w (setBt w5 (w.heap.size+1) (0,0))):=HBR.o.trans ((ZaD w5 (w.heap.size+1) (0,0)).below (Nat.le_trans (by omega) HBR.o.size) (fun k hk=>by rw [hk];omega))
   generalize setBt w5 (w.heap.size+1) (0,0)=WE at *
   unfold btV at HSTB
   simp only at HSTB
   clear hno r0 r1 r2 r3 r4 r5
   go_wp2_with (refine Zad _ rfl rfl 67 (.tmp 7) (.tmp 37) rfl (.pointer (some ⟨w.heap.size+1,0,none⟩)) (.agg #[.int .i64 0,.int .i64 0]) rfl rfl WE HSTB.o ?_)
   refine bodyPost_ret (Zbf rfl HQE.o _ _ _ rfl rfl rfl) rfl ?_
   rw [HD.o]
   exact ZbM.same H.o HBE.o 1
  | true =>
   refine(HMAYC.o true hm).mono ?_
   rintro e w5 ⟨rfl,hb5⟩
   have HBR:=Zh (Zac HB2.o hb5)
   have HQ5:=Zh (HQ2.o.keep hb5)
   have HR5:=Zh (HR2.o.keep hb5)
   have hs5:W2.heap.size≤w5.heap.size:=hb5.size
   clear hb5 r0 r1 r2 r3 r4 r5 HMAYC
   have r3:=HR5.o.c3
   by_cases hw0:r.wr=0
   · have hw0i:(r.wr:Int)=0:=hw0
     have hno:r.may=false∨r.wr=0∨(findH (lfs L) r.key).isSome=true:=.inr (.inl hw0)
     have HD:=Zh (HXE.o.trans (ZgE hno))
     have HSTB:=Zh (Zfm w5 (w.heap.size+1) _ HQ5.o (0,0))
     have HQE:=Zh (ZaW HQ5.o (0,0))
     have HBE:Hi (Bl w (setBt w5 (w.heap.size+1) (0,0))):=HBR.o.trans ((ZaD w5 (w.heap.size+1) (0,0)).below (Nat.le_trans (by omega) HBR.o.size) (fun k hk=>by rw [hk];omega))
     generalize setBt w5 (w.heap.size+1) (0,0)=WE at *
     unfold btV at HSTB
     simp only at HSTB
     clear hno
     go_wp2_with (refine Zad _ rfl rfl 67 (.tmp 7) (.tmp 37) rfl (.pointer (some ⟨w.heap.size+1,0,none⟩)) (.agg #[.int .i64 0,.int .i64 0]) rfl rfl WE HSTB.o ?_)
     refine bodyPost_ret (Zbf rfl HQE.o _ _ _ rfl rfl rfl) rfl ?_
     rw [HD.o]
     exact ZbM.same H.o HBE.o 1
   · have hw0i:¬(r.wr:Int)=0:=hw0
     cases th with
     | true =>
      have hno:r.may=false∨r.wr=0∨(findH (lfs L) r.key).isSome=true:=.inr (.inr HTH.o.symm)
      have HD:=Zh (HXE.o.trans (ZgE hno))
      have HSTB:=Zh (Zfm w5 (w.heap.size+1) _ HQ5.o (0,0))
      have HQE:=Zh (ZaW HQ5.o (0,0))
      have HBE:Hi (Bl w (setBt w5 (w.heap.size+1) (0,0))):=HBR.o.trans ((ZaD w5 (w.heap.size+1) (0,0)).below (Nat.le_trans (by omega) HBR.o.size) (fun k hk=>by rw [hk];omega))
      generalize setBt w5 (w.heap.size+1) (0,0)=WE at *
      unfold btV at HSTB
      simp only at HSTB
      clear hno
      go_wp2_with (refine Zad _ rfl rfl 67 (.tmp 7) (.tmp 37) rfl (.pointer (some ⟨w.heap.size+1,0,none⟩)) (.agg #[.int .i64 0,.int .i64 0]) rfl rfl WE HSTB.o ?_)
      refine bodyPost_ret (Zbf rfl HQE.o _ _ _ rfl rfl rfl) rfl ?_
      rw [HD.o]
      exact ZbM.same H.o HBE.o 1
     | false =>
      have hok:¬(r.may=false∨r.wr=0∨(findH (lfs L) r.key).isSome=true):=by
       rintro (h | h | h)
       · rw [hm] at h;cases h
       · exact hw0 h
       · have:=HTH.o;rw [h] at this;cases this
      have HOK:=Zh hok
      have HM:=Zh hm
      have hlen:(lfs L).length=len:=by rw [Zbh];exact H.o.len
      have HLN:=Zh hlen
      clear hok hm hlen HTH
      go_wp2_with fail
      go_loopw [12] (fun iv wr=>∃i:Nat,i≤len∧iv=.int .i64 (i:Nat)∧Hi (∀j,j<i→(insA (lf (lfs L) j).slots (hpB r)).e≠0)∧Hi (Bl w5 wr)) (fun iv _=>len-(intOf iv).toNat)
      case atStart=>exact ⟨0,Nat.zero_le _,rfl,(fun j hj=>absurd hj (Nat.not_lt_zero _)),Below.refl _ _⟩
      case round =>
       obtain⟨i,hi,rfl,hno,hWr⟩:=hrel
       have HBR2:=Zh (Zac HBR.o hWr.o)
       have HQR:=Zh (HQ5.o.keep hWr.o)
       have HRR:=Zh (HR5.o.keep hWr.o)
       have hsr:w5.heap.size≤wr.heap.size:=hWr.o.size
       rcases Nat.lt_or_ge i len with hlt | hge
       · have j1:(i:Int)<(len:Int):=by omega
         have HGW:=Zh (H.o.below HBR2.o (Nat.le_refl _))
         obtain⟨b,off,ha,c0,c1⟩:=HGW.o.cell i hlt
         replace ha:a=some ⟨b,off,none⟩:=ha
         subst ha
         have hit:=HGW.o.at (i:=i) hlt
         have hit0:=H.o.at (i:=i) hlt
         have hlf:=ZfH L i
         have hml:=HML.o _ (ZcA (l:=lfs L) (i:=i) (by rw [HLN.o];exact hlt))
         obtain⟨z,hz⟩:∃z,z=L.getD i Lb.zero:=⟨_,rfl⟩
         rw [← hz] at c0 c1 hit hit0 hlf
         rw [hlf] at hml
         have HIT0:=Zh hit0
         have hz4:z.u.len=4:=by have:=hit.1.len;have h4':z.t.length=4:=hml.itl.1;omega
         have hzv:z.v.len≤900:=by have:=hit.2.len;have h64:(bss z.l).length≤64:=hml.slots.1;rw [Zaj] at h64;omega
         have HLF:Hi (lf (lfs L) i=⟨z.t,bss z.l⟩):=hlf
         have HIT:=Zh hit
         have HC0:=Zh c0
         have HC1:=Zh c1
         have HFW:=Zh (HFR.o.keep HBR2.o (Nat.le_refl _))
         clear hit hit0 hlf hml hz c0 c1
         go_wp2_with fail
         refine Pl.q9 (ops:=Pl.find 7 ((f28.body).getD .skip)) ?_
         refine ZrT (D:=D) wr wr b off len cap i hlt z HC0.o HC1.o HIT.o hzv w.heap.size r ra rn rc HRR.o HFW.o HRF.o HM.o (Below.refl _ _) (by rfl) (by rfl) (by rfl) (by rfl) (by rfl) ?_
         intro u g w7 hg7 hbx hb7
         simp only [Pl.pu,List.foldl,Act.put,List.setIfInBounds_toArray,List.set_cons_zero,List.set_cons_succ]
         by_cases he:(insA (bss z.l) (hpB r)).e=0
         · have he1:¬((insA (bss z.l) (hpB r)).e≠0):=fun h=>h he
           have HROOM:Hi (Zcf (hpB r) (lfs L) 0=some i):=Zoz (by rw [HLN.o];exact hlt) (by rw [HLF.o];exact he) hno.o
           have HB7:=Zh (Zac HBR2.o hb7)
           have HR7:=Zh (HRR.o.keep hb7)
           have HQ7:=Zh (HQR.o.keep hb7)
           have HC07:=Zh (Zaf HC0.o hb7)
           have HC17:=Zh (Zaf HC1.o hb7)
           have hs7:wr.heap.size≤w7.heap.size:=hb7.size
           obtain⟨bu,bv,hbx⟩:=hbx
           have HBX:=Zh hbx
           have hgl:=hbx.lt
           have HIT7:Hi (Gi (fun k=>D k∧k<w.heap.size) w7 z.u z.t∧Gb (fun k=>D k∧k<w.heap.size) w7 z.v z.l):=⟨(HIT0.o.1.mono (E:=fun k=>D k∧k<w.heap.size) (fun k h hl=>⟨h,hl⟩)).below HB7.o (Nat.le_refl _),(HIT0.o.2.mono (E:=fun k=>D k∧k<w.heap.size) (fun k h hl=>⟨h,hl⟩)).below HB7.o (Nat.le_refl _)⟩
           have HLV7:Hi (Gi (fun k=>D k∧k<w.heap.size) w7 ⟨la,ln,lc⟩ live):=(HLV.o.mono (E:=fun k=>D k∧k<w.heap.size) (fun k h hl=>⟨h,hl⟩)).below HB7.o (Nat.le_refl _)
           clear hb7 hbx hno
           go_wp2_with fail
           refine Pl.q9 (ops:=Pl.find 9 ((f28.body).getD .skip)) ?_
           refine ZrU (D:=fun k=>D k∧k<w.heap.size) w7 w7 b off len cap i hlt z HC07.o HC17.o HIT7.o hz4 ⟨la,ln,lc⟩ live HLV7.o w.heap.size r ra rn rc HR7.o (Below.refl _ _) (by rfl) (by rfl) (by rfl) (by rfl) (by rfl) (by rfl) ?_
           intro u9 gx u7 v7 w9 hgx hkx hgi hgb hb9
           simp only [Pl.pu,List.foldl,Act.put,List.setIfInBounds_toArray,List.set_cons_zero,List.set_cons_succ]
           have HB9:=Zh (Zac HB7.o hb9)
           have HR9:=Zh (HR7.o.keep hb9)
           have HQ9:=Zh (HQ7.o.keep hb9)
           have HBX9:=Zh (HBX.o.below hb9)
           have hs9:w7.heap.size≤w9.heap.size:=hb9.size
           have HJE:Hi ((joinI z.t r.wr live).e=(joinI (lf (lfs L) i).itl r.wr live).e):=by show _=_;rw [HLF.o]
           by_cases hj:(joinI z.t r.wr live).e=0
           · have hj1:¬((joinI z.t r.wr live).e≠0):=fun h=>h hj
             have HD:=Zh (HXE.o.trans (ZpV HOK.o HROOM.o (by rw [← HJE.o];exact hj)))
             have HKX:=Zh hkx
             have hwide:∀k,Nw (fun k=>D k∧k<w.heap.size) w7 gx k→(k≠g∧k≠w.heap.size+1)∧Old D w k:=by intro k hk;rcases hk with h | h;exact ⟨⟨by have:=h.1.2;omega,by have:=h.1.2;omega⟩,.inl h.1.1⟩;exact ⟨⟨by omega,by omega⟩,.inr (by omega)⟩
             have HY:Hi (Gi (fun k=>(k≠g∧k≠w.heap.size+1)∧Old D w k) w9 u7 (joinI z.t r.wr live).t∧Gb (fun k=>(k≠g∧k≠w.heap.size+1)∧Old D w k) w9 v7 z.l):=⟨hgi.wide hwide,hgb.wide hwide⟩
             have HF9:=Zh (HFR.o.keep HB9.o (Nat.le_refl _))
             have hv7:v7.len≤900:=by clear hwide;have h1:=hgb.len;have h2:=HIT.o.2.len;omega
             clear hkx hgi hgb hb9 hwide
             go_wp2_with fail
             refine Pl.q9 (ops:=Pl.find 12 ((f28.body).getD .skip)) ?_
             refine ZqK (E:=fun k=>(k≠g∧k≠w.heap.size+1)∧Old D w k) w9 w9 gx g (fun k hk=>hk.1.1) (fun k hk=>⟨⟨by omega,by omega⟩,.inr (by omega)⟩) (Lb.mk u7 v7 (joinI z.t r.wr live).t z.l) HKX.o (by omega) _ _ HBX9.o (by omega) HY.o hv7 w.heap.size r ra rn rc HR9.o HF9.o HRF.o HM.o (by omega) (Below.refl _ _) (by rfl) (by rfl) (by rfl) (by rfl) (by rfl) ?_
             intro u12 v6 l6 wz hkz hgiz hgbz hl6 hfz
             simp only [Pl.pu,List.foldl,Act.put,List.setIfInBounds_toArray,List.set_cons_zero,List.set_cons_succ]
             have HBZ:Hi (Bl w wz):=HB9.o.trans (hfz.below (by omega) (fun k hk=>by rw [hk];omega))
             have HQZ:Hi (BtBlk wz (w.heap.size+1) (0,0)):=(hfz.block _ HQ9.o.lt (by omega)).trans HQ9.o
             have d0:=hkz.c0
             have d1:=hkz.c1
             have hsz:w9.heap.size≤wz.heap.size:=hfz.size
             have HSET:=Zh (ZmU (D:=fun k=>k≠w.heap.size+1∧Old D w k) wz ⟨some ⟨b,off,none⟩,len,cap⟩ L ((H.o.mono (E:=fun k=>k≠w.heap.size+1∧Old D w k) (fun k h hl=>⟨by omega,.inl h⟩)).below HBZ.o (Nat.le_refl _)) i hlt ⟨u7,v6,(joinI z.t r.wr live).t,l6⟩ ⟨hgiz.wide (fun k hk=>⟨hk.1.2,hk.2⟩),hgbz.wide (fun k hk=>⟨hk.1.2,hk.2⟩)⟩)
             have HEQ:Hi (((lfs L).set i (Lb.mk u7 v6 (joinI z.t r.wr live).t l6).lf)=X.l):=by
              show _=_
              rw [HD.o]
              unfold Lb.lf putL
              rw [hl6,HLF.o]
             rw [HEQ.o] at HSET
             have HXB:Hi (X.b=((i:Int),(insA (bss z.l) (hpB r)).at_)):=by show _=_;rw [HD.o,HLF.o]
             have HXC:Hi (X.e=0):=by show _=_;rw [HD.o]
             clear hkz hgiz hgbz hl6 hfz HEQ HD
             obtain⟨⟨ja,jn,jc⟩⟩:∃s:Sl,s=u7:=⟨_,rfl⟩
             obtain⟨ja,jn,jc⟩:=u7
             obtain⟨ya,yn,yc⟩:=v6
             unfold lfV Sl.val at HSET
             unfold Sl.val at d0 d1
             simp only at HSET d0 d1
             go_wp2_with fail
             refine HSET.o.mono ?_
             rintro e wq ⟨hbq,⟨sa,sn,sc⟩,L',rfl,hgl2,hls⟩
             have HBQ:=Zh (Zac HBZ.o hbq)
             have HQQ:=Zh (HQZ.o.keep hbq)
             have hsq:wz.heap.size≤wq.heap.size:=hbq.size
             have HSTB:=Zh (Zfm wq (w.heap.size+1) _ HQQ.o ((i:Int),(insA (bss z.l) (hpB r)).at_))
             have HQE:=Zh (ZaW HQQ.o ((i:Int),(insA (bss z.l) (hpB r)).at_))
             have HFE:=Zh (ZaD wq (w.heap.size+1) ((i:Int),(insA (bss z.l) (hpB r)).at_))
             have HBE:Hi (Bl w (setBt wq (w.heap.size+1) ((i:Int),(insA (bss z.l) (hpB r)).at_))):=HBQ.o.trans (HFE.o.below (by omega) (fun k hk=>by rw [hk];omega))
             have HGE:Hi (Gl (Old D w) (setBt wq (w.heap.size+1) ((i:Int),(insA (bss z.l) (hpB r)).at_)) ⟨sa,sn,sc⟩ L'):=((hgl2.wide (fun k hk=>by rcases hk with h | h;exact h;exact ⟨by omega,.inr (by omega)⟩):Gl (fun k=>k≠w.heap.size+1∧Old D w k) wq ⟨sa,sn,sc⟩ L').keep (Kept.frm HFE.o (fun k hk e=>hk.1 e))).wide (fun _ hk=>hk.2)
             have HLS:=Zh hls
             generalize setBt wq (w.heap.size+1) ((i:Int),(insA (bss z.l) (hpB r)).at_)=WE at *
             unfold btV at HSTB
             simp only at HSTB
             clear hbq hgl2 hls d0 d1
             unfold Sl.val
             go_wp2_with (refine Zad _ rfl rfl 67 (.tmp 7) (.tmp 87) rfl (.pointer (some ⟨w.heap.size+1,0,none⟩)) (.agg #[.int .i64 (i:Int),.int .i64 (insA (bss z.l) (hpB r)).at_]) rfl rfl WE HSTB.o ?_)
             refine bodyPost_ret (Zbf rfl HQE.o _ _ _ rfl rfl rfl) rfl ?_
             refine⟨HBE.o,⟨sa,sn,sc⟩,L',?_,HGE.o,HLS.o⟩
             rw [HXB.o,HXC.o]
             rfl
           · have hj1:(joinI z.t r.wr live).e≠0:=hj
             have HD:=Zh (HXE.o.trans (Zoq HOK.o HROOM.o (by rw [← HJE.o];exact hj)))
             rw [← HJE.o] at HD
             have HSTB:=Zh (Zfm w9 (w.heap.size+1) _ HQ9.o (0,0))
             have HQE:=Zh (ZaW HQ9.o (0,0))
             have HBE:Hi (Bl w (setBt w9 (w.heap.size+1) (0,0))):=HB9.o.trans ((ZaD w9 (w.heap.size+1) (0,0)).below (by omega) (fun k hk=>by rw [hk];omega))
             generalize setBt w9 (w.heap.size+1) (0,0)=WE at *
             unfold btV at HSTB
             simp only at HSTB
             clear hkx hgi hgb hb9
             go_wp2_with (refine Zad _ rfl rfl 67 (.tmp 7) (.tmp 71) rfl (.pointer (some ⟨w.heap.size+1,0,none⟩)) (.agg #[.int .i64 0,.int .i64 0]) rfl rfl WE HSTB.o ?_)
             refine bodyPost_ret (Zbf rfl HQE.o _ _ _ rfl rfl rfl) rfl ?_
             rw [HD.o]
             exact ZbM.same H.o HBE.o _
         · have he1:(insA (bss z.l) (hpB r)).e≠0:=he
           have HN2:Hi (∀j,j<i+1→(insA (lf (lfs L) j).slots (hpB r)).e≠0):=by
            intro j hj
            rcases Nat.lt_or_ge j i with h1 | h1
            · exact hno.o j h1
            · rw [show j=i by omega,HLF.o];exact he
           have HW2:=Zh (Zac hWr.o hb7)
           clear hb7 hbx hno
           go_wp2_with fail
           go_roundw
           case rel=>exact ⟨i+1,by omega,by go_num,HN2,HW2⟩
           case measure=>simp only [intOf];omega
       · have j1:¬(i:Int)<(len:Int):=by omega
         have hrn:Zcf (hpB r) (lfs L) 0=none:=Zc2.2 (fun m hm=>hno.o m (by rw [HLN.o] at hm;omega))
         have HD:=Zh (HXE.o.trans (Zm8 HOK.o hrn))
         have HSTB:=Zh (Zfm wr (w.heap.size+1) _ HQR.o (0,0))
         have HQE:=Zh (ZaW HQR.o (0,0))
         have HBE:Hi (Bl w (setBt wr (w.heap.size+1) (0,0))):=HBR2.o.trans ((ZaD wr (w.heap.size+1) (0,0)).below (by omega) (fun k hk=>by rw [hk];omega))
         generalize setBt wr (w.heap.size+1) (0,0)=WE at *
         unfold btV at HSTB
         simp only at HSTB
         clear hrn hno
         go_wp2_with (refine Zad _ rfl rfl 67 (.tmp 7) (.tmp 89) rfl (.pointer (some ⟨w.heap.size+1,0,none⟩)) (.agg #[.int .i64 0,.int .i64 0]) rfl rfl WE HSTB.o ?_)
         refine bodyPost_ret (Zbf rfl HQE.o _ _ _ rfl rfl rfl) rfl ?_
         rw [HD.o]
         exact ZbM.same H.o HBE.o 7
end Go.Proofs.YtiecfcjlhldhdaaGreat
