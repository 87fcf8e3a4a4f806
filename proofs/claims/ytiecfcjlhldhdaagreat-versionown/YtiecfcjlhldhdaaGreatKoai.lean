/-
  Lemmas.
-/
import Derived.Test.YtiecfcjlhldhdaaGreatKoah
namespace Go.Proofs.YtiecfcjlhldhdaaGreat
open Go.RowKit Go.Proofs.Tryz
set_option linter.unusedVariables false
set_option linter.unusedSimpArgs false
set_option maxRecDepth 100000
set_option maxHeartbeats 4000000
variable {w W W0 V w':World}{l:List Lf}{r was:Rw}{live:List Int}{s:Sl}{g q p B b1 o1 b2 o2 i:Nat}{b y:Bt}{x:Rx}{A:Act}{L:List Lb}{j:Bool}
theorem Zbi (w:World)(g:Nat)(r:Rw)(c:Value):Frm (fun k=>k=g) w (setRw w g r c):=
 ((((((Frm.refl (fun k=>k=g) w).setCell (p:=⟨g,0,none⟩) rfl _).setCell (p:=⟨g,1,none⟩) rfl _).setCell (p:=⟨g,2,none⟩) rfl _).setCell (p:=⟨g,3,none⟩) rfl _).setCell (p:=⟨g,4,none⟩) rfl _).setCell (p:=⟨g,5,none⟩) rfl _
theorem Zfy (w:World)(p:Nat)(X:Rw)(C:Value)(k:RwBlk w p X C)(r:Rw)(a:Option Addr)(n c:Nat):(Instr.storeAt 39 (.pointer (some ⟨p,0,none⟩)) (r.val (.slice a n c))).run prog w=.ok () (setRw w p r (.slice a n c)):=by
 have aa:∀(w:World) (a:Addr) (m:Mode) (x:Nat),(store a (.float .f64 x) m).run prog w=stored prog w a (.float .f64 x) m:=fun w a m x=>run_store prog w a _ m rfl;have c0:=k.c0;have c1:=k.c1;have c2:=k.c2;have c3:=k.c3;have c4:=k.c4;have c5:=k.c5;have f0:=k.fz;simp [go_sem,Instr.storeAt,stored,aa,c0,c1,c2,c3,c4,c5,f0,Rw.val,setRw]
def setBt (w:World) (g:Nat) (x:Bt):World:=(w.setCell ⟨g,0,none⟩ (.int .i64 x.1)).setCell ⟨g,1,none⟩ (.int .i64 x.2)
theorem ZaG (w:World)(g:Nat)(x:Bt):Frm (fun k=>k=g) w (setBt w g x):=((Frm.refl (fun k=>k=g) w).setCell (p:=⟨g,0,none⟩) rfl _).setCell (p:=⟨g,1,none⟩) rfl _
theorem ZaV (h:BtBlk w g y)(x:Bt):BtBlk (setBt w g x) g x:=by
 unfold BtBlk setBt at *;have h1:(w.setCell ⟨g,0,none⟩ (.int .i64 x.1)).heap[g]? = some (Obj.cells #[.int .i64 x.1,.int .i64 y.2] 67 (0,0)):=by
  rw [heap_setCell_same w g 0 _ 67 (.int .i64 x.1) h];rfl
 rw [heap_setCell_same _ g 1 _ 67 (.int .i64 x.2) h1];rfl
theorem Zfq (w:World)(p:Nat)(y:Bt)(k:BtBlk w p y)(x:Bt):(Instr.storeAt 67 (.pointer (some ⟨p,0,none⟩)) (btV x)).run prog w=.ok () (setBt w p x):=by
 have c0:=k.c0;have c1:=k.c1;have f0:=k.fz;simp [go_sem,Instr.storeAt,stored,c0,c1,f0,btV,setBt]
structure FS (B:Nat) (W0 V:World) (b1 o1 b2 o2 p q:Nat) (x:Rx) (y:Bt) (w:World):Prop where
  rx:RwAt w b1 o1 x
  y0:w.cell? ⟨b2,o2,none⟩=some (.int .i64 y.1)
  y1:w.cell? ⟨b2,o2+1,none⟩=some (.int .i64 y.2)
  kp:∃X C,RwBlk w p X C
  kq:∃Y,BtBlk w q Y
  e:Below B W0 w
  f:Frm (fun k=>k=p∨k=q) V w
  ne:b1≠p∧b1≠q∧b2≠p∧b2≠q∧p≠q∧B≤p∧B≤q
theorem RwAt.frm {b o:Nat}(h:RwAt w b o x)(hs:W.heap[b]? = w.heap[b]?):RwAt W b o x:=
 ⟨(Za4 hs _).trans h.c0,(Za4 hs _).trans h.c1,(Za4 hs _).trans h.c2,(Za4 hs _).trans h.c3,(Za4 hs _).trans h.c4,(Za4 hs _).trans h.c5⟩
theorem FS.frm (h:FS B W0 V b1 o1 b2 o2 p q x y w)(hg:g=p∨g=q)(f:Frm (fun k=>k=g) w W)(kp:∃X C,RwBlk W p X C)(kq:∃Y,BtBlk W q Y):FS B W0 V b1 o1 b2 o2 p q x y W:=by
 obtain⟨n1,n2,n3,n4,n5,n6,n7⟩:=h.ne;have l1:=World.block_lt_of_cell? _ _ h.rx.c0;have l2:=World.block_lt_of_cell? _ _ h.y0;have s1:W.heap[b1]? = w.heap[b1]?:=f.block b1 l1 (fun e=>by rcases hg with rfl | rfl <;> omega);have s2:W.heap[b2]? = w.heap[b2]?:=f.block b2 l2 (fun e=>by rcases hg with rfl | rfl <;> omega);have hB:B≤w.heap.size:=by
  obtain⟨_,_,k⟩:=h.kp;have:=(Array.getElem?_eq_some_iff.1 k).1;omega
 refine⟨h.rx.frm s1,(Za4 s2 _).trans h.y0,(Za4 s2 _).trans h.y1,kp,kq,h.e.trans (f.below hB (fun k hk=>by rcases hg with rfl | rfl <;> omega)),h.f.trans f (fun i _ hi=>by rcases hg with rfl | rfl;exact .inl hi;exact .inr hi),h.ne⟩
theorem FS.row (h:FS B W0 V b1 o1 b2 o2 p q x y w) :
    ∃W,(Instr.storeAt 39 (.pointer (some ⟨p,0,none⟩)) x.val).run prog w=.ok () W∧FS B W0 V b1 o1 b2 o2 p q x y W∧RwBlk W p x.r (.slice x.a x.n x.c):=by
  obtain⟨X,C,kp⟩:=h.kp;obtain⟨Y,kq⟩:=h.kq;have k':=ZaH kp x.r (.slice x.a x.n x.c);have f:=Zbi w p x.r (.slice x.a x.n x.c);exact⟨_,Zfy w p X C kp x.r x.a x.n x.c,h.frm (.inl rfl) f ⟨_,_,k'⟩ ⟨Y,(f.block q kq.lt (fun e=>h.ne.2.2.2.2.1 e.symm)).trans kq⟩,k'⟩
theorem FS.bt (h:FS B W0 V b1 o1 b2 o2 p q x y w){X:Rw}{C:Value}(kp:RwBlk w p X C) :
    ∃W,(Instr.storeAt 67 (.pointer (some ⟨q,0,none⟩)) (btV y)).run prog w=.ok () W∧FS B W0 V b1 o1 b2 o2 p q x y W∧RwBlk W p X C∧BtBlk W q y:=by
  obtain⟨Y,kq⟩:=h.kq;have k':=ZaV kq y;have f:=ZaG w q y;have kp':RwBlk (setBt w q y) p X C:=(f.block p (Array.getElem?_eq_some_iff.1 kp).1 (fun e=>h.ne.2.2.2.2.1 e)).trans kp;exact⟨_,Zfq w q Y kq y,h.frm (.inr rfl) f ⟨_,_,kp'⟩ ⟨_,k'⟩,kp',k'⟩
theorem FS.drew (h:FS B W0 V b1 o1 b2 o2 p q x y w):FS B W0 V b1 o1 b2 o2 p q x y w.drew:=
 ⟨⟨h.rx.c0,h.rx.c1,h.rx.c2,h.rx.c3,h.rx.c4,h.rx.c5⟩,h.y0,h.y1,h.kp,h.kq,h.e.drew,h.f.drew,h.ne⟩
theorem ZrA (B:Nat)(W0 V w:World)(b1 o1 len c1 b2 o2 len2 c2 p q i:Nat)(hi:i<len)(ag:i<len2)(x:Rx)(y:Bt)(hW:FS B W0 V b1 (o1+i*6) b2 (o2+i*2) p q x y w)
    {Q:Exit→Act→World→Prop}(ak:A.tmps.size=38)(af:A.defers=[])(s7:A.tmps.getD 7 undef=.slice (some ⟨b1,o1,none⟩) len c1)(s8:A.tmps.getD 8 undef=.slice (some ⟨b2,o2,none⟩) len2 c2)(s9:A.tmps.getD 9 undef=.int .i64 (i:Int))(s4:A.tmps.getD 4 undef=.pointer (some ⟨p,0,none⟩))(s5:A.tmps.getD 5 undef=.pointer (some ⟨q,0,none⟩))
    (hend:∀(u:Nat→Value) w',RwBlk w' p x.r (.slice x.a x.n x.c)→BtBlk w' q y→Below B W0 w'→Frm (fun k=>k=p∨k=q) V w'→Q .normal ((Pl.pu A u [28,29,30,31,32,33,34,35]).put (some 6) (.bool true)) w') :
    Pl.rg prog 6 f41 Q A w:=by
  have aa:FS B W0 V b1 (o1+i*6) b2 (o2+i*2) p q x y w.drew:=hW.drew;have hA:=Pl.At.same (v:=.pointer (some ⟨q,0,none⟩)) (d:=5) (Pl.At.same (v:=.pointer (some ⟨p,0,none⟩)) (d:=4) (Pl.At.same (v:=.int .i64 (i:Int)) (d:=9) (Pl.At.same (v:=.slice (some ⟨b2,o2,none⟩) len2 c2) (d:=8) (Pl.At.same (v:=.slice (some ⟨b1,o1,none⟩) len c1) (d:=7) (Pl.At.here ak af) s7) s8) s9) s4) s5;refine Pl.qb (S:=(FS B W0 V b1 (o1+i*6) b2 (o2+i*2) p q x y)) hA aa ?_;rw [show (Pl.fd 6 f41).size=11 by kernel_rfl];refine Pl.q0 0 28 (.slice (some ⟨b1,o1,none⟩) len c1) (Pl.q1) (Pl.q2 (.tmp 7)) aa ?_;refine Pl.q0 1 29 (.int .i64 (i:Int)) (Pl.q1) (Pl.q2 (.tmp 9)) aa ?_;refine Pl.q0 2 30 (.pointer (some ⟨b1,o1+i*6,none⟩)) (Pl.q1) (Pl.qa 49 (.tmp 28) (.tmp 29) (Zcb b1 o1 len c1 i hi)) aa ?_;refine Pl.q0 3 31 (x.val) (Pl.q1) (Pl.q3 39 (.tmp 30) (fun w' hS=>ZeW b1 (o1+i*6) x w' hS.rx)) aa ?_;refine Pl.q0 4 32 (.slice (some ⟨b2,o2,none⟩) len2 c2) (Pl.q1) (Pl.q2 (.tmp 8)) aa ?_;refine Pl.q0 5 33 (.int .i64 (i:Int)) (Pl.q1) (Pl.q2 (.tmp 9)) aa ?_;refine Pl.q0 6 34 (.pointer (some ⟨b2,o2+i*2,none⟩)) (Pl.q1) (Pl.qa 84 (.tmp 32) (.tmp 33) (Zg7 b2 o2 len2 c2 i ag)) aa ?_;refine Pl.q0 7 35 (btV y) (Pl.q1) (Pl.q3 67 (.tmp 34) (fun w' hS=>ZeT hS.y0 hS.y1)) aa ?_;obtain⟨W1,ac,ae,ah⟩:=aa.row;refine Pl.qg 8 W1 (Pl.q1) (Pl.qh 39 (.tmp 4) (.tmp 31) ac) ae ?_;obtain⟨W2,ad,ab,ai,aj⟩:=ae.bt ah;refine Pl.qg 9 W2 (Pl.q1) (Pl.qh 67 (.tmp 5) (.tmp 35) ad) ab ?_;refine Pl.q0 10 6 (.bool true) (Pl.q1) (Pl.qe (.const (.bool true))) ab ?_;refine Pl.q7 (fun A' hA'=>?_);exact Pl.en hA' hA [28,29,30,31,32,33,34,35,6] (hend hA'.fn _ ai aj ab.e ab.f)
theorem Zl4 {l:List Hr}{p:Hr→Bool}(hi:i<l.length)(hp:p l[i]=true)(hn:∀j,(hj:j<i)→p (l[j]'(by omega))=false):l.find? p=some l[i]:=by
 induction l generalizing i with
 | nil=>exact absurd hi (Nat.not_lt_zero _)
 | cons x l ih =>
  cases i with
  | zero =>
   simp only [List.getElem_cons_zero] at hp ⊢;rw [List.find?_cons,hp]
  | succ i =>
   have h0:p x=false:=hn 0 (Nat.zero_lt_succ _);rw [List.find?_cons,h0];simp only [List.getElem_cons_succ] at hp ⊢;exact ih (by simpa using hi) hp (fun j hj=>hn (j+1) (Nat.succ_lt_succ hj))
theorem Zjr {l:List Hr}{p:Hr→Bool}(hn:∀j,(hj:j<l.length)→p l[j]=false):l.find? p=none:=by
 rw [List.find?_eq_none];intro x hx;obtain⟨j,hj,rfl⟩:=List.getElem_of_mem hx;rw [hn j hj];decide
structure ZoQ (w w':World) (e:Ending) (r:Rw) (b:Bt):Prop where
  f:r.fits
  col:∃x:Rx,x.r=r∧e=.returned (.tuple #[x.val,btV b,.bool true])∧ColF w' x
def Zja (w:World) (l:List Lf) (k:Nat) (e:Ending) (w':World):Prop:=
  Bl w w'∧(findH l k=none→e=.returned (.tuple #[Zc5,btV (0,0),.bool false]))∧∀h,findH l k=some h→ZoQ w w' e h.r ((h.i:Int),(h.k:Int))
theorem ZcV {fn:Func}{x y z:Nat}(hr:fn.results=#[.cell x 39,.cell y 67,.tmp z]){a:Option Addr}{n c:Nat}(h:RwBlk W g r (.slice a n c))(hq:BtBlk W q b)(tmps:Array Value)(u:Value)(tx:tmps.getD x undef=.pointer (some ⟨g,0,none⟩))(ty:tmps.getD y undef=.pointer (some ⟨q,0,none⟩))(tz:tmps.getD z undef=u) :
    (results fn tmps).run prog W=.ok (.tuple #[r.val (.slice a n c),btV b,u]) W:=by
  have c0:=h.c0;have c1:=h.c1;have c2:=h.c2;have c3:=h.c3;have c4:=h.c4;have c5:=h.c5;have d0:=hq.c0;have d1:=hq.c1;(have tx2:tmps[x]?.getD undef=.pointer (some ⟨g,0,none⟩):=by simpa using tx);(have ty2:tmps[y]?.getD undef=.pointer (some ⟨q,0,none⟩):=by simpa using ty);(have tz2:tmps[z]?.getD undef=u:=by simpa using tz);simp [results,hr,tx2,ty2,tz2,go_sem,c0,c1,c2,c3,c4,c5,d0,d1,Rw.val,btV]
theorem ZlG {l:List Hr}(hi:i<l.length):(hrsB l).getD i (0,0)=((l[i].i:Int),(l[i].k:Int)):=by simp [hrsB,List.getD,hi]
theorem ZfY {D:Nat→Prop}(w:World)(s:Sl)(L:List Lb)(h:Gl D w s L)(key:Nat)(ay:key<18446744073709551616) :
    Calls prog 41 #[s.val,.float .f64 key] w (Zja w (lfs L) key):=by
  have cp:∀(w:World) (a:Addr) (m:Mode) (x:Nat),(store a (.float .f64 x) m).run prog w=stored prog w a (.float .f64 x) m:=fun w a m x=>run_store prog w a _ m rfl;have br:=Zab w (.cells #[.float .f64 0,.bool false,.slice none 0 0,.int .i64 0,.int .i64 0,.int .i64 0] 39);have au:=Zab (w.alloc (.cells #[.float .f64 0,.bool false,.slice none 0 0,.int .i64 0,.int .i64 0,.int .i64 0] 39)) (.cells #[.int .i64 0,.int .i64 0] 67);have hX:RwBlk ((w.alloc (.cells #[.float .f64 0,.bool false,.slice none 0 0,.int .i64 0,.int .i64 0,.int .i64 0] 39)).alloc (.cells #[.int .i64 0,.int .i64 0] 67)) w.heap.size zeroR (.slice none 0 0):=(Zai w zeroR (.slice none 0 0)).keep au;have hY:BtBlk ((w.alloc (.cells #[.float .f64 0,.bool false,.slice none 0 0,.int .i64 0,.int .i64 0,.int .i64 0] 39)).alloc (.cells #[.int .i64 0,.int .i64 0] 67)) (w.heap.size+1) (0,0):=by
   have:=Zbh (w.alloc (.cells #[.float .f64 0,.bool false,.slice none 0 0,.int .i64 0,.int .i64 0,.int .i64 0] 39)) (0,0);rwa [Zaf] at this
  obtain⟨W0,af⟩:∃W0,W0=(w.alloc (.cells #[.float .f64 0,.bool false,.slice none 0 0,.int .i64 0,.int .i64 0,.int .i64 0] 39)).alloc (.cells #[.int .i64 0,.int .i64 0] 67):=⟨_,rfl⟩;rw [← af] at hX hY;(have bm:Hi (Bl w W0):=by rw [af];exact Zad br au);(have be:W0.heap.size=w.heap.size+2:=by rw [af,Zaf,Zaf]);have HX:=Zh hX;have HY:=Zh hY;have an:=Zh (ZgL W0 s L (h.below bm.o (Nat.le_refl _)));have cb:=Zh be;have cc:=Zh af;obtain⟨a,len,cap⟩:=s;clear h br au hX hY af be;unfold Sl.val at *;simp only at *;go_enter func41,ntmps41;go_wp2_with fail;rw [← cc.o];refine an.o.mono ?_;rintro e w1 ⟨⟨ra,rn,rc⟩,⟨ba,bn,bc⟩,R,rfl,hT⟩;have bd:R.length=rn:=hT.i.rows.len;have cl:=Zh bd;(have am:Hi ((allH (lfs L)).length=rn):=by show _=_;rw [← Ze9 hT.r,bd]);have bi:Hi (rn=bn):=by
   show _=_;have:(hrsB (allH (lfs L))).length=bn:=hT.i.bts.len;rw [← this];simp [hrsB,am.o]
  have HT:=Zh hT;have bo:=Zh (Zad bm.o hT.i.below);have ag:=Zh (HX.o.keep hT.i.below);have ah:=Zh (HY.o.keep hT.i.below);have cf:rn≤9223372036854775807:=by
   have:=hT.i.rows.own.2;rcases this with ⟨h0,_⟩ | ⟨g,off,cur,ha,hb,hc,hd,he,hf⟩
   · have e:rn=0:=congrArg Sl.len h0;omega
   · have hm:rn≤rc:=hd;have cg:rc≤maxLen:=he;unfold maxLen at cg;omega
  clear hT bd;go_wp2_with fail;go_loopw [9] (fun iv wr=>∃i:Nat,i≤rn∧iv=.int .i64 (i:Nat)∧wr=w1∧Hi (∀j,j<i→(Fl.key (rk R j) == Fl.key key)=false)) (fun iv _=>rn-(intOf iv).toNat)
  case atStart=>exact ⟨0,Nat.zero_le _,rfl,rfl,fun j hj=>absurd hj (Nat.not_lt_zero _)⟩
  case round =>
   obtain⟨i,hi,rfl,rfl,ae⟩:=hrel;rcases Nat.lt_or_ge i rn with aa | cm
   · (have j1:(i:Int)<(rn:Int):=by omega);have ak:=HT.o.i.rows.rz;obtain⟨b1,o1,bb,hx⟩:=ak.at' i aa;replace bb:ra=some ⟨b1,o1,none⟩:=bb;subst bb;have cj:=(ak.fits _ (ak.mem aa)).key;have c0:=hx.c0;have bl:=Zh hx;have al:=Zh (Zer (rk R i) key cj ay wr);have ch:(R.getD i Rx.zero).r.key=rk R i:=rfl;rw [ch] at c0;have ck:=Zh (Zcb b1 o1 rn rc i aa);clear ak hx;go_wp2_with fail;refine al.o.mono ?_;rintro e w2 ⟨rfl,ci⟩;obtain rfl:=ci.symm;cases hq:(Fl.key (rk R i) == Fl.key key) with
     | false =>
      have ca:Hi (∀j,j<i+1→(Fl.key (rk R j) == Fl.key key)=false):=by
       intro j hj;rcases Nat.lt_or_ge j i with h1 | h1
       · exact ae.o j h1
       · rw [show j=i by omega];exact hq
      clear hq ae al;go_wp2;go_roundw;exact ⟨i+1,by omega,by go_num,trivial,ca⟩;simp only [intOf];omega
     | true =>
      (have ai:i<(allH (lfs L)).length:=by rw [am.o];exact aa);have ax:findH (lfs L) key=some (allH (lfs L))[i]:=by
       refine Zl4 ai ?_ (fun j hj=>?_)
       · have:=Zgd HT.o.r ai;rw [← this];exact hq
       · have:=Zgd HT.o.r (show j<(allH (lfs L)).length by omega);rw [← this];exact ae.o j hj
      have aj:=Zgd HT.o.r ai;obtain⟨H1,av⟩:∃H1,H1=(allH (lfs L))[i]:=⟨_,rfl⟩;rw [← av] at ax aj;obtain⟨b2,o2,aw,bf,bg⟩:=ZcN.at HT.o.i.bts (show i<(Sl.mk ba bn bc).len by rw [← bi.o];exact aa);replace aw:ba=some ⟨b2,o2,none⟩:=aw;subst aw;rw [ZlG ai,← av] at bf bg;have ac:=HT.o.i.flt _ (HT.o.i.rows.rz.mem aa);have ad:=HT.o.i.rows.fits _ (HT.o.i.rows.rz.mem aa);obtain⟨x,hx⟩:∃x,x=R.getD i Rx.zero:=⟨_,rfl⟩;rw [← hx] at ac ad aj bl;have cn:W0.heap.size≤b1:=HT.o.i.rows.new b1 rfl;have co:W0.heap.size≤b2:=HT.o.i.new b2 rfl;have be:=cb.o;have bw:Hi (FS w.heap.size w wr b1 (o1+i*6) b2 (o2+i*2) w.heap.size (w.heap.size+1) x ((H1.i:Int),(H1.k:Int)) wr):=
       ⟨bl.o,bf,bg,⟨_,_,ag.o⟩,⟨_,ah.o⟩,bo.o,Frm.refl _ _,by refine ⟨?_,?_,?_,?_,?_,?_,?_⟩ <;> omega⟩
      have ap:=Zh ac;have bj:=Zh ax;have bk:=Zh aj;have aq:=Zh ad;(have az:i<bn:=by rw [← bi.o];exact aa);clear hq ae al bf bg ac ad ax aj hx av;go_wp2_with fail;refine Pl.q9 (ops:=Pl.fd 6 f41) ?_;refine ZrA w.heap.size w wr wr b1 o1 rn rc b2 o2 bn bc w.heap.size (w.heap.size+1) i aa az x ((H1.i:Int),(H1.k:Int)) bw.o (by rfl) (by rfl) (by rfl) (by rfl) (by rfl) (by rfl) (by rfl) ?_;intro u w3 k1 k2 hb bt;simp only [Pl.pu,List.foldl,Act.put,List.setIfInBounds_toArray,List.set];have bx:=Zh k1;have bz:=Zh k2;have ao:=Zh hb;have bu:Hi (ColF w3 x):=ap.o.frm bt (fun k hk C fr hc=>by
       rcases hk with rfl | rfl
       · have:=ag.o;rw [RwBlk,hc] at this;simp only [Option.some.injEq,Obj.cells.injEq] at this;exact absurd this.2.1 (by decide)
       · have:=ah.o;rw [BtBlk,hc] at this;simp only [Option.some.injEq,Obj.cells.injEq] at this;exact absurd this.2.1 (by decide))
      clear k1 k2 hb bt;go_wp2;refine bodyPost_ret (ZcV rfl bx.o bz.o _ _ rfl rfl rfl) rfl ?_;refine⟨ao.o,(fun h=>by rw [bj.o] at h;cases h),fun g hg=>?_⟩;rw [bj.o] at hg;cases hg;exact⟨bk.o ▸ aq.o,x,bk.o,rfl,bu.o⟩
   · (have j1:¬(i:Int)<(rn:Int):=by omega);have bs:findH (lfs L) key=none:=by
      refine Zjr (fun j hj=>?_);have:=Zgd HT.o.r hj;rw [← this];exact ae.o j (by rw [am.o] at hj;omega)
     have bv:=Zh bs;have ar:=Zh (Zfy wr w.heap.size _ _ ag.o zeroR none 0 0);have bp:=Zh (ZaH ag.o zeroR (.slice none 0 0));have bq:Hi (BtBlk (setRw wr w.heap.size zeroR (.slice none 0 0)) (w.heap.size+1) (0,0)):=((Zbi wr w.heap.size zeroR (.slice none 0 0)).block _ ah.o.lt (by omega)).trans ah.o;have bh:=Zh (Zak bo.o (Nat.le_refl _) zeroR (.slice none 0 0));generalize setRw wr w.heap.size zeroR (.slice none 0 0)=W2 at *;have ab:=Zh (Zfq W2 (w.heap.size+1) _ bq.o (0,0));have ce:=Zh (ZaV bq.o (0,0));have cd:Hi (RwBlk (setBt W2 (w.heap.size+1) (0,0)) w.heap.size zeroR (.slice none 0 0)):=((ZaG W2 (w.heap.size+1) (0,0)).block _ (Array.getElem?_eq_some_iff.1 bp.o).1 (by omega)).trans bp.o;have ao:Hi (Bl w (setBt W2 (w.heap.size+1) (0,0))):=bh.o.trans ((ZaG W2 (w.heap.size+1) (0,0)).below bh.o.size (fun k hk=>by rw [hk];omega));generalize setBt W2 (w.heap.size+1) (0,0)=W3 at *;clear bs ae;unfold Rw.val zeroR at ar;unfold btV at ab;simp only at ar ab;go_wp2_with (first | refine Zac _ rfl rfl 39 (.tmp 4) (.tmp 36) rfl (.pointer (some ⟨w.heap.size,0,none⟩)) (.agg #[.float .f64 0,.bool false,.slice none 0 0,.int .i64 0,.int .i64 0,.int .i64 0]) rfl rfl W2 ar.o ?_ | refine Zac _ rfl rfl 67 (.tmp 5) (.tmp 37) rfl (.pointer (some ⟨w.heap.size+1,0,none⟩)) (.agg #[.int .i64 0,.int .i64 0]) rfl rfl W3 ab.o ?_);refine bodyPost_ret (ZcV rfl cd.o ce.o _ _ rfl rfl rfl) rfl ?_;exact⟨ao.o,fun _=>rfl,fun g hg=>by rw [bv.o] at hg;cases hg⟩
def ZoR (w:World) (l:List Lf) (b:Bt) (e:Ending) (w':World):Prop:=
  Bl w w'∧(getH l b=none→e=.returned (.tuple #[Zc5,.bool false]))∧∀r,getH l b=some r→r.fits∧∃x:Rx,x.r=r∧e=.returned (.tuple #[x.val,.bool true])∧ColF w' x
theorem Zmx {D:Nat→Prop}(w:World)(s:Sl)(L:List Lb)(h:Gl D w s L)(y:Bt) :
    Calls prog 95 #[s.val,btV y] w (ZoR w (lfs L) y):=by
  have cm:∀(w:World) (a:Addr) (m:Mode) (x:Nat),(store a (.float .f64 x) m).run prog w=stored prog w a (.float .f64 x) m:=fun w a m x=>run_store prog w a _ m rfl;have br:=Zab w (.cells #[.int .i64 y.1,.int .i64 y.2] 67);have bd:=Zab (w.alloc (.cells #[.int .i64 y.1,.int .i64 y.2] 67)) (.cells #[.float .f64 0,.bool false,.slice none 0 0,.int .i64 0,.int .i64 0,.int .i64 0] 39);have hY:BtBlk ((w.alloc (.cells #[.int .i64 y.1,.int .i64 y.2] 67)).alloc (.cells #[.float .f64 0,.bool false,.slice none 0 0,.int .i64 0,.int .i64 0,.int .i64 0] 39)) w.heap.size y:=(Zbh w y).keep bd;have hX:RwBlk ((w.alloc (.cells #[.int .i64 y.1,.int .i64 y.2] 67)).alloc (.cells #[.float .f64 0,.bool false,.slice none 0 0,.int .i64 0,.int .i64 0,.int .i64 0] 39)) (w.heap.size+1) zeroR (.slice none 0 0):=by
   have:=Zai (w.alloc (.cells #[.int .i64 y.1,.int .i64 y.2] 67)) zeroR (.slice none 0 0);rwa [Zaf] at this
  obtain⟨W0,ak⟩:∃W0,W0=(w.alloc (.cells #[.int .i64 y.1,.int .i64 y.2] 67)).alloc (.cells #[.float .f64 0,.bool false,.slice none 0 0,.int .i64 0,.int .i64 0,.int .i64 0] 39):=⟨_,rfl⟩;rw [← ak] at hX hY;(have bl:Hi (Bl w W0):=by rw [ak];exact Zad br bd);(have bu:W0.heap.size=w.heap.size+2:=by rw [ak,Zaf,Zaf]);have HX:=Zh hX;have HY:=Zh hY;have ay:=Zh (ZgL W0 s L (h.below bl.o (Nat.le_refl _)));have ck:=Zh bu;have cc:=Zh ak;obtain⟨a,len,cap⟩:=s;clear h br bd hX hY ak bu;unfold Sl.val btV at *;simp only at *;go_enter func95,ntmps95;go_wp2_with fail;rw [← cc.o];refine ay.o.mono ?_;rintro e w1 ⟨⟨ra,rn,rc⟩,⟨ba,bn,bc⟩,R,rfl,hT⟩;have bh:R.length=rn:=hT.i.rows.len;have cj:=Zh bh;(have ax:Hi ((allH (lfs L)).length=rn):=by show _=_;rw [← Ze9 hT.r,bh]);have bi:Hi (rn=bn):=by
   show _=_;have:(hrsB (allH (lfs L))).length=bn:=hT.i.bts.len;rw [← this];simp [hrsB,ax.o]
  have HT:=Zh hT;have bm:=Zh (Zad bl.o hT.i.below);have bo:=Zh (HX.o.keep hT.i.below);have ce:=Zh (HY.o.keep hT.i.below);have cf:rn≤9223372036854775807:=by
   have:=hT.i.rows.own.2;rcases this with ⟨h0,_⟩ | ⟨g,off,cur,ha,hb,hc,hd,he,hf⟩
   · have e:rn=0:=congrArg Sl.len h0;omega
   · have hm:rn≤rc:=hd;have cg:rc≤maxLen:=he;unfold maxLen at cg;omega
  clear hT bh;go_wp2_with fail;go_loopw [8] (fun iv wr=>∃i:Nat,i≤rn∧iv=.int .i64 (i:Nat)∧Hi (Bl w1 wr)∧Hi (∀j,(hj:j<i)→(hl:j<(allH (lfs L)).length)→((((allH (lfs L))[j].i:Int) == y.1) && (((allH (lfs L))[j].k:Int) == y.2))=false)) (fun iv _=>rn-(intOf iv).toNat)
  case atStart=>exact ⟨0,Nat.zero_le _,rfl,Below.refl _ _,fun j hj=>absurd hj (Nat.not_lt_zero _)⟩
  case round =>
   obtain⟨i,hi,rfl,ab,ah⟩:=hrel;rcases Nat.lt_or_ge i rn with af | cl
   · (have j1:(i:Int)<(rn:Int):=by omega);(have ar:i<(allH (lfs L)).length:=by rw [ax.o];exact af);have bb:Hi (Zbg W0 wr ⟨ra,rn,rc⟩ ⟨ba,bn,bc⟩ R (allH (lfs L))):=⟨HT.o.i.keep ab.o,HT.o.r⟩;have ai:=Zh (bo.o.keep ab.o);have bq:=Zh (ce.o.keep ab.o);have ap:=Zh (Zad bm.o ab.o);obtain⟨b2,o2,bf,av,aw⟩:=ZcN.at bb.o.i.bts (show i<(Sl.mk ba bn bc).len by rw [← bi.o];exact af);replace bf:ba=some ⟨b2,o2,none⟩:=bf;subst bf;rw [ZlG ar] at av aw;have am:=Zgd bb.o.r ar;obtain⟨H1,be⟩:∃H1,H1=(allH (lfs L))[i]:=⟨_,rfl⟩;rw [← be] at av aw am;have an:=Zh be;have bp:=Zh av;have aj:=Zh aw;(have al:i<bn:=by rw [← bi.o];exact af);clear av aw be;go_wp2_with fail;refine Pl.q9 (ops:=Pl.fd 5 f95) ?_;cases hq:(((H1.i:Int) == y.1) && ((H1.k:Int) == y.2)) with
     | false =>
      refine Zqz wr wr b2 o2 bn bc i w.heap.size al ((H1.i:Int),(H1.k:Int)) y bp.o aj.o bq.o hq (Below.refl _ _) (by rfl) (by rfl) (by rfl) (by rfl) (by rfl) ?_;intro u w3 ac;simp only [Pl.pu,List.foldl,Act.put,List.setIfInBounds_toArray,List.set];have cb:Hi (∀j,(hj:j<i+1)→(hl:j<(allH (lfs L)).length)→((((allH (lfs L))[j].i:Int) == y.1) && (((allH (lfs L))[j].k:Int) == y.2))=false):=by
       intro j hj hl;rcases Nat.lt_or_ge j i with h1 | h1
       · exact ah.o j h1 hl
       · (obtain rfl:j=i:=by omega);rw [an.o] at hq;exact hq
      have aq:=Zh (Zad ab.o ac);clear ac hq ah am;go_wp2;go_roundw;exact ⟨i+1,by omega,by go_num,aq,cb⟩;simp only [intOf];omega
     | true =>
      refine Zq0 wr wr b2 o2 bn bc i w.heap.size al ((H1.i:Int),(H1.k:Int)) y bp.o aj.o bq.o hq (Below.refl _ _) (by rfl) (by rfl) (by rfl) (by rfl) (by rfl) ?_;intro u w3 ac;simp only [Pl.pu,List.foldl,Act.put,List.setIfInBounds_toArray,List.set];have bs:getH (lfs L) y=some H1.r:=by
       unfold getH;rw [Zl4 ar (by rw [← an.o];exact hq) (fun j hj=>ah.o j hj (by omega)),← an.o];rfl
      have ao:=bb.o.i.keep ac;have au:=ao.rows.rz;obtain⟨b1,o1,bg,hx⟩:=au.at' i af;replace bg:ra=some ⟨b1,o1,none⟩:=bg;subst bg;have ad:=ao.flt _ (au.mem af);have ae:=ao.rows.fits _ (au.mem af);obtain⟨x,bv⟩:∃x,x=R.getD i Rx.zero:=⟨_,rfl⟩;rw [← bv] at ad ae am hx;have aa:=ai.o.keep ac;have aq:=Zad ap.o ac;have ci:=Zh (ZeW b1 (o1+i*6) x w3 hx);have ch:=Zh (Zcb b1 o1 rn rc i af);have ag:=Zh (Zfy w3 (w.heap.size+1) _ _ aa x.r x.a x.n x.c);have cd:=Zh (ZaH aa x.r (.slice x.a x.n x.c));have bx:=Zh (Zak aq (Nat.le_succ _) x.r (.slice x.a x.n x.c));have bz:Hi (ColF (setRw w3 (w.heap.size+1) x.r (.slice x.a x.n x.c)) x):=ad.frm (Zbi w3 _ x.r _) (fun k hk C fr hc=>by
       subst hk;rw [RwBlk,hc] at aa;simp only [Option.some.injEq,Obj.cells.injEq] at aa;exact absurd aa.2.1 (by decide))
      generalize setRw w3 (w.heap.size+1) x.r (.slice x.a x.n x.c)=W4 at *;have bj:=Zh bs;have bk:=Zh am;have az:=Zh ae;have c0:=hx.c0;have c1:=hx.c1;have c2:=hx.c2;have c3:=hx.c3;have c4:=hx.c4;have c5:=hx.c5;clear ac hq ah am bs ao au ad ae bv aa aq hx an ar;unfold Rw.val at ag;go_wp2_with (refine Zac _ rfl rfl 39 (.tmp 4) (.tmp 29) rfl (.pointer (some ⟨w.heap.size+1,0,none⟩)) (.agg #[.float .f64 x.r.key,.bool x.r.dead,.slice x.a x.n x.c,.int .i64 x.r.wr,.int .i64 x.r.cell,.int .i64 x.r.no]) rfl rfl W4 ag.o ?_);refine bodyPost_ret (ZaN rfl cd.o _ _ rfl rfl ⟨_,_,_,rfl⟩) rfl ?_;refine⟨bx.o,(fun h=>by rw [bj.o] at h;cases h),fun r hr=>?_⟩;rw [bj.o] at hr;cases hr;exact⟨bk.o ▸ az.o,x,bk.o,rfl,bz.o⟩
   · (have j1:¬(i:Int)<(rn:Int):=by omega);have bt:getH (lfs L) y=none:=by
      unfold getH;rw [Zjr (fun j hj=>ah.o j (by rw [ax.o] at hj;omega) hj)];rfl
     have ai:=bo.o.keep ab.o;have ap:=Zad bm.o ab.o;have ag:=Zh (Zfy wr (w.heap.size+1) _ _ ai zeroR none 0 0);have aa:=Zh (ZaH ai zeroR (.slice none 0 0));have bw:=Zh (Zak ap (Nat.le_succ _) zeroR (.slice none 0 0));have ca:=Zh bt;generalize setRw wr (w.heap.size+1) zeroR (.slice none 0 0)=W3 at *;clear bt ah ai ap;unfold Rw.val zeroR at ag;simp only at ag;go_wp2_with (refine Zac _ rfl rfl 39 (.tmp 4) (.tmp 30) rfl (.pointer (some ⟨w.heap.size+1,0,none⟩)) (.agg #[.float .f64 0,.bool false,.slice none 0 0,.int .i64 0,.int .i64 0,.int .i64 0]) rfl rfl W3 ag.o ?_);refine bodyPost_ret (ZaN rfl aa.o _ _ rfl rfl ⟨_,_,_,rfl⟩) rfl ?_;exact⟨bw.o,fun _=>rfl,fun g hg=>by rw [ca.o] at hg;cases hg⟩
def Zcx:List Lf→List Lf→Bool
  | [],[]=>true
  | x :: l,y :: m=>Zcm x.itl x.slots y.itl y.slots && Zcx l m
  | _,_=>false
theorem ZcI : ∀ {l m : List Lf}, Zcx l m = true ↔ l = m
 | [], [] => by simp [Zcx]
 | [], _ :: _ => by simp [Zcx]
 | _ :: _, [] => by simp [Zcx]
 | ⟨t, s⟩ :: l, ⟨t', s'⟩ :: m => by
  simp only [Zcx, Bool.and_eq_true, ZbM, ZcI (l := l) (m := m), List.cons.injEq, Lf.mk.injEq]
theorem ZiH (l:List Lf):Zcx l l=true:=ZcI.2 rfl
theorem ZqC {m:List Lf}(hl:l.length=m.length)(h:∀i,i<l.length→lf l i=lf m i):l=m:=by
 refine List.ext_getElem hl (fun i h1 h2=>?_);have:=h i h1;rwa [ZcQ h1,ZcQ h2] at this
def Zf0 (l m:List Lf) (e:Ending):Prop:=e=.returned (.bool (Zcx l m))
theorem ZkU {D E:Nat→Prop}(w:World)(s s2:Sl)(L M:List Lb)(h:Gl D w s L)(h2:Gl E w s2 M) :
    Calls prog 56 #[s.val,s2.val] w fun e w'=>Zf0 (lfs L) (lfs M) e∧Bl w w':=by
  obtain⟨a,len,cap⟩:=s;obtain⟨a2,len2,cap2⟩:=s2;have H:=Zh h;have H2:=Zh h2;have av:len≤900:=h.big;have ap:len2≤900:=h2.big;(have HL:Hi ((lfs L).length=len):=by show _=_;rw [ZaP];exact h.len);(have al:Hi ((lfs M).length=len2):=by show _=_;rw [ZaP];exact h2.len);clear h h2;have am:Hi (lfs L≠lfs M→Zf0 (lfs L) (lfs M) (.returned (.bool false))):=by
   intro hn;unfold Zf0;cases hs:Zcx (lfs L) (lfs M)
   · rfl
   · exact absurd (ZcI.1 hs) hn
  unfold Sl.val;simp only;by_cases hl:len=len2
  · subst hl;go_enter func56,ntmps56;go_wp2_with fail;go_loopw [5] (fun iv wr=>∃i:Nat,i≤len∧iv=.int .i64 (i:Nat)∧Hi (∀j,j<i→lf (lfs L) j=lf (lfs M) j)∧Hi (Bl w wr)) (fun iv _=>len-(intOf iv).toNat)
    case atStart=>exact ⟨0,Nat.zero_le _,rfl,(fun j hj=>absurd hj (Nat.not_lt_zero _)),Below.refl _ _⟩
    case round =>
     obtain⟨i,hi,rfl,hs,hW⟩:=hrel;rcases Nat.lt_or_ge i len with ab | aw
     · (have j1:(i:Int)<(len:Int):=by omega);have hg:=H.o.below hW.o (Nat.le_refl _);have ak:=H2.o.below hW.o (Nat.le_refl _);obtain⟨b,off,ha,c0,c1⟩:=hg.cell i ab;obtain⟨b2,off2,aj,d0,d1⟩:=ak.cell i ab;replace ha:a=some ⟨b,off,none⟩:=ha;replace aj:a2=some ⟨b2,off2,none⟩:=aj;subst ha aj;have ah:=Zh (hg.at (i:=i) ab);have aa:=Zh (ak.at (i:=i) ab);have ad:=Zh c0;have ae:=Zh c1;have af:=Zh d0;have ag:=Zh d1;have hx:=Zdv L i;have hy:=Zdv M i;obtain⟨x,aq⟩:∃x,x=L.getD i Lb.zero:=⟨_,rfl⟩;obtain⟨y,ar⟩:∃y,y=M.getD i Lb.zero:=⟨_,rfl⟩;rw [← aq] at ah ad ae hx;rw [← ar] at aa af ag hy;have an:=Zh hx;have ao:=Zh hy;clear hg ak c0 c1 d0 d1 hx hy aq ar;go_wp2_with fail;refine Pl.q9 (ops:=Pl.fd 6 f56) ?_;cases hq:Zcm x.t (bss x.l) y.t (bss y.l) with
       | true =>
        refine Zpe (D:=D) (E:=E) wr wr b off len cap b2 off2 cap2 i ab x y ad.o ae.o af.o ag.o ah.o aa.o hq (Below.refl _ _) (by rfl) (by rfl) (by rfl) (by rfl) (by rfl) ?_;intro u w3 ac;simp only [Pl.pu,List.foldl,Act.put,List.setIfInBounds_toArray,List.set];have au:Hi (∀j,j<i+1→lf (lfs L) j=lf (lfs M) j):=by
         intro j hj;rcases Nat.lt_or_ge j i with h1 | h1
         · exact hs.o j h1
         · (obtain rfl:j=i:=by omega);rw [an.o,ao.o];have:=ZbM.1 hq;unfold Lb.lf;rw [this.1,this.2]
        have ai:=Zh (Zad hW.o ac);clear ac hq hs;go_wp2;go_roundw;exact ⟨i+1,by omega,by go_num,au,ai⟩;simp only [intOf];omega
       | false =>
        refine Zpd (D:=D) (E:=E) wr wr b off len cap b2 off2 cap2 i ab x y ad.o ae.o af.o ag.o ah.o aa.o hq (Below.refl _ _) (by rfl) (by rfl) (by rfl) (by rfl) (by rfl) ?_;intro u w3 ac;simp only [Pl.pu,List.foldl,Act.put,List.setIfInBounds_toArray,List.set];have HN:=Zh (am.o (fun e=>by
         (have h1:lf (lfs L) i=lf (lfs M) i:=by rw [e]);rw [an.o,ao.o] at h1;unfold Lb.lf at h1;simp only [Lf.mk.injEq] at h1;have:=(ZbM (t:=x.t) (s:=bss x.l) (t2:=y.t) (s2:=bss y.l)).2 h1;rw [hq] at this;cases this))
        have ai:=Zh (Zad hW.o ac);clear ac hq hs;go_wp2;go_ret;exact⟨HN.o,ai.o⟩
     · (have j1:¬(i:Int)<(len:Int):=by omega);have HY:Hi (Zf0 (lfs L) (lfs M) (.returned (.bool true))):=by
        show Zf0 _ _ _;unfold Zf0;rw [ZcI.2 (ZqC (by rw [HL.o,al.o]) (fun j hj=>hs.o j (by rw [HL.o] at hj;omega)))]
       clear hs;go_wp2;go_ret;exact⟨HY.o,hW.o⟩
  · (have i1:¬(len:Int)=(len2:Int):=by omega);have HN:=Zh (am.o (fun e=>hl (by rw [← HL.o,← al.o,e])));go_enter func56,ntmps56;go_wp2;go_ret;exact⟨HN.o,Below.refl _ _⟩
def Za5 (l:List Lb):List Value:=l.flatMap fun x=>[x.u.val,x.v.val]
theorem ZcA:∀l:List Lb,(Za5 l).length=l.length*2
 | []=>rfl
 | x :: l=>by
  have e:Za5 (x :: l)=[x.u.val,x.v.val] ++ Za5 l:=rfl
  rw [e,List.length_append,ZcA l,List.length_cons]
  simp only [List.length_cons,List.length_nil]
  omega
theorem Zgv (l m:List Lb):Za5 (l ++ m)=Za5 l ++ Za5 m:=by simp [Za5]
theorem ZdH (l:List Lb):∀u∈Za5 l,u.oneCell'=true:=by
 intro u hu;obtain⟨x,_,hx⟩:=List.mem_flatMap.1 hu;simp only [List.mem_cons,List.not_mem_nil,or_false] at hx;rcases hx with rfl | rfl <;> rfl
theorem Zc9:∀(l:List Lb)(j t:Nat),j<l.length→t<2→(Za5 l)[j*2+t]? = ([(l.getD j Lb.zero).u.val,(l.getD j Lb.zero).v.val]:List Value)[t]?
 | [],j,t,hj,_=>by simp at hj
 | x :: l,0,t,_,ht=>by
  have e:Za5 (x :: l)=[x.u.val,x.v.val] ++ Za5 l:=rfl
  rw [e,Nat.zero_mul,Nat.zero_add,List.getElem?_append_left (by simpa using ht)]
  rfl
 | x :: l,j+1,t,hj,ht=>by
  have e:Za5 (x :: l)=[x.u.val,x.v.val] ++ Za5 l:=rfl
  rw [e,List.getElem?_append_right (by simp only [List.length_cons,List.length_nil];omega)]
  simp only [List.length_cons,List.length_nil]
  rw [show (j+1)*2+t-(0+1+1)=j*2+t by omega]
  exact Zc9 l j t (by simpa using hj) ht
theorem Zf6:∀(l:List Lb)(i:Nat)(x:Lb),Za5 (l.set i x)=((Za5 l).set (i*2) x.u.val).set (i*2+1) x.v.val
 | [],i,x=>by simp [Za5]
 | y :: l,0,x=>rfl
 | y :: l,i+1,x=>by
  have e:Za5 (y :: l)=y.u.val :: y.v.val :: Za5 l:=rfl
  have e2:Za5 ((y :: l).set (i+1) x)=y.u.val :: y.v.val :: Za5 (l.set i x):=rfl
  rw [e,e2,Zf6 l i x,show (i+1)*2=i*2+1+1 by omega]
  rfl
theorem ZoF:(prog.info? 101).map (fun i=>(i.zero,i.size,i.bytes))=some (some (.agg #[.slice none 0 0,.slice none 0 0]),2,48):=by kernel_rfl
def OwnL (w:World) (s:Sl) (l:List Lb):Prop:=Own 101 2 w s (Za5 l)
theorem OwnL.len {l:List Lb}(h:OwnL w s l):l.length=s.len:=by
 have:=h.1;rw [ZcA] at this;omega
theorem OwnL.at {l:List Lb}(h:OwnL w s l){j:Nat}(hj:j<s.len):∃b off,s.a=some ⟨b,off,none⟩∧w.cell? ⟨b,off+j*2,none⟩=some (l.getD j Lb.zero).u.val∧w.cell? ⟨b,off+j*2+1,none⟩=some (l.getD j Lb.zero).v.val:=by
 rcases h.2 with ⟨h0,_⟩ | ⟨g,off,cur,ha,_⟩
 · rw [h0] at hj;exact absurd hj (Nat.not_lt_zero _)
 · (have hl:j<l.length:=by rw [h.len];exact hj);have e0:=Zc9 l j 0 hl (by decide);have e1:=Zc9 l j 1 hl (by decide);have k0:=Own.cell h ha _ _ e0;have k1:=Own.cell h ha _ _ e1;rw [Addr.add_lit] at k0 k1;exact⟨g,off,ha,by simpa using k0,by rw [Nat.add_assoc];simpa using k1⟩
theorem OwnL.gl {D:Nat→Prop}{l:List Lb}(h:OwnL w s l)(hm:s.len≤900)(hD:∀k,s.blk=some k→D k)(aa:∀x∈l,Gi D w x.u x.t∧Gb D w x.v x.l):Gl D w s l:=by
 refine⟨h.len,fun e=>?_,?_,hm,fun ad ha hl=>hD _ (by rw [Sl.blk,ha];rfl),fun i hi=>h.at hi,aa⟩
 · rcases h.2 with ⟨h0,_⟩ | ⟨g,off,cur,ha,_⟩
   · rw [h0];rfl
   · rw [ha] at e;cases e
 · rcases h.2 with ⟨h0,_⟩ | ⟨g,off,cur,ha,hc,hd,he,_⟩
   · rw [h0];exact Nat.le_refl _
   · exact he
theorem Gl.src {D:Nat→Prop}{l:List Lb}(h:Gl D w s l):Src prog 2 26 s.val s.len (Za5 l) w:=by
 obtain⟨a,m,c⟩:=s;have aa:l.length=m:=h.len;cases a with
 | none =>
  have hc:c=0:=h.nil rfl;(have hm:m=0:=by have:m≤c:=h.le;omega);subst hc hm;have hl:l=[]:=List.eq_nil_of_length_eq_zero aa;subst hl;exact Src.ofNil w underlying26 0
 | some ad =>
  refine Src.ofSlice _ underlying26 ad m c (Za5 l) (by rw [ZcA,aa]) (fun j u hj=>?_) (ZdH _);have ab:j<l.length*2:=by
   have:=(List.getElem?_eq_some_iff.1 hj).1;rwa [ZcA] at this
  (have hq:j / 2<m:=by rw [← aa];omega);obtain⟨b,off,ha,c0,c1⟩:=h.cell (j / 2) hq;cases ha;have hg:=Zc9 l (j / 2) (j % 2) (by rw [aa];exact hq) (Nat.mod_lt _ (by decide));rw [show j / 2*2+j % 2=j by omega] at hg;rw [hg] at hj;rw [Addr.add_lit];(have hm:j % 2=0∨j % 2=1:=by omega);rcases hm with e | e <;> rw [e] at hj <;> simp only [List.getElem?_cons_zero,List.getElem?_cons_succ,Option.some.injEq] at hj <;> subst hj
  · rw [show off+j=off+j / 2*2 by omega];exact c0
  · rw [show off+j=off+j / 2*2+1 by omega];exact c1
theorem OwnL.new0 (w:World):OwnL (w.alloc (.cells #[] 101)) ⟨some ⟨w.heap.size,0,none⟩,0,0⟩ []:=
 ⟨rfl,.inr ⟨w.heap.size,0,_,rfl,heap_alloc_new w _,by simp,Nat.le_refl _,by simp,rfl⟩⟩
theorem Zif {D:Nat→Prop}(w:World)(s:Sl)(l:List Lb)(h:Gl D w s l) :
    ∃s' W,(∀ty,(Builtin.append_ #[26,26] ty #[.slice (some ⟨w.heap.size,0,none⟩) 0 0,s.val]).run prog (w.alloc (.cells #[] 101))=.ok s'.val W)∧OwnL W s' l∧s'.len=s.len∧Bl w W∧∀k,s'.blk=some k→w.heap.size≤k:=by
  have hA:=Zab w (.cells #[] 101);obtain⟨s',W,ab,ho,aa,ad,ac⟩:=Za7 underlying26 ZoF rfl (by decide) _ ⟨some ⟨w.heap.size,0,none⟩,0,0⟩ [] (OwnL.new0 w) (fun u hu=>by cases hu) s.val s.len (Za5 l) (h.below hA (Nat.le_refl _)).src (by have:=h.big;show 0+s.len≤_;omega) 0;refine⟨s',W,fun ty=>ab,ho,by rw [aa];show 0+s.len=_;omega,hA.trans (ad.below hA.size (fun k e=>?_)),fun k e=>?_⟩
  · have:some w.heap.size=some k:=e;cases this;exact Nat.le_refl _
  · rcases ac with e' | ⟨e',_⟩
    · rw [e'] at e;have:some w.heap.size=some k:=e;cases this;exact Nat.le_refl _
    · rw [e'] at e;cases e;rw [Zaf];omega
theorem ZpM {off len cap:Nat}{l:List Lb}(h:OwnL w ⟨some ⟨g,off,none⟩,len,cap⟩ l)(i:Nat)(hi:i<len)(x:Lb) :
    ∃W,(Instr.storeAt 101 (.pointer (some ⟨g,off+i*2,none⟩)) (lfV x.u x.v)).run prog w=.ok () W∧OwnL W ⟨some ⟨g,off,none⟩,len,cap⟩ (l.set i x)∧Frm (fun k=>k=g) w W:=by
  obtain⟨b,o,ha,c0,c1⟩:=h.at (j:=i) hi;simp only [Option.some.injEq,Addr.mk.injEq,and_true] at ha;obtain⟨rfl,rfl⟩:=ha;have f0:∀o,w.frozen? ⟨g,o,none⟩=false:=fun o=>by
   rcases h.2 with ⟨h0,_⟩ | ⟨g',off',cur,ha,hg,_⟩
   · cases h0
   · simp only [Option.some.injEq,Addr.mk.injEq,and_true] at ha;obtain⟨rfl,rfl⟩:=ha;exact frozen_of_row w g _ cur _ hg
  have h1:=Own.setCell (Own.setCell h rfl (i*2) x.u.val) rfl (i*2+1) x.v.val;rw [← Zf6] at h1;refine⟨(w.setCell ⟨g,off+i*2,none⟩ x.u.val).setCell ⟨g,off+(i*2+1),none⟩ x.v.val,?_,h1,((Frm.refl (fun k=>k=g) w).setCell (p:=⟨g,off+i*2,none⟩) rfl _).setCell (p:=⟨g,off+(i*2+1),none⟩) rfl _⟩;unfold lfV Sl.val at *;rw [Nat.add_assoc] at c1;simp [go_sem,Instr.storeAt,stored,c0,c1,f0,Nat.add_assoc]
def LsIs (D:Nat→Prop) (w:World) (l:List Lf) (e:Ending) (w':World):Prop:=Bl w w'∧∃(s':Sl) (L':List Lb),e=.returned s'.val∧Gl (Old D w) w' s' L'∧lfs L'=l
theorem Zfl {D:Nat→Prop}(w:World)(s:Sl)(L:List Lb)(h:Gl D w s L)(i:Nat)(hi:i<s.len)(x:Lb)(hx:Gi D w x.u x.t∧Gb D w x.v x.l) :
    Calls prog 64 #[s.val,.int .i64 (i:Int),lfV x.u x.v] w (LsIs D w ((lfs L).set i x.lf)):=by
  have hA:=Zab w (.cells #[x.u.val,x.v.val] 101);have hk:=Zao w x.u.val x.v.val;obtain⟨s1,W1,ai,ho,ab,ae,ak⟩:=Zif (w.alloc (.cells #[x.u.val,x.v.val] 101)) s L (h.below hA (Nat.le_refl _));have ad:=Zad hA ae;(have ac:0<s1.len:=by omega);obtain⟨g,off,af⟩:∃g off,s1.a=some ⟨g,off,none⟩:=by
   obtain⟨b,o,ha,_⟩:=ho.at ac;exact⟨b,o,ha⟩
  have aq:=ak g (by rw [Sl.blk,af];rfl);rw [Zaf] at aq;obtain⟨a1,n1,c1⟩:=s1;simp only at af ab;subst af;subst ab;obtain⟨W2,am,al,aj⟩:=ZpM ho i hi x;have ag:LfBlk W1 w.heap.size x.u.val x.v.val:=hk.below ae;have aa:Bl w W2:=ad.trans (aj.below ad.size (fun k hk=>by rw [hk];omega));have HG:Hi (Gl (Old D w) W2 ⟨some ⟨g,off,none⟩,s.len,c1⟩ (L.set i x)):=by
   refine OwnL.gl al h.big (fun k hk=>?_) (fun y hy=>?_)
   · have:some g=some k:=hk;cases this;exact .inr (by omega)
   · rcases List.mem_or_eq_of_mem_set hy with h1 | rfl
     · exact⟨(h.it y h1).1.old aa,(h.it y h1).2.old aa⟩
     · exact⟨hx.1.old aa,hx.2.old aa⟩
  have an:=Zh aa;have ah:=Zh ai;have ao:=Zh am;have d0:=ag.c0;have d1:=ag.c1;have ar:=Zh (Zbr g off s.len c1 i hi);have ap:s.len≤900:=h.big;clear hA hk ai ho ae ad am al aj ag aa ak h hx ac;obtain⟨a,len,cap⟩:=s;obtain⟨⟨xa,xn,xc⟩,⟨ya,yn,yc⟩,xt,xl⟩:=x;unfold lfV Sl.val at *;simp only at *;rw [Zaf] at ah;go_enter func64,ntmps64;go_wp2_with (first | (at_builtin;refine Zax _ rfl 26 (.tmp 8) (.tmp 9) rfl (.slice (some ⟨w.heap.size+1,0,none⟩) 0 0) (.slice a len cap) (.slice (some ⟨g,off,none⟩) len c1) rfl rfl W1 ah.o ?_) | refine Zac _ rfl rfl 101 (.tmp 14) (.tmp 13) rfl (.pointer (some ⟨g,off+i*2,none⟩)) (.agg #[.slice xa xn xc,.slice ya yn yc]) rfl rfl W2 ao.o ?_);go_ret;exact⟨an.o,⟨some ⟨g,off,none⟩,len,c1⟩,_,rfl,HG.o,by rw [Zpq]⟩
theorem Gi.mono {D E:Nat→Prop}{v:Sl}{t:List Int}(h:Gi D w v t)(hE:∀k,D k→k<w.heap.size→E k):Gi E w v t:=by
 refine⟨h.len,h.nil,h.le,h.big,fun ad ha hl=>?_,h.cell⟩;obtain⟨b,off,hb,hc⟩:=h.cell 0 hl;rw [ha] at hb;cases hb;exact hE _ (h.home _ ha hl) (World.block_lt_of_cell? _ _ hc)
theorem Gb.mono {D E:Nat→Prop}{v:Sl}{l:List Sb}(h:Gb D w v l)(hE:∀k,D k→k<w.heap.size→E k):Gb E w v l:=by
 refine⟨h.len,h.nil,h.le,h.big,fun ad ha hl=>?_,h.cell,fun x hx=>⟨(h.bs x hx).1.mono hE,(h.bs x hx).2⟩⟩;obtain⟨b,off,hb,hc⟩:=h.cell 0 hl;rw [ha] at hb;cases hb;exact hE _ (h.home _ ha hl) (World.block_lt_of_cell? _ _ hc)
theorem Gl.mono {D E:Nat→Prop}(h:Gl D w s L)(hE:∀k,D k→k<w.heap.size→E k):Gl E w s L:=by
 refine⟨h.len,h.nil,h.le,h.big,fun ad ha hl=>?_,h.cell,fun x hx=>⟨(h.it x hx).1.mono hE,(h.it x hx).2.mono hE⟩⟩;obtain⟨b,off,hb,hc,_⟩:=h.cell 0 hl;rw [ha] at hb;cases hb;exact hE _ (h.home _ ha hl) (World.block_lt_of_cell? _ _ hc)
def Ap (g:Nat):Nat→Prop:=fun k=>k≠g
theorem Owns.slot {base:Nat}{v:Value}{xs:List Nat}(h:Owns w base v xs)(hx:Bytes xs)(hm:xs.length≤1000000):∃s:Sl,v=.slice s.a s.len s.cap∧Cm (fun k=>base≤k) w s xs:=by
 obtain⟨a,c,hv,hc⟩:=h.cameN hx rfl hm;refine⟨⟨a,xs.length,c⟩,hv,hc,fun ad ha hl=>?_⟩;rcases h.2 with ⟨e,h0⟩ | ⟨g,cp,cur,hv',hb,_⟩
 · have:xs.length=0:=h0;simp only at hl;omega
 · rw [hv] at hv';simp only [Value.slice.injEq] at hv';simp only at ha;rw [hv'.1] at ha;cases ha;exact hb
theorem ex3 (a b c:Value)(w:World):(Instr.extract (.tuple #[a,b,c]) 0).run prog w=.ok a w∧(Instr.extract (.tuple #[a,b,c]) 1).run prog w=.ok b w∧(Instr.extract (.tuple #[a,b,c]) 2).run prog w=.ok c w:=Zis a b c w
theorem ex2 (a b:Value)(w:World):(Instr.extract (.tuple #[a,b]) 0).run prog w=.ok a w∧(Instr.extract (.tuple #[a,b]) 1).run prog w=.ok b w:=⟨rfl,rfl⟩
theorem Zr9 (p:Nat)(w:World):(Instr.fieldAt 39 (.pointer (some ⟨p,0,none⟩)) 3).run prog w=.ok (.pointer (some ⟨p,3,none⟩)) w:=by simp [go_sem,Instr.fieldAt]
theorem Zr4 (p:Nat)(w:World):(Instr.fieldAt 67 (.pointer (some ⟨p,0,none⟩)) 1).run prog w=.ok (.pointer (some ⟨p,1,none⟩)) w:=by simp [go_sem,Instr.fieldAt]
theorem Zh3 {b o:Nat}{v:Int}(h:w.cell? ⟨b,o,none⟩=some (.int .i64 v)):(Instr.loadAt 3 (.pointer (some ⟨b,o,none⟩))).run prog w=.ok (.int .i64 v) w:=by simp [go_sem,h]
theorem LfBlk.frmH {F:Nat→Prop}{u v:Value}(k:LfBlk w p u v)(f:Frm F w w')(hn:¬F p):LfBlk w' p u v:=(f.block p k.lt hn).trans k
theorem Ze1:∀args w,(callFunc 61 args).run prog w=.ok (.enter 61 args) w:=Pl.qj func61
theorem Zjk:∀args w,(callFunc 63 args).run prog w=.ok (.enter 63 args) w:=Pl.qj func63
theorem Zjl:∀args w,(callFunc 96 args).run prog w=.ok (.enter 96 args) w:=Pl.qj func96
theorem ZrE {D:Nat→Prop}(w0 w:World)(b off len c i:Nat)(hi:i<len)(x:Lb)(bd:w0.cell? ⟨b,off+i*2,none⟩=some x.u.val)(be:w0.cell? ⟨b,off+i*2+1,none⟩=some x.v.val)(hx:Gi D w0 x.u x.t∧Gb D w0 x.v x.l)(ar:x.v.len≤900)(p:Nat)(r:Rw)(ra:Option Addr)(rn rc:Nat)(hr:RwBlk w0 p r (.slice ra rn rc))(au:Fs w0 ra rn rc r.xs)(ax:r.fits)(hm:r.may=true)(hW:Bl w0 w)
    {Q:Exit→Act→World→Prop}(bb:A.tmps.size=90)(az:A.defers=[])(s0:A.tmps.getD 0 undef=.slice (some ⟨b,off,none⟩) len c)(s12:A.tmps.getD 12 undef=.int .i64 (i:Int))(s4:A.tmps.getD 4 undef=.pointer (some ⟨p,0,none⟩))
    (hend:∀(u:Nat→Value)(g:Nat) w',w0.heap.size≤g→(∃u v,LfBlk w' g u v)→Bl w0 w'→Q .normal ((((Pl.pu A u [45,46,47,48,49,50,51,44,52,53,54]).put (some 13) (.pointer (some ⟨g,0,none⟩))).put (some 14) (.int .i64 (insA (bss x.l) (hpB r)).at_)).put (some 15) (.int .i64 (insA (bss x.l) (hpB r)).e)) w') :
    Pl.rg prog 7 f28 Q A w:=by
  have ac:Bl w0 w.drew:=hW.drew;have hA:=Pl.At.same (v:=.pointer (some ⟨p,0,none⟩)) (d:=4) (Pl.At.same (v:=.int .i64 (i:Int)) (d:=12) (Pl.At.same (v:=.slice (some ⟨b,off,none⟩) len c) (d:=0) (Pl.At.here bb az) s0) s12) s4;refine Pl.qb (S:=fun w'=>Bl w0 w') hA ac ?_;rw [show (Pl.fd 7 f28).size=15 by kernel_rfl];refine Pl.q0 0 45 (.slice (some ⟨b,off,none⟩) len c) (Pl.q1) (Pl.q2 (.tmp 0)) ac ?_;refine Pl.q0 1 46 (.int .i64 (i:Int)) (Pl.q1) (Pl.q2 (.tmp 12)) ac ?_;refine Pl.q0 2 47 (.pointer (some ⟨b,off+i*2,none⟩)) (Pl.q1) (Pl.qa 26 (.tmp 45) (.tmp 46) (Zbr b off len c i hi)) ac ?_;refine Pl.q0 3 48 (lfV x.u x.v) (Pl.q1) (Pl.q3 101 (.tmp 47) (fun w' hS=>Zbo (Zae bd hS) (Zae be hS))) ac ?_;refine Pl.q0 4 49 (r.val (.slice ra rn rc)) (Pl.q1) (Pl.q3 39 (.tmp 4) (fun w' hS=>Zb9 p r (.slice ra rn rc) ⟨_,_,_,rfl⟩ w' (hr.keep hS))) ac ?_;refine Pl.qt 5 11 ?_ ?_
  · refine Pl.qx 5 50 62 [(.tmp 49)] #[39] ZbY (Calls.mono (ZaY r ra rn rc w.drew (au.keep ac (Nat.le_refl _)) ax hm) ?_);rintro e w5 ⟨v5,rfl,aq,ao⟩;have af:Bl w0 w5:=Zad ac ao;obtain⟨⟨ba,bn,bc⟩,rfl,aj⟩:=aq.slot (Zbs hm) (by rw [Zca hm];decide);have ag:Cm (fun k=>True) w5 ⟨ba,bn,bc⟩ (hpB r):=aj.wide (fun _ _=>trivial);refine⟨.slice ba bn bc,rfl,af,?_⟩;refine Pl.qt 6 11 ?_ ?_
    · have al:Bl w5 w5:=Below.refl _ _;refine Pl.qx 6 51 61 [(.tmp 48),(.tmp 50)] #[101,107] Ze1 (Calls.mono (Ze8 (D:=fun k=>True) w5 x.u x.v x.l ((hx.2.below af (Nat.le_refl _)).wide (fun _ _=>trivial)) ar ⟨⟨ba,bn,bc⟩,hpB r⟩ (ag.keep (Kept.all al (Nat.le_refl _)))) ?_);rintro e w6 ⟨ai,v6,l6,rfl,av,aw⟩;have aa:Bl w0 w6:=Zad af ai;refine⟨.tuple #[lfV x.u v6,.int .i64 (insA (bss x.l) (hpB r)).at_,.int .i64 (insA (bss x.l) (hpB r)).e],rfl,aa,?_⟩;refine Pl.q0 7 44 (.tuple #[lfV x.u v6,.int .i64 (insA (bss x.l) (hpB r)).at_,.int .i64 (insA (bss x.l) (hpB r)).e]) (Pl.q1) (Pl.q2 (.tmp 51)) aa ?_;refine Pl.q0 8 52 (lfV x.u v6) (Pl.q1) (Pl.qk (.tmp 44) 0 (fun w=>(ex3 _ _ _ w).1)) aa ?_;refine Pl.q0 9 53 (.int .i64 (insA (bss x.l) (hpB r)).at_) (Pl.q1) (Pl.qk (.tmp 44) 1 (fun w=>(ex3 _ _ _ w).2.1)) aa ?_;refine Pl.q0 10 54 (.int .i64 (insA (bss x.l) (hpB r)).e) (Pl.q1) (Pl.qk (.tmp 44) 2 (fun w=>(ex3 _ _ _ w).2.2)) aa ?_;have ad:Bl w0 (w6.alloc (.cells #[.slice none 0 0,.slice none 0 0] 101)):=aa.alloc aa.size _;have ak:=Zao w6 (Sl.val Sl.nil) (Sl.val Sl.nil);have ah:w0.heap.size≤w6.heap.size:=aa.size;refine Pl.qm 11 13 (.pointer (some ⟨w6.heap.size,0,none⟩)) (w6.alloc (.cells #[.slice none 0 0,.slice none 0 0] 101)) (Pl.q1) (Pl.q_42 101 (Zdj w6)) ad ?_;obtain⟨w9,ae,an,am⟩:=Zdc (w6.alloc (.cells #[.slice none 0 0,.slice none 0 0] 101)) w6.heap.size _ _ ak x.u v6;have ab:Bl w0 w9:=ad.trans (am.below ad.size (fun k hk=>by rw [hk];exact ah));refine Pl.qg 12 w9 (Pl.q1) (Pl.qh 101 (.tmp 13) (.tmp 52) ae) ab ?_;refine Pl.q0 13 14 (.int .i64 (insA (bss x.l) (hpB r)).at_) (Pl.q1) (Pl.qe (.tmp 53)) ab ?_;refine Pl.q0 14 15 (.int .i64 (insA (bss x.l) (hpB r)).e) (Pl.q1) (Pl.qe (.tmp 54)) ab ?_;refine Pl.q7 (fun A' hA'=>?_);exact Pl.en hA' hA [45,46,47,48,49,50,51,44,52,53,54,13,14,15] (hend hA'.fn _ _ ah ⟨_,_,an⟩ ab)
    · have ad:Bl w0 (w5.alloc (.cells #[.slice none 0 0,.slice none 0 0] 101)):=af.alloc af.size _;have ak:=Zao w5 (Sl.val Sl.nil) (Sl.val Sl.nil);have ah:w0.heap.size≤w5.heap.size:=af.size;refine Pl.qi 11 13 (.pointer (some ⟨w5.heap.size,0,none⟩)) (w5.alloc (.cells #[.slice none 0 0,.slice none 0 0] 101)) (Pl.q_42 101 (Zdj w5)) ad ?_;have al:Bl w5 ((w5.alloc (.cells #[.slice none 0 0,.slice none 0 0] 101))):=Zab w5 _;refine Pl.qd 6 51 61 [(.tmp 48),(.tmp 50)] #[101,107] (Pl.q1) Ze1 (Calls.mono (Ze8 (D:=fun k=>True) ((w5.alloc (.cells #[.slice none 0 0,.slice none 0 0] 101))) x.u x.v x.l ((hx.2.below ad (Nat.le_refl _)).wide (fun _ _=>trivial)) ar ⟨⟨ba,bn,bc⟩,hpB r⟩ (ag.keep (Kept.all al (Nat.le_refl _)))) ?_);rintro e w6 ⟨ai,v6,l6,rfl,av,aw⟩;have aa:Bl w0 w6:=Zad ad ai;have ap:=ak.below ai;refine⟨.tuple #[lfV x.u v6,.int .i64 (insA (bss x.l) (hpB r)).at_,.int .i64 (insA (bss x.l) (hpB r)).e],rfl,aa,?_⟩;rw [Pl.qf 13 51];refine Pl.q0 7 44 (.tuple #[lfV x.u v6,.int .i64 (insA (bss x.l) (hpB r)).at_,.int .i64 (insA (bss x.l) (hpB r)).e]) (Pl.q1) (Pl.q2 (.tmp 51)) aa ?_;rw [Pl.qf 13 44];refine Pl.q0 8 52 (lfV x.u v6) (Pl.q1) (Pl.qk (.tmp 44) 0 (fun w=>(ex3 _ _ _ w).1)) aa ?_;rw [Pl.qf 13 52];refine Pl.q0 9 53 (.int .i64 (insA (bss x.l) (hpB r)).at_) (Pl.q1) (Pl.qk (.tmp 44) 1 (fun w=>(ex3 _ _ _ w).2.1)) aa ?_;rw [Pl.qf 13 53];refine Pl.q0 10 54 (.int .i64 (insA (bss x.l) (hpB r)).e) (Pl.q1) (Pl.qk (.tmp 44) 2 (fun w=>(ex3 _ _ _ w).2.2)) aa ?_;rw [Pl.qf 13 54];obtain⟨w9,ae,an,am⟩:=Zdc w6 w5.heap.size _ _ ap x.u v6;have ab:Bl w0 w9:=aa.trans (am.below aa.size (fun k hk=>by rw [hk];exact ah));refine Pl.qg 12 w9 (Pl.q1) (Pl.qh 101 (.tmp 13) (.tmp 52) ae) ab ?_;refine Pl.q0 13 14 (.int .i64 (insA (bss x.l) (hpB r)).at_) (Pl.q1) (Pl.qe (.tmp 53)) ab ?_;refine Pl.q0 14 15 (.int .i64 (insA (bss x.l) (hpB r)).e) (Pl.q1) (Pl.qe (.tmp 54)) ab ?_;refine Pl.q7 (fun A' hA'=>?_);exact Pl.en hA' hA [45,46,47,48,49,50,51,44,52,53,54,13,14,15] (hend hA'.fn _ _ ah ⟨_,_,an⟩ ab)
  · have ad:Bl w0 (w.drew.alloc (.cells #[.slice none 0 0,.slice none 0 0] 101)):=ac.alloc ac.size _;have ak:=Zao w.drew (Sl.val Sl.nil) (Sl.val Sl.nil);have ah:w0.heap.size≤w.drew.heap.size:=ac.size;refine Pl.qi 11 13 (.pointer (some ⟨w.drew.heap.size,0,none⟩)) (w.drew.alloc (.cells #[.slice none 0 0,.slice none 0 0] 101)) (Pl.q_42 101 (Zdj w.drew)) ad ?_;refine Pl.qd 5 50 62 [(.tmp 49)] #[39] (Pl.q1) ZbY (Calls.mono (ZaY r ra rn rc ((w.drew.alloc (.cells #[.slice none 0 0,.slice none 0 0] 101))) (au.keep ad (Nat.le_refl _)) ax hm) ?_);rintro e w5 ⟨v5,rfl,aq,ao⟩;have af:Bl w0 w5:=Zad ad ao;obtain⟨⟨ba,bn,bc⟩,rfl,aj⟩:=aq.slot (Zbs hm) (by rw [Zca hm];decide);have ag:Cm (fun k=>True) w5 ⟨ba,bn,bc⟩ (hpB r):=aj.wide (fun _ _=>trivial);have ay:=ak.below ao;refine⟨.slice ba bn bc,rfl,af,?_⟩;rw [Pl.qf 13 50];have al:Bl w5 w5:=Below.refl _ _;refine Pl.qd 6 51 61 [(.tmp 48),(.tmp 50)] #[101,107] (Pl.q1) Ze1 (Calls.mono (Ze8 (D:=fun k=>True) w5 x.u x.v x.l ((hx.2.below af (Nat.le_refl _)).wide (fun _ _=>trivial)) ar ⟨⟨ba,bn,bc⟩,hpB r⟩ (ag.keep (Kept.all al (Nat.le_refl _)))) ?_);rintro e w6 ⟨ai,v6,l6,rfl,av,aw⟩;have aa:Bl w0 w6:=Zad af ai;have ap:=ay.below ai;refine⟨.tuple #[lfV x.u v6,.int .i64 (insA (bss x.l) (hpB r)).at_,.int .i64 (insA (bss x.l) (hpB r)).e],rfl,aa,?_⟩;rw [Pl.qf 13 51];refine Pl.q0 7 44 (.tuple #[lfV x.u v6,.int .i64 (insA (bss x.l) (hpB r)).at_,.int .i64 (insA (bss x.l) (hpB r)).e]) (Pl.q1) (Pl.q2 (.tmp 51)) aa ?_;rw [Pl.qf 13 44];refine Pl.q0 8 52 (lfV x.u v6) (Pl.q1) (Pl.qk (.tmp 44) 0 (fun w=>(ex3 _ _ _ w).1)) aa ?_;rw [Pl.qf 13 52];refine Pl.q0 9 53 (.int .i64 (insA (bss x.l) (hpB r)).at_) (Pl.q1) (Pl.qk (.tmp 44) 1 (fun w=>(ex3 _ _ _ w).2.1)) aa ?_;rw [Pl.qf 13 53];refine Pl.q0 10 54 (.int .i64 (insA (bss x.l) (hpB r)).e) (Pl.q1) (Pl.qk (.tmp 44) 2 (fun w=>(ex3 _ _ _ w).2.2)) aa ?_;rw [Pl.qf 13 54];obtain⟨w9,ae,an,am⟩:=Zdc w6 w.drew.heap.size _ _ ap x.u v6;have ab:Bl w0 w9:=aa.trans (am.below aa.size (fun k hk=>by rw [hk];exact ah));refine Pl.qg 12 w9 (Pl.q1) (Pl.qh 101 (.tmp 13) (.tmp 52) ae) ab ?_;refine Pl.q0 13 14 (.int .i64 (insA (bss x.l) (hpB r)).at_) (Pl.q1) (Pl.qe (.tmp 53)) ab ?_;refine Pl.q0 14 15 (.int .i64 (insA (bss x.l) (hpB r)).e) (Pl.q1) (Pl.qe (.tmp 54)) ab ?_;refine Pl.q7 (fun A' hA'=>?_);exact Pl.en hA' hA [45,46,47,48,49,50,51,44,52,53,54,13,14,15] (hend hA'.fn _ _ ah ⟨_,_,an⟩ ab)
def Nw (D:Nat→Prop) (w0:World) (g:Nat):Nat→Prop:=fun k=>(D k∧k<w0.heap.size)∨(w0.heap.size≤k∧k≠g)
theorem ZoI {D:Nat→Prop}{w0 wc w7:World}(h0:w0.heap.size≤wc.heap.size)(hz:g<wc.heap.size∨g=w7.heap.size):∀k,Old (fun k=>D k∧k<w0.heap.size) wc k→k<w7.heap.size→Nw D w0 g k:=by
 intro k hk hl;rcases hk with h | h
 · exact .inl h
 · exact .inr ⟨by omega,by rcases hz with h1 | h1 <;> omega⟩
theorem Zj3 {D:Nat→Prop}{w0:World}(hg:w0.heap.size≤g):∀k,Nw D w0 g k→¬k=g:=by
 intro k hk e;subst e;rcases hk with h | h
 · omega
 · exact h.2 rfl
theorem ZrF {D:Nat→Prop}(w0 w:World)(b off len c i:Nat)(hi:i<len)(x:Lb)(ax:w0.cell? ⟨b,off+i*2,none⟩=some x.u.val)(ay:w0.cell? ⟨b,off+i*2+1,none⟩=some x.v.val)(hx:Gi D w0 x.u x.t∧Gb D w0 x.v x.l)(ar:x.u.len=4)(lv:Sl)(live:List Int)(aq:Gi D w0 lv live)(p:Nat)(r:Rw)(ra:Option Addr)(rn rc:Nat)(hr:RwBlk w0 p r (.slice ra rn rc))(hW:Bl w0 w)
    {Q:Exit→Act→World→Prop}(aw:A.tmps.size=90)(av:A.defers=[])(s0:A.tmps.getD 0 undef=.slice (some ⟨b,off,none⟩) len c)(s12:A.tmps.getD 12 undef=.int .i64 (i:Int))(s4:A.tmps.getD 4 undef=.pointer (some ⟨p,0,none⟩))(s2:A.tmps.getD 2 undef=lv.val)
    (hend:∀(u:Nat→Value)(g:Nat)(u7 v7:Sl) w',w0.heap.size≤g→LfBlk w' g u7.val v7.val→Gi (Nw D w0 g) w' u7 (joinI x.t r.wr live).t→Gb (Nw D w0 g) w' v7 x.l→Bl w0 w'→Q .normal (((Pl.pu A u [58,59,60,61,62,63,64,65,57,66,67]).put (some 16) (.pointer (some ⟨g,0,none⟩))).put (some 15) (.int .i64 (joinI x.t r.wr live).e)) w') :
    Pl.rg prog 9 f28 Q A w:=by
  have aa:Bl w0 w.drew:=hW.drew;have hA:=Pl.At.same (v:=lv.val) (d:=2) (Pl.At.same (v:=.pointer (some ⟨p,0,none⟩)) (d:=4) (Pl.At.same (v:=.int .i64 (i:Int)) (d:=12) (Pl.At.same (v:=.slice (some ⟨b,off,none⟩) len c) (d:=0) (Pl.At.here aw av) s0) s12) s4) s2;refine Pl.qb (S:=fun w'=>Bl w0 w') hA aa ?_;rw [show (Pl.fd 9 f28).size=14 by kernel_rfl];refine Pl.q0 0 58 (.slice (some ⟨b,off,none⟩) len c) (Pl.q1) (Pl.q2 (.tmp 0)) aa ?_;refine Pl.q0 1 59 (.int .i64 (i:Int)) (Pl.q1) (Pl.q2 (.tmp 12)) aa ?_;refine Pl.q0 2 60 (.pointer (some ⟨b,off+i*2,none⟩)) (Pl.q1) (Pl.qa 26 (.tmp 58) (.tmp 59) (Zbr b off len c i hi)) aa ?_;refine Pl.q0 3 61 (lfV x.u x.v) (Pl.q1) (Pl.q3 101 (.tmp 60) (fun w' hS=>Zbo (Zae ax hS) (Zae ay hS))) aa ?_;refine Pl.q0 4 62 (.pointer (some ⟨p,3,none⟩)) (Pl.q1) (Pl.q5 39 (.tmp 4) 3 (Zr9 p)) aa ?_;refine Pl.q0 5 63 (.int .i64 r.wr) (Pl.q1) (Pl.q3 3 (.tmp 62) (fun w' hS=>Zh3 (hr.keep hS).c3)) aa ?_;refine Pl.q0 6 64 (lv.val) (Pl.q1) (Pl.q2 (.tmp 2)) aa ?_;refine Pl.qt 7 11 ?_ ?_
  · have an:Bl w0 w.drew:=aa;refine Pl.qx 7 65 63 [(.tmp 61),(.tmp 63),(.tmp 64)] #[101,3,29] Zjk (Calls.mono (Zfg (D:=fun k=>D k∧k<w0.heap.size) w.drew x.u x.v x.t x.l ((hx.1.mono (fun k h hl=>⟨h,hl⟩)).below aa (Nat.le_refl _)) ((hx.2.mono (fun k h hl=>⟨h,hl⟩)).below aa (Nat.le_refl _)) r.wr lv live ((aq.mono (fun k h hl=>⟨h,hl⟩)).below aa (Nat.le_refl _)) ar) ?_);rintro e w7 ⟨am,u7,v7,rfl,aj,ai⟩;have ab:Bl w0 w7:=Zad aa am;refine⟨.tuple #[lfV u7 v7,.int .i64 (joinI x.t r.wr live).e],rfl,ab,?_⟩;refine Pl.q0 8 57 (.tuple #[lfV u7 v7,.int .i64 (joinI x.t r.wr live).e]) (Pl.q1) (Pl.q2 (.tmp 65)) ab ?_;refine Pl.q0 9 66 (lfV u7 v7) (Pl.q1) (Pl.qk (.tmp 57) 0 (fun w=>(ex2 _ _ w).1)) ab ?_;refine Pl.q0 10 67 (.int .i64 (joinI x.t r.wr live).e) (Pl.q1) (Pl.qk (.tmp 57) 1 (fun w=>(ex2 _ _ w).2)) ab ?_;have ae:Bl w0 (w7.alloc (.cells #[.slice none 0 0,.slice none 0 0] 101)):=ab.alloc ab.size _;have ao:=Zao w7 (Sl.val Sl.nil) (Sl.val Sl.nil);have af:w0.heap.size≤w7.heap.size:=ab.size;refine Pl.qm 11 16 (.pointer (some ⟨w7.heap.size,0,none⟩)) (w7.alloc (.cells #[.slice none 0 0,.slice none 0 0] 101)) (Pl.q1) (Pl.q_42 101 (Zdj w7)) ae ?_;have hz:w7.heap.size<w.drew.heap.size∨w7.heap.size=w7.heap.size:=.inr rfl;have al:=ZoI (D:=D) (w0:=w0) (wc:=w.drew) (w7:=w7) (g:=w7.heap.size) an.size hz;obtain⟨w9,ak,ap,ah⟩:=Zdc (w7.alloc (.cells #[.slice none 0 0,.slice none 0 0] 101)) w7.heap.size _ _ ao u7 v7;have ag:Bl w0 w9:=ae.trans (ah.below ae.size (fun k hk=>by rw [hk];exact af));have ad:=((aj.mono al).below (Zab w7 (.cells #[.slice none 0 0,.slice none 0 0] 101)) (Nat.le_refl _)).keep (Kept.frm ah (Zj3 af));have ac:=((ai.mono al).below (Zab w7 (.cells #[.slice none 0 0,.slice none 0 0] 101)) (Nat.le_refl _)).keep (Kept.frm ah (Zj3 af));refine Pl.qg 12 w9 (Pl.q1) (Pl.qh 101 (.tmp 16) (.tmp 66) ak) ag ?_;refine Pl.q0 13 15 (.int .i64 (joinI x.t r.wr live).e) (Pl.q1) (Pl.qe (.tmp 67)) ag ?_;refine Pl.q7 (fun A' hA'=>?_);exact Pl.en hA' hA [58,59,60,61,62,63,64,65,57,66,67,16,15] (hend hA'.fn _ _ _ _ af ap ad ac ag)
  · have ae:Bl w0 (w.drew.alloc (.cells #[.slice none 0 0,.slice none 0 0] 101)):=aa.alloc aa.size _;have ao:=Zao w.drew (Sl.val Sl.nil) (Sl.val Sl.nil);have af:w0.heap.size≤w.drew.heap.size:=aa.size;refine Pl.qi 11 16 (.pointer (some ⟨w.drew.heap.size,0,none⟩)) (w.drew.alloc (.cells #[.slice none 0 0,.slice none 0 0] 101)) (Pl.q_42 101 (Zdj w.drew)) ae ?_;have an:Bl w0 ((w.drew.alloc (.cells #[.slice none 0 0,.slice none 0 0] 101))):=ae;refine Pl.qd 7 65 63 [(.tmp 61),(.tmp 63),(.tmp 64)] #[101,3,29] (Pl.q1) Zjk (Calls.mono (Zfg (D:=fun k=>D k∧k<w0.heap.size) ((w.drew.alloc (.cells #[.slice none 0 0,.slice none 0 0] 101))) x.u x.v x.t x.l ((hx.1.mono (fun k h hl=>⟨h,hl⟩)).below ae (Nat.le_refl _)) ((hx.2.mono (fun k h hl=>⟨h,hl⟩)).below ae (Nat.le_refl _)) r.wr lv live ((aq.mono (fun k h hl=>⟨h,hl⟩)).below ae (Nat.le_refl _)) ar) ?_);rintro e w7 ⟨am,u7,v7,rfl,aj,ai⟩;have ab:Bl w0 w7:=Zad ae am;have au:=ao.below am;refine⟨.tuple #[lfV u7 v7,.int .i64 (joinI x.t r.wr live).e],rfl,ab,?_⟩;rw [Pl.qf 16 65];refine Pl.q0 8 57 (.tuple #[lfV u7 v7,.int .i64 (joinI x.t r.wr live).e]) (Pl.q1) (Pl.q2 (.tmp 65)) ab ?_;rw [Pl.qf 16 57];refine Pl.q0 9 66 (lfV u7 v7) (Pl.q1) (Pl.qk (.tmp 57) 0 (fun w=>(ex2 _ _ w).1)) ab ?_;rw [Pl.qf 16 66];refine Pl.q0 10 67 (.int .i64 (joinI x.t r.wr live).e) (Pl.q1) (Pl.qk (.tmp 57) 1 (fun w=>(ex2 _ _ w).2)) ab ?_;rw [Pl.qf 16 67];have hz:w.drew.heap.size<((w.drew.alloc (.cells #[.slice none 0 0,.slice none 0 0] 101))).heap.size∨w.drew.heap.size=w7.heap.size:=.inl (by rw [Zaf];exact Nat.lt_succ_self _);have al:=ZoI (D:=D) (w0:=w0) (wc:=(w.drew.alloc (.cells #[.slice none 0 0,.slice none 0 0] 101))) (w7:=w7) (g:=w.drew.heap.size) an.size hz;obtain⟨w9,ak,ap,ah⟩:=Zdc w7 w.drew.heap.size _ _ au u7 v7;have ag:Bl w0 w9:=ab.trans (ah.below ab.size (fun k hk=>by rw [hk];exact af));have ad:=(aj.mono al).keep (Kept.frm ah (Zj3 af));have ac:=(ai.mono al).keep (Kept.frm ah (Zj3 af));refine Pl.qg 12 w9 (Pl.q1) (Pl.qh 101 (.tmp 16) (.tmp 66) ak) ag ?_;refine Pl.q0 13 15 (.int .i64 (joinI x.t r.wr live).e) (Pl.q1) (Pl.qe (.tmp 67)) ag ?_;refine Pl.q7 (fun A' hA'=>?_);exact Pl.en hA' hA [58,59,60,61,62,63,64,65,57,66,67,16,15] (hend hA'.fn _ _ _ _ af ap ad ac ag)
theorem Zq1 {E:Nat→Prop}(w0 w:World)(gx g:Nat)(an:∀k,E k→k≠g)(ao:∀k,w0.heap.size≤k→E k)(y:Lb)(aq:LfBlk w0 gx y.u.val y.v.val)(ap:¬gx=g)(u0 v0:Value)(az:LfBlk w0 g u0 v0)(bk:g<w0.heap.size)(hy:Gi E w0 y.u y.t∧Gb E w0 y.v y.l)(bj:y.v.len≤900)(p:Nat)(r:Rw)(ra:Option Addr)(rn rc:Nat)(hr:RwBlk w0 p r (.slice ra rn rc))(ax:Fs w0 ra rn rc r.xs)(bh:r.fits)(hm:r.may=true)(bg:¬p=g)(hW:Bl w0 w)
    {Q:Exit→Act→World→Prop}(bi:A.tmps.size=90)(aw:A.defers=[])(s16:A.tmps.getD 16 undef=.pointer (some ⟨gx,0,none⟩))(s4:A.tmps.getD 4 undef=.pointer (some ⟨p,0,none⟩))(s13:A.tmps.getD 13 undef=.pointer (some ⟨g,0,none⟩))
    (hend:∀(u:Nat→Value)(v6:Sl)(l6:List Sb) w',LfBlk w' g y.u.val v6.val→Gi E w' y.u y.t→Gb E w' v6 l6→bss l6=(insA (bss y.l) (hpB r)).s→Frm (fun k=>k=g) w0 w'→Q .normal ((Pl.pu A u [74,75,76,77,73,78,79,80]).put (some 14) (.int .i64 (insA (bss y.l) (hpB r)).at_)) w') :
    Pl.rg prog 12 f28 Q A w:=by
  have ab:Bl w0 w.drew:=hW.drew;have ae:Frm (fun k=>k=g) w0 w.drew:=Frm.ofBelow ab;have hA:=Pl.At.same (v:=.pointer (some ⟨g,0,none⟩)) (d:=13) (Pl.At.same (v:=.pointer (some ⟨p,0,none⟩)) (d:=4) (Pl.At.same (v:=.pointer (some ⟨gx,0,none⟩)) (d:=16) (Pl.At.here bi aw) s16) s4) s13;refine Pl.qb (S:=fun w'=>Frm (fun k=>k=g) w0 w') hA ae ?_;rw [show (Pl.fd 12 f28).size=10 by kernel_rfl];refine Pl.q0 0 74 (lfV y.u y.v) (Pl.q1) (Pl.q3 101 (.tmp 16) (fun w' hS=>Zbo (LfBlk.c0 (aq.frmH hS ap)) (LfBlk.c1 (aq.frmH hS ap)))) ae ?_;refine Pl.q0 1 75 (r.val (.slice ra rn rc)) (Pl.q1) (Pl.q3 39 (.tmp 4) (fun w' hS=>Zb9 p r (.slice ra rn rc) ⟨_,_,_,rfl⟩ w' ((hS.block p (Array.getElem?_eq_some_iff.1 hr).1 bg).trans hr))) ae ?_;refine Pl.qd 2 76 62 [(.tmp 75)] #[39] (Pl.q1) ZbY (Calls.mono (ZaY r ra rn rc w.drew (ax.keep ab (Nat.le_refl _)) bh hm) ?_);rintro e w5 ⟨v5,rfl,bf,au⟩;have ac:Bl w0 w5:=Zad ab au;have ar:Frm (fun k=>k=g) w0 w5:=Frm.ofBelow ac;obtain⟨⟨ba,bn,bc⟩,rfl,ag⟩:=bf.slot (Zbs hm) (by rw [Zca hm];decide);have bm:w0.heap.size≤w.drew.heap.size:=ab.size;have ah:Cm E w5 ⟨ba,bn,bc⟩ (hpB r):=ag.wide (fun k hk=>ao k (by omega));refine⟨.slice ba bn bc,rfl,ar,?_⟩;refine Pl.qd 3 77 61 [(.tmp 74),(.tmp 76)] #[101,107] (Pl.q1) Ze1 (Calls.mono (Ze8 (D:=E) w5 y.u y.v y.l (hy.2.below ac (Nat.le_refl _)) bj ⟨⟨ba,bn,bc⟩,hpB r⟩ ah) ?_);rintro e w6 ⟨av,v6,l6,rfl,ay,be⟩;have ad:Bl w0 w6:=Zad ac av;have aa:Frm (fun k=>k=g) w0 w6:=Frm.ofBelow ad;have bl:w0.heap.size≤w5.heap.size:=ac.size;have aj:Gb E w6 v6 l6:=ay.wide (fun k hk=>by rcases hk with h | h;exact h;exact ao k (by omega));refine⟨.tuple #[lfV y.u v6,.int .i64 (insA (bss y.l) (hpB r)).at_,.int .i64 (insA (bss y.l) (hpB r)).e],rfl,aa,?_⟩;refine Pl.q0 4 73 (.tuple #[lfV y.u v6,.int .i64 (insA (bss y.l) (hpB r)).at_,.int .i64 (insA (bss y.l) (hpB r)).e]) (Pl.q1) (Pl.q2 (.tmp 77)) aa ?_;refine Pl.q0 5 78 (lfV y.u v6) (Pl.q1) (Pl.qk (.tmp 73) 0 (fun w=>(ex3 _ _ _ w).1)) aa ?_;refine Pl.q0 6 79 (.int .i64 (insA (bss y.l) (hpB r)).at_) (Pl.q1) (Pl.qk (.tmp 73) 1 (fun w=>(ex3 _ _ _ w).2.1)) aa ?_;refine Pl.q0 7 80 (.int .i64 (insA (bss y.l) (hpB r)).e) (Pl.q1) (Pl.qk (.tmp 73) 2 (fun w=>(ex3 _ _ _ w).2.2)) aa ?_;have bb:=az.below ad;obtain⟨w9,am,bd,ai⟩:=Zdc w6 g _ _ bb y.u v6;have af:Frm (fun k=>k=g) w0 w9:=(Frm.ofBelow ad).trans ai (fun _ _ h=>h);have al:=(hy.1.below ad (Nat.le_refl _)).keep (Kept.frm ai (fun k hk e=>an k hk e));have ak:=aj.keep (Kept.frm ai (fun k hk e=>an k hk e));refine Pl.qg 8 w9 (Pl.q1) (Pl.qh 101 (.tmp 13) (.tmp 78) am) af ?_;refine Pl.q0 9 14 (.int .i64 (insA (bss y.l) (hpB r)).at_) (Pl.q1) (Pl.qe (.tmp 79)) af ?_;refine Pl.q7 (fun A' hA'=>?_);exact Pl.en hA' hA [74,75,76,77,73,78,79,80,14] (hend hA'.fn _ _ _ bd al ak be af)
theorem ZoD {E:Nat→Prop}(w0 w:World)(g q:Nat)(ao:∀k,E k→k≠g)(ap:∀k,w0.heap.size≤k→E k)(kk:Int)(i0:Int)(hq:BtBlk w0 q (i0,kk))(bh:¬q=g)(y:Lb)(al:LfBlk w0 g y.u.val y.v.val)(bk:g<w0.heap.size)(hy:Gi E w0 y.u y.t∧Gb E w0 y.v y.l)(p:Nat)(r:Rw)(ra:Option Addr)(rn rc:Nat)(hr:RwBlk w0 p r (.slice ra rn rc))(bb:Fs w0 ra rn rc r.xs)(bd:r.fits)(hm:r.may=true)(bg:¬p=g)(hW:Bl w0 w)
    {Q:Exit→Act→World→Prop}(bi:A.tmps.size=79)(be:A.defers=[])(s14:A.tmps.getD 14 undef=.pointer (some ⟨g,0,none⟩))(s7:A.tmps.getD 7 undef=.pointer (some ⟨p,0,none⟩))(s6:A.tmps.getD 6 undef=.pointer (some ⟨q,0,none⟩))
    (hend:∀(u:Nat→Value)(v6:Sl)(l6:List Sb) w',LfBlk w' g y.u.val v6.val→Gi E w' y.u y.t→Gb E w' v6 l6→bss l6=(setA (bss y.l) kk (hpB r)).s→Frm (fun k=>k=g) w0 w'→Q .normal (Pl.pu A u [67,68,69,66,70,71,65,72,73]) w') :
    Pl.rg prog 12 f52 Q A w:=by
  have ab:Bl w0 w.drew:=hW.drew;have am:Frm (fun k=>k=g) w0 w.drew:=Frm.ofBelow ab;have hA:=Pl.At.same (v:=.pointer (some ⟨q,0,none⟩)) (d:=6) (Pl.At.same (v:=.pointer (some ⟨p,0,none⟩)) (d:=7) (Pl.At.same (v:=.pointer (some ⟨g,0,none⟩)) (d:=14) (Pl.At.here bi be) s14) s7) s6;refine Pl.qb (S:=fun w'=>Frm (fun k=>k=g) w0 w') hA am ?_;rw [show (Pl.fd 12 f52).size=10 by kernel_rfl];refine Pl.q0 1 67 (.pointer (some ⟨q,1,none⟩)) (Pl.q1) (Pl.q5 67 (.tmp 6) 1 (Zr4 q)) am ?_;refine Pl.q0 2 68 (.int .i64 kk) (Pl.q1) (Pl.q3 3 (.tmp 67) (fun w' hS=>Zh3 (BtBlk.c1 ((hS.block q hq.lt bh).trans hq)))) am ?_;refine Pl.q0 3 69 (r.val (.slice ra rn rc)) (Pl.q1) (Pl.q3 39 (.tmp 7) (fun w' hS=>Zb9 p r (.slice ra rn rc) ⟨_,_,_,rfl⟩ w' ((hS.block p (Array.getElem?_eq_some_iff.1 hr).1 bg).trans hr))) am ?_;refine Pl.qt 0 4 ?_ ?_
  · refine Pl.qi 0 66 (lfV y.u y.v) w.drew (Pl.qu 101 (.tmp 14) (Zbo (LfBlk.c0 (al.below ab)) (LfBlk.c1 (al.below ab)))) am ?_;refine Pl.qd 4 70 62 [(.tmp 69)] #[39] (Pl.q1) ZbY (Calls.mono (ZaY r ra rn rc w.drew (bb.keep ab (Nat.le_refl _)) bd hm) ?_);rintro e w5 ⟨v5,rfl,az,ar⟩;have aa:Bl w0 w5:=Zad ab ar;have aq:Frm (fun k=>k=g) w0 w5:=Frm.ofBelow aa;obtain⟨⟨ba,bn,bc⟩,rfl,ae⟩:=az.slot (Zbs hm) (by rw [Zca hm];decide);have bj:w0.heap.size≤w.drew.heap.size:=ab.size;have af:Cm E w5 ⟨ba,bn,bc⟩ (hpB r):=ae.wide (fun k hk=>ap k (by omega));refine⟨.slice ba bn bc,rfl,aq,?_⟩;refine Pl.qd 5 71 96 [(.tmp 66),(.tmp 68),(.tmp 70)] #[101,3,107] (Pl.q1) Zjl (Calls.mono (ZjG (D:=E) w5 y.u y.v y.l (hy.2.below aa (Nat.le_refl _)) kk ⟨⟨ba,bn,bc⟩,hpB r⟩ af) ?_);rintro e w6 ⟨au,v6,l6,rfl,av,ay⟩;have ac:Bl w0 w6:=Zad aa au;have ad:Frm (fun k=>k=g) w0 w6:=Frm.ofBelow ac;have bf:w0.heap.size≤w5.heap.size:=aa.size;have ah:Gb E w6 v6 l6:=av.wide (fun k hk=>by rcases hk with h | h;exact h;exact ap k (by omega));refine⟨.tuple #[lfV y.u v6,.int .i64 (setA (bss y.l) kk (hpB r)).e],rfl,ad,?_⟩;refine Pl.q0 6 65 (.tuple #[lfV y.u v6,.int .i64 (setA (bss y.l) kk (hpB r)).e]) (Pl.q1) (Pl.q2 (.tmp 71)) ad ?_;refine Pl.q0 7 72 (lfV y.u v6) (Pl.q1) (Pl.qk (.tmp 65) 0 (fun w=>(ex2 _ _ w).1)) ad ?_;refine Pl.q0 8 73 (.int .i64 (setA (bss y.l) kk (hpB r)).e) (Pl.q1) (Pl.qk (.tmp 65) 1 (fun w=>(ex2 _ _ w).2)) ad ?_;have aw:=al.below ac;obtain⟨w9,ak,ax,ag⟩:=Zdc w6 g _ _ aw y.u v6;have an:Frm (fun k=>k=g) w0 w9:=(Frm.ofBelow ac).trans ag (fun _ _ h=>h);have aj:=(hy.1.below ac (Nat.le_refl _)).keep (Kept.frm ag (fun k hk e=>ao k hk e));have ai:=ah.keep (Kept.frm ag (fun k hk e=>ao k hk e));refine Pl.qg 9 w9 (Pl.q1) (Pl.qh 101 (.tmp 14) (.tmp 72) ak) an ?_;refine Pl.q7 (fun A' hA'=>?_);exact Pl.en hA' hA [67,68,69,66,70,71,65,72,73] (hend hA'.fn _ _ _ ax aj ai ay an)
  · refine Pl.qx 4 70 62 [(.tmp 69)] #[39] ZbY (Calls.mono (ZaY r ra rn rc w.drew (bb.keep ab (Nat.le_refl _)) bd hm) ?_);rintro e w5 ⟨v5,rfl,az,ar⟩;have aa:Bl w0 w5:=Zad ab ar;have aq:Frm (fun k=>k=g) w0 w5:=Frm.ofBelow aa;obtain⟨⟨ba,bn,bc⟩,rfl,ae⟩:=az.slot (Zbs hm) (by rw [Zca hm];decide);have bj:w0.heap.size≤w.drew.heap.size:=ab.size;have af:Cm E w5 ⟨ba,bn,bc⟩ (hpB r):=ae.wide (fun k hk=>ap k (by omega));refine⟨.slice ba bn bc,rfl,aq,?_⟩;refine Pl.qw 0 66 (lfV y.u y.v) (Pl.q1) (Pl.qu 101 (.tmp 14) (Zbo (LfBlk.c0 (al.below aa)) (LfBlk.c1 (al.below aa)))) aq ?_;rw [Pl.qf 70 66];refine Pl.qd 5 71 96 [(.tmp 66),(.tmp 68),(.tmp 70)] #[101,3,107] (Pl.q1) Zjl (Calls.mono (ZjG (D:=E) w5 y.u y.v y.l (hy.2.below aa (Nat.le_refl _)) kk ⟨⟨ba,bn,bc⟩,hpB r⟩ af) ?_);rintro e w6 ⟨au,v6,l6,rfl,av,ay⟩;have ac:Bl w0 w6:=Zad aa au;have ad:Frm (fun k=>k=g) w0 w6:=Frm.ofBelow ac;have bf:w0.heap.size≤w5.heap.size:=aa.size;have ah:Gb E w6 v6 l6:=av.wide (fun k hk=>by rcases hk with h | h;exact h;exact ap k (by omega));refine⟨.tuple #[lfV y.u v6,.int .i64 (setA (bss y.l) kk (hpB r)).e],rfl,ad,?_⟩;refine Pl.q0 6 65 (.tuple #[lfV y.u v6,.int .i64 (setA (bss y.l) kk (hpB r)).e]) (Pl.q1) (Pl.q2 (.tmp 71)) ad ?_;refine Pl.q0 7 72 (lfV y.u v6) (Pl.q1) (Pl.qk (.tmp 65) 0 (fun w=>(ex2 _ _ w).1)) ad ?_;refine Pl.q0 8 73 (.int .i64 (setA (bss y.l) kk (hpB r)).e) (Pl.q1) (Pl.qk (.tmp 65) 1 (fun w=>(ex2 _ _ w).2)) ad ?_;have aw:=al.below ac;obtain⟨w9,ak,ax,ag⟩:=Zdc w6 g _ _ aw y.u v6;have an:Frm (fun k=>k=g) w0 w9:=(Frm.ofBelow ac).trans ag (fun _ _ h=>h);have aj:=(hy.1.below ac (Nat.le_refl _)).keep (Kept.frm ag (fun k hk e=>ao k hk e));have ai:=ah.keep (Kept.frm ag (fun k hk e=>ao k hk e));refine Pl.qg 9 w9 (Pl.q1) (Pl.qh 101 (.tmp 14) (.tmp 72) ak) an ?_;refine Pl.q7 (fun A' hA'=>?_);exact Pl.en hA' hA [67,68,69,66,70,71,65,72,73] (hend hA'.fn _ _ _ ax aj ai ay an)
def Zdh (D:Nat→Prop) (w:World) (a:Ah) (e:Ending) (w':World):Prop:=Bl w w'∧∃(s':Sl) (L':List Lb),e=.returned (.tuple #[.slice s'.a s'.len s'.cap,.int .i64 a.e])∧Gl (Old D w) w' s' L'∧lfs L'=a.l
theorem Zdh.same {D:Nat→Prop}(h:Gl D w s L)(hb:Bl w w')(c:Int):Zdh D w ⟨lfs L,c⟩ (.returned (.tuple #[.slice s.a s.len s.cap,.int .i64 c])) w':=
 ⟨hb,s,L,rfl,(h.below hb (Nat.le_refl _)).wide (fun _ hk=>.inl hk),rfl⟩
theorem ZlT (h:getH l b=none):layH l b r j live=⟨l,3⟩:=by unfold layH;rw [h]
theorem Ze5 (h:getH l b=some was)(h1:r.may=false∨(j=true∧r.wr=0)∨was.key≠r.key):layH l b r j live=⟨l,1⟩:=by unfold layH;rw [h];simp only [if_pos h1]
theorem ZnR (h:getH l b=some was)(h1:¬(r.may=false∨(true=true∧r.wr=0)∨was.key≠r.key))(h2:(joinI (lf l b.1.toNat).itl r.wr live).e≠0):layH l b r true live=⟨l,(joinI (lf l b.1.toNat).itl r.wr live).e⟩:=by
 unfold layH;rw [h];show (if _ then _ else if _ then _ else _)=_;rw [if_neg h1,if_pos ⟨rfl,h2⟩]
theorem ZlU (h:getH l b=some was)(h1:¬(r.may=false∨(j=true∧r.wr=0)∨was.key≠r.key))(h2:¬(j=true∧(joinI (lf l b.1.toNat).itl r.wr live).e≠0)):layH l b r j live=⟨l.set b.1.toNat (layL (lf l b.1.toNat) b.2 r j live),0⟩:=by
 unfold layH;rw [h];simp only [if_neg h1,if_neg h2]
theorem Zm1 {D:Nat→Prop}(w:World)(s:Sl)(L:List Lb)(h:Gl D w s L)(hmay:∀f∈lfs L,f.itl.length=4)(y:Bt)(r:Rw)(ra:Option Addr)(rn rc:Nat)(hr:Fs w ra rn rc r.xs)(hrf:r.fits)(joins:Bool)(lv:Sl)(live:List Int)(hlv:Gi D w lv live) :
    Calls prog 52 #[s.val,btV y,r.val (.slice ra rn rc),.bool joins,lv.val] w (Zdh D w (layH (lfs L) y r joins live)):=by
  have hsf:∀(w:World) (a:Addr) (m:Mode) (x:Nat),(store a (.float .f64 x) m).run prog w=stored prog w a (.float .f64 x) m:=fun w a m x=>run_store prog w a _ m rfl
  obtain⟨X,hX⟩:∃X,X=layH (lfs L) y r joins live:=⟨_,rfl⟩
  rw [← hX]
  have HXE:=Zh hX
  clear hX
  have hA1:=Zab w (.cells #[.int .i64 y.1,.int .i64 y.2] 67)
  have hA2:=Zab (w.alloc (.cells #[.int .i64 y.1,.int .i64 y.2] 67)) (.cells #[.float .f64 r.key,.bool r.dead,.slice ra rn rc,.int .i64 r.wr,.int .i64 r.cell,.int .i64 r.no] 39)
  have hY:=(Zbh w y).keep hA2
  have hR:RwBlk ((w.alloc (.cells #[.int .i64 y.1,.int .i64 y.2] 67)).alloc (.cells #[.float .f64 r.key,.bool r.dead,.slice ra rn rc,.int .i64 r.wr,.int .i64 r.cell,.int .i64 r.no] 39)) (w.heap.size+1) r (.slice ra rn rc):=by
   have:=Zai (w.alloc (.cells #[.int .i64 y.1,.int .i64 y.2] 67)) r (.slice ra rn rc)
   rwa [Zaf] at this
  have hA:=Zad hA1 hA2
  obtain⟨W0,hW0⟩:∃W0,W0=(w.alloc (.cells #[.int .i64 y.1,.int .i64 y.2] 67)).alloc (.cells #[.float .f64 r.key,.bool r.dead,.slice ra rn rc,.int .i64 r.wr,.int .i64 r.cell,.int .i64 r.no] 39):=⟨_,rfl⟩
  rw [← hW0] at hA hY hR
  have hs0:W0.heap.size=w.heap.size+2:=by rw [hW0,Zaf,Zaf]
  have HY:=Zh hY
  have HR:=Zh hR
  have HA:=Zh hA
  have H:=Zh h
  have HLV:=Zh hlv
  have HFR:=Zh hr
  have HRF:=Zh hrf
  have HM4:=Zh hmay
  have HS0:=Zh hs0
  have HGET:=Zh (Zmx W0 s L (h.below hA (Nat.le_refl _)) y)
  have HWE:=Zh hW0
  have y0:=hY.c0
  have y1:=hY.c1
  obtain⟨a,len,cap⟩:=s
  obtain⟨la,ln,lc⟩:=lv
  clear h hA hY hR hA1 hA2 hlv hr hrf hmay hs0
  unfold Sl.val at *
  simp only at *
  rw [hW0] at y0 y1
  clear hW0
  unfold btV Rw.val at *
  go_enter func52,ntmps52
  go_wp2_with fail
  rw [← HWE.o]
  refine HGET.o.mono ?_
  intro e w1 ht
  have HW1:=Zh (Zad HA.o ht.1)
  have HY1:=Zh (HY.o.keep ht.1)
  have HR1:=Zh (HR.o.keep ht.1)
  have hs1:w.heap.size+2≤w1.heap.size:=by have:=ht.1.size;rw [HS0.o] at this;exact this
  clear HWE y0 y1 HGET
  cases hg:getH (lfs L) y with
  | none =>
   have hre:=ht.2.1 hg
   subst hre
   have HD:=Zh (HXE.o.trans (ZlT hg))
   have HB2:=Zh (Zad HW1.o (Zab w1 (.cells #[.float .f64 0,.bool false,.slice none 0 0,.int .i64 0,.int .i64 0,.int .i64 0] 39)))
   clear ht hg
   unfold Zc5
   go_wp2_with fail
   go_ret2
   rw [HD.o]
   exact Zdh.same H.o HB2.o 3
  | some was =>
   obtain⟨hwf,x,hxr,hre,hcol⟩:=ht.2.2 was hg
   subst hre
   obtain⟨i,k,hy,hdec⟩:=Zhs hg
   subst hy
   have hil:i<len:=by
    have:=(Zc8 (Zb5 hdec)).1
    rw [ZaP] at this
    rw [← (show L.length=len from H.o.len)]
    exact this
   have hst:=ZbP x.r.key x.r.dead x.a x.n x.c x.r.wr x.r.cell x.r.no w1
   have hB:=Zab w1 (.cells #[.float .f64 x.r.key,.bool x.r.dead,.slice x.a x.n x.c,.int .i64 x.r.wr,.int .i64 x.r.cell,.int .i64 x.r.no] 39)
   have HB2:=Zh (Zad HW1.o hB)
   have HY2:=Zh (HY1.o.keep hB)
   have HR2:=Zh (HR1.o.keep hB)
   have hXX:=Zai w1 x.r (.slice x.a x.n x.c)
   have hs2:(w1.alloc (.cells #[.float .f64 x.r.key,.bool x.r.dead,.slice x.a x.n x.c,.int .i64 x.r.wr,.int .i64 x.r.cell,.int .i64 x.r.no] 39)).heap.size=w1.heap.size+1:=Zaf _ _
   generalize w1.alloc (.cells #[.float .f64 x.r.key,.bool x.r.dead,.slice x.a x.n x.c,.int .i64 x.r.wr,.int .i64 x.r.cell,.int .i64 x.r.no] 39)=W2 at *
   have HST:=Zh hst
   have HX2:=Zh hXX
   have HF2:=Zh (HFR.o.keep HB2.o (Nat.le_refl _))
   have HMAYC:=Zh (fun m (hm:r.may=m)=>Zcv r m hm ra rn rc W2 HF2.o HRF.o)
   have r0:=HR2.o.c0
   have r1:=HR2.o.c1
   have r2:=HR2.o.c2
   have r3:=HR2.o.c3
   have r4:=HR2.o.c4
   have r5:=HR2.o.c5
   have HXR:=Zh hxr
   have hk1:x.r.key<18446744073709551616:=by rw [hxr];exact hwf.key
   have hk2:r.key<18446744073709551616:=HRF.o.key
   have HK1:=Zh hk1
   have HK2:=Zh hk2
   clear ht hxr hcol hdec hst hB hXX hwf hk1 hk2
   unfold Rx.val Rw.val
   unfold Rw.val at HMAYC
   go_wp2_with (refine Zac _ rfl rfl 39 (.tmp 12) (.tmp 21) rfl (.pointer (some ⟨w1.heap.size,0,none⟩)) (.agg #[.float .f64 x.r.key,.bool x.r.dead,.slice x.a x.n x.c,.int .i64 x.r.wr,.int .i64 x.r.cell,.int .i64 x.r.no]) rfl rfl W2 HST.o ?_)
   cases hm:r.may with
   | false =>
    refine(HMAYC.o false hm).mono ?_
    rintro e w5 ⟨rfl,hb5⟩
    have HB5:=Zh (Zad HB2.o hb5)
    clear hb5 r0 r1 r2 r3 r4 r5
    have HDA:=Zh (HXE.o.trans (Ze5 hg (by first | exact .inl hm | exact .inr (.inl ⟨rfl,hw0⟩) | exact .inr (.inr hkey))))
    go_wp2_with fail
    go_ret2
    rw [HDA.o]
    exact Zdh.same H.o HB5.o 1
   | true =>
    refine(HMAYC.o true hm).mono ?_
    rintro e w5 ⟨rfl,hb5⟩
    have HB5:=Zh (Zad HB2.o hb5)
    have HR5:=Zh (HR2.o.keep hb5)
    have HX5:=Zh (HX2.o.keep hb5)
    have HY5:=Zh (HY2.o.keep hb5)
    have hs5:w1.heap.size+1≤w5.heap.size:=by have:=hb5.size;omega
    clear hb5 r0 r1 r2 r3 r4 r5 HMAYC
    have r0:=HR5.o.c0
    have r3:=HR5.o.c3
    have x0:=HX5.o.c0
    have y0:=HY5.o.c0
    have y1:=HY5.o.c1
    have HGL:Hi (Gl D w ⟨a,len,cap⟩ L):=H.o
    have HG5:=Zh (H.o.below HB5.o (Nat.le_refl _))
    obtain⟨b,off,ha,c0,c1⟩:=HG5.o.cell i hil
    replace ha:a=some ⟨b,off,none⟩:=ha
    subst ha
    have hit:=HG5.o.at (i:=i) hil
    have hlf:=Zdv L i
    have h4:=HM4.o _ (ZbG (l:=lfs L) (i:=i) (by rw [ZaP,(show L.length=len from H.o.len)];exact hil))
    obtain⟨z,hz⟩:∃z,z=L.getD i Lb.zero:=⟨_,rfl⟩
    rw [← hz] at c0 c1 hit hlf
    rw [hlf] at h4
    obtain⟨⟨za,zn,zc⟩,⟨qa,qn,qc⟩,zt,zl⟩:=z
    have HIT:=Zh hit
    have HLF:=Zh hlf
    have hz4:zn=4:=by have:=hit.1.len;have h4':zt.length=4:=h4;simp only at this;omega
    subst hz4
    have HLD:=Zh (Zbo c0 c1)
    have HIX:=Zh (Zbr b off len cap i hil)
    unfold Sl.val at c0 c1
    unfold lfV Sl.val at HLD
    simp only at c0 c1 HLD
    clear hit hlf hz h4
    cases joins with
    | true =>
     by_cases hw0:r.wr=0
     · have hw0i:(r.wr:Int)=0:=hw0
       clear c0 c1 x0
       have HDA:=Zh (HXE.o.trans (Ze5 hg (by first | exact .inl hm | exact .inr (.inl ⟨rfl,hw0⟩) | exact .inr (.inr hkey))))
       go_wp2_with fail
       go_ret2
       rw [HDA.o]
       exact Zdh.same H.o HB5.o 1
     · have hw0i:¬(r.wr:Int)=0:=hw0
       have HSM:=Zh (Zb1 x.r.key r.key w5)
       go_wp2_with fail
       refine HSM.o.mono ?_
       rintro e w6 ⟨rfl,hw6⟩
       obtain rfl:=hw6.symm
       cases hq:(x.r.key == r.key) with
       | false =>
        have hkey:was.key≠r.key:=by rw [← HXR.o];exact beq_eq_false_iff_ne.1 hq
        clear c0 c1 x0 HSM
        have HDA:=Zh (HXE.o.trans (Ze5 hg (by first | exact .inl hm | exact .inr (.inl ⟨rfl,hw0⟩) | exact .inr (.inr hkey))))
        go_wp2_with fail
        go_ret2
        rw [HDA.o]
        exact Zdh.same H.o HB5.o 1
       | true =>
        have hkey:¬(was.key≠r.key):=by rw [← HXR.o];exact fun h=>h (beq_iff_eq.1 hq)
        have hno:¬(r.may=false∨(true=true∧r.wr=0)∨was.key≠r.key):=by rintro (h | h | h);rw [hm] at h;cases h;exact hw0 h.2;exact hkey h
        have HNO:=Zh hno
        clear hno HSM hq
        have hB6:=Zab w5 (.cells #[.slice za 4 zc,.slice qa qn qc] 101)
        have hk6:=Zao w5 (Sl.val ⟨za,4,zc⟩) (Sl.val ⟨qa,qn,qc⟩)
        have hs6:(w5.alloc (.cells #[.slice za 4 zc,.slice qa qn qc] 101)).heap.size=w5.heap.size+1:=Zaf _ _
        obtain⟨W6,hW6⟩:∃W6,W6=w5.alloc (.cells #[.slice za 4 zc,.slice qa qn qc] 101):=⟨_,rfl⟩
        obtain⟨Wl,hstl,hkl,hfl⟩:=Zdc (w5.alloc (.cells #[.slice none 0 0,.slice none 0 0] 101)) w5.heap.size _ _ (Zao w5 (Sl.val Sl.nil) (Sl.val Sl.nil)) ⟨za,4,zc⟩ ⟨qa,qn,qc⟩
        have hB7:Bl w5 Wl:=(Zab w5 _).trans (hfl.below (Zab w5 _).size (fun k hk=>by rw [hk];exact Nat.le_refl _))
        have hs7:w5.heap.size<Wl.heap.size:=hkl.lt
        have HBV:=Zh (Zad HB5.o hB7)
        have HBA:=Zh hkl
        have HYA:=Zh (HY5.o.keep hB7)
        have HRA:=Zh (HR5.o.keep hB7)
        have HFA:=Zh (HFR.o.keep HBV.o (Nat.le_refl _))
        have HDI:=Zh ((HIT.o.1.mono (E:=fun k=>D k∧k<w5.heap.size) (fun k h hl=>⟨h,hl⟩)).below hB7 (Nat.le_refl _))
        have HDB:=Zh ((HIT.o.2.mono (E:=fun k=>D k∧k<w5.heap.size) (fun k h hl=>⟨h,hl⟩)).below hB7 (Nat.le_refl _))
        have hapz:∀{w8:World},True:=fun {_}=>trivial
        have HDA0:Hi (Gi (fun k=>Ap w5.heap.size k∧Old D w k) Wl ⟨za,4,zc⟩ zt∧Gb (fun k=>Ap w5.heap.size k∧Old D w k) Wl ⟨qa,qn,qc⟩ zl):=⟨(HIT.o.1.mono (E:=fun k=>Ap w5.heap.size k∧Old D w k) (fun k h hl=>⟨fun e=>by subst e;omega,.inl h⟩)).below hB7 (Nat.le_refl _),(HIT.o.2.mono (E:=fun k=>Ap w5.heap.size k∧Old D w k) (fun k h hl=>⟨fun e=>by subst e;omega,.inl h⟩)).below hB7 (Nat.le_refl _)⟩
        have HSTL:=Zh hstl
        unfold lfV Sl.val at HSTL
        simp only at HSTL

        have HRJ:Hi (RwBlk Wl (w.heap.size+1) r (.slice ra rn rc)):=HRA.o
        have HJC:=Zh (Zfg (D:=fun k=>D k∧k<w5.heap.size) Wl ⟨za,4,zc⟩ ⟨qa,qn,qc⟩ zt zl HDI.o HDB.o r.wr ⟨la,ln,lc⟩ live ((HLV.o.mono (E:=fun k=>D k∧k<w5.heap.size) (fun k h hl=>⟨h,by omega⟩)).below HBV.o (Nat.le_refl _)) rfl)
        have HZT:Hi (zt=(lf (lfs L) i).itl):=by show _=_;rw [HLF.o];rfl
        have HZS:Hi (bss zl=(lf (lfs L) i).slots):=by show _=_;rw [HLF.o];rfl
        unfold lfV Sl.val at HJC
        simp only at HJC
        have r3':=HRA.o.c3
        have l0:=HBA.o.c0
        have l1:=HBA.o.c1
        unfold Sl.val at l0 l1
        simp only at l0 l1
        clear hW6 hB6 hk6 hs6 hstl hkl hfl hB7 hapz HDA0 HDI HDB
        clear r0 r3 x0 y1 hkey
        go_wp2_with (refine Zac _ rfl rfl 101 (.tmp 14) (.tmp 50) rfl (.pointer (some ⟨w5.heap.size,0,none⟩)) (.agg #[.slice za 4 zc,.slice qa qn qc]) rfl rfl Wl HSTL.o ?_)
        refine HJC.o.mono ?_
        rintro e w7 ⟨hb7,⟨ja,jn,jc⟩,⟨pa,pn,pc⟩,rfl,hji,hjb⟩
        have HB7:=Zh (Zad HBV.o hb7)
        have HBA7:=Zh (HBA.o.below hb7)
        have HYA7:=Zh (HYA.o.keep hb7)
        have HRA7:=Zh (HRA.o.keep hb7)
        have hs8:Wl.heap.size≤w7.heap.size:=hb7.size
        clear c0 c1 l0 l1 r3' HJC hb7
        obtain⟨Wm,hstm,hkm,hfm⟩:=Zdc (w7.alloc (.cells #[.slice none 0 0,.slice none 0 0] 101)) w7.heap.size _ _ (Zao w7 (Sl.val Sl.nil) (Sl.val Sl.nil)) ⟨ja,jn,jc⟩ ⟨pa,pn,pc⟩
        have hB8:Bl w7 Wm:=(Zab w7 _).trans (hfm.below (Zab w7 _).size (fun k hk=>by rw [hk];exact Nat.le_refl _))
        have HSTM:=Zh hstm
        unfold lfV Sl.val at HSTM
        simp only at HSTM
        have HB8:=Zh (Zad HB7.o hB8)
        have HKM:=Zh hkm
        have HBA8:=Zh (HBA7.o.below hB8)
        have HYA8:=Zh (HYA7.o.keep hB8)
        have HRA8:=Zh (HRA7.o.keep hB8)
        have m0:=hkm.c0
        have m1:=hkm.c1
        unfold Sl.val at m0 m1
        simp only at m0 m1
        have hs9:w7.heap.size<Wm.heap.size:=hkm.lt
        have HJE:Hi ((joinI zt r.wr live).e=(joinI (lf (lfs L) i).itl r.wr live).e):=by show _=_;rw [HZT.o]
        by_cases hje:(joinI zt r.wr live).e=0
        · have hje1:¬((joinI zt r.wr live).e≠0):=fun h=>h hje
          obtain⟨Wn,hstn,hkn,hfn⟩:=Zdc Wm w5.heap.size _ _ HBA8.o ⟨ja,jn,jc⟩ ⟨pa,pn,pc⟩
          have HSTN:=Zh hstn
          unfold lfV Sl.val at HSTN
          simp only at HSTN
          have HBZ:=Zh hkn
          have HBW:Hi (Bl w Wn):=HB8.o.trans (hfn.below HB8.o.size (fun k hk=>by rw [hk];omega))
          have HYZ:Hi (BtBlk Wn w.heap.size ((i:Int),(k:Int))):=(hfn.block _ HYA8.o.lt (by omega)).trans HYA8.o
          have HRZ:Hi (RwBlk Wn (w.heap.size+1) r (.slice ra rn rc)):=(hfn.block _ (Array.getElem?_eq_some_iff.1 HRA8.o).1 (by omega)).trans HRA8.o
          have HFZ:=Zh (HFR.o.keep HBW.o (Nat.le_refl _))
          have hap:∀k,Old (fun k=>D k∧k<w5.heap.size) Wl k→k<w7.heap.size→Ap w5.heap.size k∧Old D w k:=by intro k hk _;refine ⟨fun e=>?_,?_⟩;subst e;rcases hk with h | h;exact absurd h.2 (Nat.lt_irrefl _);omega;rcases hk with h | h;exact .inl h.1;exact .inr (by have:=HB5.o.size;omega)
          have HDZ:Hi (Gi (fun k=>Ap w5.heap.size k∧Old D w k) Wn ⟨ja,jn,jc⟩ (joinI zt r.wr live).t∧Gb (fun k=>Ap w5.heap.size k∧Old D w k) Wn ⟨pa,pn,pc⟩ zl):=
           ⟨((hji.mono hap).below hB8 (Nat.le_refl _)).keep (Kept.frm hfn (fun k hk e=>hk.1 e)),((hjb.mono hap).below hB8 (Nat.le_refl _)).keep (Kept.frm hfn (fun k hk e=>hk.1 e))⟩
          have HD:=Zh (HXE.o.trans (ZlU hg (by rintro (h | h | h);exact HNO.o (.inl h);exact HNO.o (.inr (.inl ⟨trivial,h.2⟩));exact HNO.o (.inr (.inr h))) (by rintro ⟨_,h⟩;simp only [Int.toNat_natCast] at h;rw [← HJE.o] at h;exact h hje)))
          simp only [Int.toNat_natCast] at HD
          have HZT9:=HZT
          clear hstm hkm hfm hB8 hstn hkn hfn hap hji hjb
          go_wp2_with (first | refine Zac _ rfl rfl 101 (.tmp 15) (.tmp 58) rfl (.pointer (some ⟨w7.heap.size,0,none⟩)) (.agg #[.slice ja jn jc,.slice pa pn pc]) rfl rfl Wm HSTM.o ?_ | refine Zac _ rfl rfl 101 (.tmp 14) (.tmp 64) rfl (.pointer (some ⟨w5.heap.size,0,none⟩)) (.agg #[.slice ja jn jc,.slice pa pn pc]) rfl rfl Wn HSTN.o ?_)
          clear m0 m1
          refine Pl.q9 (ops:=Pl.find 12 ((f52.body).getD .skip)) ?_
          refine ZoD (E:=fun k=>Ap w5.heap.size k∧Old D w k) Wn Wn w5.heap.size w.heap.size (fun k hk=>hk.1) (fun k hk=>⟨fun e=>by subst e;have:=HBZ.o.lt;omega,.inr (Nat.le_trans HBW.o.size hk)⟩) (k:Int) (i:Int) HYZ.o (by omega) (Lb.mk ⟨ja,jn,jc⟩ ⟨pa,pn,pc⟩ (joinI zt r.wr live).t zl) HBZ.o (by have:=HBZ.o.lt;exact this) HDZ.o (w.heap.size+1) r ra rn rc HRZ.o HFZ.o HRF.o hm (by omega) (Below.refl _ _) (by rfl) (by rfl) (by rfl) (by rfl) (by rfl) ?_
          intro u v6 l6 w9 hk9 hgi9 hgb9 hl6 hf9
          simp only [Pl.pu,List.foldl,Act.put,List.setIfInBounds_toArray,List.set_cons_zero,List.set_cons_succ]
          have HB9:Hi (Bl w w9):=HBW.o.trans (hf9.below HBW.o.size (fun k hk=>by rw [hk];omega))
          have HY9:BtBlk w9 w.heap.size ((i:Int),(k:Int)):=(hf9.block _ HYZ.o.lt (by omega)).trans HYZ.o
          have y0:=HY9.c0
          have d0:=hk9.c0
          have d1:=hk9.c1
          have HSET:=Zh (Zfl (D:=Old D w) w9 ⟨some ⟨b,off,none⟩,len,cap⟩ L ((HGL.o.below HB9.o (Nat.le_refl _)).wide (fun _ hk=>.inl hk)) i hil ⟨(Lb.mk ⟨ja,jn,jc⟩ ⟨pa,pn,pc⟩ (joinI zt r.wr live).t zl).u,v6,(Lb.mk ⟨ja,jn,jc⟩ ⟨pa,pn,pc⟩ (joinI zt r.wr live).t zl).t,l6⟩ ⟨hgi9.wide (fun _ hk=>hk.2),hgb9.wide (fun _ hk=>hk.2)⟩)
          have HEQ:Hi (((lfs L).set i (Lb.mk (Lb.mk ⟨ja,jn,jc⟩ ⟨pa,pn,pc⟩ (joinI zt r.wr live).t zl).u v6 (Lb.mk ⟨ja,jn,jc⟩ ⟨pa,pn,pc⟩ (joinI zt r.wr live).t zl).t l6).lf)=X.l):=by
           show _=_
           rw [HD.o]
           unfold Lb.lf layL
           rw [hl6,HZT.o,HZS.o]
           rfl
          rw [HEQ.o] at HSET
          have HXE0:Hi (X.e=0):=by show _=_;rw [HD.o]
          clear hk9 hgi9 hgb9 hl6 hf9 HEQ HY9 HD hm
          obtain⟨⟨ua,un,uc⟩,⟨va,vn,vc⟩,zt,zl⟩:=(Lb.mk ⟨ja,jn,jc⟩ ⟨pa,pn,pc⟩ (joinI zt r.wr live).t zl)
          obtain⟨ya,yn,yc⟩:=v6
          unfold lfV Sl.val at HSET
          unfold Sl.val at d0 d1
          simp only at HSET d0 d1 y0
          go_wp2_with fail
          refine HSET.o.mono ?_
          rintro e w4 ⟨hb4,⟨sa,sn,sc⟩,L',rfl,hgl,hls⟩
          have HB4:=Zh (Zad HB9.o hb4)
          have HGLE:=Zh hgl
          have HLS:=Zh hls
          clear hb4 hgl hls d0 d1 y0
          unfold Sl.val
          go_wp2_with fail
          go_ret2
          refine⟨HB4.o,⟨sa,sn,sc⟩,L',?_,HGLE.o.wide (fun k hk=>by rcases hk with h | h;exact h;exact .inr (Nat.le_trans HB9.o.size h)),HLS.o⟩
          rw [HXE0.o]
          rfl
        · have hje1:(joinI zt r.wr live).e≠0:=hje
          have HD:=Zh (HXE.o.trans (ZnR hg (by rintro (h | h | h);exact HNO.o (.inl h);exact HNO.o (.inr (.inl ⟨trivial,h.2⟩));exact HNO.o (.inr (.inr h))) (by simp only [Int.toNat_natCast];rw [← HJE.o];exact hje)))
          simp only [Int.toNat_natCast] at HD
          rw [← HJE.o] at HD
          clear hstm hkm hfm hB8 hji hjb
          go_wp2_with (refine Zac _ rfl rfl 101 (.tmp 15) (.tmp 58) rfl (.pointer (some ⟨w7.heap.size,0,none⟩)) (.agg #[.slice ja jn jc,.slice pa pn pc]) rfl rfl Wm HSTM.o ?_)
          go_ret2
          rw [HD.o]
          exact Zdh.same H.o HB8.o _
    | false =>
     have HSM:=Zh (Zb1 x.r.key r.key w5)
     go_wp2_with fail
     refine HSM.o.mono ?_
     rintro e w6 ⟨rfl,hw6⟩
     obtain rfl:=hw6.symm
     cases hq:(x.r.key == r.key) with
     | false =>
      have hkey:was.key≠r.key:=by rw [← HXR.o];exact beq_eq_false_iff_ne.1 hq
      clear c0 c1 x0 HSM
      have HDA:=Zh (HXE.o.trans (Ze5 hg (by first | exact .inl hm | exact .inr (.inl ⟨rfl,hw0⟩) | exact .inr (.inr hkey))))
      go_wp2_with fail
      go_ret2
      rw [HDA.o]
      exact Zdh.same H.o HB5.o 1
     | true =>
      have hkey:¬(was.key≠r.key):=by rw [← HXR.o];exact fun h=>h (beq_iff_eq.1 hq)
      have hno:¬(r.may=false∨(false=true∧r.wr=0)∨was.key≠r.key):=by rintro (h | h | h);rw [hm] at h;cases h;cases h.1;exact hkey h
      have HNO:=Zh hno
      clear hno HSM hq
      have hB6:=Zab w5 (.cells #[.slice za 4 zc,.slice qa qn qc] 101)
      have hk6:=Zao w5 (Sl.val ⟨za,4,zc⟩) (Sl.val ⟨qa,qn,qc⟩)
      have hs6:(w5.alloc (.cells #[.slice za 4 zc,.slice qa qn qc] 101)).heap.size=w5.heap.size+1:=Zaf _ _
      obtain⟨W6,hW6⟩:∃W6,W6=w5.alloc (.cells #[.slice za 4 zc,.slice qa qn qc] 101):=⟨_,rfl⟩
      obtain⟨Wl,hstl,hkl,hfl⟩:=Zdc (w5.alloc (.cells #[.slice none 0 0,.slice none 0 0] 101)) w5.heap.size _ _ (Zao w5 (Sl.val Sl.nil) (Sl.val Sl.nil)) ⟨za,4,zc⟩ ⟨qa,qn,qc⟩
      have hB7:Bl w5 Wl:=(Zab w5 _).trans (hfl.below (Zab w5 _).size (fun k hk=>by rw [hk];exact Nat.le_refl _))
      have hs7:w5.heap.size<Wl.heap.size:=hkl.lt
      have HBW:=Zh (Zad HB5.o hB7)
      have HBZ:=Zh hkl
      have HYZ:=Zh (HY5.o.keep hB7)
      have HRZ:=Zh (HR5.o.keep hB7)
      have HFZ:=Zh (HFR.o.keep HBW.o (Nat.le_refl _))
      have HDI:=Zh ((HIT.o.1.mono (E:=fun k=>D k∧k<w5.heap.size) (fun k h hl=>⟨h,hl⟩)).below hB7 (Nat.le_refl _))
      have HDB:=Zh ((HIT.o.2.mono (E:=fun k=>D k∧k<w5.heap.size) (fun k h hl=>⟨h,hl⟩)).below hB7 (Nat.le_refl _))
      have hapz:∀{w8:World},True:=fun {_}=>trivial
      have HDZ:Hi (Gi (fun k=>Ap w5.heap.size k∧Old D w k) Wl ⟨za,4,zc⟩ zt∧Gb (fun k=>Ap w5.heap.size k∧Old D w k) Wl ⟨qa,qn,qc⟩ zl):=⟨(HIT.o.1.mono (E:=fun k=>Ap w5.heap.size k∧Old D w k) (fun k h hl=>⟨fun e=>by subst e;omega,.inl h⟩)).below hB7 (Nat.le_refl _),(HIT.o.2.mono (E:=fun k=>Ap w5.heap.size k∧Old D w k) (fun k h hl=>⟨fun e=>by subst e;omega,.inl h⟩)).below hB7 (Nat.le_refl _)⟩
      have HSTL:=Zh hstl
      unfold lfV Sl.val at HSTL
      simp only at HSTL

      have HD:=Zh (HXE.o.trans (ZlU hg HNO.o (by rintro ⟨h,_⟩;cases h)))
      simp only [Int.toNat_natCast] at HD
      have HZT:Hi (zt=(lf (lfs L) i).itl):=by show _=_;rw [HLF.o];rfl
      have HZS:Hi (bss zl=(lf (lfs L) i).slots):=by show _=_;rw [HLF.o];rfl
      have HZT2:Hi ((if false=true then (joinI (lf (lfs L) i).itl r.wr live).t else (lf (lfs L) i).itl)=zt):=by show _=_;rw [if_neg (by decide),HZT.o]
      clear hW6 hB6 hk6 hs6 hstl hkl hfl hB7 hapz
      clear r0 r3 x0 y1 hkey
      go_wp2_with (refine Zac _ rfl rfl 101 (.tmp 14) (.tmp 50) rfl (.pointer (some ⟨w5.heap.size,0,none⟩)) (.agg #[.slice za 4 zc,.slice qa qn qc]) rfl rfl Wl HSTL.o ?_)
      clear c0 c1

      refine Pl.q9 (ops:=Pl.find 12 ((f52.body).getD .skip)) ?_
      refine ZoD (E:=fun k=>Ap w5.heap.size k∧Old D w k) Wl Wl w5.heap.size w.heap.size (fun k hk=>hk.1) (fun k hk=>⟨fun e=>by subst e;have:=HBZ.o.lt;omega,.inr (Nat.le_trans HBW.o.size hk)⟩) (k:Int) (i:Int) HYZ.o (by omega) (Lb.mk ⟨za,4,zc⟩ ⟨qa,qn,qc⟩ zt zl) HBZ.o (by have:=HBZ.o.lt;exact this) HDZ.o (w.heap.size+1) r ra rn rc HRZ.o HFZ.o HRF.o hm (by omega) (Below.refl _ _) (by rfl) (by rfl) (by rfl) (by rfl) (by rfl) ?_
      intro u v6 l6 w9 hk9 hgi9 hgb9 hl6 hf9
      simp only [Pl.pu,List.foldl,Act.put,List.setIfInBounds_toArray,List.set_cons_zero,List.set_cons_succ]
      have HB9:Hi (Bl w w9):=HBW.o.trans (hf9.below HBW.o.size (fun k hk=>by rw [hk];omega))
      have HY9:BtBlk w9 w.heap.size ((i:Int),(k:Int)):=(hf9.block _ HYZ.o.lt (by omega)).trans HYZ.o
      have y0:=HY9.c0
      have d0:=hk9.c0
      have d1:=hk9.c1
      have HSET:=Zh (Zfl (D:=Old D w) w9 ⟨some ⟨b,off,none⟩,len,cap⟩ L ((HGL.o.below HB9.o (Nat.le_refl _)).wide (fun _ hk=>.inl hk)) i hil ⟨(Lb.mk ⟨za,4,zc⟩ ⟨qa,qn,qc⟩ zt zl).u,v6,(Lb.mk ⟨za,4,zc⟩ ⟨qa,qn,qc⟩ zt zl).t,l6⟩ ⟨hgi9.wide (fun _ hk=>hk.2),hgb9.wide (fun _ hk=>hk.2)⟩)
      have HEQ:Hi (((lfs L).set i (Lb.mk (Lb.mk ⟨za,4,zc⟩ ⟨qa,qn,qc⟩ zt zl).u v6 (Lb.mk ⟨za,4,zc⟩ ⟨qa,qn,qc⟩ zt zl).t l6).lf)=X.l):=by
       show _=_
       rw [HD.o]
       unfold Lb.lf layL
       rw [hl6,HZT.o,HZS.o]
       rfl
      rw [HEQ.o] at HSET
      have HXE0:Hi (X.e=0):=by show _=_;rw [HD.o]
      clear hk9 hgi9 hgb9 hl6 hf9 HEQ HY9 HD hm
      obtain⟨⟨ua,un,uc⟩,⟨va,vn,vc⟩,zt,zl⟩:=(Lb.mk ⟨za,4,zc⟩ ⟨qa,qn,qc⟩ zt zl)
      obtain⟨ya,yn,yc⟩:=v6
      unfold lfV Sl.val at HSET
      unfold Sl.val at d0 d1
      simp only at HSET d0 d1 y0
      go_wp2_with fail
      refine HSET.o.mono ?_
      rintro e w4 ⟨hb4,⟨sa,sn,sc⟩,L',rfl,hgl,hls⟩
      have HB4:=Zh (Zad HB9.o hb4)
      have HGLE:=Zh hgl
      have HLS:=Zh hls
      clear hb4 hgl hls d0 d1 y0
      unfold Sl.val
      go_wp2_with fail
      go_ret2
      refine⟨HB4.o,⟨sa,sn,sc⟩,L',?_,HGLE.o.wide (fun k hk=>by rcases hk with h | h;exact h;exact .inr (Nat.le_trans HB9.o.size h)),HLS.o⟩
      rw [HXE0.o]
      rfl
def ZbT (D:Nat→Prop) (w:World) (P:Ph) (e:Ending) (w':World):Prop:=Bl w w'∧∃(s':Sl) (L':List Lb),e=.returned (.tuple #[.slice s'.a s'.len s'.cap,btV P.b,.int .i64 P.e])∧Gl (Old D w) w' s' L'∧lfs L'=P.l
theorem ZbT.same {D:Nat→Prop}(h:Gl D w s L)(hb:Bl w w')(c:Int):ZbT D w ⟨lfs L,(0,0),c⟩ (.returned (.tuple #[.slice s.a s.len s.cap,btV (0,0),.int .i64 c])) w':=
 ⟨hb,s,L,rfl,(h.below hb (Nat.le_refl _)).wide (fun _ hk=>.inl hk),rfl⟩
theorem ZgJ (h:r.may=false∨r.wr=0∨(findH l r.key).isSome=true):putH l r live=⟨l,(0,0),1⟩:=by unfold putH;rw [if_pos h]
theorem Zmr (h:¬(r.may=false∨r.wr=0∨(findH l r.key).isSome=true))(hr:Zcn (hpB r) l 0=none):putH l r live=⟨l,(0,0),7⟩:=by unfold putH;rw [if_neg h,hr]
theorem Zof (h:¬(r.may=false∨r.wr=0∨(findH l r.key).isSome=true))(hr:Zcn (hpB r) l 0=some i)(hj:(joinI (lf l i).itl r.wr live).e≠0):putH l r live=⟨l,(0,0),(joinI (lf l i).itl r.wr live).e⟩:=by
 unfold putH;rw [if_neg h,hr];simp only [if_neg hj]
theorem Zp8 (h:¬(r.may=false∨r.wr=0∨(findH l r.key).isSome=true))(hr:Zcn (hpB r) l 0=some i)(hj:(joinI (lf l i).itl r.wr live).e=0):putH l r live=⟨l.set i (putL (lf l i) r live),((i:Int),(insA (lf l i).slots (hpB r)).at_),0⟩:=by
 unfold putH;rw [if_neg h,hr];simp only [if_pos hj]
theorem Zbm {fn:Func}{x y z:Nat}(hr:fn.results=#[.tmp x,.cell y 67,.tmp z])(hq:BtBlk W q b)(tmps:Array Value)(u v:Value)(tx:tmps.getD x undef=u)(ty:tmps.getD y undef=.pointer (some ⟨q,0,none⟩))(tz:tmps.getD z undef=v) :
    (results fn tmps).run prog W=.ok (.tuple #[u,btV b,v]) W:=by
  have d0:=hq.c0;have d1:=hq.c1;(have tx2:tmps[x]?.getD undef=u:=by simpa using tx);(have ty2:tmps[y]?.getD undef=.pointer (some ⟨q,0,none⟩):=by simpa using ty);(have tz2:tmps[z]?.getD undef=v:=by simpa using tz);simp [results,hr,tx2,ty2,tz2,go_sem,d0,d1,btV]
theorem ZhJ {D:Nat→Prop}(w:World)(s:Sl)(L:List Lb)(h:Gl D w s L)(hmay:∀f∈lfs L,MayL f)(r:Rw)(ra:Option Addr)(rn rc:Nat)(hr:Fs w ra rn rc r.xs)(hrf:r.fits)(lv:Sl)(live:List Int)(hlv:Gi D w lv live) :
    Calls prog 28 #[s.val,r.val (.slice ra rn rc),lv.val] w (ZbT D w (putH (lfs L) r live)):=by
  have hsf:∀(w:World) (a:Addr) (m:Mode) (x:Nat),(store a (.float .f64 x) m).run prog w=stored prog w a (.float .f64 x) m:=fun w a m x=>run_store prog w a _ m rfl
  obtain⟨X,hX⟩:∃X,X=putH (lfs L) r live:=⟨_,rfl⟩
  rw [← hX]
  have HXE:=Zh hX
  clear hX
  have hA1:=Zab w (.cells #[.float .f64 r.key,.bool r.dead,.slice ra rn rc,.int .i64 r.wr,.int .i64 r.cell,.int .i64 r.no] 39)
  have hA2:=Zab (w.alloc (.cells #[.float .f64 r.key,.bool r.dead,.slice ra rn rc,.int .i64 r.wr,.int .i64 r.cell,.int .i64 r.no] 39)) (.cells #[.int .i64 0,.int .i64 0] 67)
  have hR:RwBlk ((w.alloc (.cells #[.float .f64 r.key,.bool r.dead,.slice ra rn rc,.int .i64 r.wr,.int .i64 r.cell,.int .i64 r.no] 39)).alloc (.cells #[.int .i64 0,.int .i64 0] 67)) w.heap.size r (.slice ra rn rc):=(Zai w r (.slice ra rn rc)).keep hA2
  have hQ:BtBlk ((w.alloc (.cells #[.float .f64 r.key,.bool r.dead,.slice ra rn rc,.int .i64 r.wr,.int .i64 r.cell,.int .i64 r.no] 39)).alloc (.cells #[.int .i64 0,.int .i64 0] 67)) (w.heap.size+1) (0,0):=by
   have:=Zbh (w.alloc (.cells #[.float .f64 r.key,.bool r.dead,.slice ra rn rc,.int .i64 r.wr,.int .i64 r.cell,.int .i64 r.no] 39)) (0,0)
   rwa [Zaf] at this
  have hA:=Zad hA1 hA2
  obtain⟨W0,hW0⟩:∃W0,W0=(w.alloc (.cells #[.float .f64 r.key,.bool r.dead,.slice ra rn rc,.int .i64 r.wr,.int .i64 r.cell,.int .i64 r.no] 39)).alloc (.cells #[.int .i64 0,.int .i64 0] 67):=⟨_,rfl⟩
  rw [← hW0] at hA hR hQ
  have hs0:W0.heap.size=w.heap.size+2:=by rw [hW0,Zaf,Zaf]
  have HR:=Zh hR
  have HQ:=Zh hQ
  have HA:=Zh hA
  have H:=Zh h
  have HLV:=Zh hlv
  have HFR:=Zh hr
  have HRF:=Zh hrf
  have HML:=Zh hmay
  have HS0:=Zh hs0
  have HFIND:=Zh (ZfY W0 s L (h.below hA (Nat.le_refl _)) r.key hrf.key)
  have HWE:=Zh hW0
  have r0:=hR.c0
  have hbig:s.len≤900:=h.big
  obtain⟨a,len,cap⟩:=s
  obtain⟨la,ln,lc⟩:=lv
  clear h hA hR hQ hA1 hA2 hlv hr hrf hmay hs0
  unfold Sl.val at *
  simp only at *
  rw [hW0] at r0
  clear hW0
  unfold Rw.val at *
  go_enter func28,ntmps28
  go_wp2_with fail
  rw [← HWE.o]
  refine HFIND.o.mono ?_
  intro e w1 ht
  obtain⟨th,FR,FB,hth,hre⟩:∃(th:Bool) (FR:Rx) (FB:Bt),th=(findH (lfs L) r.key).isSome∧e=.returned (.tuple #[FR.val,btV FB,.bool th]):=by
   cases hf:findH (lfs L) r.key with
   | none=>exact ⟨false,Rx.zero,(0,0),rfl,ht.2.1 hf⟩
   | some g =>
    obtain⟨_,x,_,hx,_⟩:=ht.2.2 g hf
    exact⟨true,x,_,rfl,hx⟩
  subst hre
  have HTH:=Zh hth
  have hb1:=ht.1
  have hs1:w.heap.size+2≤w1.heap.size:=by have:=hb1.size;rw [HS0.o] at this;exact this
  have hz1:=Zab w1 (.cells #[.float .f64 0,.bool false,.slice none 0 0,.int .i64 0,.int .i64 0,.int .i64 0] 39)
  have hz2:=Zab (w1.alloc (.cells #[.float .f64 0,.bool false,.slice none 0 0,.int .i64 0,.int .i64 0,.int .i64 0] 39)) (.cells #[.int .i64 0,.int .i64 0] 67)
  have hzr:RwBlk ((w1.alloc (.cells #[.float .f64 0,.bool false,.slice none 0 0,.int .i64 0,.int .i64 0,.int .i64 0] 39)).alloc (.cells #[.int .i64 0,.int .i64 0] 67)) w1.heap.size zeroR (.slice none 0 0):=(Zai w1 zeroR (.slice none 0 0)).keep hz2
  have hzq:BtBlk ((w1.alloc (.cells #[.float .f64 0,.bool false,.slice none 0 0,.int .i64 0,.int .i64 0,.int .i64 0] 39)).alloc (.cells #[.int .i64 0,.int .i64 0] 67)) (w1.heap.size+1) (0,0):=by
   have:=Zbh (w1.alloc (.cells #[.float .f64 0,.bool false,.slice none 0 0,.int .i64 0,.int .i64 0,.int .i64 0] 39)) (0,0)
   rwa [Zaf] at this
  have hzs:((w1.alloc (.cells #[.float .f64 0,.bool false,.slice none 0 0,.int .i64 0,.int .i64 0,.int .i64 0] 39)).alloc (.cells #[.int .i64 0,.int .i64 0] 67)).heap.size=w1.heap.size+2:=by rw [Zaf,Zaf]
  have hst1:=Zfy _ w1.heap.size _ _ hzr FR.r FR.a FR.n FR.c
  have hfr1:=Zbi ((w1.alloc (.cells #[.float .f64 0,.bool false,.slice none 0 0,.int .i64 0,.int .i64 0,.int .i64 0] 39)).alloc (.cells #[.int .i64 0,.int .i64 0] 67)) w1.heap.size FR.r (.slice FR.a FR.n FR.c)
  have hzq1:BtBlk (setRw ((w1.alloc (.cells #[.float .f64 0,.bool false,.slice none 0 0,.int .i64 0,.int .i64 0,.int .i64 0] 39)).alloc (.cells #[.int .i64 0,.int .i64 0] 67)) w1.heap.size FR.r (.slice FR.a FR.n FR.c)) (w1.heap.size+1) (0,0):=(hfr1.block _ hzq.lt (by omega)).trans hzq
  have hB1:Bl w1 (setRw ((w1.alloc (.cells #[.float .f64 0,.bool false,.slice none 0 0,.int .i64 0,.int .i64 0,.int .i64 0] 39)).alloc (.cells #[.int .i64 0,.int .i64 0] 67)) w1.heap.size FR.r (.slice FR.a FR.n FR.c)):=(Zad hz1 hz2).trans (hfr1.below (by omega) (fun k hk=>by rw [hk];exact Nat.le_refl _))
  generalize setRw ((w1.alloc (.cells #[.float .f64 0,.bool false,.slice none 0 0,.int .i64 0,.int .i64 0,.int .i64 0] 39)).alloc (.cells #[.int .i64 0,.int .i64 0] 67)) w1.heap.size FR.r (.slice FR.a FR.n FR.c)=Wa at *
  have hst2:=Zfq Wa (w1.heap.size+1) _ hzq1 FB
  have hfr2:=ZaG Wa (w1.heap.size+1) FB
  have hB2:Bl w1 (setBt Wa (w1.heap.size+1) FB):=hB1.trans (hfr2.below hB1.size (fun k hk=>by rw [hk];omega))
  generalize setBt Wa (w1.heap.size+1) FB=W2 at *
  have hs2:w1.heap.size≤W2.heap.size:=hB2.size
  have HST1:=Zh hst1
  have HST2:=Zh hst2
  unfold Rw.val at HST1
  unfold btV at HST2
  have HB2:=Zh (Zad (Zad HA.o hb1) hB2)
  have HR2:=Zh ((HR.o.keep hb1).keep hB2)
  have HQ2:=Zh ((HQ.o.keep hb1).keep hB2)
  have HF2:=Zh (HFR.o.keep HB2.o (Nat.le_refl _))
  have HMAYC:=Zh (fun m (hm:r.may=m)=>Zcv r m hm ra rn rc W2 HF2.o HRF.o)
  unfold Rw.val at HMAYC
  clear HWE ht hth hb1 hz1 hz2 hzr hzq hzs hst1 hfr1 hzq1 hB1 hst2 hfr2 hB2 HFIND r0
  have r0:=HR2.o.c0
  have r1:=HR2.o.c1
  have r2:=HR2.o.c2
  have r3:=HR2.o.c3
  have r4:=HR2.o.c4
  have r5:=HR2.o.c5
  unfold Rx.val Rw.val btV
  go_wp2_with (first | refine Zac _ rfl rfl 39 (.tmp 9) (.tmp 22) rfl (.pointer (some ⟨w1.heap.size,0,none⟩)) (.agg #[.float .f64 FR.r.key,.bool FR.r.dead,.slice FR.a FR.n FR.c,.int .i64 FR.r.wr,.int .i64 FR.r.cell,.int .i64 FR.r.no]) rfl rfl Wa HST1.o ?_ | refine Zac _ rfl rfl 67 (.tmp 10) (.tmp 23) rfl (.pointer (some ⟨w1.heap.size+1,0,none⟩)) (.agg #[.int .i64 FB.1,.int .i64 FB.2]) rfl rfl W2 HST2.o ?_)
  cases hm:r.may with
  | false =>
   refine(HMAYC.o false hm).mono ?_
   rintro e w5 ⟨rfl,hb5⟩
   have HBR:=Zh (Zad HB2.o hb5)
   have HQ5:=Zh (HQ2.o.keep hb5)
   have hno:r.may=false∨r.wr=0∨(findH (lfs L) r.key).isSome=true:=.inl hm
   clear hb5
   have HD:=Zh (HXE.o.trans (ZgJ hno))
   have HSTB:=Zh (Zfq w5 (w.heap.size+1) _ HQ5.o (0,0))
   have HQE:=Zh (ZaV HQ5.o (0,0))
   have HBE:Hi (Bl w (setBt w5 (w.heap.size+1) (0,0))):=HBR.o.trans ((ZaG w5 (w.heap.size+1) (0,0)).below (Nat.le_trans (by omega) HBR.o.size) (fun k hk=>by rw [hk];omega))
   generalize setBt w5 (w.heap.size+1) (0,0)=WE at *
   unfold btV at HSTB
   simp only at HSTB
   clear hno r0 r1 r2 r3 r4 r5
   go_wp2_with (refine Zac _ rfl rfl 67 (.tmp 7) (.tmp 37) rfl (.pointer (some ⟨w.heap.size+1,0,none⟩)) (.agg #[.int .i64 0,.int .i64 0]) rfl rfl WE HSTB.o ?_)
   refine bodyPost_ret (Zbm rfl HQE.o _ _ _ rfl rfl rfl) rfl ?_
   rw [HD.o]
   exact ZbT.same H.o HBE.o 1
  | true =>
   refine(HMAYC.o true hm).mono ?_
   rintro e w5 ⟨rfl,hb5⟩
   have HBR:=Zh (Zad HB2.o hb5)
   have HQ5:=Zh (HQ2.o.keep hb5)
   have HR5:=Zh (HR2.o.keep hb5)
   have hs5:W2.heap.size≤w5.heap.size:=hb5.size
   clear hb5 r0 r1 r2 r3 r4 r5 HMAYC
   have r3:=HR5.o.c3
   by_cases hw0:r.wr=0
   · have hw0i:(r.wr:Int)=0:=hw0
     have hno:r.may=false∨r.wr=0∨(findH (lfs L) r.key).isSome=true:=.inr (.inl hw0)
     have HD:=Zh (HXE.o.trans (ZgJ hno))
     have HSTB:=Zh (Zfq w5 (w.heap.size+1) _ HQ5.o (0,0))
     have HQE:=Zh (ZaV HQ5.o (0,0))
     have HBE:Hi (Bl w (setBt w5 (w.heap.size+1) (0,0))):=HBR.o.trans ((ZaG w5 (w.heap.size+1) (0,0)).below (Nat.le_trans (by omega) HBR.o.size) (fun k hk=>by rw [hk];omega))
     generalize setBt w5 (w.heap.size+1) (0,0)=WE at *
     unfold btV at HSTB
     simp only at HSTB
     clear hno
     go_wp2_with (refine Zac _ rfl rfl 67 (.tmp 7) (.tmp 37) rfl (.pointer (some ⟨w.heap.size+1,0,none⟩)) (.agg #[.int .i64 0,.int .i64 0]) rfl rfl WE HSTB.o ?_)
     refine bodyPost_ret (Zbm rfl HQE.o _ _ _ rfl rfl rfl) rfl ?_
     rw [HD.o]
     exact ZbT.same H.o HBE.o 1
   · have hw0i:¬(r.wr:Int)=0:=hw0
     cases th with
     | true =>
      have hno:r.may=false∨r.wr=0∨(findH (lfs L) r.key).isSome=true:=.inr (.inr HTH.o.symm)
      have HD:=Zh (HXE.o.trans (ZgJ hno))
      have HSTB:=Zh (Zfq w5 (w.heap.size+1) _ HQ5.o (0,0))
      have HQE:=Zh (ZaV HQ5.o (0,0))
      have HBE:Hi (Bl w (setBt w5 (w.heap.size+1) (0,0))):=HBR.o.trans ((ZaG w5 (w.heap.size+1) (0,0)).below (Nat.le_trans (by omega) HBR.o.size) (fun k hk=>by rw [hk];omega))
      generalize setBt w5 (w.heap.size+1) (0,0)=WE at *
      unfold btV at HSTB
      simp only at HSTB
      clear hno
      go_wp2_with (refine Zac _ rfl rfl 67 (.tmp 7) (.tmp 37) rfl (.pointer (some ⟨w.heap.size+1,0,none⟩)) (.agg #[.int .i64 0,.int .i64 0]) rfl rfl WE HSTB.o ?_)
      refine bodyPost_ret (Zbm rfl HQE.o _ _ _ rfl rfl rfl) rfl ?_
      rw [HD.o]
      exact ZbT.same H.o HBE.o 1
     | false =>
      have hok:¬(r.may=false∨r.wr=0∨(findH (lfs L) r.key).isSome=true):=by
       rintro (h | h | h)
       · rw [hm] at h;cases h
       · exact hw0 h
       · have:=HTH.o;rw [h] at this;cases this
      have HOK:=Zh hok
      have HM:=Zh hm
      have hlen:(lfs L).length=len:=by rw [ZaP];exact H.o.len
      have HLN:=Zh hlen
      clear hok hm hlen HTH
      go_wp2_with fail
      go_loopw [12] (fun iv wr=>∃i:Nat,i≤len∧iv=.int .i64 (i:Nat)∧Hi (∀j,j<i→(insA (lf (lfs L) j).slots (hpB r)).e≠0)∧Hi (Bl w5 wr)) (fun iv _=>len-(intOf iv).toNat)
      case atStart=>exact ⟨0,Nat.zero_le _,rfl,(fun j hj=>absurd hj (Nat.not_lt_zero _)),Below.refl _ _⟩
      case round =>
       obtain⟨i,hi,rfl,hno,hWr⟩:=hrel
       have HBR2:=Zh (Zad HBR.o hWr.o)
       have HQR:=Zh (HQ5.o.keep hWr.o)
       have HRR:=Zh (HR5.o.keep hWr.o)
       have hsr:w5.heap.size≤wr.heap.size:=hWr.o.size
       rcases Nat.lt_or_ge i len with hlt | hge
       · have j1:(i:Int)<(len:Int):=by omega
         have HGW:=Zh (H.o.below HBR2.o (Nat.le_refl _))
         obtain⟨b,off,ha,c0,c1⟩:=HGW.o.cell i hlt
         replace ha:a=some ⟨b,off,none⟩:=ha
         subst ha
         have hit:=HGW.o.at (i:=i) hlt
         have hit0:=H.o.at (i:=i) hlt
         have hlf:=Zdv L i
         have hml:=HML.o _ (ZbG (l:=lfs L) (i:=i) (by rw [HLN.o];exact hlt))
         obtain⟨z,hz⟩:∃z,z=L.getD i Lb.zero:=⟨_,rfl⟩
         rw [← hz] at c0 c1 hit hit0 hlf
         rw [hlf] at hml
         have HIT0:=Zh hit0
         have hz4:z.u.len=4:=by have:=hit.1.len;have h4':z.t.length=4:=hml.itl.1;omega
         have hzv:z.v.len≤900:=by have:=hit.2.len;have h64:(bss z.l).length≤64:=hml.slots.1;rw [Zaj] at h64;omega
         have HLF:Hi (lf (lfs L) i=⟨z.t,bss z.l⟩):=hlf
         have HIT:=Zh hit
         have HC0:=Zh c0
         have HC1:=Zh c1
         have HFW:=Zh (HFR.o.keep HBR2.o (Nat.le_refl _))
         clear hit hit0 hlf hml hz c0 c1
         go_wp2_with fail
         refine Pl.q9 (ops:=Pl.find 7 ((f28.body).getD .skip)) ?_
         refine ZrE (D:=D) wr wr b off len cap i hlt z HC0.o HC1.o HIT.o hzv w.heap.size r ra rn rc HRR.o HFW.o HRF.o HM.o (Below.refl _ _) (by rfl) (by rfl) (by rfl) (by rfl) (by rfl) ?_
         intro u g w7 hg7 hbx hb7
         simp only [Pl.pu,List.foldl,Act.put,List.setIfInBounds_toArray,List.set_cons_zero,List.set_cons_succ]
         by_cases he:(insA (bss z.l) (hpB r)).e=0
         · have he1:¬((insA (bss z.l) (hpB r)).e≠0):=fun h=>h he
           have HROOM:Hi (Zcn (hpB r) (lfs L) 0=some i):=Zoq (by rw [HLN.o];exact hlt) (by rw [HLF.o];exact he) hno.o
           have HB7:=Zh (Zad HBR2.o hb7)
           have HR7:=Zh (HRR.o.keep hb7)
           have HQ7:=Zh (HQR.o.keep hb7)
           have HC07:=Zh (Zae HC0.o hb7)
           have HC17:=Zh (Zae HC1.o hb7)
           have hs7:wr.heap.size≤w7.heap.size:=hb7.size
           obtain⟨bu,bv,hbx⟩:=hbx
           have HBX:=Zh hbx
           have hgl:=hbx.lt
           have HIT7:Hi (Gi (fun k=>D k∧k<w.heap.size) w7 z.u z.t∧Gb (fun k=>D k∧k<w.heap.size) w7 z.v z.l):=⟨(HIT0.o.1.mono (E:=fun k=>D k∧k<w.heap.size) (fun k h hl=>⟨h,hl⟩)).below HB7.o (Nat.le_refl _),(HIT0.o.2.mono (E:=fun k=>D k∧k<w.heap.size) (fun k h hl=>⟨h,hl⟩)).below HB7.o (Nat.le_refl _)⟩
           have HLV7:Hi (Gi (fun k=>D k∧k<w.heap.size) w7 ⟨la,ln,lc⟩ live):=(HLV.o.mono (E:=fun k=>D k∧k<w.heap.size) (fun k h hl=>⟨h,hl⟩)).below HB7.o (Nat.le_refl _)
           clear hb7 hbx hno
           go_wp2_with fail
           refine Pl.q9 (ops:=Pl.find 9 ((f28.body).getD .skip)) ?_
           refine ZrF (D:=fun k=>D k∧k<w.heap.size) w7 w7 b off len cap i hlt z HC07.o HC17.o HIT7.o hz4 ⟨la,ln,lc⟩ live HLV7.o w.heap.size r ra rn rc HR7.o (Below.refl _ _) (by rfl) (by rfl) (by rfl) (by rfl) (by rfl) (by rfl) ?_
           intro u9 gx u7 v7 w9 hgx hkx hgi hgb hb9
           simp only [Pl.pu,List.foldl,Act.put,List.setIfInBounds_toArray,List.set_cons_zero,List.set_cons_succ]
           have HB9:=Zh (Zad HB7.o hb9)
           have HR9:=Zh (HR7.o.keep hb9)
           have HQ9:=Zh (HQ7.o.keep hb9)
           have HBX9:=Zh (HBX.o.below hb9)
           have hs9:w7.heap.size≤w9.heap.size:=hb9.size
           have HJE:Hi ((joinI z.t r.wr live).e=(joinI (lf (lfs L) i).itl r.wr live).e):=by show _=_;rw [HLF.o]
           by_cases hj:(joinI z.t r.wr live).e=0
           · have hj1:¬((joinI z.t r.wr live).e≠0):=fun h=>h hj
             have HD:=Zh (HXE.o.trans (Zp8 HOK.o HROOM.o (by rw [← HJE.o];exact hj)))
             have HKX:=Zh hkx
             have hwide:∀k,Nw (fun k=>D k∧k<w.heap.size) w7 gx k→(k≠g∧k≠w.heap.size+1)∧Old D w k:=by intro k hk;rcases hk with h | h;exact ⟨⟨by have:=h.1.2;omega,by have:=h.1.2;omega⟩,.inl h.1.1⟩;exact ⟨⟨by omega,by omega⟩,.inr (by omega)⟩
             have HY:Hi (Gi (fun k=>(k≠g∧k≠w.heap.size+1)∧Old D w k) w9 u7 (joinI z.t r.wr live).t∧Gb (fun k=>(k≠g∧k≠w.heap.size+1)∧Old D w k) w9 v7 z.l):=⟨hgi.wide hwide,hgb.wide hwide⟩
             have HF9:=Zh (HFR.o.keep HB9.o (Nat.le_refl _))
             have hv7:v7.len≤900:=by clear hwide;have h1:=hgb.len;have h2:=HIT.o.2.len;omega
             clear hkx hgi hgb hb9 hwide
             go_wp2_with fail
             refine Pl.q9 (ops:=Pl.find 12 ((f28.body).getD .skip)) ?_
             refine Zq1 (E:=fun k=>(k≠g∧k≠w.heap.size+1)∧Old D w k) w9 w9 gx g (fun k hk=>hk.1.1) (fun k hk=>⟨⟨by omega,by omega⟩,.inr (by omega)⟩) (Lb.mk u7 v7 (joinI z.t r.wr live).t z.l) HKX.o (by omega) _ _ HBX9.o (by omega) HY.o hv7 w.heap.size r ra rn rc HR9.o HF9.o HRF.o HM.o (by omega) (Below.refl _ _) (by rfl) (by rfl) (by rfl) (by rfl) (by rfl) ?_
             intro u12 v6 l6 wz hkz hgiz hgbz hl6 hfz
             simp only [Pl.pu,List.foldl,Act.put,List.setIfInBounds_toArray,List.set_cons_zero,List.set_cons_succ]
             have HBZ:Hi (Bl w wz):=HB9.o.trans (hfz.below (by omega) (fun k hk=>by rw [hk];omega))
             have HQZ:Hi (BtBlk wz (w.heap.size+1) (0,0)):=(hfz.block _ HQ9.o.lt (by omega)).trans HQ9.o
             have d0:=hkz.c0
             have d1:=hkz.c1
             have hsz:w9.heap.size≤wz.heap.size:=hfz.size
             have HSET:=Zh (Zfl (D:=fun k=>k≠w.heap.size+1∧Old D w k) wz ⟨some ⟨b,off,none⟩,len,cap⟩ L ((H.o.mono (E:=fun k=>k≠w.heap.size+1∧Old D w k) (fun k h hl=>⟨by omega,.inl h⟩)).below HBZ.o (Nat.le_refl _)) i hlt ⟨u7,v6,(joinI z.t r.wr live).t,l6⟩ ⟨hgiz.wide (fun k hk=>⟨hk.1.2,hk.2⟩),hgbz.wide (fun k hk=>⟨hk.1.2,hk.2⟩)⟩)
             have HEQ:Hi (((lfs L).set i (Lb.mk u7 v6 (joinI z.t r.wr live).t l6).lf)=X.l):=by
              show _=_
              rw [HD.o]
              unfold Lb.lf putL
              rw [hl6,HLF.o]
             rw [HEQ.o] at HSET
             have HXB:Hi (X.b=((i:Int),(insA (bss z.l) (hpB r)).at_)):=by show _=_;rw [HD.o,HLF.o]
             have HXC:Hi (X.e=0):=by show _=_;rw [HD.o]
             clear hkz hgiz hgbz hl6 hfz HEQ HD
             obtain⟨⟨ja,jn,jc⟩⟩:∃s:Sl,s=u7:=⟨_,rfl⟩
             obtain⟨ja,jn,jc⟩:=u7
             obtain⟨ya,yn,yc⟩:=v6
             unfold lfV Sl.val at HSET
             unfold Sl.val at d0 d1
             simp only at HSET d0 d1
             go_wp2_with fail
             refine HSET.o.mono ?_
             rintro e wq ⟨hbq,⟨sa,sn,sc⟩,L',rfl,hgl2,hls⟩
             have HBQ:=Zh (Zad HBZ.o hbq)
             have HQQ:=Zh (HQZ.o.keep hbq)
             have hsq:wz.heap.size≤wq.heap.size:=hbq.size
             have HSTB:=Zh (Zfq wq (w.heap.size+1) _ HQQ.o ((i:Int),(insA (bss z.l) (hpB r)).at_))
             have HQE:=Zh (ZaV HQQ.o ((i:Int),(insA (bss z.l) (hpB r)).at_))
             have HFE:=Zh (ZaG wq (w.heap.size+1) ((i:Int),(insA (bss z.l) (hpB r)).at_))
             have HBE:Hi (Bl w (setBt wq (w.heap.size+1) ((i:Int),(insA (bss z.l) (hpB r)).at_))):=HBQ.o.trans (HFE.o.below (by omega) (fun k hk=>by rw [hk];omega))
             have HGE:Hi (Gl (Old D w) (setBt wq (w.heap.size+1) ((i:Int),(insA (bss z.l) (hpB r)).at_)) ⟨sa,sn,sc⟩ L'):=((hgl2.wide (fun k hk=>by rcases hk with h | h;exact h;exact ⟨by omega,.inr (by omega)⟩):Gl (fun k=>k≠w.heap.size+1∧Old D w k) wq ⟨sa,sn,sc⟩ L').keep (Kept.frm HFE.o (fun k hk e=>hk.1 e))).wide (fun _ hk=>hk.2)
             have HLS:=Zh hls
             generalize setBt wq (w.heap.size+1) ((i:Int),(insA (bss z.l) (hpB r)).at_)=WE at *
             unfold btV at HSTB
             simp only at HSTB
             clear hbq hgl2 hls d0 d1
             unfold Sl.val
             go_wp2_with (refine Zac _ rfl rfl 67 (.tmp 7) (.tmp 87) rfl (.pointer (some ⟨w.heap.size+1,0,none⟩)) (.agg #[.int .i64 (i:Int),.int .i64 (insA (bss z.l) (hpB r)).at_]) rfl rfl WE HSTB.o ?_)
             refine bodyPost_ret (Zbm rfl HQE.o _ _ _ rfl rfl rfl) rfl ?_
             refine⟨HBE.o,⟨sa,sn,sc⟩,L',?_,HGE.o,HLS.o⟩
             rw [HXB.o,HXC.o]
             rfl
           · have hj1:(joinI z.t r.wr live).e≠0:=hj
             have HD:=Zh (HXE.o.trans (Zof HOK.o HROOM.o (by rw [← HJE.o];exact hj)))
             rw [← HJE.o] at HD
             have HSTB:=Zh (Zfq w9 (w.heap.size+1) _ HQ9.o (0,0))
             have HQE:=Zh (ZaV HQ9.o (0,0))
             have HBE:Hi (Bl w (setBt w9 (w.heap.size+1) (0,0))):=HB9.o.trans ((ZaG w9 (w.heap.size+1) (0,0)).below (by omega) (fun k hk=>by rw [hk];omega))
             generalize setBt w9 (w.heap.size+1) (0,0)=WE at *
             unfold btV at HSTB
             simp only at HSTB
             clear hkx hgi hgb hb9
             go_wp2_with (refine Zac _ rfl rfl 67 (.tmp 7) (.tmp 71) rfl (.pointer (some ⟨w.heap.size+1,0,none⟩)) (.agg #[.int .i64 0,.int .i64 0]) rfl rfl WE HSTB.o ?_)
             refine bodyPost_ret (Zbm rfl HQE.o _ _ _ rfl rfl rfl) rfl ?_
             rw [HD.o]
             exact ZbT.same H.o HBE.o _
         · have he1:(insA (bss z.l) (hpB r)).e≠0:=he
           have HN2:Hi (∀j,j<i+1→(insA (lf (lfs L) j).slots (hpB r)).e≠0):=by
            intro j hj
            rcases Nat.lt_or_ge j i with h1 | h1
            · exact hno.o j h1
            · rw [show j=i by omega,HLF.o];exact he
           have HW2:=Zh (Zad hWr.o hb7)
           clear hb7 hbx hno
           go_wp2_with fail
           go_roundw
           case rel=>exact ⟨i+1,by omega,by go_num,HN2,HW2⟩
           case measure=>simp only [intOf];omega
       · have j1:¬(i:Int)<(len:Int):=by omega
         have hrn:Zcn (hpB r) (lfs L) 0=none:=ZcG.2 (fun m hm=>hno.o m (by rw [HLN.o] at hm;omega))
         have HD:=Zh (HXE.o.trans (Zmr HOK.o hrn))
         have HSTB:=Zh (Zfq wr (w.heap.size+1) _ HQR.o (0,0))
         have HQE:=Zh (ZaV HQR.o (0,0))
         have HBE:Hi (Bl w (setBt wr (w.heap.size+1) (0,0))):=HBR2.o.trans ((ZaG wr (w.heap.size+1) (0,0)).below (by omega) (fun k hk=>by rw [hk];omega))
         generalize setBt wr (w.heap.size+1) (0,0)=WE at *
         unfold btV at HSTB
         simp only at HSTB
         clear hrn hno
         go_wp2_with (refine Zac _ rfl rfl 67 (.tmp 7) (.tmp 89) rfl (.pointer (some ⟨w.heap.size+1,0,none⟩)) (.agg #[.int .i64 0,.int .i64 0]) rfl rfl WE HSTB.o ?_)
         refine bodyPost_ret (Zbm rfl HQE.o _ _ _ rfl rfl rfl) rfl ?_
         rw [HD.o]
         exact ZbT.same H.o HBE.o 7
end Go.Proofs.YtiecfcjlhldhdaaGreat
