/-
  Lemmas.
-/
import Derived.Test.YtiecfcjlhldhdaaGreatKeaw
namespace Go.Proofs.YtiecfcjlhldhdaaGreat
open Go.RowKit
set_option linter.unusedVariables false
set_option linter.unusedSimpArgs false
set_option maxRecDepth 100000
set_option maxHeartbeats 4000000
variable {w W0 V W:World}{y:Bt}{x:Rx}{q g B b1 o1 b2 o2 p:Nat}{l:List Lb}{s:Sl}
theorem ZaQ (w:World)(g:Nat)(r:Rw)(c:Value):Frm (fun k=>k=g) w (setRw w g r c):=
 ((((((Frm.refl (fun k=>k=g) w).setCell (p:=⟨g,0,none⟩) rfl _).setCell (p:=⟨g,1,none⟩) rfl _).setCell (p:=⟨g,2,none⟩) rfl _).setCell (p:=⟨g,3,none⟩) rfl _).setCell (p:=⟨g,4,none⟩) rfl _).setCell (p:=⟨g,5,none⟩) rfl _
theorem Zfi (w:World)(p:Nat)(X:Rw)(C:Value)(k:RwBlk w p X C)(r:Rw)(a:Option Addr)(n c:Nat):(Instr.storeAt 39 (.pointer (some ⟨p,0,none⟩)) (r.val (.slice a n c))).run Tryz.prog w=.ok () (setRw w p r (.slice a n c)):=by
 have aa:∀(w:World) (a:Addr) (m:Mode) (x:Nat),(store a (.float .f64 x) m).run Tryz.prog w=stored Tryz.prog w a (.float .f64 x) m:=fun w a m x=>run_store Tryz.prog w a _ m rfl;have c0:=k.c0;have c1:=k.c1;have c2:=k.c2;have c3:=k.c3;have c4:=k.c4;have c5:=k.c5;have f0:=k.fz;simp [go_sem,Instr.storeAt,stored,aa,c0,c1,c2,c3,c4,c5,f0,Rw.val,setRw]
def setBt (w:World) (g:Nat) (x:Bt):World:=(w.setCell ⟨g,0,none⟩ (.int .i64 x.1)).setCell ⟨g,1,none⟩ (.int .i64 x.2)
theorem Za8 (w:World)(g:Nat)(x:Bt):Frm (fun k=>k=g) w (setBt w g x):=((Frm.refl (fun k=>k=g) w).setCell (p:=⟨g,0,none⟩) rfl _).setCell (p:=⟨g,1,none⟩) rfl _
theorem ZaP (h:BtBlk w g y)(x:Bt):BtBlk (setBt w g x) g x:=by
 unfold BtBlk setBt at *;have h1:(w.setCell ⟨g,0,none⟩ (.int .i64 x.1)).heap[g]? = some (Obj.cells #[.int .i64 x.1,.int .i64 y.2] 67 (0,0)):=by
  rw [heap_setCell_same w g 0 _ 67 (.int .i64 x.1) h];rfl
 rw [heap_setCell_same _ g 1 _ 67 (.int .i64 x.2) h1];rfl
theorem ZeY (w:World)(p:Nat)(y:Bt)(k:BtBlk w p y)(x:Bt):(Instr.storeAt 67 (.pointer (some ⟨p,0,none⟩)) (btV x)).run Tryz.prog w=.ok () (setBt w p x):=by
 have c0:=k.c0;have c1:=k.c1;have f0:=k.fz;simp [go_sem,Instr.storeAt,stored,c0,c1,f0,btV,setBt]
structure FS (B:Nat) (W0 V:World) (b1 o1 b2 o2 p q:Nat) (x:Rx) (y:Bt) (w:World):Prop where
  rx:RwAt w b1 o1 x
  y0:w.cell? ⟨b2,o2,none⟩=some (.int .i64 y.1)
  y1:w.cell? ⟨b2,o2+1,none⟩=some (.int .i64 y.2)
  kp:∃X C,RwBlk w p X C
  kq:∃Y,BtBlk w q Y
  e:Below B W0 w
  f:Frm (fun k=>k=p∨k=q) V w
  ne:b1≠p∧b1≠q∧b2≠p∧b2≠q∧p≠q∧B≤p∧B≤q
theorem RwAt.frm {b o:Nat}(h:RwAt w b o x)(hs:W.heap[b]? = w.heap[b]?):RwAt W b o x:=
 ⟨(Za0 hs _).trans h.c0,(Za0 hs _).trans h.c1,(Za0 hs _).trans h.c2,(Za0 hs _).trans h.c3,(Za0 hs _).trans h.c4,(Za0 hs _).trans h.c5⟩
theorem FS.frm (h:FS B W0 V b1 o1 b2 o2 p q x y w)(hg:g=p∨g=q)(f:Frm (fun k=>k=g) w W)(kp:∃X C,RwBlk W p X C)(kq:∃Y,BtBlk W q Y):FS B W0 V b1 o1 b2 o2 p q x y W:=by
 obtain⟨n1,n2,n3,n4,n5,n6,n7⟩:=h.ne;have l1:=World.block_lt_of_cell? _ _ h.rx.c0;have l2:=World.block_lt_of_cell? _ _ h.y0;have s1:W.heap[b1]? = w.heap[b1]?:=f.block b1 l1 (fun e=>by rcases hg with rfl | rfl <;> omega);have s2:W.heap[b2]? = w.heap[b2]?:=f.block b2 l2 (fun e=>by rcases hg with rfl | rfl <;> omega);have hB:B≤w.heap.size:=by
  obtain⟨_,_,k⟩:=h.kp;have:=(Array.getElem?_eq_some_iff.1 k).1;omega
 refine⟨h.rx.frm s1,(Za0 s2 _).trans h.y0,(Za0 s2 _).trans h.y1,kp,kq,h.e.trans (f.below hB (fun k hk=>by rcases hg with rfl | rfl <;> omega)),h.f.trans f (fun i _ hi=>by rcases hg with rfl | rfl;exact .inl hi;exact .inr hi),h.ne⟩
theorem FS.row (h:FS B W0 V b1 o1 b2 o2 p q x y w) :
    ∃W,(Instr.storeAt 39 (.pointer (some ⟨p,0,none⟩)) x.val).run Tryz.prog w=.ok () W∧FS B W0 V b1 o1 b2 o2 p q x y W∧RwBlk W p x.r (.slice x.a x.n x.c):=by
  obtain⟨X,C,kp⟩:=h.kp;obtain⟨Y,kq⟩:=h.kq;have k':=ZaI kp x.r (.slice x.a x.n x.c);have f:=ZaQ w p x.r (.slice x.a x.n x.c);exact⟨_,Zfi w p X C kp x.r x.a x.n x.c,h.frm (.inl rfl) f ⟨_,_,k'⟩ ⟨Y,(f.block q kq.lt (fun e=>h.ne.2.2.2.2.1 e.symm)).trans kq⟩,k'⟩
theorem FS.bt (h:FS B W0 V b1 o1 b2 o2 p q x y w){X:Rw}{C:Value}(kp:RwBlk w p X C) :
    ∃W,(Instr.storeAt 67 (.pointer (some ⟨q,0,none⟩)) (btV y)).run Tryz.prog w=.ok () W∧FS B W0 V b1 o1 b2 o2 p q x y W∧RwBlk W p X C∧BtBlk W q y:=by
  obtain⟨Y,kq⟩:=h.kq;have k':=ZaP kq y;have f:=Za8 w q y;have kp':RwBlk (setBt w q y) p X C:=(f.block p (Array.getElem?_eq_some_iff.1 kp).1 (fun e=>h.ne.2.2.2.2.1 e)).trans kp;exact⟨_,ZeY w q Y kq y,h.frm (.inr rfl) f ⟨_,_,kp'⟩ ⟨_,k'⟩,kp',k'⟩
theorem FS.drew (h:FS B W0 V b1 o1 b2 o2 p q x y w):FS B W0 V b1 o1 b2 o2 p q x y w.drew:=
 ⟨⟨h.rx.c0,h.rx.c1,h.rx.c2,h.rx.c3,h.rx.c4,h.rx.c5⟩,h.y0,h.y1,h.kp,h.kq,h.e.drew,h.f.drew,h.ne⟩
theorem Zrm (B:Nat)(W0 V w:World)(b1 o1 len c1 b2 o2 len2 c2 p q i:Nat)(hi:i<len)(ag:i<len2)(x:Rx)(y:Bt)(hW:FS B W0 V b1 (o1+i*6) b2 (o2+i*2) p q x y w)
    {Q:Exit→Act→World→Prop}{A:Act}(ak:A.tmps.size=38)(af:A.defers=[])(s7:A.tmps.getD 7 undef=.slice (some ⟨b1,o1,none⟩) len c1)(s8:A.tmps.getD 8 undef=.slice (some ⟨b2,o2,none⟩) len2 c2)(s9:A.tmps.getD 9 undef=.int .i64 (i:Int))(s4:A.tmps.getD 4 undef=.pointer (some ⟨p,0,none⟩))(s5:A.tmps.getD 5 undef=.pointer (some ⟨q,0,none⟩))
    (hend:∀(u:Nat→Value) w',RwBlk w' p x.r (.slice x.a x.n x.c)→BtBlk w' q y→Below B W0 w'→Frm (fun k=>k=p∨k=q) V w'→Q .normal ((Pl.pu A u [28,29,30,31,32,33,34,35]).put (some 6) (.bool true)) w') :
    (Code.region 6 (Pl.find 6 ((Tryz.f41.body).getD .skip)) true).wp Tryz.prog Q A w:=by
  have aa:FS B W0 V b1 (o1+i*6) b2 (o2+i*2) p q x y w.drew:=hW.drew;have hA:=Pl.At.same (v:=.pointer (some ⟨q,0,none⟩)) (d:=5) (Pl.At.same (v:=.pointer (some ⟨p,0,none⟩)) (d:=4) (Pl.At.same (v:=.int .i64 (i:Int)) (d:=9) (Pl.At.same (v:=.slice (some ⟨b2,o2,none⟩) len2 c2) (d:=8) (Pl.At.same (v:=.slice (some ⟨b1,o1,none⟩) len c1) (d:=7) (Pl.At.here ak af) s7) s8) s9) s4) s5;refine Pl.qa (S:=(FS B W0 V b1 (o1+i*6) b2 (o2+i*2) p q x y)) hA aa ?_;rw [show (Pl.find 6 ((Tryz.f41.body).getD .skip)).size=11 by kernel_rfl];refine Pl.q0 0 28 (.slice (some ⟨b1,o1,none⟩) len c1) (Pl.q1) (Pl.q2 (.tmp 7)) aa ?_;refine Pl.q0 1 29 (.int .i64 (i:Int)) (Pl.q1) (Pl.q2 (.tmp 9)) aa ?_;refine Pl.q0 2 30 (.pointer (some ⟨b1,o1+i*6,none⟩)) (Pl.q1) (Pl.qb 49 (.tmp 28) (.tmp 29) (ZaW b1 o1 len c1 i hi)) aa ?_;refine Pl.q0 3 31 (x.val) (Pl.q1) (Pl.q4 39 (.tmp 30) (fun w' hS=>ZbD b1 (o1+i*6) x w' hS.rx)) aa ?_;refine Pl.q0 4 32 (.slice (some ⟨b2,o2,none⟩) len2 c2) (Pl.q1) (Pl.q2 (.tmp 8)) aa ?_;refine Pl.q0 5 33 (.int .i64 (i:Int)) (Pl.q1) (Pl.q2 (.tmp 9)) aa ?_;refine Pl.q0 6 34 (.pointer (some ⟨b2,o2+i*2,none⟩)) (Pl.q1) (Pl.qb 84 (.tmp 32) (.tmp 33) (Zn8 b2 o2 len2 c2 i ag)) aa ?_;refine Pl.q0 7 35 (btV y) (Pl.q1) (Pl.q4 67 (.tmp 34) (fun w' hS=>ZlV hS.y0 hS.y1)) aa ?_;obtain⟨W1,ac,ae,ah⟩:=aa.row;refine Pl.qj 8 W1 (Pl.q1) (Pl.qk 39 (.tmp 4) (.tmp 31) ac) ae ?_;obtain⟨W2,ad,ab,ai,aj⟩:=ae.bt ah;refine Pl.qj 9 W2 (Pl.q1) (Pl.qk 67 (.tmp 5) (.tmp 35) ad) ab ?_;refine Pl.q0 10 6 (.bool true) (Pl.q1) (Pl.qe (.const (.bool true))) ab ?_;refine Pl.q8 (fun A' hA'=>?_);rw [Pl.At.ext hA' (((((((((hA.put 28 _).put 29 _).put 30 _).put 31 _).put 32 _).put 33 _).put 34 _).put 35 _).put 6 _)];exact hend hA'.fn _ ai aj ab.e ab.f
theorem ZoP {l:List Hr}{p:Hr→Bool}{i:Nat}(hi:i<l.length)(hp:p l[i]=true)(hn:∀j,(hj:j<i)→p (l[j]'(by omega))=false):l.find? p=some l[i]:=by
 induction l generalizing i with
 | nil=>exact absurd hi (Nat.not_lt_zero _)
 | cons x l ih =>
  cases i with
  | zero =>
   simp only [List.getElem_cons_zero] at hp ⊢;rw [List.find?_cons,hp]
  | succ i =>
   have h0:p x=false:=hn 0 (Nat.zero_lt_succ _);rw [List.find?_cons,h0];simp only [List.getElem_cons_succ] at hp ⊢;exact ih (by simpa using hi) hp (fun j hj=>hn (j+1) (Nat.succ_lt_succ hj))
theorem Zn0 {l:List Hr}{p:Hr→Bool}(hn:∀j,(hj:j<l.length)→p l[j]=false):l.find? p=none:=by
 rw [List.find?_eq_none];intro x hx;obtain⟨j,hj,rfl⟩:=List.getElem_of_mem hx;rw [hn j hj];decide
structure ZoG (w w':World) (e:Ending) (r:Rw) (b:Bt):Prop where
  f:r.fits
  col:∃x:Rx,x.r=r∧e=.returned (.tuple #[x.val,btV b,.bool true])∧ColF w' x
def ZiN (w:World) (l:List Lf) (k:Nat) (e:Ending) (w':World):Prop:=
  Below w.heap.size w w'∧(findH l k=none→e=.returned (.tuple #[Zdw,btV (0,0),.bool false]))∧∀h,findH l k=some h→ZoG w w' e h.r ((h.i:Int),(h.k:Int))
theorem ZcB {fn:Func}{x y z:Nat}(hr:fn.results=#[.cell x 39,.cell y 67,.tmp z]){r:Rw}{a:Option Addr}{n c:Nat}{b:Bt}(h:RwBlk W g r (.slice a n c))(hq:BtBlk W q b)(tmps:Array Value)(u:Value)(tx:tmps.getD x undef=.pointer (some ⟨g,0,none⟩))(ty:tmps.getD y undef=.pointer (some ⟨q,0,none⟩))(tz:tmps.getD z undef=u) :
    (results fn tmps).run Tryz.prog W=.ok (.tuple #[r.val (.slice a n c),btV b,u]) W:=by
  have c0:=h.c0;have c1:=h.c1;have c2:=h.c2;have c3:=h.c3;have c4:=h.c4;have c5:=h.c5;have d0:=hq.c0;have d1:=hq.c1;(have tx2:tmps[x]?.getD undef=.pointer (some ⟨g,0,none⟩):=by simpa using tx);(have ty2:tmps[y]?.getD undef=.pointer (some ⟨q,0,none⟩):=by simpa using ty);(have tz2:tmps[z]?.getD undef=u:=by simpa using tz);simp [results,hr,tx2,ty2,tz2,go_sem,c0,c1,c2,c3,c4,c5,d0,d1,Rw.val,btV]
theorem ZoV {l:List Hr}{i:Nat}(hi:i<l.length):(hrsB l).getD i (0,0)=((l[i].i:Int),(l[i].k:Int)):=by simp [hrsB,List.getD,hi]
theorem ZkJ {D:Nat→Prop}(w:World)(s:Sl)(L:List Lb)(h:Gl D w s L)(key:Nat)(ay:key<18446744073709551616) :
    Calls Tryz.prog 41 #[s.val,.float .f64 key] w (ZiN w (lfs L) key):=by
  have cp:∀(w:World) (a:Addr) (m:Mode) (x:Nat),(store a (.float .f64 x) m).run Tryz.prog w=stored Tryz.prog w a (.float .f64 x) m:=fun w a m x=>run_store Tryz.prog w a _ m rfl;have br:=Zaa w (.cells #[.float .f64 0,.bool false,.slice none 0 0,.int .i64 0,.int .i64 0,.int .i64 0] 39);have au:=Zaa (w.alloc (.cells #[.float .f64 0,.bool false,.slice none 0 0,.int .i64 0,.int .i64 0,.int .i64 0] 39)) (.cells #[.int .i64 0,.int .i64 0] 67);have hX:RwBlk ((w.alloc (.cells #[.float .f64 0,.bool false,.slice none 0 0,.int .i64 0,.int .i64 0,.int .i64 0] 39)).alloc (.cells #[.int .i64 0,.int .i64 0] 67)) w.heap.size zeroR (.slice none 0 0):=(Zai w zeroR (.slice none 0 0)).keep au;have hY:BtBlk ((w.alloc (.cells #[.float .f64 0,.bool false,.slice none 0 0,.int .i64 0,.int .i64 0,.int .i64 0] 39)).alloc (.cells #[.int .i64 0,.int .i64 0] 67)) (w.heap.size+1) (0,0):=by
   have:=Zbq (w.alloc (.cells #[.float .f64 0,.bool false,.slice none 0 0,.int .i64 0,.int .i64 0,.int .i64 0] 39)) (0,0);rwa [Zae] at this
  obtain⟨W0,af⟩:∃W0,W0=(w.alloc (.cells #[.float .f64 0,.bool false,.slice none 0 0,.int .i64 0,.int .i64 0,.int .i64 0] 39)).alloc (.cells #[.int .i64 0,.int .i64 0] 67):=⟨_,rfl⟩;rw [← af] at hX hY;(have bm:Hid (Below w.heap.size w W0):=by rw [af];exact Zac br au);(have be:W0.heap.size=w.heap.size+2:=by rw [af,Zae,Zae]);have HX:=hide hX;have HY:=hide hY;have an:=hide (Zgy W0 s L (h.below bm.out (Nat.le_refl _)));have cb:=hide be;have cc:=hide af;obtain⟨a,len,cap⟩:=s;clear h br au hX hY af be;unfold Sl.val at *;simp only at *;go_enter Tryz.func41,Tryz.ntmps41;go_wp2_with fail;rw [← cc.out];refine an.out.mono ?_;rintro e w1 ⟨⟨ra,rn,rc⟩,⟨ba,bn,bc⟩,R,rfl,hT⟩;have bd:R.length=rn:=hT.i.rows.len;have cl:=hide bd;(have am:Hid ((allH (lfs L)).length=rn):=by show _=_;rw [← Zev hT.r,bd]);have bi:Hid (rn=bn):=by
   show _=_;have:(hrsB (allH (lfs L))).length=bn:=hT.i.bts.len;rw [← this];simp [hrsB,am.out]
  have HT:=hide hT;have bo:=hide (Zac bm.out hT.i.below);have ag:=hide (HX.out.keep hT.i.below);have ah:=hide (HY.out.keep hT.i.below);have cf:rn≤9223372036854775807:=by
   have:=hT.i.rows.own.2;rcases this with ⟨h0,_⟩ | ⟨g,off,cur,ha,hb,hc,hd,he,hf⟩
   · have e:rn=0:=congrArg Sl.len h0;omega
   · have hm:rn≤rc:=hd;have cg:rc≤maxLen:=he;unfold maxLen at cg;omega
  clear hT bd;go_wp2_with fail;go_loopw [9] (fun iv wr=>∃i:Nat,i≤rn∧iv=.int .i64 (i:Nat)∧wr=w1∧Hid (∀j,j<i→(Fl.key (rk R j) == Fl.key key)=false)) (fun iv _=>rn-(intOf iv).toNat)
  case atStart=>exact ⟨0,Nat.zero_le _,rfl,rfl,fun j hj=>absurd hj (Nat.not_lt_zero _)⟩
  case round =>
   obtain⟨i,hi,rfl,rfl,ae⟩:=hrel;rcases Nat.lt_or_ge i rn with aa | cm
   · (have j1:(i:Int)<(rn:Int):=by omega);have ak:=HT.out.i.rows.rz;obtain⟨b1,o1,bb,hx⟩:=ak.at' i aa;replace bb:ra=some ⟨b1,o1,none⟩:=bb;subst bb;have cj:=(ak.fits _ (ak.mem aa)).key;have c0:=hx.c0;have bl:=hide hx;have al:=hide (Zea (rk R i) key cj ay wr);have ch:(R.getD i Rx.zero).r.key=rk R i:=rfl;rw [ch] at c0;have ck:=hide (ZaW b1 o1 rn rc i aa);clear ak hx;go_wp2_with fail;refine al.out.mono ?_;rintro e w2 ⟨rfl,ci⟩;obtain rfl:=ci.symm;cases hq:(Fl.key (rk R i) == Fl.key key) with
     | false =>
      have ca:Hid (∀j,j<i+1→(Fl.key (rk R j) == Fl.key key)=false):=by
       intro j hj;rcases Nat.lt_or_ge j i with h1 | h1
       · exact ae.out j h1
       · rw [show j=i by omega];exact hq
      clear hq ae al;go_wp2_with fail;go_roundw
      case rel=>exact ⟨i+1,by omega,by go_num,trivial,ca⟩
      case measure=>simp only [intOf];omega
     | true =>
      (have ai:i<(allH (lfs L)).length:=by rw [am.out];exact aa);have ax:findH (lfs L) key=some (allH (lfs L))[i]:=by
       refine ZoP ai ?_ (fun j hj=>?_)
       · have:=ZfH HT.out.r ai;rw [← this];exact hq
       · have:=ZfH HT.out.r (show j<(allH (lfs L)).length by omega);rw [← this];exact ae.out j hj
      have aj:=ZfH HT.out.r ai;obtain⟨H1,av⟩:∃H1,H1=(allH (lfs L))[i]:=⟨_,rfl⟩;rw [← av] at ax aj;obtain⟨b2,o2,aw,bf,bg⟩:=Zc8.at HT.out.i.bts (show i<(Sl.mk ba bn bc).len by rw [← bi.out];exact aa);replace aw:ba=some ⟨b2,o2,none⟩:=aw;subst aw;rw [ZoV ai,← av] at bf bg;have ac:=HT.out.i.flt _ (HT.out.i.rows.rz.mem aa);have ad:=HT.out.i.rows.fits _ (HT.out.i.rows.rz.mem aa);obtain⟨x,hx⟩:∃x,x=R.getD i Rx.zero:=⟨_,rfl⟩;rw [← hx] at ac ad aj bl;have cn:W0.heap.size≤b1:=HT.out.i.rows.new b1 rfl;have co:W0.heap.size≤b2:=HT.out.i.new b2 rfl;have be:=cb.out;have bw:Hid (FS w.heap.size w wr b1 (o1+i*6) b2 (o2+i*2) w.heap.size (w.heap.size+1) x ((H1.i:Int),(H1.k:Int)) wr):=
       ⟨bl.out,bf,bg,⟨_,_,ag.out⟩,⟨_,ah.out⟩,bo.out,Frm.refl _ _,by refine ⟨?_,?_,?_,?_,?_,?_,?_⟩ <;> omega⟩
      have ap:=hide ac;have bj:=hide ax;have bk:=hide aj;have aq:=hide ad;(have az:i<bn:=by rw [← bi.out];exact aa);clear hq ae al bf bg ac ad ax aj hx av;go_wp2_with fail;refine Pl.q9 (ops:=Pl.find 6 ((Tryz.f41.body).getD .skip)) ?_;refine Zrm w.heap.size w wr wr b1 o1 rn rc b2 o2 bn bc w.heap.size (w.heap.size+1) i aa az x ((H1.i:Int),(H1.k:Int)) bw.out (by rfl) (by rfl) (by rfl) (by rfl) (by rfl) (by rfl) (by rfl) ?_;intro u w3 k1 k2 hb bt;simp only [Pl.pu,List.foldl,Act.put,List.setIfInBounds_toArray,List.set_cons_zero,List.set_cons_succ];have bx:=hide k1;have bz:=hide k2;have ao:=hide hb;have bu:Hid (ColF w3 x):=ap.out.frm bt (fun k hk C fr hc=>by
       rcases hk with rfl | rfl
       · have:=ag.out;rw [RwBlk,hc] at this;simp only [Option.some.injEq,Obj.cells.injEq] at this;exact absurd this.2.1 (by decide)
       · have:=ah.out;rw [BtBlk,hc] at this;simp only [Option.some.injEq,Obj.cells.injEq] at this;exact absurd this.2.1 (by decide))
      clear k1 k2 hb bt;go_wp2_with fail;refine bodyPost_ret (ZcB rfl bx.out bz.out _ _ rfl rfl rfl) rfl ?_;refine⟨ao.out,(fun h=>by rw [bj.out] at h;cases h),fun g hg=>?_⟩;rw [bj.out] at hg;cases hg;exact⟨bk.out ▸ aq.out,x,bk.out,rfl,bu.out⟩
   · (have j1:¬(i:Int)<(rn:Int):=by omega);have bs:findH (lfs L) key=none:=by
      refine Zn0 (fun j hj=>?_);have:=ZfH HT.out.r hj;rw [← this];exact ae.out j (by rw [am.out] at hj;omega)
     have bv:=hide bs;have ar:=hide (Zfi wr w.heap.size _ _ ag.out zeroR none 0 0);have bp:=hide (ZaI ag.out zeroR (.slice none 0 0));have bq:Hid (BtBlk (setRw wr w.heap.size zeroR (.slice none 0 0)) (w.heap.size+1) (0,0)):=((ZaQ wr w.heap.size zeroR (.slice none 0 0)).block _ ah.out.lt (by omega)).trans ah.out;have bh:=hide (Zal bo.out (Nat.le_refl _) zeroR (.slice none 0 0));generalize setRw wr w.heap.size zeroR (.slice none 0 0)=W2 at *;have ab:=hide (ZeY W2 (w.heap.size+1) _ bq.out (0,0));have ce:=hide (ZaP bq.out (0,0));have cd:Hid (RwBlk (setBt W2 (w.heap.size+1) (0,0)) w.heap.size zeroR (.slice none 0 0)):=((Za8 W2 (w.heap.size+1) (0,0)).block _ (Array.getElem?_eq_some_iff.1 bp.out).1 (by omega)).trans bp.out;have ao:Hid (Below w.heap.size w (setBt W2 (w.heap.size+1) (0,0))):=bh.out.trans ((Za8 W2 (w.heap.size+1) (0,0)).below bh.out.size (fun k hk=>by rw [hk];omega));generalize setBt W2 (w.heap.size+1) (0,0)=W3 at *;clear bs ae;unfold Rw.val zeroR at ar;unfold btV at ab;simp only at ar ab;go_wp2_with (first | refine Zad _ rfl rfl 39 (.tmp 4) (.tmp 36) rfl (.pointer (some ⟨w.heap.size,0,none⟩)) (.agg #[.float .f64 0,.bool false,.slice none 0 0,.int .i64 0,.int .i64 0,.int .i64 0]) rfl rfl W2 ar.out ?_ | refine Zad _ rfl rfl 67 (.tmp 5) (.tmp 37) rfl (.pointer (some ⟨w.heap.size+1,0,none⟩)) (.agg #[.int .i64 0,.int .i64 0]) rfl rfl W3 ab.out ?_);refine bodyPost_ret (ZcB rfl cd.out ce.out _ _ rfl rfl rfl) rfl ?_;exact⟨ao.out,fun _=>rfl,fun g hg=>by rw [bv.out] at hg;cases hg⟩
def Za1 (l:List Lb):List Value:=l.flatMap fun x=>[x.u.val,x.v.val]
theorem Zct:∀l:List Lb,(Za1 l).length=l.length*2
 | []=>rfl
 | x :: l=>by
  have e:Za1 (x :: l)=[x.u.val,x.v.val] ++ Za1 l:=rfl
  rw [e,List.length_append,Zct l,List.length_cons]
  simp only [List.length_cons,List.length_nil]
  omega
theorem ZfU (l m:List Lb):Za1 (l ++ m)=Za1 l ++ Za1 m:=by simp [Za1]
theorem Zd1 (l:List Lb):∀u∈Za1 l,u.oneCell'=true:=by
 intro u hu;obtain⟨x,_,hx⟩:=List.mem_flatMap.1 hu;simp only [List.mem_cons,List.not_mem_nil,or_false] at hx;rcases hx with rfl | rfl <;> rfl
theorem Zcs:∀(l:List Lb)(j t:Nat),j<l.length→t<2→(Za1 l)[j*2+t]? = ([(l.getD j Lb.zero).u.val,(l.getD j Lb.zero).v.val]:List Value)[t]?
 | [],j,t,hj,_=>by simp at hj
 | x :: l,0,t,_,ht=>by
  have e:Za1 (x :: l)=[x.u.val,x.v.val] ++ Za1 l:=rfl
  rw [e,Nat.zero_mul,Nat.zero_add,List.getElem?_append_left (by simpa using ht)]
  rfl
 | x :: l,j+1,t,hj,ht=>by
  have e:Za1 (x :: l)=[x.u.val,x.v.val] ++ Za1 l:=rfl
  rw [e,List.getElem?_append_right (by simp only [List.length_cons,List.length_nil];omega)]
  simp only [List.length_cons,List.length_nil]
  rw [show (j+1)*2+t-(0+1+1)=j*2+t by omega]
  exact Zcs l j t (by simpa using hj) ht
theorem Zfo:∀(l:List Lb)(i:Nat)(x:Lb),Za1 (l.set i x)=((Za1 l).set (i*2) x.u.val).set (i*2+1) x.v.val
 | [],i,x=>by simp [Za1]
 | y :: l,0,x=>rfl
 | y :: l,i+1,x=>by
  have e:Za1 (y :: l)=y.u.val :: y.v.val :: Za1 l:=rfl
  have e2:Za1 ((y :: l).set (i+1) x)=y.u.val :: y.v.val :: Za1 (l.set i x):=rfl
  rw [e,e2,Zfo l i x,show (i+1)*2=i*2+1+1 by omega]
  rfl
theorem Zo4:(Tryz.prog.info? 101).map (fun i=>(i.zero,i.size,i.bytes))=some (some (.agg #[.slice none 0 0,.slice none 0 0]),2,48):=by kernel_rfl
def OwnL (w:World) (s:Sl) (l:List Lb):Prop:=Own 101 2 w s (Za1 l)
theorem OwnL.len (h:OwnL w s l):l.length=s.len:=by
 have:=h.1;rw [Zct] at this;omega
theorem OwnL.at (h:OwnL w s l){j:Nat}(hj:j<s.len):∃b off,s.a=some ⟨b,off,none⟩∧w.cell? ⟨b,off+j*2,none⟩=some (l.getD j Lb.zero).u.val∧w.cell? ⟨b,off+j*2+1,none⟩=some (l.getD j Lb.zero).v.val:=by
 rcases h.2 with ⟨h0,_⟩ | ⟨g,off,cur,ha,_⟩
 · rw [h0] at hj;exact absurd hj (Nat.not_lt_zero _)
 · (have hl:j<l.length:=by rw [h.len];exact hj);have e0:=Zcs l j 0 hl (by decide);have e1:=Zcs l j 1 hl (by decide);have k0:=Own.cell h ha _ _ e0;have k1:=Own.cell h ha _ _ e1;rw [Addr.add_lit] at k0 k1;exact⟨g,off,ha,by simpa using k0,by rw [Nat.add_assoc];simpa using k1⟩
theorem OwnL.gl {D:Nat→Prop}(h:OwnL w s l)(hm:s.len≤900)(hD:∀k,s.blk=some k→D k)(aa:∀x∈l,Gi D w x.u x.t∧Gb D w x.v x.l):Gl D w s l:=by
 refine⟨h.len,fun e=>?_,?_,hm,fun ad ha hl=>hD _ (by rw [Sl.blk,ha];rfl),fun i hi=>h.at hi,aa⟩
 · rcases h.2 with ⟨h0,_⟩ | ⟨g,off,cur,ha,_⟩
   · rw [h0];rfl
   · rw [ha] at e;cases e
 · rcases h.2 with ⟨h0,_⟩ | ⟨g,off,cur,ha,hc,hd,he,_⟩
   · rw [h0];exact Nat.le_refl _
   · exact he
theorem Gl.src {D:Nat→Prop}(h:Gl D w s l):Src Tryz.prog 2 26 s.val s.len (Za1 l) w:=by
 obtain⟨a,m,c⟩:=s;have aa:l.length=m:=h.len;cases a with
 | none =>
  have hc:c=0:=h.nil rfl;(have hm:m=0:=by have:m≤c:=h.le;omega);subst hc hm;have hl:l=[]:=List.eq_nil_of_length_eq_zero aa;subst hl;exact Src.ofNil w Tryz.underlying26 0
 | some ad =>
  refine Src.ofSlice _ Tryz.underlying26 ad m c (Za1 l) (by rw [Zct,aa]) (fun j u hj=>?_) (Zd1 _);have ab:j<l.length*2:=by
   have:=(List.getElem?_eq_some_iff.1 hj).1;rwa [Zct] at this
  (have hq:j / 2<m:=by rw [← aa];omega);obtain⟨b,off,ha,c0,c1⟩:=h.cell (j / 2) hq;cases ha;have hg:=Zcs l (j / 2) (j % 2) (by rw [aa];exact hq) (Nat.mod_lt _ (by decide));rw [show j / 2*2+j % 2=j by omega] at hg;rw [hg] at hj;rw [Addr.add_lit];(have hm:j % 2=0∨j % 2=1:=by omega);rcases hm with e | e <;> rw [e] at hj <;> simp only [List.getElem?_cons_zero,List.getElem?_cons_succ,Option.some.injEq] at hj <;> subst hj
  · rw [show off+j=off+j / 2*2 by omega];exact c0
  · rw [show off+j=off+j / 2*2+1 by omega];exact c1
theorem OwnL.new0 (w:World):OwnL (w.alloc (.cells #[] 101)) ⟨some ⟨w.heap.size,0,none⟩,0,0⟩ []:=
 ⟨rfl,.inr ⟨w.heap.size,0,_,rfl,heap_alloc_new w _,by simp,Nat.le_refl _,by simp,rfl⟩⟩
theorem ZhP {D:Nat→Prop}(w:World)(s:Sl)(l:List Lb)(h:Gl D w s l) :
    ∃s' W,(∀ty,(Builtin.append_ #[26,26] ty #[.slice (some ⟨w.heap.size,0,none⟩) 0 0,s.val]).run Tryz.prog (w.alloc (.cells #[] 101))=.ok s'.val W)∧OwnL W s' l∧s'.len=s.len∧Below w.heap.size w W∧∀k,s'.blk=some k→w.heap.size≤k:=by
  have hA:=Zaa w (.cells #[] 101);obtain⟨s',W,ab,ho,aa,ad,ac⟩:=Zax Tryz.underlying26 Zo4 rfl (by decide) _ ⟨some ⟨w.heap.size,0,none⟩,0,0⟩ [] (OwnL.new0 w) (fun u hu=>by cases hu) s.val s.len (Za1 l) (h.below hA (Nat.le_refl _)).src (by have:=h.big;show 0+s.len≤_;omega) 0;refine⟨s',W,fun ty=>ab,ho,by rw [aa];show 0+s.len=_;omega,hA.trans (ad.below hA.size (fun k e=>?_)),fun k e=>?_⟩
  · have:some w.heap.size=some k:=e;cases this;exact Nat.le_refl _
  · rcases ac with e' | ⟨e',_⟩
    · rw [e'] at e;have:some w.heap.size=some k:=e;cases this;exact Nat.le_refl _
    · rw [e'] at e;cases e;rw [Zae];omega
theorem ZpB {off len cap:Nat}(h:OwnL w ⟨some ⟨g,off,none⟩,len,cap⟩ l)(i:Nat)(hi:i<len)(x:Lb) :
    ∃W,(Instr.storeAt 101 (.pointer (some ⟨g,off+i*2,none⟩)) (lfV x.u x.v)).run Tryz.prog w=.ok () W∧OwnL W ⟨some ⟨g,off,none⟩,len,cap⟩ (l.set i x)∧Frm (fun k=>k=g) w W:=by
  obtain⟨b,o,ha,c0,c1⟩:=h.at (j:=i) hi;simp only [Option.some.injEq,Addr.mk.injEq,and_true] at ha;obtain⟨rfl,rfl⟩:=ha;have f0:∀o,w.frozen? ⟨g,o,none⟩=false:=fun o=>by
   rcases h.2 with ⟨h0,_⟩ | ⟨g',off',cur,ha,hg,_⟩
   · cases h0
   · simp only [Option.some.injEq,Addr.mk.injEq,and_true] at ha;obtain⟨rfl,rfl⟩:=ha;exact frozen_of_row w g _ cur _ hg
  have h1:=Own.setCell (Own.setCell h rfl (i*2) x.u.val) rfl (i*2+1) x.v.val;rw [← Zfo] at h1;refine⟨(w.setCell ⟨g,off+i*2,none⟩ x.u.val).setCell ⟨g,off+(i*2+1),none⟩ x.v.val,?_,h1,((Frm.refl (fun k=>k=g) w).setCell (p:=⟨g,off+i*2,none⟩) rfl _).setCell (p:=⟨g,off+(i*2+1),none⟩) rfl _⟩;unfold lfV Sl.val at *;rw [Nat.add_assoc] at c1;simp [go_sem,Instr.storeAt,stored,c0,c1,f0,Nat.add_assoc]
def LsIs (D:Nat→Prop) (w:World) (l:List Lf) (e:Ending) (w':World):Prop:=Below w.heap.size w w'∧∃(s':Sl) (L':List Lb),e=.returned s'.val∧Gl (Old D w) w' s' L'∧lfs L'=l
theorem ZmA {D:Nat→Prop}(w:World)(s:Sl)(L:List Lb)(h:Gl D w s L)(i:Nat)(hi:i<s.len)(x:Lb)(hx:Gi D w x.u x.t∧Gb D w x.v x.l) :
    Calls Tryz.prog 64 #[s.val,.int .i64 (i:Int),lfV x.u x.v] w (LsIs D w ((lfs L).set i x.lf)):=by
  have hA:=Zaa w (.cells #[x.u.val,x.v.val] 101);have hk:=Za6 w x.u.val x.v.val;obtain⟨s1,W1,ai,ho,ab,ae,ak⟩:=ZhP (w.alloc (.cells #[x.u.val,x.v.val] 101)) s L (h.below hA (Nat.le_refl _));have ad:=Zac hA ae;(have ac:0<s1.len:=by omega);obtain⟨g,off,af⟩:∃g off,s1.a=some ⟨g,off,none⟩:=by
   obtain⟨b,o,ha,_⟩:=ho.at ac;exact⟨b,o,ha⟩
  have aq:=ak g (by rw [Sl.blk,af];rfl);rw [Zae] at aq;obtain⟨a1,n1,c1⟩:=s1;simp only at af ab;subst af;subst ab;obtain⟨W2,am,al,aj⟩:=ZpB ho i hi x;have ag:LfBlk W1 w.heap.size x.u.val x.v.val:=hk.below ae;have aa:Below w.heap.size w W2:=ad.trans (aj.below ad.size (fun k hk=>by rw [hk];omega));have HG:Hid (Gl (Old D w) W2 ⟨some ⟨g,off,none⟩,s.len,c1⟩ (L.set i x)):=by
   refine OwnL.gl al h.big (fun k hk=>?_) (fun y hy=>?_)
   · have:some g=some k:=hk;cases this;exact .inr (by omega)
   · rcases List.mem_or_eq_of_mem_set hy with h1 | rfl
     · exact⟨(h.it y h1).1.old aa,(h.it y h1).2.old aa⟩
     · exact⟨hx.1.old aa,hx.2.old aa⟩
  have an:=hide aa;have ah:=hide ai;have ao:=hide am;have d0:=ag.c0;have d1:=ag.c1;have ar:=hide (Zda g off s.len c1 i hi);have ap:s.len≤900:=h.big;clear hA hk ai ho ae ad am al aj ag aa ak h hx ac;obtain⟨a,len,cap⟩:=s;obtain⟨⟨xa,xn,xc⟩,⟨ya,yn,yc⟩,xt,xl⟩:=x;unfold lfV Sl.val at *;simp only at *;rw [Zae] at ah;go_enter Tryz.func64,Tryz.ntmps64;go_wp2_with (first | (at_builtin;refine Zaq _ rfl 26 (.tmp 8) (.tmp 9) rfl (.slice (some ⟨w.heap.size+1,0,none⟩) 0 0) (.slice a len cap) (.slice (some ⟨g,off,none⟩) len c1) rfl rfl W1 ah.out ?_) | refine Zad _ rfl rfl 101 (.tmp 14) (.tmp 13) rfl (.pointer (some ⟨g,off+i*2,none⟩)) (.agg #[.slice xa xn xc,.slice ya yn yc]) rfl rfl W2 ao.out ?_);go_ret;exact⟨an.out,⟨some ⟨g,off,none⟩,len,c1⟩,_,rfl,HG.out,by rw [Zpk]⟩
end Go.Proofs.YtiecfcjlhldhdaaGreat
