/-
  Lemmas.
-/
import Derived.Test.YtpnlebpnhmibfaaGreatMa
import Derived.Test.YtpnlebpnhmibfaaGreatRd
import Derived.Test.YtpnlebpnhmibfaaGreatBh
namespace Go.Proofs.YtpnlebpnhmibfaaGreat
open Go.RowKit
set_option linter.unusedVariables false
set_option maxRecDepth 100000
set_option maxHeartbeats 4000000
variable {n c f m p d:Nat}{P:Po}{D:Ds}{M:PoM}{L:Dl}{w:World}{z:Int}
theorem ZeB (S:Zb5 M){X:Nat→Prop}(h:Mt M w m p d P L X)(hF:P.Fine n c) :
    Calls Tryz.prog 16 #[at0 m] w fun e w'=>e=.returned (.tuple #[])∧MDid M w m p d L X w' P.syncM:=
  Zg6 S h (hF.wet.dev.sane (Nat.le_trans hF.cap (by omega)) (Nat.le_trans hF.ss (by omega))) (fun _=>hF.wet.dev.fit) hF.syncD
theorem ZeV (S:Zb5 M){X:Nat→Prop}(h:Mt M w m p d P L X)(hF:P.Fine n c)(hc:c+4*n≤9000)(hs:P.D.sb+65536≤900000000000) :
    Calls Tryz.prog 18 #[at0 m] w fun e w'=>e=.returned (.tuple #[])∧MDid M w m p d L X w' (P.check n):=by
  have HG:=hide (ZaX h.blk);have ab:=hide (S.flush w p d P L X n c h.pool hF);have HK:=hide (hF.chk hc hs);have ag:=hide (hF.flush hc);have c1:=h.blk.c1;have HM:=hide h;obtain⟨dl,af⟩:∃dl,dl=(P.dirty n).length:=⟨_,rfl⟩;rw [← af] at ab;clear h hF hc hs af;unfold at0 at *;go_enter Tryz.func18,Tryz.ntmps18;go_wp2_with fail;refine HG.out.mono ?_;rintro e w' ⟨rfl,hw⟩;obtain rfl:=hw.symm;clear hw;go_wp2_with fail;refine ab.out.mono ?_;rintro e w1 ⟨ha,rfl⟩;obtain⟨L1,X1,h1⟩:=HM.out.act ha;have ac:=hide (ZeB S h1.mt ag.out);have H1:=hide h1;clear h1 ha ab c1;unfold at0 at ac;go_wp2_with fail;refine ac.out.mono ?_;rintro e w2 ⟨rfl,L2,X2,h2⟩;have h2:=H1.out.trans h2;have aa:=h2.trans (h2.mt.same S (Zad w2));have hE:=HK.out.mid.wet.dev;have hcut:=HK.out.cut;have hend:=Zh5 S aa.mt HK.out.mid;have HR:Hid (∀{Q:Exit→Act→World→Prop} {A:Act},_):=fun {Q A}=>Zpg w2 m d (P.flush n).syncM.D.fin (fun w3=>Below w2.drew.heap.size w2.drew w3) (fun w4=>∃L4,MSt M w m p d L X w4 (P.flush n).syncM.trimM L4 X2) h2.mt.blk.c0 hend (fun w3 hb=>(aa.trans (aa.mt.same S hb)).mt.blk.c0) (fun w3 hb=>by
      have h3:=aa.trans (aa.mt.same S hb);refine(ZnC w3 d (P.flush n).syncM.D L2 (S.dev h3.mt.pool) n hE.sp hE.n2 hE.n1 ((P.flush n).syncM.D.sb+(P.flush n).syncM.D.ss.length) (by omega) (by omega) (by have:=hE.sbn;have:=HK.out.mid.ss;omega) hE.al (by rw [hE.units_is];have:=hE.kl;omega) (by rw [hE.tr];simp)).mono ?_;rintro e w4 ⟨rfl,L4,t⟩;exact⟨rfl,L4,h3.trans (h3.mt.turn S t)⟩) (fun w4 ad=>by
      obtain⟨L4,h4⟩:=ad;exact h4.mt.blk.c0) (Q:=Q) (A:=A)
  clear ac h2 aa hE hcut hend H1;go_wp2_with fail;refine Pl.q8 (ops:=Pl.find 3 ((Tryz.f18.body).getD .skip)) ?_;refine HR.out (by rfl) (by rfl) (by rfl) (fun u w4 ad=>?_);clear HR;simp only [Act.put,List.setIfInBounds_toArray,List.set_cons_zero,List.set_cons_succ];obtain⟨L4,h4⟩:=ad;have ae:=hide (Zg6 S h4.mt HK.out.cut.sane HK.out.cut.fit HK.out.fin);have H4:=hide h4;clear h4;unfold at0 at ae;go_wp2_with fail;refine ae.out.mono ?_;rintro e w5 ⟨rfl,hD⟩;have HD:Hid (MDid M w m p d L X w5 (P.check n)):=H4.out.did hD;clear hD;go_wp2_with fail;go_end0;exact⟨rfl,HD.out⟩
def Zo6:Value→Nat
  | .slice _ l _=>l
  | _=>0
theorem zwf (z:Int)(h:0≤z∧z≤1000000000000):(Lit.int .i64 z).wf=true:=by
 simp only [Lit.wf,show IntKind.i64.min = -9223372036854775808 by decide,show IntKind.i64.max=9223372036854775807 by decide,Bool.and_eq_true,decide_eq_true_eq];omega
theorem addZ (z:Int)(k:Nat)(x y:Operand)(h:0≤z)(h2:z+(k:Int)≤1000000000000)(w:World):(do eqGuard .add 3 x y (.int .i64 z) (.int .i64 (k:Int));binOp .add 3 (.int .i64 z) (.int .i64 (k:Int)):Sem Value).run Tryz.prog w=.ok (.int .i64 (z+(k:Int))) w:=by
 obtain⟨a,rfl⟩:∃a:Nat,z=(a:Int):=⟨z.toNat,by omega⟩;have:=addN a k x y (by omega) w;rw [this];congr 2
structure RepI (M:PoM) (w1:World) (m p d:Nat) (L:Dl) (X:Nat→Prop) (n:Nat) (T:Po) (wr:World) (z:Int) (s:Sl) (xs:List Nat) (Q:Po) (f c:Nat):Prop where
  cm:Cm (fun k=>¬(X k∨L.F d k)∧k<w1.heap.size) wr s xs
  did:MDid M w1 m p d L X wr Q
  fine:Q.Fine n c
  cap:c+xs.length / 128≤9000
  fu:xs.length<f
  rep:Po.rep n f Q z xs=T
  z0:0≤z
  zt:z+((xs.length:Nat):Int)≤1000000000000
  len:xs.length≤65536
theorem Cm.from_ {D:Nat→Prop}{a:Option Addr}{len cap:Nat}{xs:List Nat}(h:Cm D w ⟨a,len,cap⟩ xs)(k:Nat)(hk:k≤len):Cm D w ⟨fromA a cap k,len-k,cap-k⟩ (xs.drop k):=by
 refine⟨h.came.from_ k hk,fun ad ha hl=>?_⟩
 obtain⟨ad',e1,e2⟩:=Zei ha
 rw [← e2]
 exact h.home ad' e1 (by have:0<len-k:=hl;show 0<len;omega)
theorem RepI.step (S:Zb5 M){w1:World}{X:Nat→Prop}{T:Po}{wr:World}{a:Option Addr}{len cap:Nat}{xs:List Nat}{Q:Po}(h:RepI M w1 m p d L X n T wr z ⟨a,len,cap⟩ xs Q f c)(hb:Bytes xs)(he:(dec xs).e=0){w2:World}{v:Sl}{l:List Ix}(ae:Below wr.heap.size wr w2)(hg:Gr (fun k=>wr.heap.size≤k) w2 v l)(hi:ims l=(dec xs).g) :
    Calls Tryz.prog 48 #[at0 m,v.val,.int .i64 (z+(((dec xs).n:Nat):Int))] w2 fun e w'=>e=.returned (.tuple #[])∧RepI M w1 m p d L X n T w' (z+(((dec xs).n:Nat):Int)) ⟨fromA a cap (dec xs).n,len-(dec xs).n,cap-(dec xs).n⟩ (xs.drop (dec xs).n) (Q.puts n (dec xs).g (z+(((dec xs).n:Nat):Int))) (f-1) (c+4*(dec xs).g.length):=by
  obtain⟨r1,r2,r3,r4⟩:=Zfu he;have al:xs.length=len:=h.cm.len;(have ai:l.length=(dec xs).g.length:=by rw [← hi,Zal]);have af:=h.cap;obtain⟨L1,X1,h1⟩:=h.did;have h2:=h1.mt.same S ae;have ah:Gr (fun k=>¬(X1 k∨L1.F d k)∧k<w2.heap.size) w2 v l:=hg.mono (fun k hk aj=>⟨fun e=>by
   rcases e with e | e
   · have:=S.lt h1.mt.pool _ e;omega
   · have:=(S.dev h1.mt.pool).lt e;omega,aj⟩)
  have ab:(xs.drop (dec xs).n).length=xs.length-(dec xs).n:=List.length_drop;have hz:=h.z0;have am:=h.zt;(have hc':c+4*(dec xs).g.length≤9000:=by omega);refine(ZhN S h2.mt h.fine v l ah (fun x hx=>by
   (have:x.im∈(dec xs).g:=by rw [← hi];exact List.mem_map.2 ⟨x,hx,rfl⟩);exact r4.len _ this) (by rw [ai];exact hc') (z+(((dec xs).n:Nat):Int)) (zwf _ (by omega))).mono ?_
  rintro e w3 ⟨rfl,hD⟩;refine⟨rfl,?_⟩;rw [hi] at hD;obtain⟨L3,X3,h3⟩:=hD;have ad:=(h1.trans h2).trans h3;have ag:Frm (fun k=>X1 k∨L1.F d k) wr w3:=(h2.trans h3).frm;have ac:Cm (fun k=>¬(X k∨L.F d k)∧k<w1.heap.size) w3 ⟨a,len,cap⟩ xs:=h.cm.keep (ZaD.frm ag (fun k hk e=>(h1.foot k e).elim hk.1 (fun e=>by have:=hk.2;omega)));have aa:=h.rep;have ak:=h.fu;obtain⟨f',rfl⟩:∃f',f=f'+1:=⟨f-1,by omega⟩;refine⟨ac.from_ (dec xs).n (by omega),⟨L3,X3,ad⟩,h.fine.puts (dec xs).g hc' r4.len (Zeb hb),by rw [ab];omega,by rw [ab];omega,?_,by omega,by rw [ab];omega,by rw [ab];have:=h.len;omega⟩;unfold Po.rep at aa;rw [if_pos he] at aa;exact aa
theorem Zhh (S:Zb5 M){X:Nat→Prop}(h:Mt M w m p d P L X)(hF:P.Fine n c)(hc:c+P.D.ss.length / 128≤9000) :
    Calls Tryz.prog 39 #[at0 m] w fun e w'=>e=.returned (.tuple #[])∧MDid M w m p d L X w' (Po.rep n (P.D.ss.length+1) P (P.D.sb:Int) P.D.ss):=by
  have hE:=hF.wet.dev;have HS:=hide (ZbM w d P.D L (S.dev h.pool) n hE.sp hE.n2 hE.n1 (Nat.le_trans hF.ss (by omega)));have c0:=h.blk.c0;have HM:=hide h;have HF:=hide hF;have HC:=hide hc;have ag:=hide hE.sbn;have af:=hide ((S.dev h.pool).byt .ss);obtain⟨T,hT⟩:∃T,T=Po.rep n (P.D.ss.length+1) P (P.D.sb:Int) P.D.ss:=⟨_,rfl⟩;rw [← hT];have HT:=hide hT;obtain⟨sb,al⟩:∃sb,sb=P.D.sb:=⟨_,rfl⟩;rw [← al] at HS ag HT;clear h hF hc hE hT al;unfold at0 at *;go_enter Tryz.func39,Tryz.ntmps39;go_wp2_with fail;refine HS.out.mono ?_;rintro e w1 ⟨aj,⟨sa,sl,sc⟩,rfl,ho,hl,hn⟩;have h1:=HM.out.same S aj;have av:Hid (RepI M w1 m p d L X n T w1 (sb:Int) ⟨sa,sl,sc⟩ P.D.ss P (P.D.ss.length+1) c∧Bytes P.D.ss):=by
   refine⟨⟨?_,⟨L,X,h1.mt.same S (Below.refl _ _)⟩,HF.out,HC.out,Nat.lt_succ_self _,HT.out.symm,by omega,by have:=ag.out;have:=HF.out.ss;omega,HF.out.ss⟩,af.out⟩;refine(Own.cm (fun k=>w.heap.size≤k) ho af.out hn).mono (fun k hk ax=>⟨fun e=>?_,ax⟩);rcases e with e | e
   · have:=S.lt HM.out.pool _ e;omega
   · have:=(S.dev HM.out.pool).lt e;omega
  have ap:=hide h1;clear h1 ho hl hn aj c0 HT HC ag af HF;simp only [Sl.val];go_wp2_with fail;go_loopw [2,3] (fun zv sv wr=>∃(z:Int) (a:Option Addr) (len cap:Nat) (xs:List Nat) (Q:Po) (f c:Nat),zv=.int .i64 z∧sv=.slice a len cap∧Hid (RepI M w1 m p d L X n T wr z ⟨a,len,cap⟩ xs Q f c∧Bytes xs)) (fun _ sv _=>Zo6 sv)
  case atStart=>exact ⟨_,sa,sl,sc,_,_,_,_,rfl,rfl,av⟩
  case round =>
   obtain⟨z,a,len,cap,xs,Q',f,c',rfl,rfl,hI⟩:=hrel;have ay:xs.length=len:=hI.out.1.cm.len;have aa:=hide (Ziz wr a len cap xs hI.out.1.cm.came (by have:=hI.out.1.len;omega));unfold Zbt at aa;obtain⟨dn,ae⟩:∃dn,dn=(dec xs).n:=⟨_,rfl⟩;obtain⟨de,ab⟩:∃de,de=(dec xs).e:=⟨_,rfl⟩;rw [← ae,← ab] at aa;by_cases he:de=0
   · subst he;have hr:=Zfu ab.symm;have au:=hide ab.symm;have ar:=hide ae;(have aw:dn≤len:=by omega);(have az:2≤dn:=by omega);have an:=hI.out.1.z0;have ao:=hI.out.1.zt;rw [ay] at ao;have ba:len≤cap:=hI.out.1.cm.came.le;have HR:Hid (∀w2,∀{Q:Exit→Act→World→Prop} {A:Act},_):=fun w2 {Q A}=>Zpi w2 z a len cap dn (addZ z dn _ _ an (by omega)) (Zbc a len cap dn aw) (Q:=Q) (A:=A);clear hr ae ab an ao;go_wp2_with fail;refine aa.out.mono ?_;rintro e w2 ⟨⟨va,vl,vc⟩,rfl,⟨l,hg,hi⟩,ad⟩;have hp:∀w3,Below w2.heap.size w2 w3→Calls Tryz.prog 48 #[.pointer (some ⟨m,0,none⟩),.slice va vl vc,.int .i64 (z+(dn:Int))] w3 fun e w'=>e=.returned (.tuple #[])∧RepI M w1 m p d L X n T w' (z+(dn:Int)) ⟨fromA a cap dn,len-dn,cap-dn⟩ (xs.drop dn) (Q'.puts n (dec xs).g (z+(dn:Int))) (f-1) (c'+4*(dec xs).g.length):=fun w3 ak=>by
      have:=hI.out.1.step S hI.out.2 au.out (ZbY ad ak) (hg.below ak (Nat.le_refl _)) hi;rw [← ar.out] at this;exact this
     have HP:=hide hp;have ai:Hid (∀{Q:Exit→Act→World→Prop} {A:Act},_):=fun {Q A}=>HR.out w2 (Q:=Q) (A:=A);have aq:=hide (hI.out.2.drop dn);clear hp hg hi ad HR aa hI;simp only [Sl.val];go_wp2_with fail;refine Pl.q8 (ops:=Pl.find 3 ((Tryz.f39.body).getD .skip)) ?_;refine ai.out (by rfl) (by rfl) (by rfl) (by rfl) (by rfl) (fun u w3 am=>?_);have ah:=hide (HP.out w3 (by rw [am];exact Zad w2));clear ai HP am;simp only [Act.put,List.setIfInBounds_toArray,List.set_cons_zero,List.set_cons_succ];go_wp2_with fail;refine ah.out.mono ?_;rintro e w4 ⟨rfl,hN⟩;have HN:=hide (And.intro hN aq.out);clear hN ah;go_wp2_with fail;go_roundw
     case rel=>exact ⟨_,_,_,_,_,_,_,_,rfl,rfl,HN⟩
     case measure=>simp only [Zo6];omega
   · (have i1:(de:Int)≠0:=by omega);have ac:Hid (∀w2,Below wr.heap.size wr w2→MDid M w m p d L X w2 T):=fun w2 hb=>by
      obtain⟨L1,X1,h1⟩:=hI.out.1.did;have hq:Q'=T:=by
       have h5:=hI.out.1.rep;have h6:=hI.out.1.fu;obtain⟨f',rfl⟩:∃f',f=f'+1:=⟨f-1,by omega⟩;unfold Po.rep at h5;rw [if_neg (by rw [← ab];exact he)] at h5;exact h5
      rw [hq] at h1;exact⟨L1,X1,(ap.out.trans h1).trans (h1.mt.same S hb)⟩
     clear ae ab hI;go_wp2_with fail;refine aa.out.mono ?_;rintro e w2 ⟨⟨va,vl,vc⟩,rfl,_,ad⟩;have HE:=hide (ac.out w2 ad);clear ad ac aa;simp only [Sl.val];go_wp2_with fail;refine bodyPost_ret (results_none rfl _ _ _) rfl ?_;exact⟨rfl,HE.out⟩
theorem Po.Fine.newD (h:D.Easy n c)(hs:D.ss.length≤65536)(hc:c≤9000)(h1:1≤f)(h2:f≤64):(Po.new D f).Fine n c:=
 ⟨Po.Ok.new h.sp h.n2 h1 h2,⟨h,fun k s hk=>by cases hk⟩,hc,hs⟩
theorem Po.opened_fine (h:D.Easy n c)(hb:Bytes D.ss)(hs:D.ss.length≤65536)(hc:c+512+4*n≤9000)(h1:1≤f)(h2:f≤64)(aa:D.sb+65536≤900000000000) :
    (Po.rep n (D.ss.length+1) (Po.new D f) (D.sb:Int) D.ss).Fine n (c+D.ss.length / 128)∧(Po.rep n (D.ss.length+1) (Po.new D f) (D.sb:Int) D.ss).Chk n (c+D.ss.length / 128):=by
  have hr:=Po.Fine.rep (D.ss.length+1) (D.sb:Int) D.ss (Po.Fine.newD h hs (by omega) h1 h2) hb (by omega);exact⟨hr.1,hr.1.chk (by omega) (by rw [hr.2.2];exact aa)⟩
theorem Zgr (S:Zb5 M)(w:World)(d:Nat)(D:Ds)(L:Dl)(h:DevM w d D L)(hE:D.Easy n c)(hs:D.ss.length≤65536)(hc:c+512+4*n≤9000)(h1:1≤f)(h2:f≤64)(af:D.sb+65536≤900000000000) :
    Calls Tryz.prog 8 #[at0 d,.int .i64 (f:Int)] w fun e w'=>∃m p L' X',e=.returned (.tuple #[at0 m,.int .i64 0])∧Mt M w' m p d (Po.opened D n f) L' X'∧Frm (L.F d) w w'∧(∀k,X' k∨L'.F d k→L.F d k∨w.heap.size≤k)∧w.heap.size≤m:=by
  obtain⟨q1,q2⟩:=Po.opened_fine hE (h.byt .ss) hs hc h1 h2 af;have HN:=hide (S.new w d D L n c f h hE hs h1 h2);have ai:=hide (Po.Fine.newD (f:=f) hE hs (by omega) h1 h2);have HC:=hide hc;have HS:=hide hs;have am:=hide q1;have au:=hide q2;have ao:=hide af;have HD:=hide h;have an:Hid ((Po.rep n (D.ss.length+1) (Po.new D f) (D.sb:Int) D.ss).D.sb=D.sb):=(Po.Fine.rep (D.ss.length+1) (D.sb:Int) D.ss ai.out (h.byt .ss) (by omega)).2.2;clear h hE hs hc h1 h2 q1 q2 af;unfold at0 at *;go_enter Tryz.func8,Tryz.ntmps8;go_wp2_with fail;refine HN.out.mono ?_;rintro e w1 ⟨ad,p,X1,rfl,ab,al⟩;have hA:=Zaa w1 (.cells #[.pointer (some ⟨d,0,none⟩),.pointer (some ⟨p,0,none⟩)] 83);obtain⟨w2,ac⟩:∃w2,w2=w1.alloc (.cells #[.pointer (some ⟨d,0,none⟩),.pointer (some ⟨p,0,none⟩)] 83):=⟨_,rfl⟩;(have aa:MtBlk w2 w1.heap.size d p:=by rw [ac];exact heap_alloc_new w1 _);rw [← ac] at hA;have ae:Mt M w2 w1.heap.size p d (Po.new D f) L X1:=⟨S.frm ab (Frm.ofBelow (F:=fun _=>False) hA) (fun _ _ e=>e),aa,fun e=>by
   rcases e with e | e
   · have:=S.lt ab _ e;omega
   · have:=(S.dev ab).lt e;omega⟩
  have aj:=hide (Zhh S ae ai.out (by show c+D.ss.length / 128≤_;have:=HC.out;have:=HS.out;omega));have ar:=hide ae;have ag:=hide (ZbY ad hA);have ak:=hide al;have ap:=hide ad.size;have aq:=hide ac;clear ad ab al hA aa ae ac HN;unfold at0 at *;go_wp2_with fail;rw [← aq.out];refine aj.out.mono ?_;rintro e w3 ⟨rfl,L3,X3,h3⟩;have ah:=hide (ZeV S h3.mt am.out (by have:=HC.out;have:=HS.out;omega) (by
   show (Po.rep n (D.ss.length+1) (Po.new D f) (D.sb:Int) D.ss).D.sb+65536≤_;rw [an.out];exact ao.out))
  have H3:=hide h3;clear h3 aj;unfold at0 at *;go_wp2_with fail;refine ah.out.mono ?_;rintro e w4 ⟨rfl,L4,X4,h4⟩;have H4:=hide (H3.out.trans h4);clear h4 ah;go_wp2_with fail;go_ret2;refine⟨w1.heap.size,p,L4,X4,rfl,H4.out.mt,?_,fun k e=>?_,ap.out⟩
  · exact(Frm.ofBelow ag.out).trans H4.out.frm (fun i hi e=>e.elim (fun e=>by have:=ak.out i e;omega) id)
  · rcases H4.out.foot k e with (e | e) | e
    · exact .inr (ak.out k e)
    · exact .inl e
    · exact .inr (Nat.le_trans ag.out.size e)
def updI (f:Nat→List Nat) (i:Im):Nat→List Nat:=fun k=>if i.page=((k:Nat):Int) then i.bs else f k
def upd (f:Nat→List Nat) (g:List Im):Nat→List Nat:=g.foldl updI f
def upds (f:Nat→List Nat) (gs:List (List Im)):Nat→List Nat:=gs.foldl upd f
theorem Zig:∀(g:List Im){f h:Nat→List Nat}{k:Nat},f k=h k→upd f g k=upd h g k
 | [],f,h,k,e=>e
 | i :: g,f,h,k,e=>by
  show upd (updI f i) g k=upd (updI h i) g k
  refine Zig g ?_
  unfold updI
  split
  · rfl
  · exact e
theorem ZkK:∀(gs:List (List Im)){f h:Nat→List Nat}{k:Nat},f k=h k→upds f gs k=upds h gs k
 | [],f,h,k,e=>e
 | g :: gs,f,h,k,e=>by
  show upds (upd f g) gs k=upds (upd h g) gs k
  exact ZkK gs (Zig g e)
theorem ZlS (h:P.Ok n){i:Im}(hb:i.bs.length=512)(z:Int):(P.putA n i z).Ok n∧∀k,k<n→(P.putA n i z).con k=updI P.con i k:=by
 unfold Po.putA updI;split
 · rename_i hp;obtain⟨h1,h2,_⟩:=h.set (p:=i.page.toNat) (by omega) hb z;refine⟨h1,fun k hk=>?_⟩;rw [h2 k hk];by_cases e:k=i.page.toNat
   · rw [if_pos e,if_pos (by omega)]
   · rw [if_neg e,if_neg (by omega)]
 · rename_i hp;exact⟨h,fun k hk=>by rw [if_neg (by omega)]⟩
theorem ZfE {n : Nat} {z : Int} : ∀ (g : List Im) {P : Po}, P.Ok n → (∀ i ∈ g, i.bs.length = 512) → (P.puts n g z).Ok n ∧ ∀ k, k < n → (P.puts n g z).con k = upd P.con g k
  | [], P, h, _ => ⟨h, fun _ _ => rfl⟩
  | i :: g, P, h, hl => by
    obtain ⟨h1, h2⟩ := ZlS h (hl i (by simp)) z
    obtain ⟨h3, h4⟩ := ZfE g (z := z) h1 (fun j hj => hl j (by simp [hj]))
    refine ⟨h3, fun k hk => ?_⟩
    show (Po.puts (P.putA n i z) n g z).con k = upd (updI P.con i) g k
    rw [h4 k hk]
    exact Zig g (h2 k hk)
theorem Zkw {t:List Nat}(ht:(dec t).e≠0):∀(gs:List (List Im)){f:Nat}{P:Po}{z:Int},P.Ok n→(∀g∈gs,May g)→gs.length<f→(Po.rep n f P z (recs gs ++ t)).Ok n∧∀k,k<n→(Po.rep n f P z (recs gs ++ t)).con k=upds P.con gs k
 | [],f,P,z,h,_,hf=>by
  obtain⟨f',rfl⟩:∃f',f=f'+1:=⟨f-1,by rw [List.length_nil] at hf;omega⟩
  show (Po.rep n (f'+1) P z t).Ok n∧_
  have e:Po.rep n (f'+1) P z t=P:=by unfold Po.rep;rw [if_neg ht]
  rw [e]
  refine⟨h,fun k hk=>?_⟩
  show (Po.rep n (f'+1) P z t).con k=P.con k
  rw [e]
 | g :: gs,f,P,z,h,hm,hf=>by
  obtain⟨f',rfl⟩:∃f',f=f'+1:=⟨f-1,by rw [List.length_cons] at hf;omega⟩
  have hg:=hm g (by simp)
  have e0:recs (g :: gs) ++ t=recd g ++ (recs gs ++ t):=by simp [recs]
  have hd:=Zla hg (recs gs ++ t)
  have e:Po.rep n (f'+1) P z (recs (g :: gs) ++ t)=Po.rep n f' (P.puts n g (z+(((recd g).length:Nat):Int))) (z+(((recd g).length:Nat):Int)) (recs gs ++ t):=by
   rw [e0]
   conv=>lhs;unfold Po.rep
   rw [hd,if_pos rfl];simp only [List.drop_left]
  rw [e];obtain⟨h1,h2⟩:=ZfE (z:=z+(((recd g).length:Nat):Int)) g h hg.len;obtain⟨h3,h4⟩:=Zkw ht gs (f:=f') (z:=z+(((recd g).length:Nat):Int)) h1 (fun x hx=>hm x (by simp [hx])) (by rw [List.length_cons] at hf;omega);refine⟨h3,fun k hk=>?_⟩;rw [h4 k hk];show upds _ gs k=upds (upd P.con g) gs k;exact ZkK gs (h2 k hk)
theorem Zjl:(dec []).e≠0:=by
 unfold dec;rw [if_pos (by decide)];decide
theorem ZhQ:∀(gs:List (List Im)),gs.length≤(recs gs).length
 | []=>Nat.le_refl _
 | g :: gs=>by
  have:=ZhQ gs
  show gs.length+1≤(recd g ++ recs gs).length
  rw [List.length_append]
  have:2≤(recd g).length:=by show 2≤(seald (text g)).length+1+1;omega
  omega
theorem Zfe (h:D.Easy n c)(hb:Bytes D.ss)(hs:D.ss.length≤65536)(hc:c+512+4*n≤9000)(h1:1≤f)(h2:f≤64)(aa:D.sb+65536≤900000000000){gs:List (List Im)}{t:List Nat}(hm:∀g∈gs,May g)(ht:(dec t).e≠0)(hx:D.ss=recs gs ++ t)(k:Nat)(hk:k<n):(Po.opened D n f).con k=upds D.page gs k:=by
 obtain⟨_,q⟩:=Po.opened_fine h hb hs hc h1 h2 aa;show (Po.check _ n).con k=_;rw [q.con k hk];have:=(Zkw ht gs (f:=D.ss.length+1) (P:=Po.new D f) (z:=(D.sb:Int)) (Po.Ok.new h.sp h.n2 h1 h2) hm (by
  have:=ZhQ gs;rw [hx,List.length_append];omega)).2 k hk
 rw [hx] at this ⊢;exact this
theorem Zdl (h:D.Easy n c)(hb:Bytes D.ss)(hs:D.ss.length≤65536)(hc:c+512+4*n≤9000)(h1:1≤f)(h2:f≤64)(aa:D.sb+65536≤900000000000):(Po.opened D n f).D.ss=[]∧(Po.opened D n f).D.sb=D.sb+D.ss.length∧(Po.opened D n f).Fine n (c+512+4*n):=by
 obtain⟨_,q⟩:=Po.opened_fine h hb hs hc h1 h2 aa;have hr:=Po.Fine.rep (D.ss.length+1) (D.sb:Int) D.ss (Po.Fine.newD (f:=f) h hs (by omega) h1 h2) hb (by omega);refine⟨q.ss,?_,q.fine.more (by omega) (by omega)⟩;have:=q.sb;rw [hr.2.1,hr.2.2] at this;exact this
theorem Po.Fine.apply (h:P.Fine n c)(hc:c+24≤9000){g:List Im}(hm:May g)(hb:ImB g)(hs:P.D.ss.length+(recd g).length≤65536):(P.apply n g).Fine n (c+24)∧(P.apply n g).D.ss=P.D.ss ++ recd g∧(P.apply n g).D.sb=P.D.sb∧∀k,k<n→(P.apply n g).con k=upd P.con g k:=by
 have h1:=h.append (recd g) hs;have h6:=hm.2.1;refine⟨(h1.puts g (by omega) hm.len hb).more (by omega) hc,?_,?_,fun k hk=>?_⟩
 · exact(Zhf _ _ _ _).trans (Zcy P.D (recd g)).1
 · exact(Zhe _ _ _ _).trans (Zcy P.D (recd g)).2.1
 · show (Po.puts _ n g _).con k=_;rw [(ZfE g h1.ok hm.len).2 k hk];exact Zig g (Po.con_dev (Zcy P.D (recd g)).2.2 _ k)
def Ds.Calm (D:Ds):Prop:=D.armed=false∧D.gone=false
theorem Ds.Calm.spend (h:D.Calm)(k:Nat):D.spend k=D∧D.spent k=k:=by
 (have hg:¬D.gone=true:=by rw [h.2];decide);constructor
 · unfold Ds.spend;rw [if_neg hg,if_pos h.1]
 · unfold Ds.spent;rw [if_neg hg,if_pos h.1]
theorem Ds.Calm.write (h:D.Calm)(k:Nat)(b:List Nat):(D.write k b).Calm:=by
 have:(D.write0 k b).Calm:=h;unfold Ds.write;rw [(this.spend 4).1];exact h
theorem Ds.keep_ag (D:Ds)(bs:List Bool)(u m:Nat):(D.keep bs u m).armed=D.armed∧(D.keep bs u m).gone=D.gone:=by
 unfold Ds.keep Ds.keepU;split <;> exact ⟨rfl,rfl⟩
theorem Ds.Calm.sync (h:D.Calm):D.sync.Calm:=by
 unfold Ds.sync;split
 · exact h
 · exact⟨(D.keep_ag _ _ _).1.trans h.1,(D.keep_ag _ _ _).2.trans h.2⟩
theorem Ds.Calm.append (h:D.Calm)(b:List Nat):(D.append b).Calm:=by
 unfold Ds.append;rw [(h.spend _).1];exact h
theorem Ds.Calm.trim (h:D.Calm)(pl:Nat):(D.trim pl).Calm:=by
 have:(D.trim0 pl).Calm:=h;unfold Ds.trim;rw [(this.spend 1).1];split <;> exact h
theorem Calm.ahead (h:P.D.Calm)(z:Int):(P.ahead z).D.Calm:=by
 unfold Po.ahead;split
 · exact h.sync
 · exact h
theorem Calm.write (h:P.D.Calm)(k:Nat):(P.write k).D.Calm:=by
 unfold Po.write;cases P.m k with
 | none=>exact h
 | some s =>
  simp only;split
  · exact(Calm.ahead h s.place).write k s.b
  · exact h
theorem Calm.letIn (h:P.D.Calm)(k:Nat):(P.letIn k).D.Calm:=by
 have h1:∀(Q:Po) (z:Int),Q.D.Calm→(Q.left z).D.Calm:=fun Q z hq=>by
  unfold Po.left;split
  · exact Calm.write hq _
  · exact hq
 have h2:∀(Q:Po),Q.D.Calm→(Q.fetch k).D.Calm:=fun Q hq=>by
  unfold Po.fetch;split <;> exact hq
 exact h2 _ (h1 _ _ h)
theorem Calm.puts :∀(g:List Im){P:Po},P.D.Calm→(P.puts n g z).D.Calm
 | [],P,h=>h
 | i :: g,P,h=>by
  refine Calm.puts (P:=P.putA n i z) g ?_
  unfold Po.putA
  split
  · exact Calm.letIn h _
  · exact h
theorem Calm.writes : ∀ (L : List Nat) {P : Po}, P.D.Calm → (L.foldl Po.write P).D.Calm
 | [], P, h => h
 | p :: L, P, h => Calm.writes L (Calm.write h p)
theorem Calm.check (h:P.D.Calm):(P.check n).D.Calm:=(((Calm.writes (P.dirty n) h).sync).trim _).sync
theorem Calm.rep :∀(f:Nat){P:Po}{z:Int}{xs:List Nat},P.D.Calm→(Po.rep n f P z xs).D.Calm
 | 0,P,z,xs,h=>h
 | f+1,P,z,xs,h=>by
  unfold Po.rep
  split
  · exact Calm.rep f (Calm.puts _ h)
  · exact h
theorem Calm.opened (h:D.Calm):(Po.opened D n f).D.Calm:=Calm.check (Calm.rep _ h)
theorem Calm.apply {g:List Im}(h:P.D.Calm):(P.apply n g).D.Calm:=Calm.puts g (h.append _)
theorem Ds.Easy.saneA (h:D.Easy n c)(hc:c≤100000):D.Sane n:=⟨h.sp,h.kp,h.n1,h.n2,h.wr,Nat.le_trans h.wl hc,Nat.le_trans h.kl (by omega),by rw [h.tr];simp⟩
def OD (A:Nat→Prop) (w0 w:World) (d:Nat) (D:Ds):Prop:=∃L,DevM w d D L∧(∀k,L.F d k→w0.heap.size≤k∧¬A k)∧Below w0.heap.size w0 w∧∀k,A k→k<w.heap.size
def OM (M:PoM) (A:Nat→Prop) (w0 w:World) (m p d:Nat) (P:Po):Prop:=∃L X,Mt M w m p d P L X∧(∀k,X k∨L.F d k→w0.heap.size≤k∧¬A k)∧Below w0.heap.size w0 w∧∀k,A k→k<w.heap.size
section
variable {M : PoM} {A : Nat → Prop} {w0 w w' : World} {m p d : Nat} {P Q : Po} {D : Ds} {n c : Nat}
theorem OM.below (h:OM M A w0 w m p d P):Below w0.heap.size w0 w:=by obtain ⟨_,_,_,_,hb,_⟩:=h;exact hb
theorem OM.more (S:Zb5 M)(h:OM M A w0 w m p d P)(hb:Below w.heap.size w w'):OM M (fun k=>A k∨(w.heap.size≤k∧k<w'.heap.size)) w0 w' m p d P:=by
 obtain⟨L,X,hm,hf,aa,hA⟩:=h;refine⟨L,X,(hm.same S hb).mt,fun k hk=>⟨(hf k hk).1,fun e=>?_⟩,ZbY aa hb |> fun x=>x,fun k hk=>hk.elim (fun e=>Nat.lt_of_lt_of_le (hA k e) hb.size) (fun e=>e.2)⟩;rcases e with e | e
 · exact(hf k hk).2 e
 · rcases hk with hk | hk
   · have:=S.lt hm.pool _ hk;omega
   · have:=(S.dev hm.pool).lt hk;omega
theorem OM.less {B:Nat→Prop}(h:OM M A w0 w m p d P)(hB:∀k,B k→A k):OM M B w0 w m p d P:=by
 obtain⟨L,X,hm,hf,aa,hA⟩:=h;exact⟨L,X,hm,fun k hk=>⟨(hf k hk).1,fun e=>(hf k hk).2 (hB k e)⟩,aa,fun k hk=>hA k (hB k hk)⟩
theorem OM.dev (S:Zb5 M)(h:OM M A w0 w m p d P):OD A w0 w d P.D:=by
 obtain⟨L,X,hm,hf,aa,hA⟩:=h;exact⟨L,S.dev hm.pool,fun k hk=>hf k (.inr hk),aa,hA⟩
theorem Zkf {X:Nat→Prop}(hf:∀k,X k∨L.F d k→w0.heap.size≤k∧¬A k)(aa:Below w0.heap.size w0 w)(hA:∀k,A k→k<w.heap.size)(h:MDid M w m p d L X w' Q):OM M A w0 w' m p d Q∧ZaD A w w':=by
 obtain⟨L',X',h⟩:=h;refine⟨⟨L',X',h.mt,fun k hk=>?_,aa.trans (h.frm.below aa.size (fun k hk=>(hf k hk).1)),fun k hk=>Nat.lt_of_lt_of_le (hA k hk) h.frm.size⟩,ZaD.frm h.frm (fun k hk e=>(hf k e).2 hk)⟩;rcases h.foot k hk with e | e
 · exact hf k e
 · exact⟨Nat.le_trans aa.size e,fun e2=>by have:=hA k e2;omega⟩
theorem Znn {D':Ds}{L':Dl}(hf:∀k,L.F d k→w0.heap.size≤k∧¬A k)(aa:Below w0.heap.size w0 w)(hA:∀k,A k→k<w.heap.size)(t:Zaj w d L w' D' L'):OD A w0 w' d D'∧ZaD A w w':=by
 refine⟨⟨L',t.dev,fun k hk=>?_,aa.trans (t.frm.below aa.size (fun k hk=>(hf k hk).1)),fun k hk=>Nat.lt_of_lt_of_le (hA k hk) t.frm.size⟩,ZaD.frm t.frm (fun k hk e=>(hf k e).2 hk)⟩;rcases t.foot k hk with e | e
 · exact hf k e
 · exact⟨Nat.le_trans aa.size e,fun e2=>by have:=hA k e2;omega⟩
theorem Zm0 (w:World)(n:Nat)(h1:1≤n)(h2:n≤64):Calls Tryz.prog 7 #[.int .i64 (n:Int)] w fun e w'=>∃d,e=.returned (.tuple #[at0 d,.int .i64 0])∧OD (fun _=>False) w w' d (Ds.new n):=by
 refine(Znk w n h1 h2).mono ?_;rintro e w' ⟨hb,d,L,rfl,hd,hf⟩;exact⟨d,rfl,L,hd,fun k hk=>⟨hf k hk,id⟩,hb,fun _ e=>e.elim⟩
theorem ZgZ (S:Zb5 M)(h:OD A w0 w d D)(hE:D.Easy n c)(hs:D.ss.length≤65536)(hc:c+512+4*n≤9000)(h1:1≤f)(h2:f≤64)(ae:D.sb+65536≤900000000000):Calls Tryz.prog 8 #[at0 d,.int .i64 (f:Int)] w fun e w'=>∃m p,e=.returned (.tuple #[at0 m,.int .i64 0])∧OM M A w0 w' m p d (Po.opened D n f)∧ZaD A w w':=by
 obtain⟨L,hm,hf,aa,hA⟩:=h;refine(Zgr S w d D L hm hE hs hc h1 h2 ae).mono ?_;rintro e w' ⟨m,p,L',X',rfl,ad,ab,ac,af⟩;refine⟨m,p,rfl,⟨L',X',ad,fun k hk=>?_,aa.trans (ab.below aa.size (fun k hk=>(hf k hk).1)),fun k hk=>Nat.lt_of_lt_of_le (hA k hk) ab.size⟩,ZaD.frm ab (fun k hk e=>(hf k e).2 hk)⟩;rcases ac k hk with e | e
 · exact hf k e
 · exact⟨Nat.le_trans aa.size e,fun e2=>by have:=hA k e2;omega⟩
theorem ZlJ (S:Zb5 M)(h:OM M A w0 w m p d P)(hF:P.Fine n c)(hc:c+24≤9000){G:Nat→Prop}(v:Sl)(l:List Ix)(hg:Gr G w v l)(hG:∀k,G k→k<w.heap.size→A k∨k<w0.heap.size):Calls Tryz.prog 13 #[at0 m,v.val] w fun e w'=>e=.returned (.int .i64 (P.applyE n (ims l)))∧OM M A w0 w' m p d (if P.applyE n (ims l)=0 then P.apply n (ims l) else P)∧ZaD A w w':=by
 obtain⟨L,X,hm,hf,ab,hA⟩:=h;refine(ZeQ S hm hF hc v l (hg.mono (fun k hk aa=>⟨fun e=>?_,aa⟩))).mono ?_
 · rcases hG k hk aa with e2 | e2
   · exact(hf k e).2 e2
   · have:=(hf k e).1;omega
 · rintro e w' ⟨rfl,hd⟩;exact⟨rfl,Zkf hf ab hA hd⟩
theorem Znp (S:Zb5 M)(h:OM M A w0 w m p d P)(hF:P.Fine n c):Calls Tryz.prog 16 #[at0 m] w fun e w'=>e=.returned (.tuple #[])∧OM M A w0 w' m p d P.syncM∧ZaD A w w':=by
 obtain⟨L,X,hm,hf,aa,hA⟩:=h;refine(ZeB S hm hF).mono ?_;rintro e w' ⟨rfl,hd⟩;exact⟨rfl,Zkf hf aa hA hd⟩
theorem Zno (S:Zb5 M)(h:OM M A w0 w m p d P)(hF:P.Fine n c)(k:Nat)(hk:k<n):Calls Tryz.prog 22 #[at0 m,.int .i64 (k:Int)] w fun e w'=>(OM M A w0 w' m p d (P.letIn k)∧ZaD A w w')∧∃s:Sl,e=.returned (.tuple #[s.val,.int .i64 0])∧Own 5 1 w' s (vals ((P.letIn k).con k))∧s.len=512:=by
 obtain⟨L,X,hm,hf,aa,hA⟩:=h;refine(ZhO S hm hF k hk).mono ?_;rintro e w' ⟨hd,r⟩;exact⟨Zkf hf aa hA hd,r⟩
theorem ZlI (h:OD A w0 w d D)(hE:D.Easy n c)(hc:c≤9000)(pa:Option Addr)(pl pc:Nat)(bs:List Bool)(aa:Pat w0 pa pl bs)(ae:pl≤9223372036854775807)(u:Int):Calls Tryz.prog 26 #[at0 d,.slice pa pl pc,.int .i64 u] w fun e w'=>e=.returned (.tuple #[])∧OD A w0 w' d (D.crash bs (D.count u) 0)∧ZaD A w w':=by
 obtain⟨L,hm,hf,ab,hA⟩:=h;have ac:D.count u≤D.ap.length:=by
  unfold Ds.count;rw [hE.units_is];split
  · omega
  · split <;> omega
 refine(ZfT w d D L hm n (hE.saneA (by omega)) pa pl pc bs (aa.keep ab) (fun ad e hl hk=>?_) ae u (D.count u) 0 rfl (hE.fitU ac)).mono ?_
 · obtain⟨b,off,ha,hc⟩:=aa.at_ 0 hl;rw [ha] at e;cases e;have h1:=(hf _ hk).1;have h2:b<w0.heap.size:=World.block_lt_of_cell? w0 _ hc;simp only at h1;omega
 · rintro e w' ⟨rfl,L',t⟩;exact⟨rfl,Znn hf ab hA t⟩
end
def awG:List Im:=[⟨1,pageOf [7]⟩]
theorem ZdU:May awG:=Zng (by omega) (by omega) (Za1 _)
theorem Zja:ImB awG:=fun m hm=>by rw [List.mem_singleton.1 hm];exact ZdE _ (ZfR 7 (by omega))
theorem ZgH:(recd awG).length=520:=by rw [ZaO ZdU.len];rfl
noncomputable def awP0:Po:=Po.opened (Ds.new 2) 2 1
noncomputable def awP1:Po:=awP0.apply 2 awG
noncomputable def awD:Ds:=awP1.syncM.D.crash [] (awP1.syncM.D.count 0) 0
noncomputable def awP4:Po:=Po.opened awD 2 1
theorem Zkl:(pageOf [7]).getD 9 0=7:=by decide +kernel
structure AwF:Prop where
  f0:awP0.Fine 2 520
  e0:awP0.applyE 2 awG=0
  f1:awP1.Fine 2 544
  f2:awP1.syncM.Fine 2 544
  ea:awD.Easy 2 0
  ss:awD.ss.length≤65536
  sb:awD.sb+65536≤900000000000
  f4:awP4.Fine 2 520
  con:(awP4.letIn 1).con 1=pageOf [7]
theorem awF:AwF:=by
 have hN:(Ds.new 2).Easy 2 0:=Ds.Easy.new (by omega) (by omega);obtain⟨s0,b0,f0⟩:=Zdl (f:=1) hN (fun x hx=>by cases hx) (by show (0:Nat)≤_;omega) (by omega) (by omega) (by omega) (by show 0+65536≤_;omega);replace b0:awP0.D.sb=0:=b0;replace s0:awP0.D.ss=[]:=s0;replace f0:awP0.Fine 2 520:=f0;have e0:awP0.applyE 2 awG=0:=by
  unfold Po.applyE;rw [if_neg (not_not_intro ZdU),if_neg (by show ¬(2:Int)≤1;omega),if_neg (by rw [s0,ZgH];show ¬65536<0+520;omega)]
 obtain⟨f1,s1,b1,_⟩:=f0.apply (by omega) ZdU Zja (by rw [s0,ZgH];show 0+520≤65536;omega);replace f1:awP1.Fine 2 544:=f1;replace s1:awP1.D.ss=recd awG:=by
  have:awP1.D.ss=awP0.D.ss ++ recd awG:=s1;rw [this,s0];rfl
 replace b1:awP1.D.sb=0:=by
  have:awP1.D.sb=awP0.D.sb:=b1;rw [this,b0]
 have aa:awP1.D.Calm:=Calm.apply (Calm.opened ⟨rfl,rfl⟩);have ag:=f1.wet.dev;have af:awP1.syncM.D = { awP1.D with kp:=keepW [true] 0 awP1.D.wr awP1.D.kp,ks:=awP1.D.ks ++ awP1.D.ap,wr:=[],ap:=[] }:=ag.sync_is aa.2;obtain⟨k1,k2⟩:=ag.ki aa.2;(have aj:awP1.syncM.D.ap=[]:=by rw [af]);have ab:awP1.syncM.D.count 0=0:=by
  unfold Ds.count;rw [if_neg (by omega),if_pos (by omega)];rfl
 have ac:awD.ss=recd awG:=by
  unfold awD;rw [ab,Ds.crash_is];show awP1.syncM.D.ks ++ awP1.syncM.D.ap.take 0=_;rw [List.take_zero,List.append_nil,af];show awP1.D.ks ++ awP1.D.ap=_;rw [k2,s1]
 have ai:awD.sb=0:=by
  unfold awD;rw [ab,Ds.crash_is];show awP1.syncM.D.kb=_;rw [af];show awP1.D.kb=_;rw [k1,b1]
 have ad:awD.Easy 2 0:=by
  unfold awD;rw [ab];exact f1.syncM.wet.dev.crash [] (Nat.zero_le _)
 (have ah:Bytes awD.ss:=by rw [ac];exact Zcj Zja ZdU);(have hl:awD.ss.length≤65536:=by rw [ac,ZgH];omega);(have ae:awD.sb+65536≤900000000000:=by rw [ai];omega);obtain⟨_,_,f4⟩:=Zdl (f:=1) ad ah hl (by omega) (by omega) (by omega) ae;replace f4:awP4.Fine 2 520:=f4;refine⟨f0,e0,f1,f1.syncM,ad,hl,ae,f4,?_⟩;rw [(f4.ok.letIn (p:=1) (by omega)).con 1 (by omega)];have:=Zfe (f:=1) ad ah hl (by omega) (by omega) (by omega) ae (gs:=[awG]) (t:=[]) (fun g hg=>by rw [List.mem_singleton.1 hg];exact ZdU) Zjl (by rw [ac];simp [recs]) 1 (by omega);show awP4.con 1=_;unfold awP4;rw [this];rfl
theorem Zil (S:Zb5 M)(w:World):Calls Tryz.prog 10 #[] w fun e w'=>e=.returned (.bool true)∧Below w.heap.size w w':=by
 have HN:=hide (Zm0 w 2 (by omega) (by omega))
 have HO:Hid (∀w1 d,OD (fun _=>False) w w1 d (Ds.new 2)→Calls Tryz.prog 8 #[at0 d,.int .i64 1] w1 fun e w'=>∃m p,e=.returned (.tuple #[at0 m,.int .i64 0])∧OM M (fun _=>False) w w' m p d awP0∧ZaD (fun _=>False) w1 w'):=fun w1 d h=>ZgZ S h (Ds.Easy.new (by omega) (by omega)) (by show (0:Nat)≤_;omega) (by omega) (f:=1) (by omega) (by omega) (by show 0+65536≤_;omega)
 have HPG:Hid (∀w',Calls Tryz.prog 40 #[.slice (some ⟨w'.heap.size,0,none⟩) 1 1] (w'.alloc (.cells #[.int .u8 7] 5)) fun e w2=>Below w'.heap.size w' w2∧∃g,e=.returned (.slice (some ⟨g,0,none⟩) 512 512)∧Came w2 (some ⟨g,0,none⟩) 512 512 (pageOf [7])∧w'.heap.size≤g):=fun w'=>(ZlQ _ _ _ _ _ (ZkZ w' 7 (by omega))).mono (by
  rintro e w2 ⟨x1,x2,x3⟩
  have hA:=Zaa w' (.cells #[.int .u8 7] 5)
  exact⟨hA.trans (x1.mono hA.size),_,x2,x3,hA.size⟩)
 have HAP:Hid (∀w1 w2 m p d g,OM M (fun _=>False) w w1 m p d awP0→Below w1.heap.size w1 w2→Came w2 (some ⟨g,0,none⟩) 512 512 (pageOf [7])→w1.heap.size≤g→Calls Tryz.prog 13 #[at0 m,.slice (some ⟨w2.heap.size,0,none⟩) 1 1] (w2.alloc (.cells #[.int .i64 1,.slice (some ⟨g,0,none⟩) 512 512] 76)) fun e w'=>e=.returned (.int .i64 0)∧OM M (fun _=>False) w w' m p d awP1):=fun w1 w2 m p d g ho hb hc hg=>by
  have hgr:=ZnY (D:=fun k=>w1.heap.size≤k) w2 ⟨1,⟨some ⟨g,0,none⟩,512,512⟩,pageOf [7]⟩ ⟨hc,fun ad e _=>by cases e;exact hg⟩
  have hb3:=ZbY hb (Zaa w2 (.cells #[.int .i64 1,.slice (some ⟨g,0,none⟩) 512 512] 76))
  have:=ZlJ S (ho.more S hb3) awF.f0 (by omega) _ _ hgr (fun k hk hlt=>.inl (.inr ⟨hk.elim id (fun e=>by have:=hb.size;omega),hlt⟩))
  refine this.mono ?_
  rintro e w' ⟨h1,h2,_⟩
  have e0:awP0.applyE 2 (ims [(⟨1,⟨some ⟨g,0,none⟩,512,512⟩,pageOf [7]⟩:Ix)])=0:=awF.e0
  rw [e0] at h1 h2
  rw [if_pos rfl] at h2
  exact⟨h1,h2.less (fun _ e=>e.elim)⟩
 have HSY:Hid (∀w1 m p d,OM M (fun _=>False) w w1 m p d awP1→Calls Tryz.prog 16 #[at0 m] w1 fun e w'=>e=.returned (.tuple #[])∧OM M (fun _=>False) w w' m p d awP1.syncM∧ZaD (fun _=>False) w1 w'):=fun w1 m p d h=>Znp S h awF.f1
 have HCR:Hid (∀w1 m p d,OM M (fun _=>False) w w1 m p d awP1.syncM→Calls Tryz.prog 26 #[at0 d,.slice none 0 0,.int .i64 0] w1 fun e w'=>e=.returned (.tuple #[])∧OD (fun _=>False) w w' d awD∧ZaD (fun _=>False) w1 w'):=fun w1 m p d h=>ZlI (h.dev S) awF.f2.wet.dev (by omega) none 0 0 [] ⟨rfl,fun i hi=>absurd hi (Nat.not_lt_zero i)⟩ (by omega) 0
 have HO2:Hid (∀w1 d,OD (fun _=>False) w w1 d awD→Calls Tryz.prog 8 #[at0 d,.int .i64 1] w1 fun e w'=>∃m p,e=.returned (.tuple #[at0 m,.int .i64 0])∧OM M (fun _=>False) w w' m p d awP4∧ZaD (fun _=>False) w1 w'):=fun w1 d h=>ZgZ S h awF.ea awF.ss (by omega) (f:=1) (by omega) (by omega) awF.sb
 have HRD:Hid (∀w1 m p d,OM M (fun _=>False) w w1 m p d awP4→Calls Tryz.prog 22 #[at0 m,.int .i64 1] w1 fun e w'=>(OM M (fun _=>False) w w' m p d (awP4.letIn 1)∧ZaD (fun _=>False) w1 w')∧∃s:Sl,e=.returned (.tuple #[s.val,.int .i64 0])∧Own 5 1 w' s (vals (pageOf [7]))∧s.len=512):=fun w1 m p d h=>by
  have:=Zno S h awF.f4 1 (by omega)
  rw [awF.con] at this
  exact this
 have H79:=hide Zkl
 generalize pageOf [7]=pg at *
 generalize awP4=q4 at *
 generalize awD=dd at *
 generalize awP1=q1 at *
 generalize awP0=q0 at *
 unfold at0 at *
 go_enter Tryz.func10,Tryz.ntmps10
 go_wp2_with fail
 refine HN.out.mono ?_
 rintro e w1 ⟨d,rfl,hd⟩
 have H1:=hide (HO.out w1 d hd)
 clear hd HO HN
 unfold at0 at *
 go_wp2_with fail
 refine H1.out.mono ?_
 rintro e w2 ⟨m,p,rfl,ho,_⟩
 have O2:=hide ho
 clear ho H1
 unfold at0 at *
 have hnil:∀w:World,(binOp .eql 27 (.pointer (some ⟨m,0,none⟩)) (.pointer none)).run Tryz.prog w=.ok (.bool false) w:=fun _=>rfl
 go_wp2_with fail
 refine(HPG.out w2).mono ?_
 rintro e w3 ⟨hb3,g3,rfl,hc3,hg3⟩
 have H3:=hide (HAP.out w2 w3 m p d g3 O2.out hb3 hc3 hg3)
 clear hb3 hc3 hg3 HAP HPG
 unfold at0 at *
 go_wp2_with fail
 refine H3.out.mono ?_
 rintro e w4 ⟨rfl,ho⟩
 have H4:=hide (HSY.out w4 m p d ho)
 clear ho H3 HSY
 unfold at0 at *
 go_wp2_with fail
 refine H4.out.mono ?_
 rintro e w5 ⟨rfl,ho,_⟩
 have H5:=hide (HCR.out w5 m p d ho)
 clear ho H4 HCR
 unfold at0 at *
 go_wp2_with fail
 refine H5.out.mono ?_
 rintro e w6 ⟨rfl,ho,_⟩
 have H6:=hide (HO2.out w6 d ho)
 clear ho H5 HO2
 unfold at0 at *
 go_wp2_with fail
 refine H6.out.mono ?_
 rintro e w7 ⟨m2,p2,rfl,ho,_⟩
 have H7:=hide (HRD.out w7 m2 p2 d ho)
 clear ho H6 HRD
 unfold at0 at *
 have hnil2:∀w:World,(binOp .eql 27 (.pointer (some ⟨m2,0,none⟩)) (.pointer none)).run Tryz.prog w=.ok (.bool false) w:=fun _=>rfl
 go_wp2_with fail
 refine H7.out.mono ?_
 rintro e w8 ⟨⟨ho,_⟩,s,rfl,hown,hl⟩
 have HB:=hide ho.below
 obtain⟨_,g,off,cap,rfl,hcell⟩:=ZiA hown hl
 have h9:=hcell 9 (by omega)
 rw [H79.out] at h9
 unfold Sl.val
 clear ho hown hcell hl H7
 go_wp2_with fail
 go_ret
 exact⟨rfl,HB.out⟩
end Go.Proofs.YtpnlebpnhmibfaaGreat
