/-
  Lemmas.
-/
import Derived.Test.YtdojdcncncgncaaGreatKtbj
namespace Go.Proofs.YtdojdcncncgncaaGreat
open Go.RowKit
set_option linter.unusedVariables false
set_option maxRecDepth 100000
set_option maxHeartbeats 4000000
variable {w w0 w':World}{s v u:Sl}{L M:List Lb}{i:Nat}{t:List Int}{l l':List Sb}{A:Act}
theorem ZoF:(Tryz.prog.info? 5).map (fun i=>(i.zero,i.size,i.bytes))=some (some (.int .u8 0),1,1):=by kernel_rfl
def ZbB (e:TypeId) (z:Nat) (n:Nat) (vs:List Value) (w:World) (en:Ending) (w':World):Prop:=
  Below w.heap.size w w'∧∃s':Sl,en=.returned s'.val∧Own e z w' s' vs∧s'.len=n∧∀k,s'.blk=some k→w.heap.size≤k
theorem Zd7 {S e:TypeId}{z:Nat}{zv:Value}{bytes:Nat}(hu:Tryz.prog.underlying S=some (.slice e))(hi:(Tryz.prog.info? e).map (fun i=>(i.zero,i.size,i.bytes))=some (some zv,z,bytes))(af:zv.cells.size=z)(ad:bytes≤1000)
    (w:World)(v:Sl)(vs:List Value)(hs:Src Tryz.prog z S v.val v.len vs w)(hm:v.len≤1000000) :
    ∃s' W,(∀ty,(Builtin.append_ #[S,S] ty #[.slice none 0 0,v.val]).run Tryz.prog w=.ok s'.val W)∧Own e z W s' vs∧s'.len=v.len∧Below w.heap.size w W∧∀k,s'.blk=some k→w.heap.size≤k:=by
  obtain⟨s',W,ab,ho,aa,ae,ac⟩:=ZaA hu hi af ad w Sl.nil [] (Own.nil e z w) (fun u hu=>by cases hu) v.val v.len vs hs (by show 0+v.len≤_;omega) 0;refine⟨s',W,fun ty=>ab,ho,by rw [aa];show 0+v.len=_;omega,ae.below (Nat.le_refl _) (fun k e=>by cases e),fun k e=>?_⟩;rcases ac with e' | ⟨e',_⟩
  · rw [e'] at e;cases e
  · rw [e'] at e;cases e;exact Nat.le_refl _
theorem ZmE {D:Nat→Prop}(w:World)(v:Sl)(t:List Int)(h:Gi D w v t):Calls Tryz.prog 88 #[v.val] w (ZbB 3 1 v.len (Zax t) w):=by
 obtain⟨s',W,aa,ho,hl,hb,hn⟩:=Zd7 Tryz.underlying46 ZeG rfl (by decide) w v (Zax t) h.src h.big;obtain⟨a,n,c⟩:=v;have HR:=hide aa;have HF:Hid (ZbB 3 1 n (Zax t) w (.returned s'.val) W):=⟨hb,s',rfl,ho,hl,hn⟩;clear aa ho hl hb hn h;obtain⟨a',n',c'⟩:=s';unfold Sl.val at *;go_enter Tryz.func88,Tryz.ntmps88;go_wp2_with (at_builtin;refine Zam _ rfl 46 (.const (.slice none 0 0)) (.tmp 3) rfl (.slice none 0 0) (.slice a n c) (.slice a' n' c') rfl rfl W HR.out ?_);go_ret;exact HF.out
theorem ZmD {D:Nat→Prop}(w:World)(v:Sl)(l:List Sb)(h:Gb D w v l):Calls Tryz.prog 89 #[v.val] w (ZbB 56 1 v.len (Za2 l) w):=by
 obtain⟨s',W,aa,ho,hl,hb,hn⟩:=Zd7 Tryz.underlying65 ZdT rfl (by decide) w v (Za2 l) h.src (by have:=h.big;omega);obtain⟨a,n,c⟩:=v;have HR:=hide aa;have HF:Hid (ZbB 56 1 n (Za2 l) w (.returned s'.val) W):=⟨hb,s',rfl,ho,hl,hn⟩;clear aa ho hl hb hn h;obtain⟨a',n',c'⟩:=s';unfold Sl.val at *;go_enter Tryz.func89,Tryz.ntmps89;go_wp2_with (at_builtin;refine Zam _ rfl 65 (.const (.slice none 0 0)) (.tmp 3) rfl (.slice none 0 0) (.slice a n c) (.slice a' n' c') rfl rfl W HR.out ?_);go_ret;exact HF.out
theorem ZmF {D:Nat→Prop}(w:World)(v:Sl)(l:List Lb)(h:Gl D w v l):Calls Tryz.prog 87 #[v.val] w (ZbB 67 2 v.len (Za7 l) w):=by
 obtain⟨s',W,aa,ho,hl,hb,hn⟩:=Zd7 Tryz.underlying22 ZkW rfl (by decide) w v (Za7 l) h.src (by have:=h.big;omega);obtain⟨a,n,c⟩:=v;have HR:=hide aa;have HF:Hid (ZbB 67 2 n (Za7 l) w (.returned s'.val) W):=⟨hb,s',rfl,ho,hl,hn⟩;clear aa ho hl hb hn h;obtain⟨a',n',c'⟩:=s';unfold Sl.val at *;go_enter Tryz.func87,Tryz.ntmps87;go_wp2_with (at_builtin;refine Zam _ rfl 22 (.const (.slice none 0 0)) (.tmp 3) rfl (.slice none 0 0) (.slice a n c) (.slice a' n' c') rfl rfl W HR.out ?_);go_ret;exact HF.out
theorem ZmG (w:World)(v:Sl)(xs:List Nat)(h:Came w v.a v.len v.cap xs)(hm:v.len≤1000000):Calls Tryz.prog 90 #[v.val] w (ZbB 5 1 v.len (vals xs) w):=by
 obtain⟨s',W,aa,ho,hl,hb,hn⟩:=Zd7 Tryz.underlying56 ZoF rfl (by decide) w v (vals xs) h.src hm;obtain⟨a,n,c⟩:=v;have HR:=hide aa;have HF:Hid (ZbB 5 1 n (vals xs) w (.returned s'.val) W):=⟨hb,s',rfl,ho,hl,hn⟩;clear aa ho hl hb hn h;obtain⟨a',n',c'⟩:=s';unfold Sl.val at *;go_enter Tryz.func90,Tryz.ntmps90;go_wp2_with (at_builtin;refine Zam _ rfl 56 (.const (.slice none 0 0)) (.tmp 3) rfl (.slice none 0 0) (.slice a n c) (.slice a' n' c') rfl rfl W HR.out ?_);go_ret;exact HF.out
theorem Zml:∀args w,(callFunc 88 args).run Tryz.prog w=.ok (.enter 88 args) w:=Pl.qj Tryz.func88
theorem Zmm:∀args w,(callFunc 89 args).run Tryz.prog w=.ok (.enter 89 args) w:=Pl.qj Tryz.func89
theorem Zmn:∀args w,(callFunc 90 args).run Tryz.prog w=.ok (.enter 90 args) w:=Pl.qj Tryz.func90
theorem Zpm (u v:Sl)(w:World):(Instr.build 67 #[(0,u.val),(1,v.val)]).run Tryz.prog w=.ok (lfV u v) w:=by
 unfold lfV Sl.val;simp [go_sem,Instr.build]
structure Cp5 (w w':World) (gN:Nat) (s:Sl) (M:List Lb) (n:Nat) (u v:Sl) (t:List Int) (l:List Sb):Prop where
  own:OwnL w' s (M.set n ⟨u,v,t,l⟩)
  ui:Own 3 1 w' u (Zax t)
  vi:OwnB w' v l
  un:∀k,u.blk=some k→w.heap.size≤k
  vn:∀k,v.blk=some k→w.heap.size≤k
  frm:Frm (fun k=>k=gN) w w'
theorem cpy5 {D E:Nat→Prop}(w:World)(gN off len c n:Nat)(hn:n<len)(M:List Lb)(ho:OwnL w ⟨some ⟨gN,off,none⟩,len,c⟩ M)(g:Nat)(u v:Sl)(hg:LfBlk w g u.val v.val)(ak:g≠gN)(t:List Int)(l:List Sb)(hu:Gi D w u t)(hv:Gb E w v l)
    {Q:Exit→Act→World→Prop}(an:A.tmps.size=47)(aj:A.defers=[])(s3:A.tmps.getD 3 undef=.slice (some ⟨gN,off,none⟩) len c)(s4:A.tmps.getD 4 undef=.int .i64 (n:Int))(s5:A.tmps.getD 5 undef=.pointer (some ⟨g,0,none⟩))
    (hend:∀(q:Nat→Value)(u' v':Sl) w',u'.len=u.len→v'.len=v.len→Cp5 w w' gN ⟨some ⟨gN,off,none⟩,len,c⟩ M n u' v' t l→Q .normal (((((((((((A).put (some 17) (q 17)).put (some 18) (q 18)).put (some 19) (q 19)).put (some 20) (q 20)).put (some 22) (q 22)).put (some 23) (q 23)).put (some 21) (q 21)).put (some 24) (q 24)).put (some 25) (q 25)).put (some 26) (q 26)) w') :
    (Code.region 5 (Pl.find 5 ((Tryz.f46.body).getD .skip)) true).wp Tryz.prog Q A w:=by
  have aa:LfBlk w.drew g u.val v.val:=hg;have hA:=Pl.At.same (v:=.pointer (some ⟨g,0,none⟩)) (d:=5) (Pl.At.same (v:=.int .i64 (n:Int)) (d:=4) (Pl.At.same (v:=.slice (some ⟨gN,off,none⟩) len c) (d:=3) (Pl.At.here an aj) s3) s4) s5;refine Pl.qa (S:=fun w'=>LfBlk w' g u.val v.val) hA aa ?_;rw [show (Pl.find 5 ((Tryz.f46.body).getD .skip)).size=11 by kernel_rfl];refine Pl.q0 0 17 (.slice (some ⟨gN,off,none⟩) len c) (Pl.q1) (Pl.q2 (.tmp 3)) aa ?_;refine Pl.q0 1 18 (.int .i64 (n:Int)) (Pl.q1) (Pl.q2 (.tmp 4)) aa ?_;refine Pl.q0 2 19 (.pointer (some ⟨g,0,none⟩)) (Pl.q1) (Pl.q5 67 (.tmp 5) 0 (Zda g)) aa ?_;refine Pl.q0 3 20 u.val (Pl.q1) (Pl.q3 46 (.tmp 19) (fun w' hS=>Zdc g u _ w' hS)) aa ?_;refine Pl.q0 5 22 (.pointer (some ⟨g,1,none⟩)) (Pl.q1) (Pl.q5 67 (.tmp 5) 1 (Zjz g)) aa ?_;refine Pl.q0 6 23 v.val (Pl.q1) (Pl.q3 65 (.tmp 22) (fun w' hS=>ZjF g _ v w' hS)) aa ?_;refine Pl.qp 4 ?_;refine Pl.qm 4 21 88 [(.tmp 20)] #[46] Zml (Calls.mono (ZmE w.drew u t (hu.below ((Below.refl _ w).drew) (Nat.le_refl _))) ?_);rintro e w1 ⟨ab,u',rfl,ou,lu,nu⟩;have ag:LfBlk w1 g u.val v.val:=aa.below ab;refine⟨u'.val,rfl,ag,?_⟩;have ao:Gb E w.drew v l:=hv.below ((Below.refl _ w).drew) (Nat.le_refl _);have al:OwnL w.drew ⟨some ⟨gN,off,none⟩,len,c⟩ M:=ho;refine Pl.qp 7 ?_;refine Pl.qm 7 24 89 [(.tmp 23)] #[65] Zmm (Calls.mono (ZmD w1 v l (ao.below ab (Nat.le_refl _))) ?_);rintro e w2 ⟨ae,v',rfl,ov,lv,nv⟩;have ac:LfBlk w2 g u.val v.val:=ag.below ae;refine⟨v'.val,rfl,ac,?_⟩;have af:Below w.drew.heap.size w.drew w2:=Zad ab ae;have ou2:Own 3 1 w2 u' (Zax t):=Own.below ou ae;have oN2:OwnL w2 ⟨some ⟨gN,off,none⟩,len,c⟩ M:=Own.below al af;refine Pl.q0 8 25 (lfV u' v') (Pl.q1) (Pl.qy 67 [(0,.tmp 21),(1,.tmp 24)] (Zpm u' v')) ac ?_;refine Pl.q0 9 26 (.pointer (some ⟨gN,off+n*2,none⟩)) (Pl.q1) (Pl.qb 22 (.tmp 17) (.tmp 18) (ZaF gN off len c n hn)) ac ?_;obtain⟨w3,am,oN3,ad⟩:=Zir oN2 n hn ⟨u',v',t,l⟩;have ai:LfBlk w3 g u.val v.val:=ac.off ad ak;refine Pl.qh 10 w3 (Pl.q1) (Pl.qi 67 (.tmp 26) (.tmp 25) am) ai ?_;have ah:gN<w.heap.size:=Own.lt ho (k:=gN) rfl;have hE:Cp5 w w3 gN ⟨some ⟨gN,off,none⟩,len,c⟩ M n u' v' t l:=by
   refine⟨oN3,Own.frame ou2 (fun k hk=>ad.block k (Own.lt ou2 hk) (fun e=>?_)),Own.frame ov (fun k hk=>ad.block k (Own.lt ov hk) (fun e=>?_)),nu,fun k hk=>Nat.le_trans ab.size (nv k hk),?_⟩
   · have:=nu k hk;subst e;exact absurd ah (Nat.not_lt.2 this)
   · have:=Nat.le_trans ab.size (nv k hk);subst e;exact absurd ah (Nat.not_lt.2 this)
   · have f0:Frm (fun k=>k=gN) w w.drew:=(Frm.refl _ w).drew;have f1:Frm (fun k=>k=gN) w.drew w2:=Frm.ofBelow af;exact(f0.trans f1 (fun _ _ e=>e)).trans ad (fun _ _ e=>e)
  refine Pl.q7 (fun A' hA'=>?_);rw [Pl.At.ext hA' ((((((((((hA.put 17 _).put 18 _).put 19 _).put 20 _).put 22 _).put 23 _).put 21 _).put 24 _).put 25 _).put 26 _)];exact hend hA'.fn u' v' _ lu lv hE
structure Cp9 (w w':World) (gS:Nat) (v:Sl) (l:List Sb) (k:Nat) (y:Sb):Prop where
  vi:OwnB w' v (l.set k y)
  yi:Own 5 1 w' y.s (vals y.bs)
  yn:∀k,y.s.blk=some k→w.heap.size≤k
  frm:Frm (fun k=>k=gS) w w'
theorem Zn6 (b o:Nat)(w:World):(Instr.fieldAt 67 (.pointer (some ⟨b,o,none⟩)) 1).run Tryz.prog w=.ok (.pointer (some ⟨b,o+1,none⟩)) w:=by simp [go_sem,Instr.fieldAt]
theorem ZoH {b o:Nat}(c1:w.cell? ⟨b,o,none⟩=some v.val):(Instr.loadAt 65 (.pointer (some ⟨b,o,none⟩))).run Tryz.prog w=.ok v.val w:=by
 unfold Sl.val at *;simp [go_sem,c1]
theorem cpy9 (w:World)(gN off len c n:Nat)(hn:n<len)(gS oS vlen vc k:Nat)(hk:k<vlen)(hN:w.cell? ⟨gN,off+n*2+1,none⟩=some (.slice (some ⟨gS,oS,none⟩) vlen vc))(ah:gN≠gS)(l:List Sb)(ho:OwnB w ⟨some ⟨gS,oS,none⟩,vlen,vc⟩ l)(y:Sb)(hy:Came w y.s.a y.s.len y.s.cap y.bs)(hm:y.s.len≤1000000)
    {Q:Exit→Act→World→Prop}(am:A.tmps.size=47)(af:A.defers=[])(s3:A.tmps.getD 3 undef=.slice (some ⟨gN,off,none⟩) len c)(s4:A.tmps.getD 4 undef=.int .i64 (n:Int))(s6:A.tmps.getD 6 undef=.int .i64 (k:Int))(s7:A.tmps.getD 7 undef=y.s.val)
    (hend:∀(q:Nat→Value)(s':Sl) w',s'.len=y.s.len→Cp9 w w' gS ⟨some ⟨gS,oS,none⟩,vlen,vc⟩ l k ⟨s',y.bs⟩→Q .normal ((((((((((A).put (some 35) (q 35)).put (some 36) (q 36)).put (some 37) (q 37)).put (some 38) (q 38)).put (some 39) (q 39)).put (some 40) (q 40)).put (some 41) (q 41)).put (some 42) (q 42)).put (some 43) (q 43)) w') :
    (Code.region 9 (Pl.find 9 ((Tryz.f46.body).getD .skip)) true).wp Tryz.prog Q A w:=by
  have aa:w.drew.cell? ⟨gN,off+n*2+1,none⟩=some (.slice (some ⟨gS,oS,none⟩) vlen vc):=hN;have hA:=Pl.At.same (v:=y.s.val) (d:=7) (Pl.At.same (v:=.int .i64 (k:Int)) (d:=6) (Pl.At.same (v:=.int .i64 (n:Int)) (d:=4) (Pl.At.same (v:=.slice (some ⟨gN,off,none⟩) len c) (d:=3) (Pl.At.here am af) s3) s4) s6) s7;refine Pl.qa (S:=fun w'=>w'.cell? ⟨gN,off+n*2+1,none⟩=some (.slice (some ⟨gS,oS,none⟩) vlen vc)) hA aa ?_;rw [show (Pl.find 9 ((Tryz.f46.body).getD .skip)).size=10 by kernel_rfl];refine Pl.q0 0 35 (.slice (some ⟨gN,off,none⟩) len c) (Pl.q1) (Pl.q2 (.tmp 3)) aa ?_;refine Pl.q0 1 36 (.int .i64 (n:Int)) (Pl.q1) (Pl.q2 (.tmp 4)) aa ?_;refine Pl.q0 2 37 (.pointer (some ⟨gN,off+n*2,none⟩)) (Pl.q1) (Pl.qb 22 (.tmp 35) (.tmp 36) (ZaF gN off len c n hn)) aa ?_;refine Pl.q0 3 38 (.pointer (some ⟨gN,off+n*2+1,none⟩)) (Pl.q1) (Pl.q5 67 (.tmp 37) 1 (Zn6 gN (off+n*2))) aa ?_;refine Pl.q0 4 39 (.slice (some ⟨gS,oS,none⟩) vlen vc) (Pl.q1) (Pl.q3 65 (.tmp 38) (fun w' hS=>ZoH (v:=⟨some ⟨gS,oS,none⟩,vlen,vc⟩) hS)) aa ?_;refine Pl.q0 5 40 (.int .i64 (k:Int)) (Pl.q1) (Pl.q2 (.tmp 6)) aa ?_;refine Pl.q0 6 41 y.s.val (Pl.q1) (Pl.q2 (.tmp 7)) aa ?_;refine Pl.qp 7 ?_;refine Pl.qm 7 42 90 [(.tmp 41)] #[56] Zmn (Calls.mono (ZmG w.drew y.s y.bs (hy.keep ((Below.refl _ w).drew) (Nat.le_refl _)) hm) ?_);rintro e w1 ⟨ac,s',rfl,os,ls,ns⟩;have ab:w1.cell? ⟨gN,off+n*2+1,none⟩=some (.slice (some ⟨gS,oS,none⟩) vlen vc):=Zaf aa ac;refine⟨s'.val,rfl,ab,?_⟩;have ai:OwnB w.drew ⟨some ⟨gS,oS,none⟩,vlen,vc⟩ l:=ho;have aj:OwnB w1 ⟨some ⟨gS,oS,none⟩,vlen,vc⟩ l:=Own.below ai ac;refine Pl.q0 8 43 (.pointer (some ⟨gS,oS+k,none⟩)) (Pl.q1) (Pl.qb 65 (.tmp 39) (.tmp 40) (ixB1 gS oS vlen vc k hk)) ab ?_;obtain⟨w2,al,ak,ad⟩:=Zea w1 gS oS vlen vc l aj k hk ⟨s',y.bs⟩;have ae:w2.cell? ⟨gN,off+n*2+1,none⟩=some (.slice (some ⟨gS,oS,none⟩) vlen vc):=by
   have hl:=World.block_lt_of_cell? _ _ ab;exact(ZaB (ad.block gN hl ah) _).trans ab
  refine Pl.qh 9 w2 (Pl.q1) (Pl.qi 56 (.tmp 43) (.tmp 42) al) ae ?_;have ag:gS<w.heap.size:=Own.lt ho (k:=gS) rfl;have hE:Cp9 w w2 gS ⟨some ⟨gS,oS,none⟩,vlen,vc⟩ l k ⟨s',y.bs⟩:=by
   refine⟨ak,Own.frame os (fun j hj=>ad.block j (Own.lt os hj) (fun e=>?_)),ns,?_⟩
   · have:=ns j hj;subst e;exact absurd ag (Nat.not_lt.2 this)
   · have f0:Frm (fun k=>k=gS) w w.drew:=(Frm.refl _ w).drew;have f1:Frm (fun k=>k=gS) w.drew w1:=Frm.ofBelow ac;exact(f0.trans f1 (fun _ _ e=>e)).trans ad (fun _ _ e=>e)
  refine Pl.q7 (fun A' hA'=>?_);rw [Pl.At.ext hA' (((((((((hA.put 35 _).put 36 _).put 37 _).put 38 _).put 39 _).put 40 _).put 41 _).put 42 _).put 43 _)];exact hend hA'.fn s' _ ls hE
theorem Zhu {w : World} {s : Sl} {xs : List Nat} (D : Nat → Prop) (h : Own 5 1 w s (vals xs)) (hx : Bytes xs) (hD : ∀ k, s.blk = some k → D k) : Cm D w s xs :=
  ⟨h.came hx, fun ad ha _ => hD _ (by rw [Sl.blk, ha]; rfl)⟩
def Nb (P : Nat → Prop) (s : Sl) : Nat → Prop := fun k => P k ∧ s.blk ≠ some k
def Nb2 (P : Nat → Prop) (s v : Sl) : Nat → Prop := fun k => P k ∧ s.blk ≠ some k ∧ v.blk ≠ some k
structure CpI (P : Nat → Prop) (w0 w : World) (s : Sl) (L M : List Lb) : Prop where
  own : OwnL w s M
  lf : lfs M = lfs L
  below : Below w0.heap.size w0 w
  new : ∀ k, s.blk = some k → w0.heap.size ≤ k
  it : ∀ x ∈ M, Gi (Nb P s) w x.u x.t ∧ Gb (Nb P s) w x.v x.l
  pn : ∀ k, w0.heap.size ≤ k → P k
  sm : s.len ≤ 900
theorem Zm9 {x : Lb} (h : x.lf = lf (lfs L) i) : lfs (L.set i x) = lfs L := by
 rw [ZhX, h]
 rcases Nat.lt_or_ge i (lfs L).length with hi | hi
 · rw [Zc1 hi]; exact List.set_getElem_self hi
 · exact List.set_eq_of_length_le hi
theorem OwnL.setSame {t':List Int}(h : OwnL w s (M.set i ⟨u, v, t, l⟩)) : OwnL w s (M.set i ⟨u, v, t', l'⟩) := by
 unfold OwnL at *
 rw [ZdM] at *
 exact h
def ZlY (P : Nat → Prop) (w : World) (L : List Lb) (e : Ending) (w' : World) : Prop := ∃ (s' : Sl) (M : List Lb), e = .returned s'.val ∧ CpI P w w' s' L M
theorem CpI.gl {P : Nat → Prop} {w0 w : World} {s : Sl} {L M : List Lb} (h : CpI P w0 w s L M) : Gl P w s M :=
  OwnL.gl h.own h.sm (fun k e => h.pn k (h.new k e)) (fun x hx => ⟨(h.it x hx).1.wide (fun _ hk => hk.1), (h.it x hx).2.wide (fun _ hk => hk.1)⟩)
theorem CpI.keep {P : Nat → Prop} {w0 w w' : World} {s : Sl} {L M : List Lb} (h : CpI P w0 w s L M) (hb : Below w.heap.size w w') : CpI P w0 w' s L M :=
  ⟨Own.below h.own hb, h.lf, Zad h.below hb, h.new, fun x hx => ⟨(h.it x hx).1.below hb (Nat.le_refl _), (h.it x hx).2.below hb (Nat.le_refl _)⟩, h.pn, h.sm⟩
structure CpJ (P : Nat → Prop) (w0 w : World) (s : Sl) (L M : List Lb) (i : Nat) (u v : Sl) (t : List Int) (l l' : List Sb) : Prop where
  own : OwnL w s (M.set i ⟨u, v, t, l⟩)
  vb : OwnB w v l'
  bs : bss l' = bss l
  its : ∀ y ∈ l', Cm (Nb2 P s v) w y.s y.bs ∧ y.bs.length ≤ 1000
  olds : ∀ x ∈ M, Gi (Nb2 P s v) w x.u x.t ∧ Gb (Nb2 P s v) w x.v x.l
  ui : Gi (Nb2 P s v) w u t
  vn : ∀ k, v.blk = some k → s.blk ≠ some k
  below : Below w0.heap.size w0 w
  vw : ∀ k, v.blk = some k → w0.heap.size ≤ k
  pn : ∀ k, w0.heap.size ≤ k → P k
theorem CpJ.start {P:Nat→Prop}{gN off len c:Nat}{ou ov:Sl}(h:CpI P w0 w ⟨some ⟨gN,off,none⟩,len,c⟩ L M)(hx:M.getD i Lb.zero=⟨ou,ov,t,l⟩)(hi:i<M.length)(hlu:u.len=ou.len)(k:Cp5 w w' gN ⟨some ⟨gN,off,none⟩,len,c⟩ M i u v t l):CpJ P w0 w' ⟨some ⟨gN,off,none⟩,len,c⟩ L M i u v t l l:=by
 have hgl:gN<w.heap.size:=Own.lt h.own (k:=gN) rfl
 have hmem:(⟨ou,ov,t,l⟩:Lb)∈M:=by rw [← hx];exact Zdt hi
 have hE:∀k',Nb P ⟨some ⟨gN,off,none⟩,len,c⟩ k'→k'<w.heap.size→Nb2 P ⟨some ⟨gN,off,none⟩,len,c⟩ v k':=fun k' h1 h2=>⟨h1.1,h1.2,fun e=>absurd h2 (Nat.not_lt.2 (k.vn k' e))⟩
 have hK:Kept (Nb2 P ⟨some ⟨gN,off,none⟩,len,c⟩ v) w w':=Kept.frm k.frm (fun k' h1 h2=>h1.2.1 (by rw [h2];rfl))
 have hold:∀x∈M,Gi (Nb2 P ⟨some ⟨gN,off,none⟩,len,c⟩ v) w' x.u x.t∧Gb (Nb2 P ⟨some ⟨gN,off,none⟩,len,c⟩ v) w' x.v x.l:=fun x hx=>⟨((h.it x hx).1.mono hE).keep hK,((h.it x hx).2.mono hE).keep hK⟩
 have hmm:=hold _ hmem
 refine⟨k.own,k.vi,rfl,fun y hy=>hmm.2.bs y hy,hold,?_,fun k' e1 e2=>?_,h.below.trans (k.frm.below h.below.size (fun k' e=>by rw [e];exact h.new gN rfl)),fun k' e=>Nat.le_trans h.below.size (k.vn k' e),h.pn⟩
 · refine OwnN.gi k.ui (fun k' e=>⟨h.pn k' (Nat.le_trans h.below.size (k.un k' e)),fun e2=>?_,fun e2=>?_⟩) (by rw [hlu];exact hmm.1.big)
   · have h1:=k.un k' e
     cases e2
     exact absurd hgl (Nat.not_lt.2 h1)
   · exact Own.apart k.ui k.vi (by decide) k' e e2
 · have h1:=k.vn k' e1
   cases e2
   exact absurd hgl (Nat.not_lt.2 h1)
theorem CpJ.step {P:Nat→Prop}{gS k:Nat}{y:Sb}(h:CpJ P w0 w s L M i u v t l l')(hg:v.blk=some gS)(hk:k<l'.length)(hy:y.bs=sl (bss l) k)(hby:Bytes y.bs)(h1000:y.bs.length≤1000)(q:Cp9 w w' gS v l' k y):CpJ P w0 w' s L M i u v t l (l'.set k y):=by
 have hK:Kept (Nb2 P s v) w w':=Kept.frm q.frm (fun k' h1 h2=>h1.2.2 (by rw [h2];exact hg))
 refine⟨Own.frame h.own (fun k' e=>q.frm.block k' (Own.lt h.own e) (fun e2=>?_)),q.vi,?_,fun z hz=>?_,fun x hx=>⟨(h.olds x hx).1.keep hK,(h.olds x hx).2.keep hK⟩,h.ui.keep hK,h.vn,h.below.trans (q.frm.below h.below.size (fun k' e=>by rw [e];exact h.vw gS hg)),h.vw,h.pn⟩
 · rw [e2] at e
   exact h.vn gS hg e
 · rw [ZbT,hy,← h.bs]
   have hk2:k<(bss l').length:=by rw [Zag];exact hk
   rw [Zcq hk2]
   exact List.set_getElem_self hk2
 · rcases List.mem_or_eq_of_mem_set hz with hz | rfl
   · exact⟨(h.its z hz).1.keep hK,(h.its z hz).2⟩
   · refine⟨Zhu _ q.yi hby (fun k' e=>⟨h.pn k' (Nat.le_trans h.below.size (q.yn k' e)),fun e2=>?_,fun e2=>?_⟩),h1000⟩
     · have h1:=q.yn k' e
       have h2:=Own.lt h.own e2
       omega
     · have h1:=q.yn k' e
       have h2:=Own.lt h.vb e2
       omega
theorem CpJ.done {P:Nat→Prop}{ou ov:Sl}(h:CpJ P w0 w s L M i u v t l l')(hx:M.getD i Lb.zero=⟨ou,ov,t,l⟩)(hlf:lfs M=lfs L)(hn:∀k,s.blk=some k→w0.heap.size≤k)(hv:v.len≤1000)(hs:s.len≤900):CpI P w0 w s L (M.set i ⟨u,v,t,l'⟩):=by
 have hE:∀k,Nb2 P s v k→Nb P s k:=fun k hk=>⟨hk.1,hk.2.1⟩
 refine⟨h.own.setSame,?_,h.below,hn,fun x hxm=>?_,h.pn,hs⟩
 · rw [← hlf]
   refine Zm9 ?_
   rw [Zbt,hx]
   show (⟨t,bss l'⟩:Lf)=⟨t,bss l⟩
   rw [h.bs]
 · rcases List.mem_or_eq_of_mem_set hxm with hxm | rfl
   · exact⟨(h.olds x hxm).1.wide hE,(h.olds x hxm).2.wide hE⟩
   · exact⟨h.ui.wide hE,OwnB.gb h.vb (fun y hy=>⟨(h.its y hy).1.wide hE,(h.its y hy).2⟩) (fun k e=>⟨h.pn k (h.vw k e),h.vn k e⟩) hv⟩
theorem Zcy {D:Nat→Prop}(w:World)(s:Sl)(L:List Lb)(h:Gl D w s L)(hP:∀k,w.heap.size≤k→D k):Calls Tryz.prog 46 #[s.val] w (ZlY D w L):=by
 have hsf:∀(w:World) (a:Addr) (m:Mode) (x:Nat),(store a (.float .f64 x) m).run Tryz.prog w=stored Tryz.prog w a (.float .f64 x) m:=fun w a m x=>run_store Tryz.prog w a _ m rfl
 have HOL:=hide (ZmF w s L h)
 have HST:Hid (∀(w1:World) (s1:Sl),Below w.heap.size w w1→Own 67 2 w1 s1 (Za7 L)→s1.len=s.len→(∀k,s1.blk=some k→w.heap.size≤k)→CpI D w w1 s1 L L):=by
  intro w1 s1 hb ho hl hn
  have hE:∀k,D k→k<w.heap.size→Nb D s1 k:=fun k h1 h2=>⟨h1,fun e=>absurd h2 (Nat.not_lt.2 (hn k e))⟩
  exact⟨ho,rfl,hb,hn,fun x hx=>⟨((h.it x hx).1.mono hE).below hb (Nat.le_refl _),((h.it x hx).2.mono hE).below hb (Nat.le_refl _)⟩,hP,by rw [hl];exact h.big⟩
 have HLL:Hid (L.length=s.len):=h.len
 have hbig:s.len≤900:=h.big
 obtain⟨a,len,cap⟩:=s
 clear h hP
 unfold Sl.val at *
 simp only at *
 go_enter Tryz.func46,Tryz.ntmps46
 go_wp2_with fail
 refine HOL.out.mono ?_
 rintro e w1 ⟨hb1,⟨a1,n1,c1⟩,rfl,ho1,hl1,hn1⟩
 have HI0:=hide (HST.out w1 ⟨a1,n1,c1⟩ hb1 ho1 hl1 hn1)
 have hl1':n1=len:=hl1
 subst hl1'
 clear hb1 ho1 hl1 hn1 HOL HST
 unfold Sl.val
 simp only
 go_wp2_with fail
 go_loopw [12] (fun iv wr=>∃(i:Nat) (M:List Lb),i≤n1∧iv=.int .i64 (i:Nat)∧Hid (CpI D w wr ⟨a1,n1,c1⟩ L M)) (fun iv _=>n1-(intOf iv).toNat)
 case atStart=>exact ⟨0,L,Nat.zero_le _,rfl,HI0⟩
 case round =>
  clear HI0
  obtain⟨i,M,hi,rfl,hI⟩:=hrel
  rcases Nat.lt_or_ge i n1 with hlt | hge
  · have j1:(i:Int)<(n1:Int):=by omega
    obtain⟨gN,off,ha,c0,cc1⟩:=hI.out.own.at (j:=i) hlt
    replace ha:a1=some ⟨gN,off,none⟩:=ha
    subst ha
    have hMl:M.length=n1:=hI.out.own.len
    have hiM:i<M.length:=by rw [hMl];exact hlt
    obtain⟨x,hx⟩:∃x,x=M.getD i Lb.zero:=⟨_,rfl⟩
    have hmem:x∈M:=by rw [hx];exact Zdt hiM
    rw [← hx] at c0 cc1
    obtain⟨ou,ov,t,l⟩:=x
    have hit:=hI.out.it _ hmem
    have HLD:=hide (Za5 c0 cc1)
    have hB:=Zaa wr (.cells #[ou.val,ov.val] 67)
    have hKB:=Zaj wr ou.val ov.val
    have hI2:=hI.out.keep hB
    have hgl:gN<wr.heap.size:=Own.lt hI.out.own (k:=gN) rfl
    have hit2:=hI2.it _ hmem
    have HXM:Hid (M.getD i Lb.zero=⟨ou,ov,t,l⟩):=hx.symm
    have HMM:=hide hmem
    have HIM:=hide hiM
    generalize hWB:wr.alloc (.cells #[ou.val,ov.val] 67)=WB at *
    have HWB:=hide hWB
    have HI2:=hide hI2
    have HKB:=hide hKB
    have HIT2:=hide hit2
    have HGB:=hide (fun w' (hb:Frm (fun k=>k=gN) WB w')=>hKB.off hb (Nat.ne_of_gt hgl))
    have hov:ov.len≤1000:=hit.2.big
    clear c0 cc1 hx hmem hit hB hKB hI2 hit2 hI hWB
    have hgne:wr.heap.size≠gN:=Nat.ne_of_gt hgl
    obtain⟨oua,oun,ouc⟩:=ou
    obtain⟨ova,ovn,ovc⟩:=ov
    unfold lfV Sl.val at HLD
    unfold Sl.val at HWB
    simp only at HLD HWB hov
    go_upto_region 5 with (first | refine Zau _ rfl 67 (.tmp 15) rfl (.pointer (some ⟨gN,off+i*2,none⟩)) _ rfl HLD.out ?_)
    rw [HWB.out]
    refine Pl.q9 (ops:=Pl.find 5 ((Tryz.f46.body).getD .skip)) ?_
    refine cpy5 WB gN off n1 c1 i hlt M HI2.out.own wr.heap.size ⟨oua,oun,ouc⟩ ⟨ova,ovn,ovc⟩ HKB.out hgne t l HIT2.out.1 HIT2.out.2 (by rfl) (by rfl) (by rfl) (by rfl) (by rfl) ?_
    intro q u' v' w5 hlu hlv hC5
    simp only [Act.put,List.setIfInBounds_toArray,List.set_cons_zero,List.set_cons_succ]
    have HJ0:=hide (CpJ.start HI2.out HXM.out HIM.out hlu hC5)
    have hKB5:=HGB.out w5 hC5.frm
    have b1:=hKB5.c1
    have HLV:Hid (v'.len=ovn):=hlv
    unfold Sl.val at b1
    simp only at b1
    clear hC5 hKB5 HIT2 HKB HLD HGB hlu hlv
    obtain⟨u'a,u'n,u'c⟩:=u'
    obtain⟨v'a,v'n,v'c⟩:=v'
    have hv'n:v'n=ovn:=HLV.out
    subst hv'n
    go_wp2_with fail
    go_loopw [30] (fun kv wr2=>∃(k:Nat) (l':List Sb),k≤v'n∧kv=.int .i64 (k:Nat)∧Hid (CpJ D w wr2 ⟨some ⟨gN,off,none⟩,n1,c1⟩ L M i ⟨u'a,u'n,u'c⟩ ⟨v'a,v'n,v'c⟩ t l l')) (fun kv _=>v'n-(intOf kv).toNat)
    case atStart=>exact ⟨0,l,Nat.zero_le _,rfl,HJ0⟩
    case round =>
     clear HJ0
     rename World=>wr2
     obtain⟨k,l',hk,rfl,hJ⟩:=hrel
     rcases Nat.lt_or_ge k v'n with hkl | hkg
     · have j2:(k:Int)<(v'n:Int):=by omega
       have hold:=(hJ.out.olds _ HMM.out).2
       have hkl':k<(Sl.mk ova v'n ovc).len:=hkl
       obtain⟨vb,vo,hva,e0⟩:=hold.cell k hkl'
       replace hva:ova=some ⟨vb,vo,none⟩:=hva
       subst hva
       obtain⟨hcm,hsl,h1000⟩:=hold.at hkl'
       obtain⟨ss,hsb⟩:∃s,s=(l.getD k Sb.zero).s:=⟨_,rfl⟩
       rw [← hsb] at e0 hcm hsl
       obtain⟨gS,oS,hgS⟩:=OwnB.pos hJ.out.vb (show 0<(Sl.mk v'a v'n v'c).len by show 0<v'n;omega)
       replace hgS:v'a=some ⟨gS,oS,none⟩:=hgS
       subst hgS
       have hne:gN≠gS:=fun e=>by
        have h1:=hJ.out.vn gS rfl
        rw [e] at h1
        exact h1 rfl
       have hcN:wr2.cell? ⟨gN,off+i*2+1,none⟩=some (.slice (some ⟨gS,oS,none⟩) v'n v'c):=by
        obtain⟨b2,o2,hb2,_,d1⟩:=hJ.out.own.at (j:=i) hlt
        simp only [Option.some.injEq,Addr.mk.injEq,and_true] at hb2
        obtain⟨rfl,rfl⟩:=hb2
        have:(M.set i ⟨⟨u'a,u'n,u'c⟩,⟨some ⟨gS,oS,none⟩,v'n,v'c⟩,t,l⟩).getD i Lb.zero=⟨⟨u'a,u'n,u'c⟩,⟨some ⟨gS,oS,none⟩,v'n,v'c⟩,t,l⟩:=by simp [List.getD,HIM.out]
        rw [this] at d1
        exact d1
       have hcame:Came wr2 ss.a ss.len ss.cap (sl (bss l) k):=hcm.came
       have hsm:ss.len≤1000000:=by rw [hsl];omega
       have hl'l:l'.length=v'n:=hJ.out.vb.len
       have HSTEP:Hid (∀(s':Sl) w',Cp9 wr2 w' gS ⟨some ⟨gS,oS,none⟩,v'n,v'c⟩ l' k ⟨s',sl (bss l) k⟩→CpJ D w w' ⟨some ⟨gN,off,none⟩,n1,c1⟩ L M i ⟨u'a,u'n,u'c⟩ ⟨some ⟨gS,oS,none⟩,v'n,v'c⟩ t l (l'.set k ⟨s',sl (bss l) k⟩)):=fun s' w' q=>hJ.out.step rfl (by rw [hl'l];exact hkl) rfl hcame.bs.2.1 h1000 q
       have HCN:=hide hcN
       have HVB:=hide hJ.out.vb
       have HCAME:=hide hcame
       clear hold hcm hsl h1000 hsb hcN hcame hl'l b1
       obtain⟨ssa,ssn,ssc⟩:=ss
       unfold Sl.val at e0
       simp only at e0 hsm
       go_upto_region 9 with fail
       refine Pl.q9 (ops:=Pl.find 9 ((Tryz.f46.body).getD .skip)) ?_
       refine cpy9 wr2 gN off n1 c1 i hlt gS oS v'n v'c k hkl HCN.out hne l' HVB.out ⟨⟨ssa,ssn,ssc⟩,sl (bss l) k⟩ HCAME.out hsm (by rfl) (by rfl) (by rfl) (by rfl) (by rfl) (by rfl) ?_
       intro q s' w9 hls hC9
       simp only [Act.put,List.setIfInBounds_toArray,List.set_cons_zero,List.set_cons_succ]
       have HN:=hide (HSTEP.out s' w9 hC9)
       clear hC9 hls HSTEP HCN HVB HCAME hJ
       go_wp2_with fail
       go_roundw
       case rel=>exact ⟨k+1,_,by omega,by go_num,HN⟩
       case measure=>simp only [intOf];omega
     · have j2:¬(k:Int)<(v'n:Int):=by omega
       have HN:=hide (hJ.out.done HXM.out HI2.out.lf HI2.out.new hov HI2.out.sm)
       clear hJ b1
       go_wp2_with fail
       go_roundw
       case rel=>exact ⟨i+1,_,by omega,by go_num,HN⟩
       case measure=>simp only [intOf];omega
  · have j1:¬(i:Int)<(n1:Int):=by omega
    have HE:=hide hI.out
    clear hI
    go_wp2_with fail
    go_ret
    exact⟨⟨a1,n1,c1⟩,M,rfl,HE.out⟩
theorem ZmI (w:World)(n:Nat)(hn:n≤10000000)(xs:List Nat)(hx:xs.length=n):Own 5 1 (w.alloc (.cells (vals xs).toArray 5)) ⟨some ⟨w.heap.size,0,none⟩,n,n⟩ (vals xs):=by
 refine⟨by rw [Zas];show _=n*1;omega,.inr ⟨w.heap.size,0,_,rfl,heap_alloc_new w _,by show 0+n*1≤_;simp [Zas];omega,Nat.le_refl _,by show n≤_;unfold maxLen;omega,?_⟩⟩;show (List.drop 0 (vals xs).toArray.toList).take (n*1)=_;rw [List.drop_zero,List.take_of_length_le (by simp [Zas];omega)]
theorem Zkj {zs:List Nat}{n:Nat}:splice (List.replicate n 0) 0 zs=zs ++ List.replicate (n-zs.length) 0:=by
 unfold splice;rw [List.take_zero,List.nil_append,Nat.zero_add,List.drop_replicate]
theorem ZbU (r:Rw)(a:Option Addr)(len cap:Nat)(w:World)(h:Fs w a len cap r.xs)(hf:r.fits)(hm:r.may=true) :
    Calls Tryz.prog 51 #[r.val (.slice a len cap)] w (ZbB 5 1 52 (vals (hpB r)) w):=by
  have HA:=hide (Zaa w (.cells #[.float .f64 r.key,.bool r.dead,.slice a len cap,.int .i64 r.wr,.int .i64 r.cell,.int .i64 r.no] 33))
  have HE:=hide (Zjy r a len cap _ (h.keep HA.out (Nat.le_refl _)) hf)
  have HX:=Zak w r (.slice a len cap)
  have hl4:=(Rw.may_parts hm).2.1
  have hbl:=ZbF r
  have hn52:r.bytes.length≤52:=by omega
  have HBY:=hide (Zb3 hm)
  have HM:=hide hm
  have x0:=HX.c0
  have x1:=HX.c1
  have x2:=HX.c2
  have x3:=HX.c3
  have x4:=HX.c4
  have x5:=HX.c5
  obtain⟨n0,hn0⟩:∃n,n=r.bytes.length:=⟨_,rfl⟩
  have hn20:20≤n0:=by omega
  rw [← hn0] at hn52
  have HN0:=hide hn0
  clear h hl4 hbl HX hm hn0
  unfold Rw.val at HE ⊢
  go_enter Tryz.func51,Tryz.ntmps51
  go_wp2_with fail
  refine HE.out.mono ?_
  rintro e w3 ⟨v,rfl,hb3,ho,_⟩
  have ho3:=ho HM.out
  obtain⟨pa,pc,hx3,hcame⟩:=ho3.cameN HBY.out HN0.out.symm (by omega)
  subst hx3
  have HMK:Hid ((Instr.makeSlice 56 (.int .i64 52) (.int .i64 52)).run Tryz.prog w3=.ok (.slice (some ⟨w3.heap.size,0,none⟩) 52 52) (w3.alloc (.cells (vals (List.replicate 52 0)).toArray 5))):=ZjJ 52 (by decide) w3
  have hA3:=Zaa w3 (.cells (vals (List.replicate 52 0)).toArray 5)
  have hown:=ZmI w3 52 (by decide) (List.replicate 52 0) (List.length_replicate ..)
  obtain⟨nn,W4,hcp,ho4,hf4,_⟩:=ZmH _ ⟨some ⟨w3.heap.size,0,none⟩,52,52⟩ (List.replicate 52 0) hown 0 pa n0 pc _ r.bytes (hcame.keep hA3 (Nat.le_refl _)) (by show _=List.take 52 _;rw [List.take_of_length_le (by rw [← HN0.out];omega)]) (Nat.zero_le _) 0
  have hfr:Sl.from_ ⟨some ⟨w3.heap.size,0,none⟩,52,52⟩ 0=⟨some ⟨w3.heap.size,0,none⟩,52,52⟩:=by simp [Sl.from_,fromA,Addr.add]
  rw [hfr] at hcp
  have etx:splice (List.replicate 52 0) 0 r.bytes=hpB r:=by rw [Zkj];rfl
  rw [etx] at ho4
  have hB4:Below w3.heap.size w3 W4:=hA3.trans (hf4.below hA3.size (fun k hk=>by have e:some w3.heap.size=some k:=hk;cases e;exact Nat.le_refl _))
  have HB4:=Zad (Zad HA.out hb3) hB4
  have HCP:=hide hcp
  have HF:Hid (ZbB 5 1 52 (vals (hpB r)) w (.returned (.slice (some ⟨w3.heap.size,0,none⟩) 52 52)) W4):=by
   refine⟨HB4,⟨some ⟨w3.heap.size,0,none⟩,52,52⟩,rfl,ho4,rfl,fun k hk=>?_⟩
   have e:some w3.heap.size=some k:=hk
   cases e
   exact(Zad HA.out hb3).size
  clear hb3 ho ho3 hcame hA3 hown hcp ho4 hf4 hfr etx hB4 HB4 HE
  obtain⟨G,hG⟩:∃G,G=w3.heap.size:=⟨_,rfl⟩
  rw [← hG] at HCP HF HMK
  clear hG
  unfold Sl.val at *
  simp only at *
  go_wp2_with (first | refine Zff _ rfl 56 (.const (.int .i64 52)) (.const (.int .i64 52)) rfl (.int .i64 52) (.int .i64 52) _ rfl rfl _ HMK.out ?_ | (at_builtin;refine Zfe _ rfl 56 (.tmp 12) (.tmp 13) rfl nn W4 (fun _=>HCP.out) ?_) | refine Zfe _ rfl 56 (.tmp 12) (.tmp 13) rfl nn W4 (fun _=>HCP.out) ?_)
  go_ret
  exact HF.out
def Zi0 (P:Nat→Prop) (w:World) (l:List Lf) (e:Ending) (w':World):Prop:=Below w.heap.size w w'∧∃(s':Sl) (L':List Lb),e=.returned (.slice s'.a s'.len s'.cap)∧Gl P w' s' L'∧lfs L'=l
theorem Zdw {D:Nat→Prop}(w:World)(s:Sl)(L:List Lb)(h:Gl D w s L)(hP:∀k,w.heap.size≤k→D k)(i:Nat)(hi:i<s.len)(x:Lb)(hu:Gi D w x.u x.t)(hv:Gb D w x.v x.l) :
    Calls Tryz.prog 52 #[s.val,.int .i64 (i:Int),lfV x.u x.v] w (Zi0 D w ((lfs L).set i x.lf)):=by
  have hA:=Zaa w (.cells #[x.u.val,x.v.val] 67);have hk:=Zaj w x.u.val x.v.val;have HC:=hide (Zcy _ s L (h.below hA (Nat.le_refl _)) (fun k hk=>hP k (Nat.le_trans hA.size hk)));have am:Hid (L.length=s.len):=h.len;have HA:=hide hA;have HK:=hide hk;have HU:=hide hu;have HV:=hide hv;obtain⟨a,len,cap⟩:=s;obtain⟨⟨ua,un,uc⟩,⟨va,vn,vc⟩,t,l⟩:=x;have HP:=hide hP;clear h hA hk hu hv hP;unfold lfV Sl.val at *;simp only at *;go_enter Tryz.func52,Tryz.ntmps52;go_wp2_with fail;generalize w.alloc (.cells #[.slice ua un uc,.slice va vn vc] 67)=W1 at *;refine HC.out.mono ?_;rintro e w2 ⟨⟨a2,n2,c2⟩,M,rfl,hI⟩;have ag:M.length=n2:=hI.own.len;(have ad:(lfs M).length=(lfs L).length:=by rw [hI.lf]);(have hn:n2=len:=by rw [Za4,Za4,ag,am.out] at ad;exact ad);subst hn;obtain⟨g,off,ha,_⟩:=hI.own.at (j:=i) hi;replace ha:a2=some ⟨g,off,none⟩:=ha;subst ha;have ah:w.heap.size≤g:=Nat.le_trans HA.out.size (hI.new g rfl);have aa:=Zad HA.out hI.below;obtain⟨W3,aj,ai,ab⟩:=Zir hI.own i hi ⟨⟨ua,un,uc⟩,⟨va,vn,vc⟩,t,l⟩;have ae:LfBlk w2 w.heap.size (.slice ua un uc) (.slice va vn vc):=HK.out.below hI.below;have k0:=ae.c0;have k1:=ae.c1;have af:=hide aj;have ak:Gi (fun k=>D k∧k≠g) W3 ⟨ua,un,uc⟩ t:=(((HU.out.mono (E:=fun k=>D k∧k≠g) (fun k h1 hk=>⟨h1,fun e=>by rw [e] at hk;omega⟩)).below aa (Nat.le_refl _))).keep (Kept.frm ab (fun k hk e=>hk.2 e));have al:Gb (fun k=>D k∧k≠g) W3 ⟨va,vn,vc⟩ l:=(((HV.out.mono (E:=fun k=>D k∧k≠g) (fun k h1 hk=>⟨h1,fun e=>by rw [e] at hk;omega⟩)).below aa (Nat.le_refl _))).keep (Kept.frm ab (fun k hk e=>hk.2 e));have ac:Kept (Nb D ⟨some ⟨g,off,none⟩,n2,c2⟩) w2 W3:=Kept.frm ab (fun k hk e=>hk.2 (by rw [e];rfl));have HF:Hid (Zi0 D w ((lfs L).set i ⟨t,bss l⟩) (.returned (.slice (some ⟨g,off,none⟩) n2 c2)) W3):=by
   refine⟨aa.trans (ab.below aa.size (fun k hk=>by rw [hk];exact ah)),⟨some ⟨g,off,none⟩,n2,c2⟩,M.set i ⟨⟨ua,un,uc⟩,⟨va,vn,vc⟩,t,l⟩,rfl,?_,?_⟩
   · refine OwnL.gl ai hI.sm (fun k e=>hI.pn k (hI.new k e)) (fun z hz=>?_);rcases List.mem_or_eq_of_mem_set hz with hz | rfl
     · exact⟨((hI.it z hz).1.keep ac).wide (fun _ hk=>hk.1),((hI.it z hz).2.keep ac).wide (fun _ hk=>hk.1)⟩
     · exact⟨ak.wide (fun _ hk=>hk.1),al.wide (fun _ hk=>hk.1)⟩
   · rw [ZhX,hI.lf];rfl
  have i1:(i:Int)<(n2:Int):=by
   have:i<n2:=hi;omega
  have an:=hide (ZaF g off n2 c2 i hi);clear ag ad ah aa aj ai ab ae ak al ac hI HC;unfold lfV at af;unfold Sl.val at *;simp only at *;go_wp2_with (first | refine Zac _ rfl rfl 67 (.tmp 13) (.tmp 12) rfl (.pointer (some ⟨g,off+i*2,none⟩)) (.agg #[.slice ua un uc,.slice va vn vc]) rfl rfl W3 af.out ?_);go_ret;exact HF.out
theorem ZiG : ∀ args w, (callFunc 56 args).run Tryz.prog w = .ok (.enter 56 args) w := Pl.enters Tryz.func56 (by kernel_rfl) (by kernel_rfl)
theorem ZnE {D:Nat→Prop}(w0 w:World)(b off len c i:Nat)(hi:i<len)(x:Lb)(hx0:w0.cell? ⟨b,off+i*2,none⟩=some x.u.val)(hx1:w0.cell? ⟨b,off+i*2+1,none⟩=some x.v.val)(hx:Gi D w0 x.u x.t∧Gb D w0 x.v x.l)(hm:MayL ⟨x.t,bss x.l⟩)(q:Nat)(kk:Int)(hq:BtBlk w0 q ((i:Int),kk))(hW:Below w0.heap.size w0 w)
    {Q:Exit→Act→World→Prop}(hsz:A.tmps.size=47)(hdf:A.defers=[])(s0:A.tmps.getD 0 undef=.slice (some ⟨b,off,none⟩) len c)(s3:A.tmps.getD 3 undef=.pointer (some ⟨q,0,none⟩))
    (hend:∀(u:Nat→Value)(g:Nat)(u7 v7:Sl)(l7:List Sb) w',w0.heap.size≤g→LfBlk w' g u7.val v7.val→Gi (Ap g) w' u7 x.t→Gb (Ap g) w' v7 l7→bss l7=(dropA (bss x.l) kk).s→Below w0.heap.size w0 w'→Q .normal ((((((((((((((A).put (some 32) (u 32)).put (some 33) (u 33)).put (some 34) (u 34)).put (some 35) (u 35)).put (some 36) (u 36)).put (some 37) (u 37)).put (some 38) (u 38)).put (some 39) (u 39)).put (some 31) (u 31)).put (some 40) (u 40)).put (some 41) (u 41)).put (some 10) (.pointer (some ⟨g,0,none⟩))).put (some 11) (u 11)) w') :
    (Code.region 7 (Pl.find 7 ((Tryz.f23.body).getD .skip)) true).wp Tryz.prog Q A w:=by
  have hS0:Below w0.heap.size w0 w.drew:=hW.drew
  have hA:=Pl.At.same (v:=.pointer (some ⟨q,0,none⟩)) (d:=3) (Pl.At.same (v:=.slice (some ⟨b,off,none⟩) len c) (d:=0) (Pl.At.here hsz hdf) s0) s3
  refine Pl.qa (S:=fun w'=>Below w0.heap.size w0 w') hA hS0 ?_
  rw [show (Pl.find 7 ((Tryz.f23.body).getD .skip)).size=14 by kernel_rfl]
  refine Pl.q0 0 32 (.slice (some ⟨b,off,none⟩) len c) (Pl.q1) (Pl.q2 (.tmp 0)) hS0 ?_
  refine Pl.q0 1 33 (.pointer (some ⟨q,0,none⟩)) (Pl.q1) (Pl.q5 26 (.tmp 3) 0 (Zo4 q)) hS0 ?_
  refine Pl.q0 2 34 (.int .i64 (i:Int)) (Pl.q1) (Pl.q3 3 (.tmp 33) (fun w' hS=>Zbm (hq.keep hS).c0)) hS0 ?_
  refine Pl.q0 3 35 (.pointer (some ⟨b,off+i*2,none⟩)) (Pl.q1) (Pl.qb 22 (.tmp 32) (.tmp 34) (ZaF b off len c i hi)) hS0 ?_
  refine Pl.q0 4 36 (lfV x.u x.v) (Pl.q1) (Pl.q3 67 (.tmp 35) (fun w' hS=>Za5 (Zaf hx0 hS) (Zaf hx1 hS))) hS0 ?_
  refine Pl.q0 5 37 (.pointer (some ⟨q,1,none⟩)) (Pl.q1) (Pl.q5 26 (.tmp 3) 1 (Zmo q)) hS0 ?_
  refine Pl.q0 6 38 (.int .i64 kk) (Pl.q1) (Pl.q3 3 (.tmp 37) (fun w' hS=>Zbm (hq.keep hS).c1)) hS0 ?_
  refine Pl.qr 7 11 ?_ ?_
  · have hC7:Below w0.heap.size w0 w.drew:=hS0
    refine Pl.qm 7 39 56 [(.tmp 36),(.tmp 38)] #[67,3] ZiG (Calls.mono (ZiC w.drew x.u x.v x.t x.l (hx.1.below hS0 (Nat.le_refl _)) (hx.2.below hS0 (Nat.le_refl _)) hm kk) ?_)
    rintro e w7 ⟨hb7,u7,v7,l7,rfl,hgi7,hgb7,hl7⟩
    have hS7:Below w0.heap.size w0 w7:=Zad hS0 hb7
    refine⟨.tuple #[lfV u7 v7,.int .i64 (dropA (bss x.l) kk).e],rfl,hS7,?_⟩
    refine Pl.q0 8 31 (.tuple #[lfV u7 v7,.int .i64 (dropA (bss x.l) kk).e]) (Pl.q1) (Pl.q2 (.tmp 39)) hS7 ?_
    refine Pl.q0 9 40 (lfV u7 v7) (Pl.q1) (Pl.qc (.tmp 31) 0 (fun w=>(ex2 _ _ w).1)) hS7 ?_
    refine Pl.q0 10 41 (.int .i64 (dropA (bss x.l) kk).e) (Pl.q1) (Pl.qc (.tmp 31) 1 (fun w=>(ex2 _ _ w).2)) hS7 ?_
    have hSA:Below w0.heap.size w0 (w7.alloc (.cells #[.slice none 0 0,.slice none 0 0] 67)):=hS7.alloc hS7.size _
    have hKA:=Zaj w7 (Sl.val Sl.nil) (Sl.val Sl.nil)
    have hgA:w0.heap.size≤w7.heap.size:=hS7.size
    refine Pl.qo 11 10 (.pointer (some ⟨w7.heap.size,0,none⟩)) (w7.alloc (.cells #[.slice none 0 0,.slice none 0 0] 67)) (Pl.q1) (Pl.qq 67 (Zav w7)) hSA ?_
    have hnw:∀k,w.drew.heap.size≤k→k<w7.heap.size→Ap w7.heap.size k:=fun k _ hk e=>by rw [e] at hk;exact Nat.lt_irrefl _ hk
    obtain⟨w9,hst9,hk9,hf9⟩:=ZaN (w7.alloc (.cells #[.slice none 0 0,.slice none 0 0] 67)) w7.heap.size _ _ hKA u7 v7
    have hS9:Below w0.heap.size w0 w9:=hSA.trans (hf9.below hSA.size (fun k hk=>by rw [hk];exact hgA))
    have hgb7z:=((hgb7.mono hnw).below (Zaa w7 (.cells #[.slice none 0 0,.slice none 0 0] 67)) (Nat.le_refl _)).keep (Kept.frm hf9 (fun _ h e=>h e))
    have hgi7z:=((hgi7.mono hnw).below (Zaa w7 (.cells #[.slice none 0 0,.slice none 0 0] 67)) (Nat.le_refl _)).keep (Kept.frm hf9 (fun _ h e=>h e))
    refine Pl.qh 12 w9 (Pl.q1) (Pl.qi 67 (.tmp 10) (.tmp 40) hst9) hS9 ?_
    refine Pl.q0 13 11 (.int .i64 (dropA (bss x.l) kk).e) (Pl.q1) (Pl.qf (.tmp 41)) hS9 ?_
    refine Pl.q7 (fun A' hA'=>?_)
    rw [Pl.At.ext hA' (((((((((((((hA.put 32 _).put 33 _).put 34 _).put 35 _).put 36 _).put 37 _).put 38 _).put 39 _).put 31 _).put 40 _).put 41 _).put 10 _).put 11 _)]
    exact hend hA'.fn _ u7 v7 l7 _ hgA hk9 hgi7z hgb7z hl7 hS9
  · have hSA:Below w0.heap.size w0 (w.drew.alloc (.cells #[.slice none 0 0,.slice none 0 0] 67)):=hS0.alloc hS0.size _
    have hKA:=Zaj w.drew (Sl.val Sl.nil) (Sl.val Sl.nil)
    have hgA:w0.heap.size≤w.drew.heap.size:=hS0.size
    refine Pl.qk 11 10 (.pointer (some ⟨w.drew.heap.size,0,none⟩)) (w.drew.alloc (.cells #[.slice none 0 0,.slice none 0 0] 67)) (Pl.qq 67 (Zav w.drew)) hSA ?_
    have hC7:Below w0.heap.size w0 ((w.drew.alloc (.cells #[.slice none 0 0,.slice none 0 0] 67))):=hSA
    refine Pl.qd 7 39 56 [(.tmp 36),(.tmp 38)] #[67,3] (Pl.q1) ZiG (Calls.mono (ZiC ((w.drew.alloc (.cells #[.slice none 0 0,.slice none 0 0] 67))) x.u x.v x.t x.l (hx.1.below hSA (Nat.le_refl _)) (hx.2.below hSA (Nat.le_refl _)) hm kk) ?_)
    rintro e w7 ⟨hb7,u7,v7,l7,rfl,hgi7,hgb7,hl7⟩
    have hS7:Below w0.heap.size w0 w7:=Zad hSA hb7
    have hK7:=hKA.below hb7
    refine⟨.tuple #[lfV u7 v7,.int .i64 (dropA (bss x.l) kk).e],rfl,hS7,?_⟩
    rw [Pl.qg 10 39]
    refine Pl.q0 8 31 (.tuple #[lfV u7 v7,.int .i64 (dropA (bss x.l) kk).e]) (Pl.q1) (Pl.q2 (.tmp 39)) hS7 ?_
    rw [Pl.qg 10 31]
    refine Pl.q0 9 40 (lfV u7 v7) (Pl.q1) (Pl.qc (.tmp 31) 0 (fun w=>(ex2 _ _ w).1)) hS7 ?_
    rw [Pl.qg 10 40]
    refine Pl.q0 10 41 (.int .i64 (dropA (bss x.l) kk).e) (Pl.q1) (Pl.qc (.tmp 31) 1 (fun w=>(ex2 _ _ w).2)) hS7 ?_
    rw [Pl.qg 10 41]
    have hnw:∀k,(w.drew.alloc (.cells #[.slice none 0 0,.slice none 0 0] 67)).heap.size≤k→k<w7.heap.size→Ap w.drew.heap.size k:=fun k hk _ e=>by rw [Zae,e] at hk;omega
    obtain⟨w9,hst9,hk9,hf9⟩:=ZaN w7 w.drew.heap.size _ _ hK7 u7 v7
    have hS9:Below w0.heap.size w0 w9:=hS7.trans (hf9.below hS7.size (fun k hk=>by rw [hk];exact hgA))
    have hgb7z:=(hgb7.mono hnw).keep (Kept.frm hf9 (fun _ h e=>h e))
    have hgi7z:=(hgi7.mono hnw).keep (Kept.frm hf9 (fun _ h e=>h e))
    refine Pl.qh 12 w9 (Pl.q1) (Pl.qi 67 (.tmp 10) (.tmp 40) hst9) hS9 ?_
    refine Pl.q0 13 11 (.int .i64 (dropA (bss x.l) kk).e) (Pl.q1) (Pl.qf (.tmp 41)) hS9 ?_
    refine Pl.q7 (fun A' hA'=>?_)
    rw [Pl.At.ext hA' (((((((((((((hA.put 32 _).put 33 _).put 34 _).put 35 _).put 36 _).put 37 _).put 38 _).put 39 _).put 31 _).put 40 _).put 41 _).put 10 _).put 11 _)]
    exact hend hA'.fn _ u7 v7 l7 _ hgA hk9 hgi7z hgb7z hl7 hS9
theorem ZhP (w : World) : Gl (fun _ => True) w ⟨none, 0, 0⟩ [] := ⟨rfl, fun _ => rfl, Nat.le_refl _, Nat.zero_le _, fun ad h => (by cases h), fun i hi => absurd hi (Nat.not_lt_zero _), fun x hx => (by cases hx)⟩
theorem ZkV {b : Bt} {y : Sx} (h : inB b y = true) : b = ((y.i : Int), (y.k : Int)) := by
 unfold inB at h
 simp only [Bool.and_eq_true, beq_iff_eq] at h
 obtain ⟨b1, b2⟩ := b
 rw [Prod.mk.injEq]
 exact ⟨h.1.symm, h.2.symm⟩
theorem ZdS {S : List Sx} {l : List Lf} (e : S.map Sx.hr = allH l) (b : Bt) : getH l b = (S.find? (inB b)).map fun y => y.x.r := by
 have hf : (allH l).find? (fun h => ((h.i : Int) == b.1) && ((h.k : Int) == b.2)) = (S.find? (inB b)).map Sx.hr := Zgp e _
 unfold getH
 rw [hf]
 cases S.find? (inB b) <;> rfl
theorem Zor {S : List Sx} {l : List Lf} (e : S.map Sx.hr = allH l) {y : Sx} (hy : y ∈ S) : y.i < l.length ∧ y.k < (lf l y.i).slots.length ∧ decH (sl (lf l y.i).slots y.k) = some y.x.r := by
 have : y.hr ∈ allH l := by rw [← e]; exact List.mem_map_of_mem hy
 exact Zex.1 this
def ZgC (w : World) (l : List Lf) (b : Bt) (e : Ending) (w' : World) : Prop := (MayH l ∧ ZaJ w (dropH l b) e w') ∨ (¬ MayH l ∧ ZaJ w ⟨[], 1⟩ e w')
theorem Zf7 (w:World)(s:Sl)(L:List Lb)(b:Bt)(h:Gl (fun _=>True) w s L) :
    Calls Tryz.prog 23 #[s.val,btV b] w (ZgC w (lfs L) b):=by
  have hsf:∀(w:World) (a:Addr) (m:Mode) (x:Nat),(store a (.float .f64 x) m).run Tryz.prog w=stored Tryz.prog w a (.float .f64 x) m:=fun w a m x=>run_store Tryz.prog w a _ m rfl
  have HW0:=hide (Zaa w (.cells #[.int .i64 b.1,.int .i64 b.2] 26))
  have HY:=hide (Zaw w b)
  have HO:=hide (Zbz _ s L (h.below HW0.out (Nat.le_refl _)))
  have HG:=hide h
  have HIB:=hide (fun w=>Zca w b)
  have HFB:=hide (fun (w0 w:World) (s:Sl) (S:List Sx) (h:Std w0 w s S) (hl:S.length≤100000) (g:Nat) (hg:BtBlk w g b)=>ZcK w0 w s S h hl g b hg)
  have HSL:Hid (L.length=s.len):=h.len
  have HCO:Hid (∀W,Below w.heap.size w W→_):=fun W hb=>Zcy W s L (h.below hb (Nat.le_refl _)) (fun _ _=>trivial)
  have HWI:Hid (∀W,Below w.heap.size w W→∀(i:Nat) (hi:i<s.len) (x:Lb),Gi (fun _=>True) W x.u x.t→Gb (fun _=>True) W x.v x.l→_):=fun W hb i hi x hu hv=>Zdw W s L (h.below hb (Nat.le_refl _)) (fun _ _=>trivial) i hi x hu hv
  obtain⟨a,len,cap⟩:=s
  clear h
  obtain⟨b1,b2⟩:=b
  unfold Sl.val btV at *
  simp only at *
  go_enter Tryz.func23,Tryz.ntmps23
  go_wp2_with fail
  generalize w.alloc (.cells #[.int .i64 b1,.int .i64 b2] 26)=W0 at *
  refine HO.out.mono ?_
  intro e w1 ho
  obtain⟨⟨sa,sn,sc⟩,S,k,rfl,hs,hk⟩:=ho.one
  have HW1:=hide (Zad HW0.out hs.below)
  have hY1:=HY.out.keep hs.below
  have HS1:=hide hs
  rcases hk with ⟨hm,rfl,hr⟩ | ⟨hm,rfl,hr⟩
  · have HM:=hide hm
    have HR:=hide hr
    have HLS:Hid (S.length≤100000):=Nat.le_trans (hm.len hr) (by decide)
    have y0:=hY1.c0
    have y1:=hY1.c1
    have HY1:=hide hY1
    clear ho hs hm hr HO hY1
    unfold Sl.val
    simp only at y0 y1 ⊢
    go_wp2_with fail
    refine(HIB.out w1).mono ?_
    rintro e w2 ⟨⟨g,rfl,hg⟩,hb⟩
    have HFI:=hide (HFB.out W0 w2 ⟨sa,sn,sc⟩ S (HS1.out.keep hb) HLS.out g hg)
    have HS2:=hide (HS1.out.keep hb)
    have HW2:=hide (Zad HW1.out hb)
    have HY2:=hide (HY1.out.keep hb)
    clear hg hb HIB HFB y0 y1
    unfold Sl.val at HFI
    simp only at HFI
    go_wp2_with fail
    refine HFI.out.mono ?_
    intro e w3 hf
    obtain⟨rfl,hb⟩:=hf.one
    obtain⟨z,hz⟩:∃z,z=orZ (S.find? (inB (b1,b2))):=⟨_,rfl⟩
    rw [← hz]
    have HZ:=hide hz
    have HB4:=Zaa w3 (.cells z.cells.toArray 72)
    have HBB:=Zad hb HB4
    have HW4:=hide (Zad HW2.out HBB)
    have HY4:=hide (HY2.out.keep HBB)
    have HSTO:=hide (Zck z w3)
    generalize hW4:w3.alloc (.cells z.cells.toArray 72)=W4 at *
    clear hf hb hz HB4 HBB HFI hW4
    cases hq:S.find? (inB (b1,b2)) with
    | none =>
     have HD:Hid (dropH (lfs L) (b1,b2)=⟨lfs L,3⟩):=Zfx (by rw [ZdS HR.out,hq];rfl)
     have HC4:=hide (HCO.out W4 HW4.out)
     rw [show (none:Option Sx).isSome=false from rfl]
     clear hq HCO HWI
     go_wp2_with (first | refine Zac _ rfl rfl 72 (.tmp 8) (.tmp 25) rfl (.pointer (some ⟨w3.heap.size,0,none⟩)) _ rfl rfl W4 HSTO.out ?_)
     refine HC4.out.mono ?_
     rintro e w5 ⟨⟨a5,n5,c5⟩,M,rfl,hI⟩
     have HI:=hide hI
     clear hI HC4
     unfold Sl.val
     simp only
     go_wp2_with fail
     go_ret2
     refine .inl ⟨HM.out,?_⟩
     rw [HD.out]
     exact⟨Zad HW4.out HI.out.below,⟨a5,n5,c5⟩,M,rfl,HI.out.gl,HI.out.lf⟩
    | some y =>
     have hyb:=ZkV (List.find?_some hq)
     have hyS:=List.mem_of_find?_eq_some hq
     obtain⟨hi1,hi2,hi3⟩:=Zor HR.out hyS
     rw [Prod.mk.injEq] at hyb
     obtain⟨rfl,rfl⟩:=hyb
     have hi:y.i<len:=by rw [Za4,HSL.out] at hi1;exact hi1
     have HD:=hide (Zfy (show getH (lfs L) ((y.i:Int),(y.k:Int))=some y.x.r by rw [ZdS HR.out,hq];rfl))
     have hgw:=HG.out.below HW4.out (Nat.le_refl _)
     obtain⟨bb,off,ha,c0,c1⟩:=hgw.cell y.i hi
     replace ha:a=some ⟨bb,off,none⟩:=ha
     subst ha
     have hit:=hgw.at (i:=y.i) hi
     have hlf:=Zbt L y.i
     have hmay:=HM.out.leaf _ (Zbe hi1)
     obtain⟨x,hx⟩:∃x,x=L.getD y.i Lb.zero:=⟨_,rfl⟩
     rw [← hx] at c0 c1 hit hlf
     rw [hlf] at hmay
     have HLF:=hide hlf
     have HIT:=hide hit
     have HMAY:Hid (MayL ⟨x.t,bss x.l⟩):=hmay
     have HC0:=hide c0
     have HC1:=hide c1
     rw [show (some y:Option Sx).isSome=true from rfl]
     clear hq hyS hi1 hi2 hi3 hgw hit hlf hmay hx c0 c1 HCO
     go_upto_region 7 with (first | refine Zac _ rfl rfl 72 (.tmp 8) (.tmp 25) rfl (.pointer (some ⟨w3.heap.size,0,none⟩)) _ rfl rfl W4 HSTO.out ?_)
     refine Pl.q9 (ops:=Pl.find 7 ((Tryz.f23.body).getD .skip)) ?_
     refine ZnE W4 W4 bb off len cap y.i hi x HC0.out HC1.out HIT.out HMAY.out w.heap.size (y.k:Int) HY4.out (Below.refl _ _) (by rfl) (by rfl) (by rfl) (by rfl) ?_
     intro q g u7 v7 l7 w9 hg9 hk9 hgi9 hgb9 hl7 hb9
     simp only [Act.put,List.setIfInBounds_toArray,List.set_cons_zero,List.set_cons_succ]
     have HWX:=hide (HWI.out w9 (Zad HW4.out hb9) y.i hi ⟨u7,v7,x.t,l7⟩ (hgi9.wide (fun _ _=>trivial)) (hgb9.wide (fun _ _=>trivial)))
     have HB9:=hide (Zad HW4.out hb9)
     have hY9:=HY4.out.keep hb9
     have y0:=hY9.c0
     have y1:=hY9.c1
     have k0:=hk9.c0
     have k1:=hk9.c1
     have HL7:=hide hl7
     obtain⟨u7a,u7n,u7c⟩:=u7
     obtain⟨v7a,v7n,v7c⟩:=v7
     unfold lfV Sl.val at HWX
     unfold Sl.val at k0 k1
     simp only at HWX k0 k1 y0 y1
     clear hg9 hk9 hgi9 hgb9 hl7 hb9 hY9 HWI
     go_wp2_with fail
     refine HWX.out.mono ?_
     rintro e w10 ⟨hb10,⟨a5,n5,c5⟩,M,rfl,hgl,hM⟩
     have HB10:=hide (Zad HB9.out hb10)
     have HGL:=hide hgl
     have HLM:=hide hM
     clear hb10 hgl hM HWX
     go_wp2_with fail
     go_ret2
     refine .inl ⟨HM.out,HB10.out,⟨a5,n5,c5⟩,M,?_,HGL.out,?_⟩
     · rw [HD.out];rfl
     · rw [HLM.out,HD.out]
       show (lfs L).set y.i ⟨x.t,bss l7⟩=(lfs L).set ((y.i:Int)).toNat ⟨(lf (lfs L) ((y.i:Int)).toNat).itl,(dropA (lf (lfs L) ((y.i:Int)).toNat).slots (y.k:Int)).s⟩
       rw [Int.toNat_natCast,HLF.out,HL7.out]
       rfl
  · have HN:Hid (ZgC w (lfs L) (b1,b2) (.returned (.tuple #[.slice none 0 0,.int .i64 1])) w1):=.inr ⟨hm,HW1.out,⟨none,0,0⟩,[],rfl,ZhP _,rfl⟩
    clear ho hs hm hr HO hY1
    unfold Sl.val
    simp only
    go_wp2_with fail
    go_ret2
    exact HN.out
end Go.Proofs.YtdojdcncncgncaaGreat
