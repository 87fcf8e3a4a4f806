/-
  Lemmas.
-/
import Derived.Test.YtpnlebpnhmibfaaGreatPc
namespace Go.Proofs.YtpnlebpnhmibfaaGreat
open Go.RowKit
set_option linter.unusedVariables false
set_option maxRecDepth 100000
set_option maxHeartbeats 4000000
variable {w w':World}{d:Dv}{Ld:DvL}{g:Nat}
variable {K : Home}
def DvB (w:World) (g:Nat) (d:Dv) (Ld:DvL):Prop:=w.heap[g]? = some (.cells #[Ld.kp.val,.int .i64 d.kept.base,Ld.ks.val,Ld.np.val,.int .i64 d.now.base,Ld.ns.val,Ld.ds.val,.bool d.gone,.int .i64 d.armed] 37 (0,0))
theorem DvB.lt (h:DvB w g d Ld):g<w.heap.size:=(Array.getElem?_eq_some_iff.1 h).1
theorem DvB.keep (h:DvB w g d Ld)(e:w'.heap[g]? = w.heap[g]?):DvB w' g d Ld:=e.trans h
theorem DvB.ld (h:DvB w g d Ld):(Instr.loadAt 37 (.pointer (some ⟨g,0,none⟩))).run Tryz.prog w=.ok (d.val Ld) w:=by
 have h':DvBlk w g Ld.kp.val d.kept.base Ld.ks.val Ld.np.val d.now.base Ld.ns.val Ld.ds.val d.gone d.armed:=h;have c0:=h'.c0;have c1:=h'.c1;have c2:=h'.c2;have c3:=h'.c3;have c4:=h'.c4;have c5:=h'.c5;have c6:=h'.c6;have c7:=h'.c7;have c8:=h'.c8;unfold Dv.val;simp [go_sem,Instr.loadAt,c0,c1,c2,c3,c4,c5,c6,c7,c8]
theorem Zmq (x:Dk)(p s:Sl)(w:World):(Instr.field 34 (x.val p s) 1).run Tryz.prog w=.ok (.int .i64 x.base) w:=by
 unfold Dk.val Sl.val;simp [go_sem,Instr.field,asAgg]
theorem Zje (d:Dv)(Ld:DvL)(b:Int)(w:World):(Instr.build 43 #[(0,d.val Ld),(3,.int .i64 b)]).run Tryz.prog w=.ok (rV d Ld Sl.nil 0 Sl.nil b) w:=by
 unfold Dv.val rV Zah Sl.val Sl.nil;simp [go_sem,Instr.build]
theorem Zhv (w:World):(Instr.alloc 43 true (.tuple #[])).run Tryz.prog w=.ok (.pointer (some ⟨w.heap.size,0,none⟩)) (w.alloc (.cells (Zah dv0 dvl0 Sl.nil 0 Sl.nil 0) 43)):=by
 unfold Zah dv0 dvl0 Sl.val Sl.nil;simp [go_sem,Instr.alloc]
theorem stRV {v:Sl}{h:Int}{s:Sl}{sy:Int}(k:RBlk w g d Ld v h s sy)(s2:Sl):∃W,(Instr.storeAt 38 (.pointer (some ⟨g,9,none⟩)) s2.val).run Tryz.prog w=.ok () W∧RBlk W g d Ld s2 h s sy∧Frm (fun i=>i=g) w W∧W.heap.size=w.heap.size:=by
 have c9:=k.c9;have ff:=k.fz;refine⟨(w.setCell ⟨g,9,none⟩ (s2.val)),?_,?_,(Frm.refl (fun i=>i=g) w).setCell (p:=⟨g,9,none⟩) rfl _,by simp only [Zag]⟩
 · unfold Sl.val;simp [go_sem,Instr.storeAt,stored,c9,ff]
 · unfold RBlk at k;have q0:=heap_setCell_same w g 9 _ 43 (s2.val) k;unfold RBlk;rw [q0];simp [Zah]
theorem Zo9 {W:World}{a:Sl}{l:List Sp}(h:OwnS W a l)(x:Sp)(hl:a.len+1≤1000000):∃a' W',(∀ty,(Builtin.append_ #[38,38] ty #[a.val,.slice (some ⟨W.heap.size,0,none⟩) 1 1]).run Tryz.prog (W.alloc (.cells (Sp.cells x).toArray 130))=.ok a'.val W')∧OwnS W' a' (l ++ [x])∧a'.len=a.len+1∧Frm (fun i=>a.blk=some i) W W'∧(a'.blk=a.blk∨∃q,a'.blk=some q∧W.heap.size≤q):=by
 have hA:=Zaa W (.cells (Sp.cells x).toArray 130);have ho:OwnS (W.alloc (.cells (Sp.cells x).toArray 130)) a l:=h.below hA;have h1:Own 130 3 (W.alloc (.cells (Sp.cells x).toArray 130)) ⟨some ⟨W.heap.size,0,none⟩,1,1⟩ (Sp.cells x):=⟨rfl,.inr ⟨W.heap.size,0,_,rfl,heap_alloc_new W _,by simp [Sp.cells],Nat.le_refl _,(by unfold maxLen;show 1≤_;omega),by simp [Sp.cells]⟩⟩;have hs:=Own.src (S:=38) h1 Tryz.underlying38 (by have:=Zcb [x];simpa [Zau] using this);obtain⟨a',W',ab,ho',aa,ad,ac⟩:=Zbp Tryz.underlying38 Zgh rfl (by omega) _ a _ ho (Zcb l) _ 1 _ hs hl 0;refine⟨a',W',fun ty=>ab,?_,aa,(Frm.ofBelow (F:=fun i=>a.blk=some i) hA).trans ad (fun _ _ e=>e),ac.imp id (fun e=>⟨_,e.1,hA.size⟩)⟩;unfold OwnS;rw [ZaV];simpa [Zau] using ho'
structure SN (w:World) (g:Nat) (d:Dv) (Ld:DvL) (w':World):Prop where
  b:DvB w' g d Ld
  e:Below w.heap.size w w'
  lt:g<w.heap.size
theorem SN.size (h:SN w g d Ld w'):w.heap.size≤w'.heap.size:=h.e.size
theorem SN.keep {w2:World}(h:SN w g d Ld w')(hb:Below w'.heap.size w' w2):SN w g d Ld w2:=⟨h.b.keep (hb.block _ h.b.lt),h.e.trans (hb.mono h.e.size),h.lt⟩
theorem SN.store {w2:World}{k:Nat}(h:SN w g d Ld w')(hf:Frm (fun i=>i=k) w' w2)(hk:w.heap.size≤k):SN w g d Ld w2:=⟨h.b.keep (hf.block _ h.b.lt (by have:=h.lt;omega)),h.e.trans (hf.below h.e.size (fun i e=>by omega)),h.lt⟩
theorem new1 (w:World)(g:Nat)(dd:Dv)(Ld:DvL)(h0:DvB w g dd Ld)
    {Q:Exit→Act→World→Prop}{A:Act}(al:A.tmps.size=26)(ak:A.defers=[])(s2:A.tmps.getD 2 undef=.pointer (some ⟨g,0,none⟩))
    (hend:∀(u:Nat→Value) w',(∃g5,u 5=.pointer (some ⟨g5,0,none⟩)∧RBlk w' g5 dd Ld Sl.nil 0 Sl.nil dd.now.base∧w.heap.size≤g5∧Below w.heap.size w w')→Q .normal (((((((A).put (some 7) (u 7)).put (some 8) (u 8)).put (some 9) (u 9)).put (some 10) (u 10)).put (some 11) (u 11)).put (some 5) (u 5)) w') :
    (Code.region 1 (Pl.find 1 ((Tryz.f41.body).getD .skip)) true).wp Tryz.prog Q A w:=by
  have hA:=Pl.At.same (v:=.pointer (some ⟨g,0,none⟩)) (d:=2) (Pl.At.here al ak) s2;refine Pl.qa (S:=fun w'=>SN w g dd Ld w') hA (show SN w g dd Ld w.drew from ⟨h0,Zad w,h0.lt⟩) ?_;rw [show (Pl.find 1 ((Tryz.f41.body).getD .skip)).size=7 by kernel_rfl];refine Pl.q1 0 7 (dd.val Ld) (Pl.q0) (Pl.q6 37 (.tmp 2) (fun w' hS=>DvB.ld hS.b)) (show SN w g dd Ld w.drew from ⟨h0,Zad w,h0.lt⟩) ?_;refine Pl.q1 1 8 (dd.val Ld) (Pl.q0) (Pl.q6 37 (.tmp 2) (fun w' hS=>DvB.ld hS.b)) (show SN w g dd Ld w.drew from ⟨h0,Zad w,h0.lt⟩) ?_;refine Pl.qr 2 5 ?_ ?_
  · refine Pl.q_37 2 9 28 [(.tmp 8)] #[37] ZgM (Calls.mono (Zbk dd Ld w.drew) ?_);rintro e w2 ⟨ae,rfl⟩;have aa:SN w g dd Ld w2:=SN.keep (show SN w g dd Ld w.drew from ⟨h0,Zad w,h0.lt⟩) ae;refine⟨dd.now.val Ld.np Ld.ns,rfl,aa,?_⟩;refine Pl.q1 3 10 (.int .i64 dd.now.base) (Pl.q0) (Pl.fieldV 3 34 (.tmp 9) 1 _ (by kernel_rfl) (by decide) (Zmq dd.now Ld.np Ld.ns)) aa ?_;refine Pl.q1 4 11 (rV dd Ld Sl.nil 0 Sl.nil dd.now.base) (Pl.q0) (Pl.q_38 43 [(0,.tmp 7),(3,.tmp 10)] (fun w=>Zje dd Ld _ w)) aa ?_;have ac:SN w g dd Ld (w2.alloc (.cells (Zah dv0 dvl0 Sl.nil 0 Sl.nil 0) 43)):=SN.keep aa (Zaa w2 (.cells (Zah dv0 dvl0 Sl.nil 0 Sl.nil 0) 43));have af:=ZaZ w2 dv0 dvl0 Sl.nil 0 Sl.nil 0;have ad:w.heap.size≤w2.heap.size:=SN.size aa;refine Pl.qf 5 5 (.pointer (some ⟨w2.heap.size,0,none⟩)) (w2.alloc (.cells (Zah dv0 dvl0 Sl.nil 0 Sl.nil 0) 43)) (Pl.q0) (Pl.q_41 43 (Zhv w2)) ac ?_;obtain⟨W4,ai,ag,ah,_⟩:=stR af dd Ld Sl.nil 0 Sl.nil dd.now.base;have ab:SN w g dd Ld W4:=SN.store ac ah ad;refine Pl.qd 6 W4 (Pl.q0) (Pl.qh 43 (.tmp 5) (.tmp 11) W4 ai) ab ?_;refine Pl.q7 (fun A' hA'=>?_);rw [Pl.At.ext hA' ((((((hA.put 7 _).put 8 _).put 9 _).put 10 _).put 11 _).put 5 _)];exact hend hA'.fn _ ⟨_,rfl,ag,ad,ab.e⟩
  · have ac:SN w g dd Ld (w.drew.alloc (.cells (Zah dv0 dvl0 Sl.nil 0 Sl.nil 0) 43)):=SN.keep (show SN w g dd Ld w.drew from ⟨h0,Zad w,h0.lt⟩) (Zaa w.drew (.cells (Zah dv0 dvl0 Sl.nil 0 Sl.nil 0) 43));have af:=ZaZ w.drew dv0 dvl0 Sl.nil 0 Sl.nil 0;have ad:w.heap.size≤w.drew.heap.size:=SN.size (show SN w g dd Ld w.drew from ⟨h0,Zad w,h0.lt⟩);refine Pl.qe 5 5 (.pointer (some ⟨w.drew.heap.size,0,none⟩)) (w.drew.alloc (.cells (Zah dv0 dvl0 Sl.nil 0 Sl.nil 0) 43)) (Pl.q_41 43 (Zhv w.drew)) ac ?_;refine Pl.qc 2 9 28 [(.tmp 8)] #[37] (Pl.q0) ZgM (Calls.mono (Zbk dd Ld (w.drew.alloc (.cells (Zah dv0 dvl0 Sl.nil 0 Sl.nil 0) 43))) ?_);rintro e w2 ⟨ae,rfl⟩;have aa:SN w g dd Ld w2:=SN.keep ac ae;have aj:=af.below ae;refine⟨dd.now.val Ld.np Ld.ns,rfl,aa,?_⟩;rw [Pl.qi 5 9];refine Pl.q1 3 10 (.int .i64 dd.now.base) (Pl.q0) (Pl.fieldV 3 34 (.tmp 9) 1 _ (by kernel_rfl) (by decide) (Zmq dd.now Ld.np Ld.ns)) aa ?_;rw [Pl.qi 5 10];refine Pl.q1 4 11 (rV dd Ld Sl.nil 0 Sl.nil dd.now.base) (Pl.q0) (Pl.q_38 43 [(0,.tmp 7),(3,.tmp 10)] (fun w=>Zje dd Ld _ w)) aa ?_;rw [Pl.qi 5 11];obtain⟨W4,ai,ag,ah,_⟩:=stR aj dd Ld Sl.nil 0 Sl.nil dd.now.base;have ab:SN w g dd Ld W4:=SN.store aa ah ad;refine Pl.qd 6 W4 (Pl.q0) (Pl.qh 43 (.tmp 5) (.tmp 11) W4 ai) ab ?_;refine Pl.q7 (fun A' hA'=>?_);rw [Pl.At.ext hA' ((((((hA.put 7 _).put 8 _).put 9 _).put 10 _).put 11 _).put 5 _)];exact hend hA'.fn _ ⟨_,rfl,ag,ad,ab.e⟩
structure Nw (w W:World) (g j:Nat) (d:Dv) (Ld:DvL) (v:Sl) (sy:Int):Prop where
  b:RBlk W g d Ld v 0 Sl.nil sy
  own:OwnS W v (List.replicate j Sp.none)
  up:∀k,v.blk=some k→g<k
  ans:∃d' Ld' v' h' s' sy',RBlk W (w.heap.size+1) d' Ld' v' h' s' sy'
  gt:w.heap.size+1<g
  e:Below w.heap.size w W
theorem Nw.step {W:World}{j:Nat}{v:Sl}{sy:Int}(h:Nw w W g j d Ld v sy)(hj:j≤64):∃v' W1 W2,(∀ty,(Builtin.append_ #[38,38] ty #[v.val,.slice (some ⟨W.heap.size,0,none⟩) 1 1]).run Tryz.prog (W.alloc (.cells #[.int .i64 (-1),.bool false,.bool false] 130))=.ok v'.val W1)∧(Instr.storeAt 38 (.pointer (some ⟨g,9,none⟩)) v'.val).run Tryz.prog W1=.ok () W2∧Nw w W2 g (j+1) d Ld v' sy:=by
 have am:=h.own.len;rw [List.length_replicate] at am;obtain⟨v',W1,ad,ho,ai,ab,ah⟩:=Zo9 h.own Sp.none (by omega);have af:RBlk W1 g d Ld v 0 Sl.nil sy:=h.b.keep (ab.block _ h.b.lt (fun e=>by have:=h.up _ e;omega));obtain⟨W2,ak,ag,aa,al⟩:=stRV af v';have aj:=h.gt;have ae:∀k,v'.blk=some k→g<k:=fun k hk=>by
  rcases ah with e | ⟨q,e,hq⟩
  · rw [e] at hk;exact h.up k hk
  · rw [e] at hk;obtain rfl:=Option.some.inj hk;have:=h.b.lt;omega
 obtain⟨d',Ld',vv,h',s',sy',ka⟩:=h.ans;have ka1:=ka.keep (ab.block _ ka.lt (fun e=>by have:=h.up _ e;omega));have ka2:=ka1.keep (aa.block _ ka1.lt (by omega));have ac:=ab.below h.e.size (fun k e=>by have:=h.up _ e;omega);have e1:=h.e.trans ac;refine⟨v',W1,W2,ad,ak,⟨ag,?_,ae,⟨d',Ld',vv,h',s',sy',ka2⟩,aj,e1.trans (aa.below e1.size (fun k e=>by omega))⟩⟩;rw [List.replicate_succ'];exact ho.frame (fun k hk=>aa.block k (Own.lt ho hk) (by have:=ae k hk;omega))
theorem ZmW (D:Ds)(f n:Nat):(Po.new D f).inl n=[]:=by
 unfold Po.inl Po.from_ Po.new;simp
theorem Zk7 (w:World):ShRow K w Sl.nil []:=⟨[],rfl,⟨rfl,fun _=>rfl,Nat.le_refl _,by decide,fun j z hz=>by simp at hz⟩,fun z hz=>by cases hz⟩
theorem ZlU {n tot m:Nat}{D:Ds}(hd:DvIn K w d Ld)(hr:Rel D d.abs)(hg:Good n tot m d.abs)(ae:K.low≤w.heap.size)(f:Nat)(hf:f≤64):Calls Tryz.prog 41 #[d.val Ld,.int .i64 (f:Int)] w fun e w'=>Below w.heap.size w w'∧∃x,e=.returned x∧Zay K n tot m (Po.new D f) x w':=by
 obtain⟨W0,ad⟩:∃W,W=(w.alloc (.cells #[Ld.kp.val,.int .i64 d.kept.base,Ld.ks.val,Ld.np.val,.int .i64 d.now.base,Ld.ns.val,Ld.ds.val,.bool d.gone,.int .i64 d.armed] 37)).alloc (.cells (Zah dv0 dvl0 Sl.nil 0 Sl.nil 0) 43):=⟨_,rfl⟩;have b1:=Zaa w (.cells #[Ld.kp.val,.int .i64 d.kept.base,Ld.ks.val,Ld.np.val,.int .i64 d.now.base,Ld.ns.val,Ld.ds.val,.bool d.gone,.int .i64 d.armed] 37);have b2:=Zaa (w.alloc (.cells #[Ld.kp.val,.int .i64 d.kept.base,Ld.ks.val,Ld.np.val,.int .i64 d.now.base,Ld.ns.val,Ld.ds.val,.bool d.gone,.int .i64 d.armed] 37)) (.cells (Zah dv0 dvl0 Sl.nil 0 Sl.nil 0) 43);(have aq:DvB W0 w.heap.size d Ld:=by rw [ad];exact (b2.block _ (by simp)).trans (heap_alloc_new w _));have ak:RBlk W0 (w.heap.size+1) dv0 dvl0 Sl.nil 0 Sl.nil 0:=by
  have:=ZaZ (w.alloc (.cells #[Ld.kp.val,.int .i64 d.kept.base,Ld.ks.val,Ld.np.val,.int .i64 d.now.base,Ld.ns.val,Ld.ds.val,.bool d.gone,.int .i64 d.armed] 37)) dv0 dvl0 Sl.nil 0 Sl.nil 0;rw [show (w.alloc (.cells #[Ld.kp.val,.int .i64 d.kept.base,Ld.ks.val,Ld.np.val,.int .i64 d.now.base,Ld.ns.val,Ld.ds.val,.bool d.gone,.int .i64 d.armed] 37)).heap.size=w.heap.size+1 by simp,← ad] at this;exact this
 (have al:Below w.heap.size w W0:=by rw [ad];exact Zaf b1 b2);have bf:Hid (∀{Q:Exit→Act→World→Prop} {A:Act},A.tmps.size=26→A.defers=[]→A.tmps.getD 2 undef=.pointer (some ⟨w.heap.size,0,none⟩)→_→(Code.region 1 (Pl.find 1 ((Tryz.f41.body).getD .skip)) true).wp Tryz.prog Q A W0):=fun {Q A} a1 a2 a3 hend=>new1 W0 w.heap.size d Ld aq a1 a2 a3 hend;have ap:Hid (∀g w1,RBlk w1 g d Ld Sl.nil 0 Sl.nil d.now.base→W0.heap.size≤g→Below W0.heap.size W0 w1→Nw w w1 g 0 d Ld Sl.nil d.now.base):=fun g w1 k hg hb=>⟨k,Own.nil _ _ _,(fun k hk=>by simp [Sl.nil,Sl.blk] at hk),⟨_,_,_,_,_,_,ak.below hb⟩,by have:=ak.lt;omega,al.trans (hb.mono al.size)⟩;have HD:=hide hd;have HR:=hide hr;have HG:=hide hg;have ao:=hide ae;have aj:=hide ad;clear hd hr hg ae aq ak al b1 b2 ad;unfold Zah dv0 dvl0 at aj;simp only [Sl.val,Sl.nil] at aj;unfold Dv.val Sl.val;go_enter Tryz.func41,Tryz.ntmps41;go_wp2_with fail;rw [← aj.out];refine Pl.q8 (ops:=Pl.find 1 ((Tryz.f41.body).getD .skip)) ?_;refine bf.out (by rfl) rfl (by rfl) ?_;rintro u1 w1 ⟨g,az,ay,ax,av⟩;have ar:=ap.out g w1 ay ax av;clear ay ax av ap;rw [az];simp only [Act.put,List.setIfInBounds_toArray,List.set_cons_zero,List.set_cons_succ];have bd:=hide ar;clear ar az;go_wp2_with fail;go_loopw [6] (fun i wr=>∃(j:Nat) (v:Sl),j≤f∧i=.int .i64 j∧Hid (Nw w wr g j d Ld v d.now.base)) (fun i _=>f-(intOf i).toNat)
 case atStart=>exact ⟨0,Sl.nil,by omega,rfl,bd⟩
 case round =>
  obtain⟨j,⟨va,vl,vc⟩,hj,rfl,aa⟩:=hrel;by_cases bj:j<f
  · (have i1:(j:Int)<(f:Int):=by omega);have c9:=aa.out.b.c9;simp only [Sl.val] at c9;obtain⟨⟨ca,cl,cc⟩,W1,W2,af,ag,au⟩:=aa.out.step (by omega);have ab:=hide af;have ac:=hide ag;have be:=hide au;simp only [Sl.val] at ab ac;clear af ag au;go_wp2_with (first | refine Zbq _ rfl 38 (.tmp 19) (.tmp 21) rfl (.slice va vl vc) (.slice (some ⟨wr.heap.size,0,none⟩) 1 1) rfl rfl (.slice ca cl cc) W1 ab.out ?_ | refine Zab _ rfl rfl 38 (.tmp 24) (.tmp 22) rfl (.pointer (some ⟨g,9,none⟩)) _ rfl rfl W2 ac.out ?_);go_roundw
    case rel=>exact ⟨j+1,⟨ca,cl,cc⟩,by omega,by go_num,be⟩
    case measure=>simp only [intOf];omega
  · (have i1:¬(j:Int)<(f:Int):=by omega);(have bg:j=f:=by omega);subst bg;have HL:=hide (ldR aa.out.b);obtain⟨d',Ld',vv,h',s',sy',ka⟩:=aa.out.ans;obtain⟨W3,ag,aw,am,an⟩:=stR ka d Ld ⟨va,vl,vc⟩ 0 Sl.nil d.now.base;have bi:=aa.out.gt;have ah:=aa.out.e.trans (am.below aa.out.e.size (fun k e=>by omega));have ai:Hid (Zay K n tot m (Po.new D j) (rV d Ld ⟨va,vl,vc⟩ 0 Sl.nil d.now.base) W3):=by
     have bh:(D.sb:Int)=d.now.base:=by
      rw [HR.out.sb];exact Int.toNat_of_nonneg HG.out.nb0
     refine⟨d,Ld,⟨va,vl,vc⟩,Sl.nil,?_,HD.out.keep ah (Nat.le_refl _),HR.out,HG.out,?_,?_,Nat.le_trans ao.out ah.size⟩
     · show rV d Ld ⟨va,vl,vc⟩ 0 Sl.nil d.now.base=rV d Ld ⟨va,vl,vc⟩ 0 Sl.nil (D.sb:Int);rw [bh]
     · have ho:OwnS W3 ⟨va,vl,vc⟩ (List.replicate j Sp.none):=aa.out.own.frame (fun k hk=>am.block k (Own.lt aa.out.own hk) (by have:=aa.out.up k hk;omega));have ba:=ho.len;rw [List.length_replicate] at ba;exact ho.gs (fun k hk=>K.all k (by have:=aa.out.up k hk;have:=ao.out;omega)) (by simp only at ba ⊢;omega)
     · rw [ZmW];exact Zk7 W3
    have ac:=hide ag;have bb:=hide aw;have bc:=hide ah;unfold rV at HL ac;clear ag aw ah am ka an;go_wp2_with (first | refine Zac _ rfl 43 (.tmp 5) rfl (.pointer (some ⟨g,0,none⟩)) _ rfl HL.out ?_ | refine Zab _ rfl rfl 43 (.tmp 4) (.tmp 25) rfl (.pointer (some ⟨w.heap.size+1,0,none⟩)) _ rfl rfl W3 ac.out ?_);refine bodyPost_ret (Zaw rfl bb.out _ rfl) rfl ?_;exact⟨bc.out,_,rfl,ai.out⟩
end Go.Proofs.YtpnlebpnhmibfaaGreat
