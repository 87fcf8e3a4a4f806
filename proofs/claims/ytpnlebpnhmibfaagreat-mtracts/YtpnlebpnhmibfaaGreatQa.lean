/-
  Lemmas.
-/
import Derived.Test.YtpnlebpnhmibfaaGreatRpM
import Derived.Test.YtpnlebpnhmibfaaGreatMa
import Derived.Test.YtpnlebpnhmibfaaGreatMc
namespace Go.Proofs.YtpnlebpnhmibfaaGreat
open Go.RowKit
set_option linter.unusedVariables false
set_option maxRecDepth 100000
set_option maxHeartbeats 4000000
variable {w:World}{n tot m c:Nat}{P:Po}{d:Dv}{Ld:DvL}{v s:Sl}
variable {K : Home}
theorem RpIn.syncD {W:World}{L1:DvL}(hI:RpIn K w n tot m P d Ld v s)(ht:tot≤40000)(hb:Below w.heap.size w W)(hD:DvIn K W d.sync L1):RpIn K W n tot m { P with D:=P.D.sync } d.sync L1 v s:=by
 obtain⟨_,hrel,aa⟩:=hI.rel.sync hI.good ht;refine⟨hD,by rw [d.sync_abs];exact hrel,by rw [d.sync_abs];exact aa,hI.ck.below hb (Nat.le_refl _),?_,Nat.le_trans hI.low hb.size⟩;rw [show ({ P with D:=P.D.sync }:Po).inl n=P.inl n from Zb8 (fun _=>rfl)];exact hI.sh.keep hb
theorem RpIn.sy (hI:RpIn K w n tot m P d Ld v s)(y:Int):RpIn K w n tot m { P with sy:=y } d Ld v s:=⟨hI.dv,hI.rel,hI.good,hI.ck,hI.sh,hI.low⟩
theorem Zd4 (hI:RpIn K w n tot m P d Ld v s)(ht:tot≤40000):Calls Tryz.prog 17 #[rV d Ld v P.h s P.sy] w fun e w'=>Below w.heap.size w w'∧∃x,e=.returned x∧Zay K n tot m P.syncM x w':=by
 obtain⟨W0,ad⟩:∃W,W=((w.alloc (.cells (Zah d Ld v P.h s P.sy) 43)).alloc (.cells (Zah dv0 dvl0 Sl.nil 0 Sl.nil 0) 43)):=⟨_,rfl⟩;(have hX:Rx w W0 (w.heap.size+1) d Ld v P.h s P.sy:=by rw [ad];exact ZbA w d Ld v P.h s P.sy);have HX:=hide hX;have am:=hide (ldRD hX.b);have ap:=hide (Zet d Ld W0 (hI.dv.keep hX.e (Nat.le_refl _)));rw [Zb9] at ad;have ac:=am;rw [ad] at ac;have bb:=hide ad;have HI:=hide hI;have HT:=hide ht;clear hX ad hI ht;unfold rV;go_enter Tryz.func17,Tryz.ntmps17;go_wp2_with (refine Zac _ rfl 37 (.tmp 3) rfl (.pointer (some ⟨w.heap.size,0,none⟩)) _ rfl ac.out ?_);rw [← bb.out];refine ap.out.mono ?_;rintro e w2 ⟨au,L1,rfl,ar⟩;have ag:=HX.out.keep au;obtain⟨W2,ae,ab,ak,bd⟩:=stRD ag.b d.sync L1;have aa:=ag.turn ab ak;have ah:RpIn K W2 n tot m { P with D:=P.D.sync } d.sync L1 v s:=HI.out.syncD HT.out aa.e (ZaH ar ak ⟨_,_,_,_,_,_,ag.b⟩);have ao:=hide (Zes ah HT.out);have ba:=hide ae;have al:=hide (ldR aa.b);have bc:=hide aa;have az:=hide ah;unfold rV at ao al;clear au ar ag ae ab ak bd aa ah ac am ap;go_wp2_with (first | refine Zab _ rfl rfl 37 (.tmp 6) (.tmp 5) rfl (.pointer (some ⟨w.heap.size,0,none⟩)) (d.sync.val L1) rfl rfl W2 ba.out ?_ | refine Zac _ rfl 43 (.tmp 1) rfl (.pointer (some ⟨w.heap.size,0,none⟩)) _ rfl al.out ?_);refine ao.out.mono ?_;rintro e w3 ⟨aj,rfl⟩;have ai:=bc.out.keep aj;obtain⟨W4,af,av,aq,aw⟩:=ai.tell d.sync L1 v P.h s P.D.sync.fin;have an:=hide af;have ax:=hide av;have ay:=hide aq;have HE:Hid (RpIn K W4 n tot m P.syncM d.sync L1 v s):=by
  obtain⟨d',Ld',v',h',s',sy',q⟩:=ai.ans;exact((az.out.keep aj).sy P.D.sync.fin).box aw ⟨_,_,_,_,_,_,q⟩
 unfold rV at an;clear aj ai af av aq aw;go_wp2_with (refine Zab _ rfl rfl 43 (.tmp 2) (.tmp 8) rfl (.pointer (some ⟨w.heap.size+1,0,none⟩)) _ rfl rfl W4 an.out ?_);refine bodyPost_ret (Zaw rfl ax.out _ rfl) rfl ?_;exact⟨ay.out,_,rfl,d.sync,L1,v,s,rfl,HE.out⟩
theorem Zgw (hI:RpIn K w n tot m P d Ld v s)(ht:tot≤40000):Calls Tryz.prog 54 #[rV d Ld v P.h s P.sy] w fun e w'=>Below w.heap.size w w'∧e=.returned (.int .i64 P.D.fin):=by
 have ac:P.D.fin=d.now.base+(Ld.ns.len:Int):=by
  unfold Ds.fin;rw [hI.rel.sb,hI.rel.ss,← hI.dv.now.st.len];have:=hI.good.nb0;show ((d.now.base.toNat+d.now.st.length:Nat):Int)=_;have:0≤d.now.base:=this;omega
 have am:0≤d.now.base∧d.now.base≤40000∧Ld.ns.len≤40000:=by
  have h1:0≤d.now.base:=hI.good.nb0;have h2:d.now.base.toNat+d.now.st.length≤tot:=hI.good.nt;have h3:=hI.dv.now.st.len;omega
 obtain⟨W0,ab⟩:∃W,W=(w.alloc (.cells (Zah d Ld v P.h s P.sy) 43)):=⟨_,rfl⟩;(have hB:RBlk W0 w.heap.size d Ld v P.h s P.sy:=by rw [ab];exact ZaZ w d Ld v P.h s P.sy);have ad:=hide (show Below w.heap.size w W0 by rw [ab];exact Zaa w _);have ah:=hide (ldRD hB);have ae:=hide (Zbk d Ld W0);have aa:=ah;rw [ab] at aa;have ai:=hide ab;rw [ac];(have al:IntKind.i64.wrap (d.now.base+(Ld.ns.len:Int))=d.now.base+(Ld.ns.len:Int):=by rw [IntKind.wrap_i64];omega);clear hI hB ab ac;unfold rV;unfold Dk.val Sl.val at ae;generalize aj:Ld.ns.len=nl at *;clear aj;generalize ag:d.now.base=B at *;have ak:=hide ag;clear ag;go_enter Tryz.func54,Tryz.ntmps54;go_wp2_with (refine Zac _ rfl 37 (.tmp 4) rfl (.pointer (some ⟨w.heap.size,0,none⟩)) _ rfl aa.out ?_);rw [← ai.out];refine ae.out.mono ?_;rintro e w1 ⟨af,rfl⟩;have HE:=hide (Zaf (ad.out.trans (af.mono ad.out.size)) (Zaa w1 (.cells #[.slice Ld.np.a Ld.np.len Ld.np.cap,.int .i64 B,.slice Ld.ns.a nl Ld.ns.cap] 34)));clear af;go_wp2_with fail;go_ret;exact⟨HE.out,rfl⟩
theorem Pl.loadW {P:Program}{ops:Array Oper}{f:Nat→Value}(i:Nat)(t:TypeId)(x:Operand)(v:Value)(h:(Pl.op ops i).op=.load t x)(hx:Pl.inB n x=true)(hv:(Instr.loadAt t (Pl.ev f x)).run P w=.ok v w) :
    ∀A,Pl.At n A f→(execOp A.eval (Pl.op ops i)).run P w=.ok (.value v) w:=by
  intro A hA;have e:execOp A.eval (Pl.op ops i)=(do pure (.value (← Instr.loadAt t (A.eval x)))):=by
   unfold execOp;rw [h]
  rw [e,hA.ev x hx];simp [hv]
theorem Pl.q_36 {P:Program}{ops:Array Oper}{n:Nat}{f:Nat→Value}{w:World}{i:Nat}{v:Value}(t:TypeId)(x:Operand)(hv:(Instr.loadAt t (Pl.ev f x)).run P w=.ok v w)(h:(Pl.op ops i).op=.load t x:=by kernel_rfl)(hx:Pl.inB n x=true:=by decide):∀A,Pl.At n A f→(execOp A.eval (Pl.op ops i)).run P w=.ok (.value v) w:=Pl.loadW i t x v h hx hv
theorem Zlg:∀args w,(callFunc 83 args).run Tryz.prog w=.ok (.enter 83 args) w:=Pl.ql Tryz.func83
theorem Zo2 (w:World)(gb ib io len cap k:Nat)(hk:k<len)(pz q:Int)(sa:Option Addr)(sc:Nat)(r:Int)(dd:Dv)(Ld:DvL)(v:Sl)(h:Int)(s:Sl)(sy:Int)(R2:Value→World→Prop)(R3:World→Prop)(h0:(fun (w':World)=>w'.cell? ⟨ib,io+k*2,none⟩=some (.int .i64 q)∧w'.cell? ⟨ib,io+k*2+1,none⟩=some (.slice sa 512 sc)) w)(ag:RBlk w.drew gb dd Ld v h s sy)(ae:Calls Tryz.prog 83 #[rV dd Ld v h s sy,.int .i64 q,.slice sa 512 sc,.int .i64 pz] w.drew fun e w3=>∃z,e=.returned (.tuple #[z,.int .i64 r])∧R2 z w3)(ab:∀z w3,R2 z w3→(fun (w':World)=>w'.cell? ⟨ib,io+k*2,none⟩=some (.int .i64 q)∧w'.cell? ⟨ib,io+k*2+1,none⟩=some (.slice sa 512 sc)) w3)(ac:∀z w3,R2 z w3→∃W,(Instr.storeAt 43 (.pointer (some ⟨gb,0,none⟩)) z).run Tryz.prog w3=.ok () W∧(fun (w':World)=>w'.cell? ⟨ib,io+k*2,none⟩=some (.int .i64 q)∧w'.cell? ⟨ib,io+k*2+1,none⟩=some (.slice sa 512 sc)) W∧R3 W)
    {Q:Exit→Act→World→Prop}{A:Act}(ak:A.tmps.size=31)(ah:A.defers=[])(s1:A.tmps.getD 1 undef=.slice (some ⟨ib,io,none⟩) len cap)(s2:A.tmps.getD 2 undef=.int .i64 pz)(s3:A.tmps.getD 3 undef=.pointer (some ⟨gb,0,none⟩))(s7:A.tmps.getD 7 undef=.int .i64 (k:Int))
    (hend:∀(u:Nat→Value) w',R3 w'→Q .normal (((((((((((((((((A).put (some 16) (u 16)).put (some 17) (u 17)).put (some 18) (u 18)).put (some 19) (u 19)).put (some 20) (u 20)).put (some 21) (u 21)).put (some 22) (u 22)).put (some 23) (u 23)).put (some 24) (u 24)).put (some 25) (u 25)).put (some 26) (u 26)).put (some 15) (u 15)).put (some 27) (u 27)).put (some 14) (u 14)).put (some 28) (u 28)).put (some 29) (u 29)) w') :
    (Code.region 4 (Pl.find 4 ((Tryz.f44.body).getD .skip)) true).wp Tryz.prog Q A w:=by
  have aa:=(show (fun (w':World)=>w'.cell? ⟨ib,io+k*2,none⟩=some (.int .i64 q)∧w'.cell? ⟨ib,io+k*2+1,none⟩=some (.slice sa 512 sc)) w.drew from h0);have hA:=Pl.At.same (v:=.int .i64 (k:Int)) (d:=7) (Pl.At.same (v:=.pointer (some ⟨gb,0,none⟩)) (d:=3) (Pl.At.same (v:=.int .i64 pz) (d:=2) (Pl.At.same (v:=.slice (some ⟨ib,io,none⟩) len cap) (d:=1) (Pl.At.here ak ah) s1) s2) s3) s7;refine Pl.qa (S:=fun w'=>w'.cell? ⟨ib,io+k*2,none⟩=some (.int .i64 q)∧w'.cell? ⟨ib,io+k*2+1,none⟩=some (.slice sa 512 sc)) hA aa ?_;rw [show (Pl.find 4 ((Tryz.f44.body).getD .skip)).size=17 by kernel_rfl];refine Pl.q1 1 16 (.slice (some ⟨ib,io,none⟩) len cap) (Pl.q0) (Pl.q2 (.tmp 1)) aa ?_;refine Pl.q1 2 17 (.int .i64 (k:Int)) (Pl.q0) (Pl.q2 (.tmp 7)) aa ?_;refine Pl.q1 3 18 (.pointer (some ⟨ib,io+k*2,none⟩)) (Pl.q0) (Pl.qj 52 (.tmp 16) (.tmp 17) (ixIm ib io len cap k hk)) aa ?_;refine Pl.q1 4 19 (.pointer (some ⟨ib,io+k*2,none⟩)) (Pl.q0) (Pl.q4 76 (.tmp 18) 0 (Zj3 ib (io+k*2))) aa ?_;refine Pl.q1 5 20 (.int .i64 q) (Pl.q0) (Pl.q6 3 (.tmp 19) (fun w' hS=>ldInt ib (io+k*2) _ w' hS.1)) aa ?_;refine Pl.q1 6 21 (.slice (some ⟨ib,io,none⟩) len cap) (Pl.q0) (Pl.q2 (.tmp 1)) aa ?_;refine Pl.q1 7 22 (.int .i64 (k:Int)) (Pl.q0) (Pl.q2 (.tmp 7)) aa ?_;refine Pl.q1 8 23 (.pointer (some ⟨ib,io+k*2,none⟩)) (Pl.q0) (Pl.qj 52 (.tmp 21) (.tmp 22) (ixIm ib io len cap k hk)) aa ?_;refine Pl.q1 9 24 (.pointer (some ⟨ib,io+k*2+1,none⟩)) (Pl.q0) (Pl.q4 76 (.tmp 23) 1 (ZnO ib (io+k*2))) aa ?_;refine Pl.q1 10 25 (.slice sa 512 sc) (Pl.q0) (Pl.q6 32 (.tmp 24) (fun w' hS=>ldBs ib (io+k*2+1) _ _ _ w' hS.2)) aa ?_;refine Pl.q1 11 26 (.int .i64 pz) (Pl.q0) (Pl.q2 (.tmp 2)) aa ?_;refine Pl.qf 0 15 (rV dd Ld v h s sy) w.drew (Pl.q0) (Pl.q_36 43 (.tmp 3) (ldR ag)) aa ?_;refine Pl.qc 12 27 83 [(.tmp 15),(.tmp 20),(.tmp 25),(.tmp 26)] #[43,3,32,3] (Pl.q0) Zlg (Calls.mono (ae) ?_);rintro e w3 ⟨z,rfl,ad⟩;obtain⟨W4,aj,af,ai⟩:=ac z w3 ad;refine⟨.tuple #[z,.int .i64 r],rfl,(ab z w3 ad),?_⟩;refine Pl.q1 13 14 (.tuple #[z,.int .i64 r]) (Pl.q0) (Pl.q2 (.tmp 27)) (ab z w3 ad) ?_;refine Pl.q1 14 28 (z) (Pl.q0) (Pl.qq (.tmp 14) 0 (fun w=>rfl)) (ab z w3 ad) ?_;refine Pl.q1 15 29 (.int .i64 r) (Pl.q0) (Pl.qq (.tmp 14) 1 (fun w=>rfl)) (ab z w3 ad) ?_;refine Pl.qd 16 W4 (Pl.q0) (Pl.qh 43 (.tmp 3) (.tmp 28) W4 aj) af ?_;refine Pl.q7 (fun A' hA'=>?_);rw [Pl.At.ext hA' ((((((((((((((((hA.put 16 _).put 17 _).put 18 _).put 19 _).put 20 _).put 21 _).put 22 _).put 23 _).put 24 _).put 25 _).put 26 _).put 15 _).put 27 _).put 14 _).put 28 _).put 29 _)];exact hend hA'.fn _ ai
structure GrK (K:Home) (w:World) (vg:Sl) (l:List Ix):Prop where
  len:l.length=vg.len
  big:vg.len≤1000000
  cell:∀i,i<vg.len→∃b off,vg.a=some ⟨b,off,none⟩∧w.cell? ⟨b,off+i*2,none⟩=some (.int .i64 (l.getD i Ix.zero).page)∧w.cell? ⟨b,off+i*2+1,none⟩=some (l.getD i Ix.zero).s.val
  bs:∀x∈l,BsS K w x.s x.bs
theorem GrK.keep {w':World}{vg:Sl}{l:List Ix}(h:GrK K w vg l)(hb:Below w.heap.size w w'):GrK K w' vg l:=by
 refine⟨h.len,h.big,fun i hi=>?_,fun x hx=>(h.bs x hx).keep hb (Nat.le_refl _)⟩;obtain⟨b,off,ha,c0,c1⟩:=h.cell i hi;exact⟨b,off,ha,(hb.cell (World.block_lt_of_cell? w _ c0)).trans c0,(hb.cell (World.block_lt_of_cell? w _ c1)).trans c1⟩
theorem Zpk (hI:RpIn K w n tot m P d Ld v s)(hF:P.Fine n c)(ht:tot≤40000)(hm:m≤890)(x:Ix)(hx:BsS K w x.s x.bs)(hl:x.s.len=512)(z:Int):Calls Tryz.prog 83 #[rV d Ld v P.h s P.sy,.int .i64 x.page,x.s.val,.int .i64 z] w fun e w'=>∃y,e=.returned (.tuple #[y,.int .i64 (if 0≤x.page∧x.page<(n:Int) then 0 else 3)])∧Below w.heap.size w w'∧Zay K n tot (m+4) (P.putA n x.im z) y w':=by
 unfold Po.putA;by_cases hp:0≤x.page∧x.page<(n:Int)
 · rw [if_pos hp,if_pos (show 0≤x.im.page∧x.im.page<(n:Int) from hp)];(have hk:x.page=(x.page.toNat:Int):=by omega);have:=Znv hI hF ht hm x.page.toNat (by omega) x.s x.bs hx hl z;rw [← hk] at this;refine this.mono ?_;rintro e w' ⟨hb,y,rfl,h⟩;exact⟨y,rfl,hb,h⟩
 · rw [if_neg hp,if_neg (show ¬(0≤x.im.page∧x.im.page<(n:Int)) from hp)];refine(Zks hI hF.wet.dev.n2 x.page x.s.val (.int .i64 z) hp).mono ?_;rintro e w' ⟨hb,y,rfl,d',Ld',v',s',q1,q2⟩;exact⟨y,rfl,hb,d',Ld',v',s',q1,⟨q2.dv,q2.rel,q2.good.more (by omega),q2.ck,q2.sh,q2.low⟩⟩
def PmI (K:Home) (w wr:World) (n tot m:Nat) (Q:Po):Prop:=∃d Ld v s,Rx w wr (w.heap.size+1) d Ld v Q.h s Q.sy∧RpIn K wr n tot m Q d Ld v s
theorem Zfh (hI:RpIn K w n tot m P d Ld v s)(hF:P.Fine n c)(ht:tot≤40000)(vg:Sl)(l:List Ix)(hg:GrK K w vg l)(hl:∀x∈l,x.bs.length=512∧Bytes x.bs)(hm:m+4*l.length≤890)(hc:c+4*l.length≤9000)(z:Int):Calls Tryz.prog 44 #[rV d Ld v P.h s P.sy,vg.val,.int .i64 z] w fun e w'=>Below w.heap.size w w'∧∃x,e=.returned x∧Zay K n tot (m+4*l.length) (P.puts n (ims l) z) x w':=by
 obtain⟨va,len,vc⟩:=vg;have ag:l.length=len:=hg.len;have bi:len≤1000000:=hg.big;obtain⟨W0,am⟩:∃W,W=((w.alloc (.cells (Zah d Ld v P.h s P.sy) 43)).alloc (.cells (Zah dv0 dvl0 Sl.nil 0 Sl.nil 0) 43)):=⟨_,rfl⟩;(have hX:Rx w W0 (w.heap.size+1) d Ld v P.h s P.sy:=by rw [am];exact ZbA w d Ld v P.h s P.sy);have al:Hid (PmI K w W0 n tot (m+4*0) (P.puts n (ims (l.take 0)) z)):=⟨d,Ld,v,s,hX,hI.keep hX.e⟩;rw [am,Zb9] at al;have HG:=hide hg;have HF:=hide hF;have HL:=hide hl;have HT:=hide ht;have HM:=hide hm;have HC:=hide hc;have ac:=hide ag;clear hX am hI hF hg hl ht hm hc ag;unfold rV Sl.val;simp only;go_enter Tryz.func44,Tryz.ntmps44;go_wp2_with fail;go_loopw [7] (fun iv wr=>∃k:Nat,k≤len∧iv=.int .i64 k∧Hid (PmI K w wr n tot (m+4*k) (P.puts n (ims (l.take k)) z))) (fun iv _=>len-(intOf iv).toNat)
 case atStart=>exact ⟨0,by omega,rfl,al⟩
 case round =>
  obtain⟨k,hk,rfl,hP⟩:=hrel;clear al;rcases Nat.lt_or_ge k len with aj | bl
  · obtain⟨d1,Ld1,v1,s1,ab,ae⟩:=hP.out;obtain⟨b,off,ha,q0,q1⟩:=HG.out.cell k aj;simp only at ha;subst ha;have aq:b<w.heap.size:=World.block_lt_of_cell? w _ q0;have ad:l.getD k Ix.zero∈l:=ZcC _ (by rw [ac.out];exact aj);have ak:=Zgv P n l z k (by rw [ac.out];exact aj);have ai:=HG.out.bs _ ad;have ao:=(HL.out _ ad).1;have aw:(P.puts n (ims (l.take k)) z).Fine n (c+4*k):=by
     (have ba:(ims (l.take k)).length=k:=by rw [Zal,List.length_take,ac.out];omega);have:=HF.out.puts (z:=z) (ims (l.take k)) (by rw [ba];have:=HC.out;rw [ac.out] at this;omega) (fun i hi=>by
      obtain⟨x,hx,rfl⟩:=List.mem_map.1 hi;exact(HL.out x (List.mem_of_mem_take hx)).1) (fun i hi=>by
      obtain⟨x,hx,rfl⟩:=List.mem_map.1 hi;exact(HL.out x (List.mem_of_mem_take hx)).2)
     rw [ba] at this;exact this
    obtain⟨x,hx⟩:∃x,x=l.getD k Ix.zero:=⟨_,rfl⟩;rw [← hx] at q0 q1 ak ai ao;obtain⟨q,⟨sa,sl,sc⟩,bs⟩:=x;(have bj:sl=512:=by have h6:=ai.len;simp only at h6 ao;omega);subst bj;have aa:∀w',Below w.heap.size w w'→w'.cell? ⟨b,off+k*2,none⟩=some (.int .i64 q)∧w'.cell? ⟨b,off+k*2+1,none⟩=some (.slice sa 512 sc):=fun w' hb=>⟨(hb.cell aq).trans q0,(hb.cell aq).trans q1⟩;have af:=ab.keep (Zad wr);have bb:=Zpk (ae.keep (Zad wr)) aw HT.out (by have:=HM.out;rw [ac.out] at this;omega) ⟨q,⟨sa,512,sc⟩,bs⟩ (ai.keep af.e (Nat.le_refl _)) rfl z;have HR:Hid (∀{Q:Exit→Act→World→Prop} {A:Act},_):=fun {Q A}=>Zo2 wr w.heap.size b off len vc k aj z q sa sc _ d1 Ld1 v1 _ s1 _ (fun y w3=>Below wr.drew.heap.size wr.drew w3∧Zay K n tot (m+4*k+4) ((P.puts n (ims (l.take k)) z).putA n ⟨q,bs⟩ z) y w3) (fun W=>PmI K w W n tot (m+4*(k+1)) (P.puts n (ims (l.take (k+1))) z)) (aa wr ab.e) af.b bb (fun y w3 h3=>aa w3 (af.keep h3.1).e) (fun y w3 h3=>by
     obtain⟨bh,d2,Ld2,v2,s2,rfl,bg⟩:=h3;have an:=af.keep bh;obtain⟨W,bk,ap,hf,bm⟩:=stR an.b d2 Ld2 v2 ((P.puts n (ims (l.take k)) z).putA n ⟨q,bs⟩ z).h s2 ((P.puts n (ims (l.take k)) z).putA n ⟨q,bs⟩ z).sy;have ax:=an.turn ap hf;refine⟨W,bk,aa W ax.e,d2,Ld2,v2,s2,?_,?_⟩
     · rw [ak];exact ax
     · rw [ak,show m+4*(k+1)=m+4*k+4 by omega];exact bg.box hf ⟨_,_,_,_,_,_,an.b⟩) (Q:=Q) (A:=A)
    (have i3:(k:Int)<(len:Int):=by omega);clear hx ak aw ai ao ad ab ae af bb aa aq q0 q1 hP;go_wp2_with fail;refine Pl.q8 (ops:=Pl.find 4 ((Tryz.f44.body).getD .skip)) ?_;refine HR.out (by rfl) (by rfl) (by rfl) (by rfl) (by rfl) (by rfl) (fun u w2 bc=>?_);have bf:=hide bc;clear bc HR;simp only [Act.put,List.setIfInBounds_toArray,List.set_cons_zero,List.set_cons_succ];go_wp2_with fail;go_roundw
    case rel=>exact ⟨k+1,by omega,by go_num,bf⟩
    case measure=>simp only [intOf];omega
  · (obtain rfl:k=len:=by omega);(have i3:¬(k:Int)<(k:Int):=by omega);have hP':=hP.out;rw [List.take_of_length_le (by rw [ac.out];exact Nat.le_refl _),← ac.out] at hP';obtain⟨d1,Ld1,v1,s1,ab,ae⟩:=hP';obtain⟨W4,ah,ay,av,az⟩:=ab.tell d1 Ld1 v1 (P.puts n (ims l) z).h s1 (P.puts n (ims l) z).sy;have ar:=hide (ldR ab.b);have au:=hide ah;have bd:=hide ay;have be:=hide av;have HE:Hid (RpIn K W4 n tot (m+4*l.length) (P.puts n (ims l) z) d1 Ld1 v1 s1):=by
     obtain⟨d',Ld',v',h',s',sy',q⟩:=ab.ans;exact ae.box az ⟨_,_,_,_,_,_,q⟩
    unfold rV at ar au;clear ab ae ah ay av az hP;go_wp2_with (first | refine Zac _ rfl 43 (.tmp 3) rfl (.pointer (some ⟨w.heap.size,0,none⟩)) _ rfl ar.out ?_ | refine Zab _ rfl rfl 43 (.tmp 6) (.tmp 30) rfl (.pointer (some ⟨w.heap.size+1,0,none⟩)) _ rfl rfl W4 au.out ?_);refine bodyPost_ret (Zaw rfl bd.out _ rfl) rfl ?_;exact⟨be.out,_,rfl,d1,Ld1,v1,s1,rfl,HE.out⟩
theorem ZdJ:∀args w,(callFunc 54 args).run Tryz.prog w=.ok (.enter 54 args) w:=Pl.ql Tryz.func54
theorem Zed:∀args w,(callFunc 62 args).run Tryz.prog w=.ok (.enter 62 args) w:=Pl.ql Tryz.func62
theorem Zpp (w:World)(g:Nat)(fin:Int)(dd:Dv)(Ld:DvL)(v:Sl)(h:Int)(s:Sl)(sy:Int)(R1:World→Prop)(R2:Value→World→Prop)(R3:World→Prop)(h0:(fun (w':World)=>RBlk w' g dd Ld v h s sy) w.drew)(ah:Calls Tryz.prog 54 #[rV dd Ld v h s sy] w.drew fun e w2=>e=.returned (.int .i64 fin)∧R1 w2)(ag:∀w2,R1 w2→(fun (w':World)=>RBlk w' g dd Ld v h s sy) w2)(ab:∀w2,R1 w2→Calls Tryz.prog 62 #[dd.val Ld,.int .i64 fin] w2 fun e w3=>∃z,e=.returned (.tuple #[z,.int .i64 0])∧R2 z w3)(aa:∀z w3,R2 z w3→∃W,(Instr.storeAt 37 (.pointer (some ⟨g,0,none⟩)) z).run Tryz.prog w3=.ok () W∧R3 W)
    {Q:Exit→Act→World→Prop}{A:Act}(aj:A.tmps.size=17)(ai:A.defers=[])(s1:A.tmps.getD 1 undef=.pointer (some ⟨g,0,none⟩))
    (hend:∀(u:Nat→Value) w',R3 w'→Q .normal ((((((((((A).put (some 7) (u 7)).put (some 8) (u 8)).put (some 9) (u 9)).put (some 10) (u 10)).put (some 11) (u 11)).put (some 6) (u 6)).put (some 12) (u 12)).put (some 13) (u 13)).put (some 14) (u 14)) w') :
    (Code.region 2 (Pl.find 2 ((Tryz.f19.body).getD .skip)) true).wp Tryz.prog Q A w:=by
  have hA:=Pl.At.same (v:=.pointer (some ⟨g,0,none⟩)) (d:=1) (Pl.At.here aj ai) s1;refine Pl.qa (S:=fun _=>True) hA trivial ?_;rw [show (Pl.find 2 ((Tryz.f19.body).getD .skip)).size=10 by kernel_rfl];refine Pl.q1 0 7 (.pointer (some ⟨g,0,none⟩)) (Pl.q0) (Pl.q4 43 (.tmp 1) 0 (Ziw g)) trivial ?_;refine Pl.qr 1 2 ?_ ?_
  · refine Pl.qe 1 8 (dd.val Ld) w.drew (Pl.q_36 37 (.tmp 7) (ldRD h0)) trivial ?_;refine Pl.qf 2 9 (rV dd Ld v h s sy) w.drew (Pl.q0) (Pl.q_36 43 (.tmp 1) (ldR h0)) trivial ?_;refine Pl.qc 3 10 54 [(.tmp 9)] #[43] (Pl.q0) ZdJ (Calls.mono (ah) ?_);rintro e w2 ⟨rfl,ac⟩;refine⟨.int .i64 fin,rfl,trivial,?_⟩;refine Pl.qc 4 11 62 [(.tmp 8),(.tmp 10)] #[37,3] (Pl.q0) Zed (Calls.mono (ab w2 ac) ?_);rintro e w3 ⟨z,rfl,ad⟩;obtain⟨W4,af,ae⟩:=aa z w3 ad;refine⟨.tuple #[z,.int .i64 0],rfl,trivial,?_⟩;refine Pl.q1 5 6 (.tuple #[z,.int .i64 0]) (Pl.q0) (Pl.q2 (.tmp 11)) trivial ?_;refine Pl.q1 6 12 (z) (Pl.q0) (Pl.qq (.tmp 6) 0 (fun w=>rfl)) trivial ?_;refine Pl.q1 7 13 (.int .i64 0) (Pl.q0) (Pl.qq (.tmp 6) 1 (fun w=>rfl)) trivial ?_;refine Pl.q1 8 14 (.pointer (some ⟨g,0,none⟩)) (Pl.q0) (Pl.q4 43 (.tmp 1) 0 (Ziw g)) trivial ?_;refine Pl.qd 9 W4 (Pl.q0) (Pl.qh 37 (.tmp 14) (.tmp 12) W4 af) trivial ?_;refine Pl.q7 (fun A' hA'=>?_);rw [Pl.At.ext hA' (((((((((hA.put 7 _).put 8 _).put 9 _).put 10 _).put 11 _).put 6 _).put 12 _).put 13 _).put 14 _)];exact hend hA'.fn _ ae
  · refine Pl.qe 2 9 (rV dd Ld v h s sy) w.drew (Pl.q_36 43 (.tmp 1) (ldR h0)) trivial ?_;refine Pl.qr 1 3 ?_ ?_
    · refine Pl.qe 1 8 (dd.val Ld) w.drew (Pl.q_36 37 (.tmp 7) (ldRD h0)) trivial ?_;rw [Pl.qi 9 8];refine Pl.qc 3 10 54 [(.tmp 9)] #[43] (Pl.q0) ZdJ (Calls.mono (ah) ?_);rintro e w2 ⟨rfl,ac⟩;refine⟨.int .i64 fin,rfl,trivial,?_⟩;refine Pl.qc 4 11 62 [(.tmp 8),(.tmp 10)] #[37,3] (Pl.q0) Zed (Calls.mono (ab w2 ac) ?_);rintro e w3 ⟨z,rfl,ad⟩;obtain⟨W4,af,ae⟩:=aa z w3 ad;refine⟨.tuple #[z,.int .i64 0],rfl,trivial,?_⟩;refine Pl.q1 5 6 (.tuple #[z,.int .i64 0]) (Pl.q0) (Pl.q2 (.tmp 11)) trivial ?_;refine Pl.q1 6 12 (z) (Pl.q0) (Pl.qq (.tmp 6) 0 (fun w=>rfl)) trivial ?_;refine Pl.q1 7 13 (.int .i64 0) (Pl.q0) (Pl.qq (.tmp 6) 1 (fun w=>rfl)) trivial ?_;refine Pl.q1 8 14 (.pointer (some ⟨g,0,none⟩)) (Pl.q0) (Pl.q4 43 (.tmp 1) 0 (Ziw g)) trivial ?_;refine Pl.qd 9 W4 (Pl.q0) (Pl.qh 37 (.tmp 14) (.tmp 12) W4 af) trivial ?_;refine Pl.q7 (fun A' hA'=>?_);rw [Pl.At.ext hA' (((((((((hA.put 7 _).put 8 _).put 9 _).put 10 _).put 11 _).put 6 _).put 12 _).put 13 _).put 14 _)];exact hend hA'.fn _ ae
    · refine Pl.q_37 3 10 54 [(.tmp 9)] #[43] ZdJ (Calls.mono (ah) ?_);rintro e w2 ⟨rfl,ac⟩;refine⟨.int .i64 fin,rfl,trivial,?_⟩;refine Pl.qf 1 8 (dd.val Ld) w2 (Pl.q0) (Pl.q_36 37 (.tmp 7) (ldRD (ag w2 ac))) trivial ?_;rw [Pl.qi 10 8];rw [Pl.qi 9 8];refine Pl.qc 4 11 62 [(.tmp 8),(.tmp 10)] #[37,3] (Pl.q0) Zed (Calls.mono (ab w2 ac) ?_);rintro e w3 ⟨z,rfl,ad⟩;obtain⟨W4,af,ae⟩:=aa z w3 ad;refine⟨.tuple #[z,.int .i64 0],rfl,trivial,?_⟩;refine Pl.q1 5 6 (.tuple #[z,.int .i64 0]) (Pl.q0) (Pl.q2 (.tmp 11)) trivial ?_;refine Pl.q1 6 12 (z) (Pl.q0) (Pl.qq (.tmp 6) 0 (fun w=>rfl)) trivial ?_;refine Pl.q1 7 13 (.int .i64 0) (Pl.q0) (Pl.qq (.tmp 6) 1 (fun w=>rfl)) trivial ?_;refine Pl.q1 8 14 (.pointer (some ⟨g,0,none⟩)) (Pl.q0) (Pl.q4 43 (.tmp 1) 0 (Ziw g)) trivial ?_;refine Pl.qd 9 W4 (Pl.q0) (Pl.qh 37 (.tmp 14) (.tmp 12) W4 af) trivial ?_;refine Pl.q7 (fun A' hA'=>?_);rw [Pl.At.ext hA' (((((((((hA.put 7 _).put 8 _).put 9 _).put 10 _).put 11 _).put 6 _).put 12 _).put 13 _).put 14 _)];exact hend hA'.fn _ ae
theorem RpIn.trimD {W:World}{d':Dv}{L1:DvL}(hI:RpIn K w n tot m P d Ld v s)(ht:tot≤40000)(hb:Below w.heap.size w W)(hD:DvIn K W d' L1)(ha:d'.abs=d.abs.act ⟨-1,[],true,P.D.fin⟩):RpIn K W n tot (m+1) P.trimM d' L1 v s:=by
 have hg:=hI.good.act ⟨-1,[],true,P.D.fin⟩ (.cut rfl rfl rfl (by
  show d.abs.now.base≤P.D.fin;unfold Ds.fin;rw [hI.rel.sb];have:=hI.good.nb0;omega) (by
  show P.D.fin-d.abs.now.base≤d.abs.now.st.length;unfold Ds.fin;rw [hI.rel.sb,hI.rel.ss];have:=hI.good.nb0;omega)) ht
 refine⟨hD,by rw [ha];exact hI.rel.trim hI.good.nb0 _,by rw [ha];exact hg,hI.ck.below hb (Nat.le_refl _),?_,Nat.le_trans hI.low hb.size⟩;rw [show P.trimM.inl n=P.inl n from Zb8 (fun _=>rfl)];exact hI.sh.keep hb
theorem Zer (hI:RpIn K w n tot m P d Ld v s)(hF:P.Fine n c)(ht:tot≤40000)(hn:n≤64)(hm:m+4*(P.inn n).length≤890)(ah:(P.inn n).length≤64):Calls Tryz.prog 19 #[rV d Ld v P.h s P.sy] w fun e w'=>Below w.heap.size w w'∧∃x,e=.returned x∧Zay K n tot (m+4*(P.inn n).length+1) (P.check n) x w':=by
 obtain⟨W0,ag⟩:∃W,W=((w.alloc (.cells (Zah d Ld v P.h s P.sy) 43)).alloc (.cells (Zah dv0 dvl0 Sl.nil 0 Sl.nil 0) 43)):=⟨_,rfl⟩
 have hX:Rx w W0 (w.heap.size+1) d Ld v P.h s P.sy:=by rw [ag];exact ZbA w d Ld v P.h s P.sy
 have HX:=hide hX
 have bb:=hide (ldR hX.b)
 have ap:=hide (ZiF (hI.keep hX.e) hF ht hm ah)
 rw [Zb9] at ag
 have aa:=bb
 rw [ag] at aa
 have bs:=hide ag
 have HT:=hide ht
 have HN:=hide hn
 have HM:=hide hm
 clear hX ag hI hF ht hm ah hn
 unfold rV at aa ap ⊢
 go_enter Tryz.func19,Tryz.ntmps19
 go_wp2_with (refine Zac _ rfl 43 (.tmp 1) rfl (.pointer (some ⟨w.heap.size,0,none⟩)) _ rfl aa.out ?_)
 rw [← bs.out]
 refine ap.out.mono ?_
 rintro e w1 ⟨bk,x1,rfl,d1,L1,v1,s1,rfl,bf⟩
 have bj:=HX.out.keep bk
 have ar:=hide (Zd4 bf HT.out)
 have bd:=hide bj
 clear bk bj bf aa bb ap HX
 unfold rV at ar ⊢
 go_wp2_with fail
 refine ar.out.mono ?_
 rintro e w2 ⟨bl,x2,rfl,d2,L2,v2,s2,rfl,bg⟩
 have am:=bd.out.keep bl
 obtain⟨W2,ai,ac,ba,bv⟩:=stR am.b d2 L2 v2 (P.flush n).syncM.h s2 (P.flush n).syncM.sy
 have af:=am.turn ac ba
 have ae:=bg.box ba ⟨_,_,_,_,_,_,am.b⟩
 have ak:=hide ai
 clear bl am ai ac ba bv bg ar bd
 obtain⟨Q,hQ⟩:∃Q,Q=(P.flush n).syncM:=⟨_,rfl⟩
 rw [← hQ] at af ae ak ⊢
 have HQ:=hide hQ
 -- region 2
 have an:=af.keep (Zad W2)
 have al:=ae.keep (Zad W2)
 have HR:Hid (∀{Q':Exit→Act→World→Prop} {A:Act},_):=fun {Q' A}=>Zpp W2 w.heap.size Q.D.fin d2 L2 v2 Q.h s2 Q.sy (fun w3=>Below W2.drew.heap.size W2.drew w3) (fun z w4=>Below W2.drew.heap.size W2.drew w4∧∃d4 L4,z=d4.val L4∧DvIn K w4 d4 L4∧d4.abs=d2.abs.act ⟨-1,[],true,Q.D.fin⟩) (fun W=>∃d4 L4,Rx w W (w.heap.size+1) d4 L4 v2 Q.h s2 Q.sy∧RpIn K W n tot (m+4*(P.inn n).length+1) Q.trimM d4 L4 v2 s2) an.b ((Zgw al HT.out).mono (fun e w3 h3=>⟨h3.2,h3.1⟩)) (fun w3 h3=>(an.keep h3).b) (fun w3 h3=>by
  have ab:=al.keep h3
  have bz:0≤d2.now.base:=ab.good.nb0
  have cc:d2.now.base.toNat+d2.now.st.length≤tot:=ab.good.nt
  have hT:=HT.out
  have bu:Q.D.fin=d2.now.base+(d2.now.st.length:Int):=by
   unfold Ds.fin
   rw [ab.rel.sb,ab.rel.ss]
   show ((d2.now.base.toNat+d2.now.st.length:Nat):Int)=_
   omega
  have cb:d2.now.pg.length=512*n:=ab.good.np
  have ca:d2.done.length≤m+4*(P.inn n).length:=by have:=ab.good.len;simpa [Dv.abs] using this
  have hN:=HN.out
  have hM:=HM.out
  refine(ZiK d2 L2 Q.D.fin w3 ab.dv (WalkArith.wf_i64 (by omega)) (by omega) (by omega) (by omega) (by omega) ab.good.mx (by omega)).mono ?_
  rintro e w4 ⟨ao,d4,L4,rfl,au,ay⟩
  exact⟨_,rfl,Zaf h3 ao,d4,L4,rfl,au,ay⟩) (fun z w4 h4=>by
  obtain⟨ao,d4,L4,rfl,au,ay⟩:=h4
  have av:=an.keep ao
  obtain⟨W,bw,az,hf,hs⟩:=stRD av.b d4 L4
  refine⟨W,bw,d4,L4,av.turn az hf,?_⟩
  exact RpIn.box (al.trimD HT.out ao au ay) hf ⟨_,_,_,_,_,_,av.b⟩) (Q:=Q') (A:=A)
 clear af ae an al hQ
 unfold rV at ak ⊢
 go_wp2_with (refine Zab _ rfl rfl 43 (.tmp 1) (.tmp 5) rfl (.pointer (some ⟨w.heap.size,0,none⟩)) _ rfl rfl W2 ak.out ?_)
 refine Pl.q8 (ops:=Pl.find 2 ((Tryz.f19.body).getD .skip)) ?_
 refine HR.out (by rfl) (by rfl) (by rfl) (fun u w5 bx=>?_)
 obtain⟨d5,L5,aw,bh⟩:=bx
 have ad:=hide (Zd4 bh HT.out)
 have aq:=hide (ldR aw.b)
 have bt:=hide aw
 clear aw bh HR ak
 unfold rV at ad aq
 simp only [Act.put,List.setIfInBounds_toArray,List.set_cons_zero,List.set_cons_succ]
 go_wp2_with (refine Zac _ rfl 43 (.tmp 1) rfl (.pointer (some ⟨w.heap.size,0,none⟩)) _ rfl aq.out ?_)
 refine ad.out.mono ?_
 rintro e w6 ⟨bm,x6,rfl,d6,L6,v6,s6,rfl,bi⟩
 have ax:=bt.out.keep bm
 obtain⟨W7,aj,bn,be,bo⟩:=ax.tell d6 L6 v6 Q.trimM.syncM.h s6 Q.trimM.syncM.sy
 have bc:=hide aj
 have bp:=hide bn
 have bq:=hide be
 have HE:Hid (RpIn K W7 n tot (m+4*(P.inn n).length+1) (P.check n) d6 L6 v6 s6):=by
  obtain⟨d',Ld',v',h',s',sy',q⟩:=ax.ans
  have:=bi.box bo ⟨_,_,_,_,_,_,q⟩
  rw [HQ.out] at this
  exact this
 have br:Hid (P.check n=Q.trimM.syncM):=by rw [HQ.out];rfl
 unfold rV at bc ⊢
 clear bm ax bi aj bn be bo ad aq
 go_wp2_with (refine Zab _ rfl rfl 43 (.tmp 2) (.tmp 16) rfl (.pointer (some ⟨w.heap.size+1,0,none⟩)) _ rfl rfl W7 bc.out ?_)
 refine bodyPost_ret (Zaw rfl bp.out _ rfl) rfl ?_
 exact⟨bq.out,_,rfl,d6,L6,v6,s6,by rw [br.out],HE.out⟩
end Go.Proofs.YtpnlebpnhmibfaaGreat
