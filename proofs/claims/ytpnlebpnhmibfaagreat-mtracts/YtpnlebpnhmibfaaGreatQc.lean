/-
  Lemmas.
-/
import Derived.Test.YtpnlebpnhmibfaaGreatRd
import Derived.Test.YtpnlebpnhmibfaaGreatQb
import Derived.Test.YtpnlebpnhmibfaaGreatMb
namespace Go.Proofs.YtpnlebpnhmibfaaGreat
open Go.RowKit
set_option linter.unusedVariables false
set_option maxRecDepth 100000
set_option maxHeartbeats 4000000
variable {n i g tot m f base c k:Nat}{w wr:World}{D:Ds}{L:List Gp}{xs:List Nat}{v rv:Sl}{d:Dv}{Ld:DvL}
theorem Zk0 (w:World)(a:Option Addr)(len cap:Nat)(xs:List Nat)(h:Came w a len cap xs)(hm:len≤100000) :
    Calls Tryz.prog 42 #[.slice a len cap] w fun e w'=>ZiW (fun k=>(∃ad,a=some ad∧k=ad.block∧k<w.heap.size)∨w.heap.size≤k) w xs e w':=by
  have HX:=hide h.bs.1;have H:=hide h;have ba:=hide (GS.new (fun k=>(∃ad,a=some ad∧k=ad.block∧k<w.heap.size)∨w.heap.size≤k) w.heap.size w (Nat.le_refl _));have HR:=hide (Zaa w (.cells #[] 52));clear h;go_enter Tryz.func42,Tryz.ntmps42;go_wp2_with fail;go_loopw [4,5,6] (fun gv tv iv wr=>∃(i t:Nat) (v:Sl) (L:List Gp),t≤len∧2*i≤t∧Hid (t=rowAt xs i)∧tv=.int .i64 (t:Nat)∧iv=.int .i64 (i:Nat)∧gv=v.val∧Hid (v.len=i)∧Hid (GS (fun k=>(∃ad,a=some ad∧k=ad.block∧k<w.heap.size)∨w.heap.size≤k) w.heap.size wr v L)∧Hid (gims L=ZcJ xs i)∧Hid (∀j,j<i→rowOk xs j)∧Hid (Below w.heap.size w wr)) (fun _ tv _ _=>len-(intOf tv).toNat)
  case atStart=>exact ⟨0,0,⟨some ⟨w.heap.size,0,none⟩,0,0⟩,[],by omega,by omega,hide rfl,rfl,rfl,rfl,hide rfl,ba,hide rfl,hide (fun j hj=>absurd hj (Nat.not_lt_zero j)),HR⟩
  case round =>
   obtain⟨i,t,v,L,ht,bn,ae,rfl,rfl,rfl,af,hg,au,ax,hW⟩:=hrel;have ao:Came wr a len cap xs:=⟨H.out.bs.keep hW.out (Nat.le_refl _),H.out.nil,H.out.le,H.out.big⟩;have HF:=hide (ZiM wr _ _ _ _ (ao.from_ t ht) (by omega) (fun k=>∃ad,a=some ad∧k=ad.block∧k<w.heap.size) (fun ad ha bm=>by
    obtain⟨ad',h1,h2⟩:=Zei ha;refine⟨ad',h1,h2.symm,?_⟩;obtain⟨b,off,h3,hc⟩:=H.out.bs.2.2 0 (by omega);rw [h1] at h3;cases h3;rw [← h2];exact World.block_lt_of_cell? w _ hc))
   have ac:∀w:World,(Instr.sliceAt 32 (.slice a len cap) (some (.int .i64 (t:Int))) none none).run Tryz.prog w=.ok (.slice (fromA a cap t) (len-t) (cap-t)) w:=Zbc a len cap t ht;have ak:=hide ac;(have i1:(i:Int)≤(len:Int):=by omega);clear ac ao;obtain⟨va,vl,vc⟩:=v;replace af:Hid (vl=i):=af;unfold Sl.val;simp only;go_wp2_with (refine Zbs _ rfl 32 (.tmp 18) (some (.tmp 19)) none rfl (.slice (fromA a cap t) (len-t) (cap-t)) (ak.out _) ?_);refine HF.out.mono ?_;rintro e w1 ⟨v1,l1,rfl,al,am,ag⟩;have ah:=hide (Zaf hW.out ag);have HG:=hide (hg.out.keep ag);have HV:Hid (∀k,(Sl.mk va vl vc).blk=some k→w.heap.size≤k∧k<wr.heap.size):=fun k hk=>⟨hg.out.blk k hk,hg.out.own.lt hk⟩;have bb:=hide al;have be:Hid (ims l1=rowG xs i):=by
    show _=_;rw [am,ae.out];rfl
   have bj:Hid (w.heap.size≤wr.heap.size):=hW.out.size;rcases dec_e (b:=xs.drop t) with he | ⟨he,_,_⟩
   · have ab:=Zec he;rw [List.length_drop,HX.out] at ab;obtain⟨q,hq⟩:∃q,q=(dec (xs.drop t)).n:=⟨_,rfl⟩;have aj:Hid (rowOk xs i):=by
      show (dec (xs.drop (rowAt xs i))).e=0;rw [← ae.out];exact he
     have bi:Hid (t+q=rowAt xs (i+1)):=by
      show t+q=rowAt xs i+(dec (xs.drop (rowAt xs i))).n;rw [hq,← ae.out]
     rw [he,← hq];rw [← hq] at ab;have bo:2≤q:=ab.1;have bp:q≤len-t:=ab.2.1;clear ab hq he am al ag;obtain⟨xa,xl,xc⟩:=v1;unfold Sl.val;simp only;have ai:Hid ((Sl.mk va vl vc).len+1≤1000000):=by
      have h2:=af.out;show vl+1≤1000000;omega
     have ay:Gr (fun k=>((∃ad,a=some ad∧k=ad.block∧k<w.heap.size)∨w.heap.size≤k)∧(Sl.mk va vl vc).blk≠some k) w1 ⟨xa,xl,xc⟩ l1:=bb.out.mono (fun k hk _=>by
      rcases hk with ⟨ad,ha,hk,bl⟩ | hk
      · exact⟨.inl ⟨ad,ha,hk,bl⟩,fun e=>by have:=HV.out k e;omega⟩
      · exact⟨.inr (Nat.le_trans bj.out hk),fun e=>by have:=HV.out k e;omega⟩)
     have bk:=hide ay;clear ay;go_wp2_with (at_builtin;refine ZdI w1 ⟨⟨xa,xl,xc⟩,l1⟩ rfl (.tmp 29) (.tmp 31) rfl ⟨va,vl,vc⟩ L rfl rfl HG.out.own ai.out ?_);intro v2 w2 aw av aq an;obtain⟨ar,aa⟩:=HG.out.add (x:=⟨⟨xa,xl,xc⟩,l1⟩) bk.out aw aq an ah.out.size;have bc:=hide ar;have az:=hide (ah.out.trans aa);have bf:Hid (v2.len=i+1):=by
      show _=_;rw [av];show vl+1=_;rw [af.out]
     have bg:Hid (gims (L ++ [⟨⟨xa,xl,xc⟩,l1⟩])=ZcJ xs (i+1)):=by
      show _=_;rw [ZgO,au.out,Zhi];show _ ++ [ims l1]=_;rw [be.out]
     clear ar aa aw aq an av;go_wp2_with fail;go_roundw
     case rel=>exact ⟨i+1,t+q,v2,_,by omega,by omega,bi,by go_num,by go_num,rfl,bf,bc,bg,hide (fun j hj=>by
      rcases Nat.lt_or_ge j i with h | h
      · exact ax.out j h
      · (obtain rfl:j=i:=by omega);exact aj.out),az⟩
     case measure=>simp only [intOf];omega
   · obtain⟨er,ap⟩:∃er,er=(dec (xs.drop t)).e:=⟨_,rfl⟩;have bh:Hid (¬rowOk xs i):=by
      show ¬(dec (xs.drop (rowAt xs i))).e=0;rw [← ae.out];exact he
     rw [← ap] at he ⊢;(have i7:((er:Int) != 0)=true:=by rw [bne_iff_ne];omega);have bd:=HG;clear ap am al ag;obtain⟨xa,xl,xc⟩:=v1;unfold Sl.val;simp only;go_wp2_with fail;go_ret2;refine⟨⟨va,vl,vc⟩,L,i,?_,bd.out,af.out,au.out,ax.out,bh.out,ah.out⟩;rw [← ae.out];rfl
noncomputable def Po.repTo (P:Po) (n:Nat) (xs:List Nat) (z:Int):Nat→Po
  | 0=>P
  | i+1=>(Po.repTo P n xs z i).puts n (rowG xs i) (z+((rowAt xs (i+1):Nat):Int))
theorem Zm2 {P:Po}{z:Int}(ab:∀j,j<i→rowOk xs j)(aa:¬rowOk xs i):∀(r k f:Nat),k+r=i→r<f→Po.rep n f (P.repTo n xs z k) (z+((rowAt xs k:Nat):Int)) (xs.drop (rowAt xs k))=P.repTo n xs z i
 | 0,k,f,h,hf=>by
  obtain⟨f,rfl⟩:∃g,f=g+1:=⟨f-1,by omega⟩
  obtain rfl:k=i:=by omega
  unfold Po.rep
  rw [if_neg (show ¬(dec (xs.drop (rowAt xs k))).e=0 from aa)]
 | r+1,k,f,h,hf=>by
  obtain⟨f,rfl⟩:∃g,f=g+1:=⟨f-1,by omega⟩
  unfold Po.rep
  rw [if_pos (show (dec (xs.drop (rowAt xs k))).e=0 from ab k (by omega)),← Zm2 ab aa r (k+1) f (by omega) (by omega)]
  have e1:z+((rowAt xs k:Nat):Int)+(((dec (xs.drop (rowAt xs k))).n:Nat):Int)=z+((rowAt xs (k+1):Nat):Int):=by
   show _=z+((rowAt xs k+(dec (xs.drop (rowAt xs k))).n:Nat):Int);omega
  rw [e1,List.drop_drop];rfl
theorem Zkj (aa:∀j,j<i→rowOk D.ss j)(ab:¬rowOk D.ss i):Po.opened D n f=((Po.new D f).repTo n D.ss (D.sb:Int) i).check n:=by
 have h:=Zm2 (P:=Po.new D f) (n:=n) (z:=(D.sb:Int)) aa ab i 0 (D.ss.length+1) (by omega) (by have:=(ZcE i aa);omega);unfold Po.opened;rw [← h];simp only [rowAt,Po.repTo,List.drop_zero,Int.natCast_zero,Int.add_zero];try rfl
theorem Zky (h:rowOk xs i):(recd (rowG xs i)).length=(dec (xs.drop (rowAt xs i))).n:=by
 unfold rowG;rw [ZaO (Zec h).2.2.len,Zfv h]
theorem GrK.of {K:Home}{D:Nat→Prop}{l:List Ix}(h:Gr D w v l)(hD:∀k,D k→K.G k)(aa:K.low≤w.heap.size):GrK K w v l:=
 ⟨h.len,h.big,h.cell,fun x hx=>⟨(h.bs x hx).came,aa,fun hp ad ha=>hD _ ((h.bs x hx).home ad ha hp)⟩⟩
theorem Zpq (w:World)(gb ib io len cap k:Nat)(hk:k<len)(pz:Int)(gs:Sl)(dd:Dv)(Ld:DvL)(v:Sl)(h:Int)(s:Sl)(sy:Int)(R2:Value→World→Prop)(R3:World→Prop)(h0:(fun (w':World)=>w'.cell? ⟨ib,io+k,none⟩=some gs.val) w.drew)(ag:RBlk w.drew gb dd Ld v h s sy)(ad:Calls Tryz.prog 44 #[rV dd Ld v h s sy,gs.val,.int .i64 pz] w.drew fun e w3=>∃z,e=.returned z∧R2 z w3)(ac:∀z w3,R2 z w3→(fun (w':World)=>w'.cell? ⟨ib,io+k,none⟩=some gs.val) w3)(ab:∀z w3,R2 z w3→∃W,(Instr.storeAt 43 (.pointer (some ⟨gb,0,none⟩)) z).run Tryz.prog w3=.ok () W∧(fun (w':World)=>w'.cell? ⟨ib,io+k,none⟩=some gs.val) W∧R3 W)
    {Q:Exit→Act→World→Prop}{A:Act}(ak:A.tmps.size=47)(ah:A.defers=[])(s5:A.tmps.getD 5 undef=.pointer (some ⟨gb,0,none⟩))(s7:A.tmps.getD 7 undef=.slice (some ⟨ib,io,none⟩) len cap)(s9:A.tmps.getD 9 undef=.int .i64 pz)(s10:A.tmps.getD 10 undef=.int .i64 (k:Int))
    (hend:∀(u:Nat→Value) w',R3 w'→Q .normal ((((((((A).put (some 39) (u 39)).put (some 40) (u 40)).put (some 41) (u 41)).put (some 42) (u 42)).put (some 43) (u 43)).put (some 38) (u 38)).put (some 44) (u 44)) w') :
    (Code.region 9 (Pl.find 9 ((Tryz.f11.body).getD .skip)) true).wp Tryz.prog Q A w:=by
  have aa:=(show (fun (w':World)=>w'.cell? ⟨ib,io+k,none⟩=some gs.val) w.drew from h0);have hA:=Pl.At.same (v:=.int .i64 (k:Int)) (d:=10) (Pl.At.same (v:=.int .i64 pz) (d:=9) (Pl.At.same (v:=.slice (some ⟨ib,io,none⟩) len cap) (d:=7) (Pl.At.same (v:=.pointer (some ⟨gb,0,none⟩)) (d:=5) (Pl.At.here ak ah) s5) s7) s9) s10;refine Pl.qa (S:=fun w'=>w'.cell? ⟨ib,io+k,none⟩=some gs.val) hA aa ?_;rw [show (Pl.find 9 ((Tryz.f11.body).getD .skip)).size=8 by kernel_rfl];refine Pl.q1 1 39 (.slice (some ⟨ib,io,none⟩) len cap) (Pl.q0) (Pl.q2 (.tmp 7)) aa ?_;refine Pl.q1 2 40 (.int .i64 (k:Int)) (Pl.q0) (Pl.q2 (.tmp 10)) aa ?_;refine Pl.q1 3 41 (.pointer (some ⟨ib,io+k,none⟩)) (Pl.q0) (Pl.qj 95 (.tmp 39) (.tmp 40) (ixGr ib io len cap k hk)) aa ?_;refine Pl.q1 4 42 (gs.val) (Pl.q0) (Pl.q6 52 (.tmp 41) (fun w' hS=>ldGr ib (io+k) gs w' hS)) aa ?_;refine Pl.q1 5 43 (.int .i64 pz) (Pl.q0) (Pl.q2 (.tmp 9)) aa ?_;refine Pl.qf 0 38 (rV dd Ld v h s sy) w.drew (Pl.q0) (Pl.q_36 43 (.tmp 5) (ldR ag)) aa ?_;refine Pl.qc 6 44 44 [(.tmp 38),(.tmp 42),(.tmp 43)] #[43,52,3] (Pl.q0) Zh7 (Calls.mono (ad) ?_);rintro e w3 ⟨z,rfl,ae⟩;obtain⟨W4,aj,af,ai⟩:=ab z w3 ae;refine⟨z,rfl,(ac z w3 ae),?_⟩;refine Pl.qd 7 W4 (Pl.q0) (Pl.qh 43 (.tmp 5) (.tmp 44) W4 aj) af ?_;refine Pl.q7 (fun A' hA'=>?_);rw [Pl.At.ext hA' (((((((hA.put 39 _).put 40 _).put 41 _).put 42 _).put 43 _).put 38 _).put 44 _)];exact hend hA'.fn _ ai
variable {K : Home}
theorem Zfi (h:rowOk xs i):rowAt xs (i+1)=rowAt xs i+(7+513*(rowG xs i).length):=by
 show rowAt xs i+(dec (xs.drop (rowAt xs i))).n=_;rw [Zfv h];rfl
theorem Zd6 {P:Po}{z:Int}(hF:P.Fine n c)(hb:Bytes xs):∀(i:Nat),(∀j,j<i→rowOk xs j)→c+rowAt xs i / 128≤9000→(P.repTo n xs z i).Fine n (c+rowAt xs i / 128)
 | 0,_,_=>by
  show P.Fine n (c+0 / 128)
  rw [Nat.zero_div,Nat.add_zero]
  exact hF
 | i+1,hok,hc=>by
  have hi:=hok i (by omega)
  have he:=Zfi hi
  have ih:=Zd6 (z:=z) hF hb i (fun j hj=>hok j (by omega)) (by omega)
  have hm:=(Zec hi).2.2
  have:=ih.puts (z:=z+((rowAt xs (i+1):Nat):Int)) (rowG xs i) (by omega) (fun x hx=>hm.len x hx) (Zeb (fun y hy=>hb y (List.mem_of_mem_drop hy)))
  exact this.more (by omega) hc
structure Ox (K:Home) (w W:World) (g n tot m:Nat) (Q:Po) (d:Dv) (Ld:DvL) (v s:Sl):Prop where
  b:RBlk W g d Ld v Q.h s Q.sy
  r:RpIn K W n tot m Q d Ld v s
  ans:∃d' Ld' v' h' s' sy',RBlk W (w.heap.size+1) d' Ld' v' h' s' sy'
  gt:w.heap.size+1<g
  e:Below w.heap.size w W
theorem Ox.keep {W W':World}{Q:Po}{s:Sl}(h:Ox K w W g n tot m Q d Ld v s)(hb:Below W.heap.size W W'):Ox K w W' g n tot m Q d Ld v s:=by
 obtain⟨d',Ld',v',h',s',sy',q⟩:=h.ans;exact⟨h.b.below hb,h.r.keep hb,⟨d',Ld',v',h',s',sy',q.below hb⟩,h.gt,h.e.trans (hb.mono h.e.size)⟩
theorem Ox.step {W w3:World}{m':Nat}{Q Q':Po}{s:Sl}{z:Value}(h:Ox K w W g n tot m Q d Ld v s)(hb:Below W.heap.size W w3)(hs:Zay K n tot m' Q' z w3):∃W' d' Ld' v' s',(Instr.storeAt 43 (.pointer (some ⟨g,0,none⟩)) z).run Tryz.prog w3=.ok () W'∧Ox K w W' g n tot m' Q' d' Ld' v' s'∧Frm (fun i=>i=g) w3 W':=by
 have h3:=h.keep hb;obtain⟨d2,L2,v2,s2,rfl,hI⟩:=hs;obtain⟨W',ac,aa,hf,ad⟩:=stR h3.b d2 L2 v2 Q'.h s2 Q'.sy;obtain⟨d',Ld',v',h',s',sy',q⟩:=h3.ans;have ab:=h3.gt;refine⟨W',d2,L2,v2,s2,ac,⟨aa,hI.box hf ⟨_,_,_,_,_,_,h3.b⟩,⟨d',Ld',v',h',s',sy',q.keep (hf.block _ q.lt (by omega))⟩,ab,?_⟩,hf⟩;exact h3.e.trans (hf.below h3.e.size (fun i e=>by omega))
theorem GS.turn {H:Nat→Prop}{w':World}(h:GS H base w v L)(hf:Frm (fun i=>i=g) w w')(hH:¬H g)(hg:g<base):GS H base w' v L:=
 ⟨h.own.frame (fun k hk=>hf.block k (Own.lt h.own hk) (fun e=>by have:=h.blk k hk;omega)),h.blk,fun x hx=>(h.gr x hx).keep (ZaD.frm hf (fun k hk e=>hH (by rw [← e];exact hk.1)))⟩
theorem Zh9 (h:gims L=ZcJ xs i)(hk:k<i):ims (L.getD k Gp.zero).l=rowG xs k:=by
 rw [← ZjD,h];simp [ZcJ,List.getD,hk]
def Op (K:Home) (w wr:World) (g base n tot m:Nat) (D:Ds) (f:Nat) (H:Nat→Prop) (rv:Sl) (L:List Gp) (i:Nat):Prop:=∃d Ld v s,Ox K w wr g n tot (m+rowAt D.ss i / 128) ((Po.new D f).repTo n D.ss ((D.sb:Nat):Int) i) d Ld v s∧GS H base wr rv L∧g<base∧(0<D.ss.length→¬H g)
theorem Op.keep {w':World}{H:Nat→Prop}(h:Op K w wr g base n tot m D f H rv L i)(hb:Below wr.heap.size wr w'):Op K w w' g base n tot m D f H rv L i:=by
 obtain⟨d,Ld,v,s,h1,h2,h3,h4⟩:=h;exact⟨d,Ld,v,s,h1.keep hb,h2.keep hb,h3,h4⟩
theorem Zot {H:Nat→Prop}(h:Op K w wr g base n tot m D f H rv L k)(hL:gims L=ZcJ D.ss i)(hk:k<i)(ac:rowOk D.ss k)(hi:rv.len=i):Calls Tryz.prog 43 #[(L.getD k Gp.zero).v.val] wr fun e w'=>∃a c,e=.returned (.slice a (dec (D.ss.drop (rowAt D.ss k))).n c)∧Op K w w' g base n tot m D f H rv L k:=by
 have h':=h;obtain⟨d,Ld,v,s,h1,h2,h3,h4⟩:=h;have aa:=Zh9 hL hk;have ab:=h2.at (i:=k) (by omega);(have hm:May (ims (L.getD k Gp.zero).l):=by rw [aa];exact (Zec ac).2.2);refine(Zd5 wr (L.getD k Gp.zero).v (L.getD k Gp.zero).l ab hm).mono ?_;rintro e w' ⟨r,rfl,ho,hb⟩;have ae:=ZaO hm.len;have h6:=hm.2.1;obtain⟨q,rfl,ad⟩:=ho.sl (K:=K) (Zcj ab.imB hm) (by omega) h1.r.low (Nat.le_trans h1.r.low hb.size);refine⟨q.a,q.cap,?_,h'.keep hb⟩;have hq:q.len=(dec (D.ss.drop (rowAt D.ss k))).n:=by
  rw [← Zky ac,← aa];exact ad.came.bs.1.symm
 rw [← hq];rfl
theorem Zos {H:Nat→Prop}(h:Op K w wr g base n tot m D f H rv L k)(hL:gims L=ZcJ D.ss i)(hk:k<i)(aa:∀j,j<i→rowOk D.ss j)(hi:rv.len=i)(hF:(Po.new D f).Fine n c)(hb:Bytes D.ss)(hH:0<D.ss.length→∀j,H j→K.G j)(ht:tot≤40000)(hm:m+D.ss.length / 128≤890)(hc:c+D.ss.length / 128≤9000):∃d Ld v h s sy,RBlk wr g d Ld v h s sy∧Calls Tryz.prog 44 #[rV d Ld v h s sy,(L.getD k Gp.zero).v.val,.int .i64 ((D.sb:Int)+((rowAt D.ss (k+1):Nat):Int))] wr fun e w'=>∃x,e=.returned x∧Op K w w' g base n tot m D f H rv L k∧∃W',(Instr.storeAt 43 (.pointer (some ⟨g,0,none⟩)) x).run Tryz.prog w'=.ok () W'∧Op K w W' g base n tot m D f H rv L (k+1):=by
 have h':=h;obtain⟨d,Ld,v,s,h1,h2,h3,h4⟩:=h;have ah:=aa k hk;have ag:=Zfi ah;have an:=(ZcE (k+1) (fun j hj=>aa j (by omega))).1;have ab:=Zh9 hL hk;(have ac:(L.getD k Gp.zero).l.length=(rowG D.ss k).length:=by rw [← ab,Zal]);have af:=h2.at (i:=k) (by omega);have ai:=Zd6 (z:=(D.sb:Int)) hF hb k (fun j hj=>aa j (by omega)) (by omega);have ak:=(Zec ah).2.2;refine⟨d,Ld,v,_,s,_,h1.b,?_⟩;refine(Zfh h1.r ai ht (L.getD k Gp.zero).v (L.getD k Gp.zero).l (GrK.of af (fun j hj=>hH (by omega) j hj.1) h1.r.low) (fun x hx=>?_) (by rw [ac];omega) (by rw [ac];omega) ((D.sb:Int)+((rowAt D.ss (k+1):Nat):Int))).mono ?_
 · have ad:x.im∈ims (L.getD k Gp.zero).l:=List.mem_map_of_mem hx;refine⟨?_,af.imB x.im ad⟩;rw [ab] at ad;exact ak.len x.im ad
 · rintro e w' ⟨hb',x,rfl,hs⟩;refine⟨x,rfl,h'.keep hb',?_⟩;obtain⟨d2,Ld2,v2,s2,rfl,ae⟩:=hs;rw [ab] at ae;obtain⟨W',d3,Ld3,v3,s3,am,al,aj⟩:=h1.step (Q':=(Po.new D f).repTo n D.ss (D.sb:Int) (k+1)) hb' ⟨d2,Ld2,v2,s2,rfl,ae.wide (Nat.le_refl _) (m':=m+rowAt D.ss (k+1) / 128) (by rw [ac];omega)⟩;rw [ab];exact⟨W',am,d3,Ld3,v3,s3,al,(h2.keep hb').turn aj (h4 (by omega)) h3,h3,h4⟩
theorem Zm1 {H:Nat→Prop}(h:Op K w wr g base n tot m D f H rv L i)(aa:∀j,j<i→rowOk D.ss j)(af:¬rowOk D.ss i)(hF:(Po.new D f).Fine n c)(hb:Bytes D.ss)(ht:tot≤40000)(hn:n≤64)(hm:m+D.ss.length / 128+4*n+1≤890)(hc:c+D.ss.length / 128≤9000):∃d Ld v h s sy,RBlk wr g d Ld v h s sy∧Calls Tryz.prog 19 #[rV d Ld v h s sy] wr fun e w'=>∃x,e=.returned x∧∃W',(Instr.storeAt 43 (.pointer (some ⟨w.heap.size+1,0,none⟩)) x).run Tryz.prog w'=.ok () W'∧∃d' Ld' v' s',RBlk W' (w.heap.size+1) d' Ld' v' (Po.opened D n f).h s' (Po.opened D n f).sy∧Below w.heap.size w W'∧RpIn K W' n tot (m+D.ss.length / 128+4*n+1) (Po.opened D n f) d' Ld' v' s':=by
 obtain⟨d,Ld,v,s,h1,h2,h3,h4⟩:=h;have ah:=(ZcE i aa).1;have ae:=Zd6 (z:=(D.sb:Int)) hF hb i aa (by omega);(have hl:(((Po.new D f).repTo n D.ss (D.sb:Int) i).inn n).length≤n:=by rw [← Zch,List.length_map];exact Zc4 _ n);refine⟨d,Ld,v,_,s,_,h1.b,?_⟩;refine(Zer h1.r ae ht hn (by omega) (by omega)).mono ?_;rintro e w' ⟨hb',x,rfl,d2,Ld2,v2,s2,rfl,ac⟩;rw [← Zkj aa af] at ac ⊢;refine⟨_,rfl,?_⟩;have h5:=h1.keep hb';obtain⟨d',Ld',v',h',s',sy',q⟩:=h5.ans;obtain⟨W',ag,ab,ad,ai⟩:=stR q d2 Ld2 v2 (Po.opened D n f).h s2 (Po.opened D n f).sy;exact⟨W',ag,d2,Ld2,v2,s2,ab,h5.e.trans (ad.below h5.e.size (fun i e=>by omega)),(ac.box ad ⟨_,_,_,_,_,_,q⟩).wide (Nat.le_refl _) (by omega)⟩
theorem Zfg (hd : DvIn K w d Ld) (hr : Rel D d.abs) (hg : Good n tot m d.abs) (hlow : K.low ≤ w.heap.size) (f : Nat) (hf : f ≤ 64) (hF : (Po.new D f).Fine n c) (ht : tot ≤ 40000) (hn : n ≤ 64) (hm : m + D.ss.length / 128 + 4 * n + 1 ≤ 890) (hc : c + D.ss.length / 128 ≤ 9000) : Calls Tryz.prog 11 #[d.val Ld, .int .i64 (f : Int)] w fun e w' => Below w.heap.size w w' ∧ ∃ x, e = .returned x ∧ Zay K n tot (m + D.ss.length / 128 + 4 * n + 1) (Po.opened D n f) x w' := by
  have hss : D.ss = d.now.st := hr.ss;(have hsl : Ld.ns.len = D.ss.length := by rw [hss]; exact hd.now.st.bs.1.symm);have hb0 : 0 ≤ d.now.base := hg.nb0;(have hsb : d.now.base = (D.sb : Int) := by rw [hr.sb]; show d.now.base = (d.now.base.toNat : Int); omega);(have hnt : D.sb + D.ss.length ≤ tot := by rw [hr.sb, hss]; exact hg.nt);(have hbs : Bytes D.ss := by rw [hss]; exact hd.now.st.bs.2.1);obtain ⟨W0, hW0⟩ : ∃ W, W = (w.alloc (.cells #[Ld.kp.val, .int .i64 d.kept.base, Ld.ks.val, Ld.np.val, .int .i64 d.now.base, Ld.ns.val, Ld.ds.val, .bool d.gone, .int .i64 d.armed] 37)).alloc (.cells (Zah dv0 dvl0 Sl.nil 0 Sl.nil 0) 43) := ⟨_, rfl⟩;have b1 := Zaa w (.cells #[Ld.kp.val, .int .i64 d.kept.base, Ld.ks.val, Ld.np.val, .int .i64 d.now.base, Ld.ns.val, Ld.ds.val, .bool d.gone, .int .i64 d.armed] 37);have b2 := Zaa (w.alloc (.cells #[Ld.kp.val, .int .i64 d.kept.base, Ld.ks.val, Ld.np.val, .int .i64 d.now.base, Ld.ns.val, Ld.ds.val, .bool d.gone, .int .i64 d.armed] 37)) (.cells (Zah dv0 dvl0 Sl.nil 0 Sl.nil 0) 43);(have hDB : DvB W0 w.heap.size d Ld := by rw [hW0]; exact (b2.block _ (by simp)).trans (heap_alloc_new w _));have hAN : RBlk W0 (w.heap.size + 1) dv0 dvl0 Sl.nil 0 Sl.nil 0 := by
    have := ZaZ (w.alloc (.cells #[Ld.kp.val, .int .i64 d.kept.base, Ld.ks.val, Ld.np.val, .int .i64 d.now.base, Ld.ns.val, Ld.ds.val, .bool d.gone, .int .i64 d.armed] 37)) dv0 dvl0 Sl.nil 0 Sl.nil 0;rw [show (w.alloc (.cells #[Ld.kp.val, .int .i64 d.kept.base, Ld.ks.val, Ld.np.val, .int .i64 d.now.base, Ld.ns.val, Ld.ds.val, .bool d.gone, .int .i64 d.armed] 37)).heap.size = w.heap.size + 1 by simp, ← hW0] at this;exact this
  (have hB0 : Below w.heap.size w W0 := by rw [hW0]; exact Zaf b1 b2);have hNEW := ZlU (hd.keep hB0 (Nat.le_refl _)) hr hg (Nat.le_trans hlow hB0.size) f hf;have HNEW := hide hNEW;have HLD0 := hide (DvB.ld hDB);have HDB := hide hDB;have HAN := hide hAN;have HB0 := hide hB0;have HD := hide hd;have HLO := hide hlow;have HSL := hide hsl;have HSB := hide hsb;have HNT := hide hnt;have HBS := hide hbs;have HSS := hide hss;have HF := hide hF;have HT := hide ht;have HN := hide hn;have HM := hide hm;have HC := hide hc;have HW0 := hide hW0;rw [hW0] at HLD0;clear hd hr hg hlow hDB hAN hB0 b1 b2 hW0 hNEW hss hsl hb0 hsb hnt hbs hF ht hn hm hc;rw [Zb9] at HW0 HLD0;unfold Dv.val;unfold Dv.val at HNEW HLD0;unfold Sl.val at HNEW HLD0 HW0 ⊢;go_enter Tryz.func11, Tryz.ntmps11;go_wp2_with (refine Zac _ rfl 37 (.tmp 2) rfl (.pointer (some ⟨w.heap.size, 0, none⟩)) _ rfl HLD0.out ?_);rw [← HW0.out];refine HNEW.out.mono ?_;rintro e w1 ⟨hb1, x, rfl, d1, L1, v1, s1, rfl, hI1⟩;obtain ⟨W1, hW1⟩ : ∃ W, W = w1.alloc (.cells (Zah d1 L1 v1 (Po.new D f).h s1 (Po.new D f).sy) 43) := ⟨_, rfl⟩;have hk1 := ZaZ w1 d1 L1 v1 (Po.new D f).h s1 (Po.new D f).sy;have hbl1 := Zaa w1 (.cells (Zah d1 L1 v1 (Po.new D f).h s1 (Po.new D f).sy) 43);rw [← hW1] at hk1 hbl1;have hbW1 : Below W0.heap.size W0 W1 := Zaf hb1 hbl1;have hox : Ox K w W1 w1.heap.size n tot (m + rowAt D.ss 0 / 128) ((Po.new D f).repTo n D.ss (D.sb : Int) 0) d1 L1 v1 s1 := ⟨hk1, (hI1.keep hbl1).wide (Nat.le_refl _) (Nat.le_add_right _ _), ⟨_, _, _, _, _, _, HAN.out.below hbW1⟩, Nat.lt_of_lt_of_le HAN.out.lt hb1.size, HB0.out.trans (hbW1.mono HB0.out.size)⟩;have HLD1 := hide (DvB.ld (w := W1) (g := w.heap.size) (d := d) (Ld := Ld) ((hbW1.block _ (Array.getElem?_eq_some_iff.1 HDB.out).1).trans HDB.out));have HSEE := hide (Zbk d Ld W1);have HOX := hide hox;have HW1 := hide hW1;have HG := hide hk1.lt;rw [hW1] at HLD1;clear hb1 hI1 hk1 hbl1 hbW1 hox hW1 HNEW HLD0 HDB HAN HB0;unfold Dk.val at HSEE;unfold Dv.val at HSEE HLD1;unfold Zah at HW1 HLD1;unfold rV Zah;unfold Sl.val at HSEE HLD1 HW1 ⊢;go_wp2_with (refine Zac _ rfl 37 (.tmp 2) rfl (.pointer (some ⟨w.heap.size, 0, none⟩)) _ rfl HLD1.out ?_);rw [← HW1.out];refine HSEE.out.mono ?_;rintro e w2 ⟨hb2, rfl⟩;obtain ⟨W2, hW2⟩ : ∃ W, W = w2.alloc (.cells #[.slice Ld.np.a Ld.np.len Ld.np.cap, .int .i64 d.now.base, .slice Ld.ns.a Ld.ns.len Ld.ns.cap] 34) := ⟨_, rfl⟩;have hbl2 := Zaa w2 (.cells #[.slice Ld.np.a Ld.np.len Ld.np.cap, .int .i64 d.now.base, .slice Ld.ns.a Ld.ns.len Ld.ns.cap] 34);rw [← hW2] at hbl2;have hb12 : Below W1.heap.size W1 W2 := Zaf hb2 hbl2;have hox2 := HOX.out.keep hb12;(have hst2 : BsS K W2 Ld.ns D.ss := by rw [HSS.out]; exact (HD.out.now.st).keep hox2.e (Nat.le_refl _));have HROW := hide (Zk0 W2 Ld.ns.a Ld.ns.len Ld.ns.cap D.ss hst2.came (by rw [HSL.out]; have := HNT.out; have := HT.out; omega));have HHG : Hid (0 < D.ss.length → ∀ k, ((∃ ad, Ld.ns.a = some ad ∧ k = ad.block ∧ k < W2.heap.size) ∨ W2.heap.size ≤ k) → K.G k) := fun hp k hk => by
    rcases hk with ⟨ad, ha, rfl, _⟩ | hk
    · exact hst2.home (by rw [HSL.out]; exact hp) ad ha
    · exact K.all _ (Nat.le_trans hst2.low hk)
  have HNH : Hid (0 < D.ss.length → ¬ ((∃ ad, Ld.ns.a = some ad ∧ w1.heap.size = ad.block ∧ w1.heap.size < W2.heap.size) ∨ W2.heap.size ≤ w1.heap.size)) := fun hp hk => by
    have hgt := HG.out;have hsz := hb12.size;rcases hk with ⟨ad, ha, he, _⟩ | hk
    · obtain ⟨b, off, ha', hc'⟩ := HD.out.now.st.bs.2.2 0 (by rw [HSL.out]; omega);have hlt := World.block_lt_of_cell? w _ hc';rw [ha] at ha';cases ha';have := hox2.gt;simp only at he hlt;omega
    · omega
  have HDC := hide (Zbu w2 (.slice Ld.np.a Ld.np.len Ld.np.cap) d.now.base (.slice Ld.ns.a Ld.ns.len Ld.ns.cap));rw [← hW2] at HDC;have HOX2 := hide hox2;have HW2 := hide hW2;have HGW := hide (Nat.lt_of_lt_of_le HG.out hb12.size);have HL2 := hide (show w2.heap.size < W2.heap.size by rw [hW2]; simp);clear hb2 hW2 hbl2 hb12 hox2 hst2 HSEE HLD1 HW1 HOX HG HD;go_wp2_with fail;rw [← show _ = _ from HW2.out];refine HROW.out.mono ?_;intro e w3 h3;unfold ZiW at h3;obtain ⟨⟨ra, rl, rc⟩, L, i0, rfl, hGS, hlen, hgi, hok, hno, hb3⟩ := h3;obtain rfl : rl = i0 := hlen;have HC1 : Hid (w3.cell? ⟨w2.heap.size, 1, none⟩ = some (.int .i64 (D.sb : Int))) := by
    have h1 : w3.heap[w2.heap.size]? = W2.heap[w2.heap.size]? := hb3.block _ HL2.out;have h2 := HDC.out;rw [HSB.out] at h2;exact DkBlk.c1 (h1.trans h2)
  have hop : Op K w w3 w1.heap.size W2.heap.size n tot m D f (fun k => (∃ ad, Ld.ns.a = some ad ∧ k = ad.block ∧ k < W2.heap.size) ∨ W2.heap.size ≤ k) ⟨ra, rl, rc⟩ L 0 := ⟨d1, L1, v1, s1, HOX2.out.keep hb3, hGS, HGW.out, HNH.out⟩;have hrr := ZcE rl hok;(have hrl : rl ≤ 20000 := by have := HNT.out; have := HT.out; omega);have HOP := hide hop;have HGI := hide hgi;have HOK := hide hok;have HNO := hide hno;clear hop hrr hgi hok hno hb3 hGS HROW HDC HOX2 HW2 HNH HGW HL2 HSL HSB HSS HLO;generalize w1.heap.size = g at *;obtain ⟨H, hH⟩ : ∃ H, H = (fun k => (∃ ad, Ld.ns.a = some ad ∧ k = ad.block ∧ k < W2.heap.size) ∨ W2.heap.size ≤ k) := ⟨_, rfl⟩;rw [← hH] at HOP;(have HHG2 : Hid (0 < D.ss.length → ∀ j, H j → K.G j) := by rw [hH]; exact HHG.out);clear hH HHG;generalize W2.heap.size = base at *;unfold Sl.val;simp only;have hc1 := HC1.out;clear HC1;by_cases hrl0 : rl = 0
  · subst hrl0;go_wp2_with fail;go_loopw [9, 10] (fun pv iv wr => ∃ (k z : Nat), k ≤ 0 ∧ pv = .int .i64 (z : Int) ∧ iv = .int .i64 (k : Int) ∧ Hid (Op K w wr g base n tot m D f H ⟨ra, 0, rc⟩ L k)) (fun _ iv _ => 0 - (intOf iv).toNat)
    case atStart => exact ⟨0, D.sb, by omega, rfl, rfl, HOP⟩
    case round =>
      obtain ⟨k, z, hk, rfl, rfl, hop⟩ := hrel;(obtain rfl : k = 0 := by omega);obtain ⟨d9, Ld9, v9, h9, s9, sy9, hbx9, hcall9⟩ := Zm1 hop.out HOK.out HNO.out HF.out HBS.out HT.out HN.out HM.out HC.out;have HLR9 := hide (ldR hbx9);have HCK := hide hcall9;clear hbx9 hcall9;unfold rV Zah Sl.val at HLR9 HCK;go_wp2_with (refine Zac _ rfl 43 (.tmp 5) rfl (.pointer (some ⟨g, 0, none⟩)) _ rfl HLR9.out ?_);refine HCK.out.mono ?_;rintro e wz ⟨xz, rfl, Wz, hstz, dz, Lz, vz, sz, hblkz, hBz, hIz⟩;have HSZ := hide hstz;have HBK := hide hblkz;have HBB := hide hBz;have HIZ := hide hIz;clear hstz hblkz hBz hIz HLR9 HCK;go_wp2_with (refine Zab _ rfl rfl 43 (.tmp 4) (.tmp 46) rfl (.pointer (some ⟨w.heap.size + 1, 0, none⟩)) _ rfl rfl Wz HSZ.out ?_);refine bodyPost_ret (Zaw rfl HBK.out _ rfl) rfl ?_;exact ⟨HBB.out, _, rfl, dz, Lz, vz, sz, rfl, HIZ.out⟩
  · obtain ⟨ib, io, hra, _⟩ := (HOP.out.choose_spec.choose_spec.choose_spec.choose_spec.2.1).own.at (i := 0) (by show 0 < rl; omega);simp only at hra;subst hra;(have hz0 : D.sb ≤ 40000 := by have := HNT.out; have := HT.out; omega);have HRW : Hid (∀ k, k ≤ rl → D.sb + rowAt D.ss k ≤ 40000) := fun k hk => by
      have h1 := (ZcE k (fun j hj => HOK.out j (by omega))).1;have := HNT.out;have := HT.out;omega
    go_wp2_with fail;go_loopw [9, 10] (fun pv iv wr => ∃ (k z : Nat), k ≤ rl ∧ z ≤ 40000 ∧ pv = .int .i64 (z : Int) ∧ iv = .int .i64 (k : Int) ∧ Hid (z = D.sb + rowAt D.ss k) ∧ Hid (Op K w wr g base n tot m D f H ⟨some ⟨ib, io, none⟩, rl, rc⟩ L k)) (fun _ iv _ => rl - (intOf iv).toNat)
    case atStart => exact ⟨0, D.sb, by omega, hz0, rfl, rfl, hide rfl, HOP⟩
    case round =>
      obtain ⟨k, z, hk, hz, rfl, rfl, hze, hop⟩ := hrel;by_cases hlt : k < rl
      · have hcell : ∀ w', Op K w w' g base n tot m D f H ⟨some ⟨ib, io, none⟩, rl, rc⟩ L k ∨ Op K w w' g base n tot m D f H ⟨some ⟨ib, io, none⟩, rl, rc⟩ L (k + 1) → w'.cell? ⟨ib, io + k, none⟩ = some (L.getD k Gp.zero).v.val := fun w' hh => by
          have hgs : GS H base w' ⟨some ⟨ib, io, none⟩, rl, rc⟩ L := by
            rcases hh with hh | hh <;> exact hh.choose_spec.choose_spec.choose_spec.choose_spec.2.1
          obtain ⟨b', o', e1, e2⟩ := hgs.own.at (i := k) hlt;simp only [Option.some.injEq, Addr.mk.injEq] at e1;obtain ⟨rfl, rfl, _⟩ := e1;exact e2
        have HRC := hide (Zot hop.out HGI.out hlt (HOK.out k hlt) rfl);have HPT : Hid (∀ w', Op K w w' g base n tot m D f H ⟨some ⟨ib, io, none⟩, rl, rc⟩ L k → _) := fun w' h' => Zos h' HGI.out hlt HOK.out rfl HF.out HBS.out HHG2.out HT.out (by have := HM.out; omega) HC.out;have HR1 := hide (HRW.out (k + 1) hlt);have HNX : Hid (z + (dec (D.ss.drop (rowAt D.ss k))).n = D.sb + rowAt D.ss (k + 1)) := by
          rw [hze.out];show _ = D.sb + (rowAt D.ss k + _);omega
        obtain ⟨gs, hgs⟩ : ∃ q, q = (L.getD k Gp.zero).v := ⟨_, rfl⟩;rw [← hgs] at HRC HPT hcell;generalize (dec (D.ss.drop (rowAt D.ss k))).n = nn at *;(have hnn : z + nn ≤ 40000 := by rw [HNX.out]; exact HR1.out);have c0 := hcell wr (.inl hop.out);have HCELL := hide hcell;clear hgs hcell;obtain ⟨ga, gl, gc⟩ := gs;unfold Sl.val at c0 HRC;go_wp2_with fail;refine HRC.out.mono ?_;rintro e w4 ⟨qa, qc, rfl, hop4⟩;have hopd := hop4.keep (Zad w4);obtain ⟨d5, Ld5, v5, h5, s5, sy5, hbx5, hcall5⟩ := HPT.out w4.drew hopd;have HR9 : Hid (∀ {Q' : Exit → Act → World → Prop} {A : Act}, _) := fun {Q' A} => Zpq w4 g ib io rl rc k hlt ((z : Int) + (nn : Int)) ⟨ga, gl, gc⟩ d5 Ld5 v5 h5 s5 sy5 (fun x w' => Op K w w' g base n tot m D f H ⟨some ⟨ib, io, none⟩, rl, rc⟩ L k ∧ ∃ W', (Instr.storeAt 43 (.pointer (some ⟨g, 0, none⟩)) x).run Tryz.prog w' = .ok () W' ∧ Op K w W' g base n tot m D f H ⟨some ⟨ib, io, none⟩, rl, rc⟩ L (k + 1)) (fun W => Op K w W g base n tot m D f H ⟨some ⟨ib, io, none⟩, rl, rc⟩ L (k + 1)) (HCELL.out _ (.inl hopd)) hbx5 (by
          (have e1 : (z : Int) + (nn : Int) = (D.sb : Int) + ((rowAt D.ss (k + 1) : Nat) : Int) := by have := HNX.out; omega);rw [e1];exact hcall5) (fun x w' h' => HCELL.out _ (.inl h'.1)) (fun x w' h' => by
          obtain ⟨_, W', hst, ho⟩ := h';exact ⟨W', hst, HCELL.out _ (.inr ho), ho⟩) (Q := Q') (A := A)
        have HIX : Hid (z + nn = D.sb + rowAt D.ss (k + 1)) := HNX;clear hop4 hopd hbx5 hcall5 HRC HPT c0;go_wp2_with fail;refine Pl.q8 (ops := Pl.find 9 ((Tryz.f11.body).getD .skip)) ?_;refine HR9.out (by rfl) (by rfl) (by rfl) (by rfl) (by rfl) (by rfl) (fun u6 w6 hop6 => ?_);have HOP6 := hide hop6;clear hop6 HR9 HCELL;simp only [Act.put, List.setIfInBounds_toArray, List.set_cons_zero, List.set_cons_succ];go_wp2_with fail;go_roundw
        case rel => exact ⟨k + 1, z + nn, by omega, by omega, by go_num, by go_num, HIX, HOP6⟩
        case measure => simp only [intOf]; omega
      · (obtain rfl : k = rl := by omega);obtain ⟨d9, Ld9, v9, h9, s9, sy9, hbx9, hcall9⟩ := Zm1 hop.out HOK.out HNO.out HF.out HBS.out HT.out HN.out HM.out HC.out;have HLR9 := hide (ldR hbx9);have HCK := hide hcall9;clear hbx9 hcall9;unfold rV Zah Sl.val at HLR9 HCK;go_wp2_with (refine Zac _ rfl 43 (.tmp 5) rfl (.pointer (some ⟨g, 0, none⟩)) _ rfl HLR9.out ?_);refine HCK.out.mono ?_;rintro e wz ⟨xz, rfl, Wz, hstz, dz, Lz, vz, sz, hblkz, hBz, hIz⟩;have HSZ := hide hstz;have HBK := hide hblkz;have HBB := hide hBz;have HIZ := hide hIz;clear hstz hblkz hBz hIz HLR9 HCK;go_wp2_with (refine Zab _ rfl rfl 43 (.tmp 4) (.tmp 46) rfl (.pointer (some ⟨w.heap.size + 1, 0, none⟩)) _ rfl rfl Wz HSZ.out ?_);refine bodyPost_ret (Zaw rfl HBK.out _ rfl) rfl ?_;exact ⟨HBB.out, _, rfl, dz, Lz, vz, sz, rfl, HIZ.out⟩
end Go.Proofs.YtpnlebpnhmibfaaGreat
