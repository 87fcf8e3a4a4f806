/-
  Lemmas.
-/
import Derived.Test.YtpnlebpnhmibfaaGreatBb
import Derived.Test.YtpnlebpnhmibfaaGreatBa
namespace Go.Proofs.YtpnlebpnhmibfaaGreat
open Go.RowKit
set_option linter.unusedVariables false
set_option maxRecDepth 100000
set_option maxHeartbeats 4000000
variable {w w' W w0:World}{g p B base len:Nat}{x v y k0' k2' n0' n2' d':Value}{b k1' n1' a' a o a0 o0:Int}{A:Act}{g' t t0:Bool}{fn:Func}{s:Sl}{xs:List Nat}
variable {K : Home}
theorem BsS.other (h:BsS K w s xs)(hg:∀o i,w.cell? ⟨g,o,none⟩≠some (.int .u8 i))(ho:∀k,k≠g→w'.heap[k]? = w.heap[k]?)(hs:w.heap.size≤w'.heap.size:=by first | (simp only [Zag,Nat.le_refl];done) | (simp only [Zax,Zag,Nat.le_refl];done) | (simp only [ZaL,Zax,Zag,Nat.le_refl];done) | (simp only [ZbU,ZaK,ZaL,Zax,Zag,Nat.le_refl];done)):BsS K w' s xs:=by
 refine⟨⟨⟨h.bs.1,h.bs.2.1,fun i hi=>?_⟩,h.nil,h.le,h.big⟩,Nat.le_trans h.low hs,h.home⟩;obtain⟨b,off,ha,hc⟩:=h.bs.2.2 i hi;refine⟨b,off,ha,?_⟩;have aa:b≠g:=by
  intro e;subst e;exact hg _ _ hc
 have:=ho b aa;simp only [World.cell?] at hc ⊢;rw [this];exact hc
theorem DkBlk.no8 {s1 s2:Sl}(h:DkBlk w g s1.val b s2.val):∀o i,w.cell? ⟨g,o,none⟩≠some (.int .u8 i):=by
 intro o i;unfold DkBlk Sl.val at h;rcases o with _ | _ | _ | o <;> simp [World.cell?,h]
theorem DkBlk.set0 (h:DkBlk w g x b y)(u:Value):DkBlk (w.setCell ⟨g,0,none⟩ u) g u b y:=by
 have:=heap_setCell_same w g 0 _ 34 u h;unfold DkBlk;rw [this];simp
theorem DkBlk.set2 (h:DkBlk w g x b y)(u:Value):DkBlk (w.setCell ⟨g,2,none⟩ u) g x b u:=by
 have:=heap_setCell_same w g 2 _ 34 u h;unfold DkBlk;rw [this];simp
theorem DkBlk.off (h:DkBlk w g x b y){q o:Nat}(hq:g≠q)(u:Value):DkBlk (w.setCell ⟨q,o,none⟩ u) g x b y:=by
 unfold DkBlk;rw [Below.heap_setCell _ ⟨q,o,none⟩ _ g hq];exact h
theorem Zhq (d:Dk)(p s:Sl)(u:Pt)(q:Sl)(k:Nat)(w:World)(h:DkIn K w d p s)(hu:BsS K w q u.b)(ha:u.at_=(k:Nat))(hl:128*k+128≤p.len)(hp:p.len≤100000)(hb:q.len≤4000) :
    Calls Tryz.prog 73 #[d.val p s,u.val q] w fun e w'=>Below w.heap.size w w'∧∃p' s',e=.returned (Dk.val ⟨d.pg.take (128*k) ++ u.b ++ d.pg.drop (128*k+128),d.base,d.st⟩ p' s')∧DkIn K w' ⟨d.pg.take (128*k) ++ u.b ++ d.pg.drop (128*k+128),d.base,d.st⟩ p' s':=by
  obtain⟨pg,base,st⟩:=d;obtain⟨at_,b,trim,to⟩:=u;obtain⟨pa,pl,pc⟩:=p;obtain⟨sa,sl,sc⟩:=s;obtain⟨qa,ql,qc⟩:=q;simp only at h hu ha hl hp hb ⊢;subst ha;obtain⟨K,hK⟩:∃K,K=128*k:=⟨_,rfl⟩;rw [← hK] at hl ⊢;have bv:=h.pg.le;simp only at bv;obtain⟨K2,bq⟩:∃K2,K2=K+128:=⟨_,rfl⟩;rw [← bq] at hl ⊢;have bz:=Zb0 pa pl pc K (by omega);have ca:=Zbc pa pl pc K2 (by omega);rw [show (K:Int)=128*(k:Int) by omega] at bz;rw [show (K2:Int)=128*(k:Int)+128 by omega] at ca;subst bq;subst hK;have H:=hide h;have HU:=hide hu;have bl:=hide h.pg.bs.2.1;have ck:=hide hu.bs.2.1;have cg:=hide h.pg.len;have az:=hide hu.len;(have cl:(0:Int)≤(k:Int):=by omega);obtain⟨W,hW⟩:∃W,W=((w.alloc (.cells #[.slice pa pl pc,.int .i64 base,.slice sa sl sc] 34)).alloc (.cells #[.int .i64 (k:Int),.slice qa ql qc,.bool trim,.int .i64 to] 117)).alloc (.cells #[.slice none 0 0,.int .i64 0,.slice none 0 0] 34):=⟨_,rfl⟩;(have aj:W.heap.size=w.heap.size+1+1+1:=by rw [hW];simp);(have am:Below w.heap.size w W:=by rw [hW];exact Zaf (Za6 w _ _) (Zaa _ _));have bm:DkBlk W w.heap.size (.slice pa pl pc) base (.slice sa sl sc):=by
   rw [hW];exact((Zbu w (.slice pa pl pc) base (.slice sa sl sc)).keep (Zaa _ _)).keep (Zaa _ _)
  have bo:DkBlk W (w.heap.size+1+1) (.slice none 0 0) 0 (.slice none 0 0):=by
   rw [hW];have:=Zbu ((w.alloc (.cells #[.slice pa pl pc,.int .i64 base,.slice sa sl sc] 34)).alloc (.cells #[.int .i64 (k:Int),.slice qa ql qc,.bool trim,.int .i64 to] 117)) (.slice none 0 0) 0 (.slice none 0 0);simpa using this
  have bn:PtBlk W (w.heap.size+1) (k:Int) (.slice qa ql qc) trim to:=by
   rw [hW];have:=(ZaB (w.alloc (.cells #[.slice pa pl pc,.int .i64 base,.slice sa sl sc] 34)) (k:Int) (.slice qa ql qc) trim to).keep (Zaa _ (.cells #[.slice none 0 0,.int .i64 0,.slice none 0 0] 34));simpa using this
  have ai:=hide am;have au:=hide bm;have av:=hide bn;have cd:=hide bo;have cj:=hide hW;have ae:=hide aj;have HO:Hid (Owns (W.alloc (.cells #[] 5)) W.heap.size (.slice (some ⟨W.heap.size,0,none⟩) 0 0) []):=Zf9 W;have HA:=hide (Zaa W (.cells #[] 5));have al:=hide ((h.pg.bs.upto (cap:=pc) (k:=128*k) (by show 128*k≤pl;omega)).keep (Zaf am (Zaa W (.cells #[] 5))) (Nat.le_refl _));have ba:Hid (fromA pa pc 0=none→pc=0):=by
   intro e;unfold fromA at e;split at e
   · omega
   · cases hpa:pa with
     | none=>exact h.pg.nil hpa
     | some x=>rw [hpa] at e;simp at e
  (have aw:Hid (([]:List Nat).length+128*k≤1000000):=by show _≤_;simp;omega);(have ak:Hid (w.heap.size+1+1+1≤(W.alloc (.cells #[] 5)).heap.size):=by show _≤_;rw [← aj];exact (Zaa W _).size);rw [aj] at HO;rw [hW] at HO al ak;clear h hu hW aj am bm bn bo;unfold Dk.val Pt.val Sl.val;simp only;go_enter Tryz.func73,Tryz.ntmps73;go_wp2_with (at_builtin;refine Zak _ rfl (.tmp 9) (.tmp 15) rfl (w.heap.size+1+1+1) _ [] rfl HO.out _ _ _ _ rfl al.out ba.out aw.out ak.out ?_);intro v1 w1 bw an ap;clear ap;rw [← cj.out] at an;have ag:Below W.heap.size W w1:=HA.out.trans (by rw [ae.out];exact an);have bd:=hide bw;have bj:=hide ag;have bh:=hide (HU.out.bs.keep (Zaf ai.out ag) (Nat.le_refl _));have bb:Hid (qa=none→qc=0):=HU.out.nil;have ax:Hid ((pg.take (128*k)).length+ql≤1000000):=by
   show _≤_;rw [List.length_take];omega
  have bf:Hid (w.heap.size+1+1+1≤w1.heap.size):=by
   show _≤_;rw [← ae.out];exact ag.size
  have c1:=(av.out.keep ag).c1;clear HO al ba aw ak bw an ag bz;go_wp2_with (at_builtin;refine Zak _ rfl (.tmp 17) (.tmp 19) rfl (w.heap.size+1+1+1) _ (pg.take (128*k)) rfl bd.out _ _ _ _ rfl bh.out bb.out ax.out bf.out ?_);intro v2 w2 bx br aq;clear aq c1;have ac:Below W.heap.size W w2:=bj.out.trans (by rw [ae.out];exact br);have be:=hide bx;have bk:=hide ac;have bi:=hide ((H.out.pg.bs.from (cap:=pc) (k:=128*k+128) hl bv).keep (Zaf ai.out ac) (Nat.le_refl _));have bc:Hid (fromA pa pc (128*k+128)=none→pc-(128*k+128)=0):=(H.out.pg.from_ (k:=128*k+128) hl).nil;have ay:Hid ((pg.take (128*k) ++ b).length+(pl-(128*k+128))≤1000000):=by
   have e2:=az.out;show _≤_;rw [List.length_append,List.length_take,e2];omega
  have bg:Hid (w.heap.size+1+1+1≤w2.heap.size):=by
   show _≤_;rw [← ae.out];exact ac.size
  have c0:=(au.out.keep ac).c0;have c3:=(av.out.keep ac).c0;clear bd bh bb ax bf bj bx br ac;go_wp2_with (at_builtin;refine Zak _ rfl (.tmp 21) (.tmp 28) rfl (w.heap.size+1+1+1) _ (pg.take (128*k) ++ b) rfl be.out _ _ _ _ rfl bi.out bc.out ay.out bg.out ?_);intro v3 w3 ao bt ar;clear ar c0 c3;have ah:Below W.heap.size W w3:=bk.out.trans (by rw [ae.out];exact bt);have cc:Bytes (pg.take (128*k) ++ b ++ pg.drop (128*k+128)):=by
   intro x hx;rcases List.mem_append.1 hx with h1 | h1
   · rcases List.mem_append.1 h1 with h2 | h2
     · exact bl.out x (List.mem_of_mem_take h2)
     · exact ck.out x h2
   · exact bl.out x (List.mem_of_mem_drop h1)
  rw [← List.append_assoc] at ao;obtain⟨s3,rfl,cb⟩:=ao.sl (K:=K) cc (by
   have e1:=cg.out;have e2:=az.out;simp only [List.length_append,List.length_take,List.length_drop,e1,e2];omega) (by have:=H.out.pg.low;omega) (by have h1:=H.out.pg.low;have h2:=(Zaf ai.out ah).size;omega)
  obtain⟨a3,l3,k3⟩:=s3;have af:=au.out.keep ah;have bp:=cd.out.keep ah;have ab:=af.set0 (Sl.val ⟨a3,l3,k3⟩);have aa:=bp.off (q:=w.heap.size) (o:=0) (by omega) (Sl.val ⟨a3,l3,k3⟩);have ch:=hide cb;have ci:=hide ah;have ce:=hide af;have cf:=hide ab;have ad:=hide aa;unfold Sl.val at ab aa;simp only at ab aa;have c0:=af.c0;have f0:=af.fz;have d0:=ab.c0;have d1:=ab.c1;have d2:=ab.c2;have z0:=aa.c0;have z1:=aa.c1;have z2:=aa.c2;have fz:=aa.fz;unfold Sl.val;simp only;clear be bi bc ay bg bk ao bt ah cb af ab bp aa cc ca;go_wp2_with fail;show bodyPost Tryz.prog Tryz.f73 _ Exit.ret _ (setDk (w3.setCell ⟨w.heap.size,0,none⟩ (Sl.val ⟨a3,l3,k3⟩)) (w.heap.size+1+1) (Sl.val ⟨a3,l3,k3⟩) base (Sl.val ⟨sa,sl,sc⟩));refine Zmn rfl ad.out ⟨pg.take (128*k) ++ b ++ pg.drop (128*k+128),base,st⟩ ⟨a3,l3,k3⟩ ⟨sa,sl,sc⟩ (by rfl) rfl ?_;have bu:Below w.heap.size w (setDk (w3.setCell ⟨w.heap.size,0,none⟩ (Sl.val ⟨a3,l3,k3⟩)) (w.heap.size+1+1) (Sl.val ⟨a3,l3,k3⟩) base (Sl.val ⟨sa,sl,sc⟩)):=
   ZcV ((Zaf ai.out ci.out).setCell (p:=⟨w.heap.size,0,none⟩) (Nat.le_refl _) _) (by omega) _ _ _
  refine⟨bu,⟨a3,l3,k3⟩,⟨sa,sl,sc⟩,rfl,?_,H.out.st.keep bu (Nat.le_refl _)⟩;exact(ch.out.other (DkBlk.no8 (s1:=⟨pa,pl,pc⟩) (s2:=⟨sa,sl,sc⟩) ce.out) fun j hj=>Below.heap_setCell _ ⟨w.heap.size,0,none⟩ _ j hj).other (DkBlk.no8 (s1:=Sl.nil) (s2:=Sl.nil) ad.out) fun j hj=>Zcu _ _ _ _ _ j hj
theorem Zlp (p k:Nat)(hk:k<3)(w:World):(Instr.fieldAt 34 (.pointer (some ⟨p,0,none⟩)) k).run Tryz.prog w=.ok (.pointer (some ⟨p,k,none⟩)) w:=by
 rcases k with _ | _ | _ | k
 · simp [go_sem,Instr.fieldAt]
 · simp [go_sem,Instr.fieldAt]
 · simp [go_sem,Instr.fieldAt]
 · omega
theorem Zeh (p:Nat)(w:World):(Instr.fieldAt 34 (.pointer (some ⟨p,0,none⟩)) 2).run Tryz.prog w=.ok (.pointer (some ⟨p,2,none⟩)) w:=Zlp p 2 (by omega) w
theorem Zj8 (p:Nat)(w:World):(Instr.fieldAt 117 (.pointer (some ⟨p,0,none⟩)) 1).run Tryz.prog w=.ok (.pointer (some ⟨p,1,none⟩)) w:=by simp [go_sem,Instr.fieldAt]
theorem ZgV (b o:Nat)(a:Option Addr)(len cap:Nat)(w:World)(h:w.cell? ⟨b,o,none⟩=some (.slice a len cap)):(Instr.loadAt 32 (.pointer (some ⟨b,o,none⟩))).run Tryz.prog w=.ok (.slice a len cap) w:=by
 simp [go_sem,h]
theorem Zg5 (b o:Nat)(v u:Value)(hv:∃a len cap,v=.slice a len cap)(w:World)(h:w.cell? ⟨b,o,none⟩=some u)(hf:w.frozen? ⟨b,o,none⟩=false):(Instr.storeAt 32 (.pointer (some ⟨b,o,none⟩)) v).run Tryz.prog w=.ok () (w.setCell ⟨b,o,none⟩ v):=by
 obtain⟨a,len,cap,rfl⟩:=hv;simp [go_sem,Instr.storeAt,h,hf]
theorem ZfO (w:World):(Instr.buildSlice 32 0 #[]).run Tryz.prog w=.ok (.slice (some ⟨w.heap.size,0,none⟩) 0 0) (w.alloc (.cells #[] 5)):=by
 simp [go_sem,Instr.buildSlice]
theorem PtBlk.stay (h:PtBlk w p a x t o)(hs:Stay w w'):PtBlk w' p a x t o:=(hs p _ _ _ h (by decide)).trans h
theorem DkBlk.stay (h:DkBlk w p x b y)(hs:Stay w w'):DkBlk w' p x b y:=(hs p _ _ _ h (by decide)).trans h
theorem Owns.form (h:Owns w base v xs):∃a len cap,v=.slice a len cap:=by
 rcases h.2 with ⟨hv,_⟩ | ⟨g,cp,cur,hv,_⟩
 · exact⟨_,_,_,hv⟩
 · exact⟨_,_,_,hv⟩
theorem ZoJ (w:World)(p q:Nat)(bg:p≠q)(x:Value)(b at_ to:Int)(tr:Bool)(sa qa:Option Addr)(sl sc ql qc:Nat)(xs ys:List Nat)(hd:DkBlk w p x b (.slice sa sl sc))(hp:PtBlk w q at_ (.slice qa ql qc) tr to)(hx:Came w sa sl sc xs)(hy:Came w qa ql qc ys)(be:sl+ql≤1000000)
    {Q:Exit→Act→World→Prop}(bh:A.tmps.size=56)(bd:A.defers=[])(s2:A.tmps.getD 2 undef=.pointer (some ⟨p,0,none⟩))(s3:A.tmps.getD 3 undef=.pointer (some ⟨q,0,none⟩))
    (hend:∀(u:Nat→Value) w2 v2,Owns w2 w.heap.size v2 (xs ++ ys)→Below w.heap.size w w2→DkBlk w2 p x b (.slice sa sl sc)→PtBlk w2 q at_ (.slice qa ql qc) tr to→Q .normal (((((((((A).put (some 48) (u 48)).put (some 51) (u 51)).put (some 52) (u 52)).put (some 47) (u 47)).put (some 49) (u 49)).put (some 50) (u 50)).put (some 53) (u 53)).put (some 54) (u 54)) (w2.setCell ⟨p,2,none⟩ v2)) :
    (Code.region 10 (Pl.find 10 ((Tryz.f73.body).getD .skip)) true).wp Tryz.prog Q A w:=by
  have az:Below w.heap.size w w.drew:=(Below.refl _ _).drew;have ar:DkBlk w.drew p x b (.slice sa sl sc):=hd;have aw:PtBlk w.drew q at_ (.slice qa ql qc) tr to:=hp;have am:=Zaa w.drew (.cells #[] 5);have al:Below w.heap.size w (w.drew.alloc (.cells #[] 5)):=az.trans am;have au:=ar.keep am;have ay:=aw.keep am;have bf:Owns (w.drew.alloc (.cells #[] 5)) w.heap.size (.slice (some ⟨w.drew.heap.size,0,none⟩) 0 0) []:=Zf9 w.drew;obtain⟨v1,w1,ab,av,ba,af⟩:=Zba (w.drew.alloc (.cells #[] 5)) 32 w.heap.size _ [] bf sa sl sc xs (hx.bs.keep al (Nat.le_refl _)) hx.nil (by simp;omega) al.size;rw [List.nil_append] at av;have ak:=al.trans ba;have bc:=au.stay af;have ax:=ay.stay af;have bi:=hx.bs.1;obtain⟨v2,w2,ac,an,bb,ag⟩:=Zba w1 32 w.heap.size v1 xs av qa ql qc ys (hy.bs.keep ak (Nat.le_refl _)) hy.nil (by omega) ak.size;have aq:=ak.trans bb;have ad:=bc.stay ag;have ai:=ax.stay ag;have aa:=an.form;have ae:(fun w'=>PtBlk w' q at_ (.slice qa ql qc) tr to) w.drew:=aw;have aj:(fun w'=>PtBlk w' q at_ (.slice qa ql qc) tr to) (w.drew.alloc (.cells #[] 5)):=ay;have ao:(fun w'=>PtBlk w' q at_ (.slice qa ql qc) tr to) w1:=ax;have ah:(fun w'=>PtBlk w' q at_ (.slice qa ql qc) tr to) w2:=ai;have ap:(fun w'=>PtBlk w' q at_ (.slice qa ql qc) tr to) (w2.setCell ⟨p,2,none⟩ v2):=by
   show PtBlk _ _ _ _ _ _;unfold PtBlk;rw [Below.heap_setCell _ ⟨p,2,none⟩ _ q (fun e=>bg e.symm)];exact ai
  have hA:=Pl.At.same (v:=.pointer (some ⟨q,0,none⟩)) (d:=3) (Pl.At.same (v:=.pointer (some ⟨p,0,none⟩)) (d:=2) (Pl.At.here bh bd) s2) s3;refine Pl.qa (S:=fun w'=>PtBlk w' q at_ (.slice qa ql qc) tr to) hA ae ?_;rw [show (Pl.find 10 ((Tryz.f73.body).getD .skip)).size=9 by kernel_rfl];refine Pl.q1 1 48 (.pointer (some ⟨p,2,none⟩)) (Pl.q0) (Pl.q4 34 (.tmp 2) 2 (Zeh p)) ae ?_;refine Pl.q1 4 51 (.pointer (some ⟨q,1,none⟩)) (Pl.q0) (Pl.q4 117 (.tmp 3) 1 (Zj8 q)) ae ?_;refine Pl.q1 5 52 (.slice qa ql qc) (Pl.q0) (Pl.q6 32 (.tmp 51) (fun w' hS=>ZgV q 1 qa ql qc w' hS.c1)) ae ?_;refine Pl.qr 0 2 ?_ ?_
  · refine Pl.qe 0 47 (.slice (some ⟨w.drew.heap.size,0,none⟩) 0 0) (w.drew.alloc (.cells #[] 5)) (Pl.q_39 32 (ZfO w.drew)) aj ?_;refine Pl.qu 2 ?_;refine Pl.qe 2 49 (.slice sa sl sc) (w.drew.alloc (.cells #[] 5)) (Pl.qp 32 (.tmp 48) (ZgV p 2 sa sl sc _ au.c2)) aj ?_;refine Pl.qf 3 50 v1 w1 (Pl.q0) (Pl.qn 32 32 (.tmp 47) (.tmp 49) ab) ao ?_;refine Pl.qf 6 53 v2 w2 (Pl.q0) (Pl.qn 32 32 (.tmp 50) (.tmp 52) ac) ah ?_;refine Pl.q1 7 54 (.pointer (some ⟨p,2,none⟩)) (Pl.q0) (Pl.q4 34 (.tmp 2) 2 (Zeh p)) ah ?_;refine Pl.qd 8 (w2.setCell ⟨p,2,none⟩ v2) (Pl.q0) (Pl.qh 32 (.tmp 54) (.tmp 53) _ (Zg5 p 2 v2 _ aa w2 ad.c2 (ad.fz 2))) ap ?_;refine Pl.q7 (fun A' hA'=>?_);rw [Pl.At.ext hA' ((((((((hA.put 48 _).put 51 _).put 52 _).put 47 _).put 49 _).put 50 _).put 53 _).put 54 _)];exact hend hA'.fn _ _ an aq ad ai
  · refine Pl.qe 2 49 (.slice sa sl sc) w.drew (Pl.qp 32 (.tmp 48) (ZgV p 2 sa sl sc _ ar.c2)) ae ?_;refine Pl.qu 0 ?_;refine Pl.qe 0 47 (.slice (some ⟨w.drew.heap.size,0,none⟩) 0 0) (w.drew.alloc (.cells #[] 5)) (Pl.q_39 32 (ZfO w.drew)) aj ?_;rw [Pl.qi 49 47];refine Pl.qf 3 50 v1 w1 (Pl.q0) (Pl.qn 32 32 (.tmp 47) (.tmp 49) ab) ao ?_;refine Pl.qf 6 53 v2 w2 (Pl.q0) (Pl.qn 32 32 (.tmp 50) (.tmp 52) ac) ah ?_;refine Pl.q1 7 54 (.pointer (some ⟨p,2,none⟩)) (Pl.q0) (Pl.q4 34 (.tmp 2) 2 (Zeh p)) ah ?_;refine Pl.qd 8 (w2.setCell ⟨p,2,none⟩ v2) (Pl.q0) (Pl.qh 32 (.tmp 54) (.tmp 53) _ (Zg5 p 2 v2 _ aa w2 ad.c2 (ad.fz 2))) ap ?_;refine Pl.q7 (fun A' hA'=>?_);rw [Pl.At.ext hA' ((((((((hA.put 48 _).put 51 _).put 52 _).put 47 _).put 49 _).put 50 _).put 53 _).put 54 _)];exact hend hA'.fn _ _ an aq ad ai
theorem Zhp (d:Dk)(p s:Sl)(u:Pt)(q:Sl)(w:World)(h:DkIn K w d p s)(hu:BsS K w q u.b)(ha:u.at_<0)(ht:u.trim=false)(hl:s.len+q.len≤1000000) :
    Calls Tryz.prog 73 #[d.val p s,u.val q] w fun e w'=>Below w.heap.size w w'∧∃p' s',e=.returned (Dk.val ⟨d.pg,d.base,d.st ++ u.b⟩ p' s')∧DkIn K w' ⟨d.pg,d.base,d.st ++ u.b⟩ p' s':=by
  obtain⟨pg,base,st⟩:=d;obtain⟨at_,b,trim,to⟩:=u;obtain⟨pa,pl,pc⟩:=p;obtain⟨sa,sl,sc⟩:=s;obtain⟨qa,ql,qc⟩:=q;simp only at h hu ha ht hl ⊢;subst ht;have H:=hide h;have HU:=hide hu;have ah:=hide hl;(have ha':¬(0:Int)≤at_:=by omega);obtain⟨W,hW⟩:∃W,W=((w.alloc (.cells #[.slice pa pl pc,.int .i64 base,.slice sa sl sc] 34)).alloc (.cells #[.int .i64 at_,.slice qa ql qc,.bool false,.int .i64 to] 117)).alloc (.cells #[.slice none 0 0,.int .i64 0,.slice none 0 0] 34):=⟨_,rfl⟩;(have am:W.heap.size=w.heap.size+1+1+1:=by rw [hW];simp);(have ad:Below w.heap.size w W:=by rw [hW];exact Zaf (Za6 w _ _) (Zaa _ _));have ai:DkBlk W w.heap.size (.slice pa pl pc) base (.slice sa sl sc):=by
   rw [hW];exact((Zbu w (.slice pa pl pc) base (.slice sa sl sc)).keep (Zaa _ _)).keep (Zaa _ _)
  have ak:DkBlk W (w.heap.size+1+1) (.slice none 0 0) 0 (.slice none 0 0):=by
   rw [hW];have:=Zbu ((w.alloc (.cells #[.slice pa pl pc,.int .i64 base,.slice sa sl sc] 34)).alloc (.cells #[.int .i64 at_,.slice qa ql qc,.bool false,.int .i64 to] 117)) (.slice none 0 0) 0 (.slice none 0 0);simpa using this
  have aj:PtBlk W (w.heap.size+1) at_ (.slice qa ql qc) false to:=by
   rw [hW];have:=(ZaB (w.alloc (.cells #[.slice pa pl pc,.int .i64 base,.slice sa sl sc] 34)) at_ (.slice qa ql qc) false to).keep (Zaa _ (.cells #[.slice none 0 0,.int .i64 0,.slice none 0 0] 34));simpa using this
  have af:=hide ad;have ar:=hide ai;have au:=hide aj;have av:=hide ak;have az:=hide hW;have bb:=hide am;have HX:Hid (Came W sa sl sc st):=(h.st.keep ad (Nat.le_refl _)).came;have HY:Hid (Came W qa ql qc b):=(hu.keep ad (Nat.le_refl _)).came;clear h hu hW am ad ai aj ak hl;unfold Dk.val Pt.val Sl.val;simp only;go_enter Tryz.func73,Tryz.ntmps73;go_wp2_with fail;rw [← az.out];refine Pl.q8 (ops:=Pl.find 10 ((Tryz.f73.body).getD .skip)) ?_;refine ZoJ W w.heap.size (w.heap.size+1) (by omega) (.slice pa pl pc) base at_ to false sa qa sl sc ql qc st b ar.out au.out HX.out HY.out ah.out (by rfl) (by rfl) (by rfl) (by rfl) ?_;intro u w2 v2 ao ae ag ba;simp only [Act.put,List.setIfInBounds_toArray,List.set_cons_zero,List.set_cons_succ];have aq:Bytes (st ++ b):=by
   intro x hx;rcases List.mem_append.1 hx with h1 | h1
   · exact H.out.st.bs.2.1 x h1
   · exact HU.out.bs.2.1 x h1
  obtain⟨s3,rfl,ap⟩:=ao.sl (K:=K) aq (by
   have e1:=HX.out.bs.1;have e2:=HY.out.bs.1;have e3:=ah.out;rw [List.length_append,e1,e2];exact e3) (Nat.le_trans H.out.st.low af.out.size) (Nat.le_trans (Nat.le_trans H.out.st.low af.out.size) ae.size)
  obtain⟨a3,l3,k3⟩:=s3;have al:=av.out.keep ae;have ab:=ag.set2 (Sl.val ⟨a3,l3,k3⟩);have aa:=al.off (q:=w.heap.size) (o:=2) (by omega) (Sl.val ⟨a3,l3,k3⟩);have ax:=hide ap;have ay:=hide ae;have aw:=hide ag;have ac:=hide aa;unfold Sl.val at ab aa;simp only at ab aa;have d0:=ab.c0;have d1:=ab.c1;have d2:=ab.c2;have z0:=aa.c0;have z1:=aa.c1;have z2:=aa.c2;have fz:=aa.fz;unfold Sl.val;simp only;clear ao ae ag ba ap ab al aa aq;go_wp2_with fail;show bodyPost Tryz.prog Tryz.f73 _ Exit.ret _ (setDk (w2.setCell ⟨w.heap.size,2,none⟩ (Sl.val ⟨a3,l3,k3⟩)) (w.heap.size+1+1) (Sl.val ⟨pa,pl,pc⟩) base (Sl.val ⟨a3,l3,k3⟩));refine Zmn rfl ac.out ⟨pg,base,st ++ b⟩ ⟨pa,pl,pc⟩ ⟨a3,l3,k3⟩ (by rfl) rfl ?_;have an:Below w.heap.size w (setDk (w2.setCell ⟨w.heap.size,2,none⟩ (Sl.val ⟨a3,l3,k3⟩)) (w.heap.size+1+1) (Sl.val ⟨pa,pl,pc⟩) base (Sl.val ⟨a3,l3,k3⟩)):=
   ZcV ((Zaf af.out ay.out).setCell (p:=⟨w.heap.size,2,none⟩) (Nat.le_refl _) _) (by omega) _ _ _
  refine⟨an,⟨pa,pl,pc⟩,⟨a3,l3,k3⟩,rfl,H.out.pg.keep an (Nat.le_refl _),?_⟩;exact(ax.out.other (DkBlk.no8 (s1:=⟨pa,pl,pc⟩) (s2:=⟨sa,sl,sc⟩) aw.out) fun j hj=>Below.heap_setCell _ ⟨w.heap.size,2,none⟩ _ j hj).other (DkBlk.no8 (s1:=Sl.nil) (s2:=Sl.nil) ac.out) fun j hj=>Zcu _ _ _ _ _ j hj
def setPt (w:World) (g:Nat) (a:Int) (x:Value) (t:Bool) (o:Int):World:=(((w.setCell ⟨g,0,none⟩ (.int .i64 a)).setCell ⟨g,1,none⟩ x).setCell ⟨g,2,none⟩ (.bool t)).setCell ⟨g,3,none⟩ (.int .i64 o)
theorem ZaL (w:World)(g:Nat)(a:Int)(x:Value)(t:Bool)(o:Int):(setPt w g a x t o).heap.size=w.heap.size:=by simp only [setPt,Zag]
theorem Zk5 {x0:Value}(h:PtBlk w g a0 x0 t0 o0)(a:Int)(x:Value)(t:Bool)(o:Int):PtBlk (setPt w g a x t o) g a x t o:=by
 have h1:=heap_setCell_same w g 0 _ 117 (.int .i64 a) h;have h2:=heap_setCell_same _ g 1 _ 117 x h1;have h3:=heap_setCell_same _ g 2 _ 117 (.bool t) h2;have h4:=heap_setCell_same _ g 3 _ 117 (.int .i64 o) h3;unfold PtBlk setPt;rw [h4];simp
theorem ZbV (hb:Below B w0 w)(hg:B≤g)(a:Int)(x:Value)(t:Bool)(o:Int):Below B w0 (setPt w g a x t o):=
 (((hb.setCell (p:=⟨g,0,none⟩) hg _).setCell (p:=⟨g,1,none⟩) hg _).setCell (p:=⟨g,2,none⟩) hg _).setCell (p:=⟨g,3,none⟩) hg _
theorem Zhk (w:World)(g:Nat)(a:Int)(x:Value)(t:Bool)(o:Int)(k:Nat)(hk:k≠g):(setPt w g a x t o).heap[k]? = w.heap[k]?:=by
 unfold setPt;rw [Below.heap_setCell _ ⟨g,3,none⟩ _ k hk,Below.heap_setCell _ ⟨g,2,none⟩ _ k hk,Below.heap_setCell _ ⟨g,1,none⟩ _ k hk,Below.heap_setCell _ ⟨g,0,none⟩ _ k hk]
theorem Zhc {x y:Nat}(hr:fn.results=#[.cell x 117,.tmp y]){q:Sl}{u:Pt}(h:PtBlk W g u.at_ q.val u.trim u.to)(tmps:Array Value)(ht:tmps.getD x undef=.pointer (some ⟨g,0,none⟩))(hv:tmps.getD y undef=v):(results fn tmps).run Tryz.prog W=.ok (.tuple #[u.val q,v]) W:=by
 have c0:=h.c0;have c1:=h.c1;have c2:=h.c2;have c3:=h.c3;unfold Sl.val at c1;(have aa:tmps[x]?.getD undef=.pointer (some ⟨g,0,none⟩):=by simpa using ht);(have ab:tmps[y]?.getD undef=v:=by simpa using hv);simp [results,hr,aa,ab,go_sem,c0,c1,c2,c3,Pt.val,Sl.val]
theorem Zeq {x y:Nat}(aa:fn.results=#[.cell x 117,.tmp y]){x0:Value}(h:PtBlk W g a0 x0 t0 o0)(u:Pt)(q:Sl)(v:Value){R:Ending→World→Prop}(t2:A.tmps.getD x undef=.pointer (some ⟨g,0,none⟩))(t3:A.tmps.getD y undef=v)(hd:A.defers=[])
    (hR:R (.returned (.tuple #[u.val q,v])) (setPt W g u.at_ q.val u.trim u.to)):bodyPost Tryz.prog fn R Exit.ret A (setPt W g u.at_ q.val u.trim u.to):=by
  have hr:=Zk5 h u.at_ q.val u.trim u.to;generalize setPt W g u.at_ q.val u.trim u.to=W' at *;exact bodyPost_ret (Zhc aa hr _ t2 t3) hd hR
theorem Zcr (p:Nat)(u:Pt)(q:Sl)(w:World)(h:PtBlk w p u.at_ q.val u.trim u.to):(Instr.loadAt 117 (.pointer (some ⟨p,0,none⟩))).run Tryz.prog w=.ok (u.val q) w:=by
 have c0:=h.c0;have c1:=h.c1;have c2:=h.c2;have c3:=h.c3;unfold Sl.val at c1;simp [go_sem,Instr.loadAt,c0,c1,c2,c3,Pt.val,Sl.val]
theorem Zmd (p:Nat)(u:Pt)(q:Sl)(w:World){x0:Sl}(h:PtBlk w p a0 x0.val t0 o0):(Instr.storeAt 117 (.pointer (some ⟨p,0,none⟩)) (u.val q)).run Tryz.prog w=.ok () (setPt w p u.at_ q.val u.trim u.to):=by
 have c0:=h.c0;have c1:=h.c1;have c2:=h.c2;have c3:=h.c3;have f0:=h.fz;unfold Sl.val at c1;simp [go_sem,Instr.storeAt,c0,c1,c2,c3,f0,Pt.val,Sl.val,setPt]
theorem Zlj:∀args w,(callFunc 75 args).run Tryz.prog w=.ok (.enter 75 args) w:=Pl.ql Tryz.func75
def Pt.first (u:Pt) (n:Int):Pt × Bool:=if (u.size:Int)≤n then (u,decide (0<u.size)) else if n≤0∨0≤u.at_∨u.trim=true then (u,false) else (⟨u.at_,u.b.take n.toNat,u.trim,u.to⟩,true)
theorem ZnS (w:World)(p g:Nat)(ai:p≠g)(u:Pt)(q:Sl)(hp:PtBlk w p u.at_ q.val u.trim u.to)(hg:PtBlk w g 0 Sl.nil.val false 0)(hq:BsS K w q u.b)
    {Q:Exit→Act→World→Prop}(aj:A.tmps.size=32)(ah:A.defers=[])(s2:A.tmps.getD 2 undef=.pointer (some ⟨p,0,none⟩))(s4:A.tmps.getD 4 undef=.pointer (some ⟨g,0,none⟩))
    (hend:∀(v:Nat→Value) w2,Below w.heap.size w w2→PtBlk w2 g 0 Sl.nil.val false 0→Q .normal ((((((A).put (some 10) (v 10)).put (some 11) (v 11)).put (some 12) (v 12)).put (some 13) (v 13)).put (some 5) (.bool (decide (0<u.size)))) (setPt w2 g u.at_ q.val u.trim u.to)) :
    (Code.region 2 (Pl.find 2 ((Tryz.f74.body).getD .skip)) true).wp Tryz.prog Q A w:=by
  have ae:Below w.heap.size w w.drew:=(Below.refl _ _).drew;have aa:(fun w'=>PtBlk w' p u.at_ q.val u.trim u.to) w.drew:=hp;have hA:=Pl.At.same (v:=.pointer (some ⟨g,0,none⟩)) (d:=4) (Pl.At.same (v:=.pointer (some ⟨p,0,none⟩)) (d:=2) (Pl.At.here aj ah) s2) s4;refine Pl.qa (S:=fun w'=>PtBlk w' p u.at_ q.val u.trim u.to) hA aa ?_;rw [show (Pl.find 2 ((Tryz.f74.body).getD .skip)).size=6 by kernel_rfl];refine Pl.q1 0 10 (u.val q) (Pl.q0) (Pl.q6 117 (.tmp 2) (fun w' hS=>Zcr p u q w' hS)) aa ?_;refine Pl.q1 1 11 (u.val q) (Pl.q0) (Pl.q6 117 (.tmp 2) (fun w' hS=>Zcr p u q w' hS)) aa ?_;refine Pl.qc 2 12 75 [.tmp 11] #[117] (Pl.q0) Zlj (Calls.mono (Zbb u q w.drew (hq.keep ae (Nat.le_refl _))) ?_);rintro e w1 ⟨rfl,ag⟩;have ac:Below w.heap.size w w1:=ae.trans ag;have ab:(fun w'=>PtBlk w' p u.at_ q.val u.trim u.to) w1:=hp.keep ac;have af:=hg.keep ac;refine⟨_,rfl,ab,?_⟩;have ad:(fun w'=>PtBlk w' p u.at_ q.val u.trim u.to) (setPt w1 g u.at_ q.val u.trim u.to):=by
   show PtBlk _ _ _ _ _ _;unfold PtBlk;rw [Zhk _ _ _ _ _ _ _ ai];exact ab
  refine Pl.q1 3 13 (.bool (decide (0<u.size))) (Pl.q0) (Pl.bin 3 .gtr 3 3 (.tmp 12) (.const (.int .i64 0)) _ (by kernel_rfl) (by decide) (by decide) (fun w=>by simp [Pl.ev,Pl.upd,go_sem])) ab ?_;refine Pl.qd 4 (setPt w1 g u.at_ q.val u.trim u.to) (Pl.q0) (Pl.qh 117 (.tmp 4) (.tmp 10) _ (Zmd g u q w1 af)) ad ?_;refine Pl.q1 5 5 (.bool (decide (0<u.size))) (Pl.q0) (Pl.qm (.tmp 13)) ad ?_;refine Pl.q7 (fun A' hA'=>?_);rw [Pl.At.ext hA' (((((hA.put 10 _).put 11 _).put 12 _).put 13 _).put 5 _)];exact hend hA'.fn _ ac af
theorem PtBlk.set1 (h:PtBlk w g a x t o)(u:Value):PtBlk (w.setCell ⟨g,1,none⟩ u) g a u t o:=by
 have:=heap_setCell_same w g 1 _ 117 u h;unfold PtBlk;rw [this];simp
theorem PtBlk.off {r:Int}(h:PtBlk w g a x t r){q o:Nat}(hq:g≠q)(u:Value):PtBlk (w.setCell ⟨q,o,none⟩ u) g a x t r:=by
 unfold PtBlk;rw [Below.heap_setCell _ ⟨q,o,none⟩ _ g hq];exact h
def Sl.upto (s:Sl) (k:Nat):Sl:=⟨fromA s.a s.cap 0,k,s.cap⟩
theorem BsS.upto {k:Nat}(h:BsS K w s xs)(hk:k≤s.len):BsS K w (s.upto k) (xs.take k):=by
 have ab:=h.le;have aa:=h.big;refine⟨⟨h.bs.upto hk,?_,by show k≤s.cap;omega,by show k≤_;omega⟩,h.low,fun h0 ad ha=>?_⟩;rotate_left
 · (have h0':0<s.len:=by have:0<k:=h0;omega);have ha':fromA s.a s.cap 0=some ad:=ha;unfold fromA at ha';split at ha'
   · exact h.home h0' ad ha'
   · cases hs:s.a with
     | none=>rw [hs] at ha';cases ha'
     | some x =>
      rw [hs] at ha';have:=h.home h0' x hs;simp only [Option.map_some,Option.some.injEq] at ha';rw [← ha'];unfold Addr.add;split <;> exact this
 intro e;have e':fromA s.a s.cap 0=none:=e;show s.cap=0;unfold fromA at e';split at e'
 · omega
 · cases ha:s.a with
   | none=>exact h.nil ha
   | some x=>rw [ha] at e';simp at e'
theorem ZbQ (u:Pt)(q:Sl)(n:Int)(w:World)(h:BsS K w q u.b) :
    Calls Tryz.prog 74 #[u.val q,.int .i64 n] w fun e w'=>Below w.heap.size w w'∧∃q',e=.returned (.tuple #[(u.first n).1.val q',.bool (u.first n).2])∧BsS K w' q' (u.first n).1.b:=by
  have ad:Hid (∀w',Below w.heap.size w w'→_):=fun w' hb=>Zbb u q w' (h.keep hb (Nat.le_refl _));obtain⟨qa,ql,qc⟩:=q;obtain⟨W,hW⟩:∃W,W=(w.alloc (.cells #[.int .i64 u.at_,.slice qa ql qc,.bool u.trim,.int .i64 u.to] 117)).alloc (.cells #[.int .i64 0,.slice none 0 0,.bool false,.int .i64 0] 117):=⟨_,rfl⟩;(have ao:Below w.heap.size w W:=by rw [hW];exact Za6 w _ _);have aa:PtBlk W w.heap.size u.at_ (.slice qa ql qc) u.trim u.to:=by
   rw [hW];exact(ZaB w u.at_ (.slice qa ql qc) u.trim u.to).keep (Zaa _ _)
  have ab:PtBlk W (w.heap.size+1) 0 (.slice none 0 0) false 0:=by
   rw [hW];have:=ZaB (w.alloc (.cells #[.int .i64 u.at_,.slice qa ql qc,.bool u.trim,.int .i64 u.to] 117)) 0 (.slice none 0 0) false 0;simpa using this
  have al:=hide hW;have ai:=hide ao;have ak:=hide aa;have an:=hide ab;have H:=hide h;clear h hW ao aa ab;by_cases hA:(u.size:Int)≤n
  · (have e:u.first n=(u,decide (0<u.size)):=by unfold Pt.first;rw [if_pos hA]);rw [e];simp only;unfold Pt.val Sl.val at ad;unfold Pt.val Sl.val;simp only at ad ⊢;generalize af:u.size=sz at ad hA ⊢;have ag:=hide af;clear af e;go_enter Tryz.func74,Tryz.ntmps74;go_wp2_with fail;rw [← al.out];refine(ad.out W ai.out).mono ?_;rintro e w1 ⟨rfl,ac⟩;have aa:=ak.out.keep ac;have ab:=an.out.keep ac;have ah:=hide (Zaf ai.out ac);have G2:=hide aa;have G4:=hide ab;clear ac aa ab;go_wp2_with fail;refine Pl.q8 (ops:=Pl.find 2 ((Tryz.f74.body).getD .skip)) ?_;refine ZnS w1 w.heap.size (w.heap.size+1) (by omega) u ⟨qa,ql,qc⟩ G2.out G4.out (H.out.keep ah.out (Nat.le_refl _)) (by rfl) (by rfl) (by rfl) (by rfl) ?_;intro v w2 ap aq;have av:=hide (Zaf ah.out ap);have au:=hide aq;clear ap aq;simp only [Act.put,List.setIfInBounds_toArray,List.set_cons_zero,List.set_cons_succ];go_wp2_with fail;refine Zeq rfl au.out u ⟨qa,ql,qc⟩ (.bool (decide (0<u.size))) (by rfl) (by rfl) rfl ?_;have ae:=ZbV av.out (Nat.le_succ _) u.at_ (Sl.val ⟨qa,ql,qc⟩) u.trim u.to;refine⟨ae,⟨qa,ql,qc⟩,?_,H.out.keep ae (Nat.le_refl _)⟩;rw [ag.out];rfl
  · have hA':¬(u.size:Int)≤n:=hA;(replace hA:n<(u.size:Int):=by omega);by_cases h1:n≤0
    · (have e:u.first n=(u,false):=by unfold Pt.first;rw [if_neg hA',if_pos (Or.inl h1)]);rw [e];clear hA';simp only;unfold Pt.val Sl.val at ad;unfold Pt.val Sl.val;simp only at ad ⊢;generalize af:u.size=sz at ad hA ⊢;have ag:=hide af;clear af e;go_enter Tryz.func74,Tryz.ntmps74;go_wp2_with fail;rw [← al.out];refine(ad.out W ai.out).mono ?_;rintro e w1 ⟨rfl,ac⟩;have aa:=ak.out.keep ac;have ab:=an.out.keep ac;have ah:=hide (Zaf ai.out ac);have G2:=hide aa;have G4:=hide ab;have c0:=aa.c0;have c1:=aa.c1;have c2:=aa.c2;have c3:=aa.c3;have z0:=ab.c0;have z1:=ab.c1;have z2:=ab.c2;have z3:=ab.c3;have fz:=ab.fz;have fy:=aa.fz;clear ac aa ab;go_wp2_with fail;show bodyPost Tryz.prog Tryz.f74 _ Exit.ret _ (setPt w1 (w.heap.size+1) u.at_ (Sl.val ⟨qa,ql,qc⟩) u.trim u.to);refine Zeq rfl G4.out u ⟨qa,ql,qc⟩ (.bool false) (by rfl) (by rfl) rfl ?_;have ae:=ZbV ah.out (Nat.le_succ _) u.at_ (Sl.val ⟨qa,ql,qc⟩) u.trim u.to;exact⟨ae,⟨qa,ql,qc⟩,rfl,H.out.keep ae (Nat.le_refl _)⟩
    · (replace h1:0<n:=by omega);by_cases h2:0≤u.at_
      · (have e:u.first n=(u,false):=by unfold Pt.first;rw [if_neg hA',if_pos (Or.inr (Or.inl h2))]);rw [e];clear hA';simp only;unfold Pt.val Sl.val at ad;unfold Pt.val Sl.val;simp only at ad ⊢;generalize af:u.size=sz at ad hA ⊢;have ag:=hide af;clear af e;go_enter Tryz.func74,Tryz.ntmps74;go_wp2_with fail;rw [← al.out];refine(ad.out W ai.out).mono ?_;rintro e w1 ⟨rfl,ac⟩;have aa:=ak.out.keep ac;have ab:=an.out.keep ac;have ah:=hide (Zaf ai.out ac);have G2:=hide aa;have G4:=hide ab;have c0:=aa.c0;have c1:=aa.c1;have c2:=aa.c2;have c3:=aa.c3;have z0:=ab.c0;have z1:=ab.c1;have z2:=ab.c2;have z3:=ab.c3;have fz:=ab.fz;have fy:=aa.fz;clear ac aa ab;go_wp2_with fail;show bodyPost Tryz.prog Tryz.f74 _ Exit.ret _ (setPt w1 (w.heap.size+1) u.at_ (Sl.val ⟨qa,ql,qc⟩) u.trim u.to);refine Zeq rfl G4.out u ⟨qa,ql,qc⟩ (.bool false) (by rfl) (by rfl) rfl ?_;have ae:=ZbV ah.out (Nat.le_succ _) u.at_ (Sl.val ⟨qa,ql,qc⟩) u.trim u.to;exact⟨ae,⟨qa,ql,qc⟩,rfl,H.out.keep ae (Nat.le_refl _)⟩
      · cases h3:u.trim
        · obtain⟨at_,b,trim,to⟩:=u;simp only at h3 h2;subst h3;(replace h2:at_<0:=by omega);obtain⟨k,rfl⟩:∃k:Nat,n=(k:Nat):=⟨n.toNat,by omega⟩;have ar:=H.out.len;have ax:Pt.size ⟨at_,b,false,to⟩=ql:=by
           unfold Pt.size;rw [if_pos ⟨h2,rfl⟩];exact ar
          (have hk:k≤ql:=by omega);have e:Pt.first ⟨at_,b,false,to⟩ (k:Nat)=(⟨at_,b.take k,false,to⟩,true):=by
           unfold Pt.first;rw [if_neg hA',if_neg (by
            rintro (x | x | x)
            · omega
            · have x':0≤at_:=x;omega
            · cases x)]
           rfl
          rw [e];have aw:=H.out.le;simp only at aw;have ay:=Zb0 qa ql qc k (by omega);have HK:=hide hk;clear hA' ar ax;simp only at al ak;simp only;unfold Pt.val Sl.val at ad;unfold Pt.val Sl.val;simp only at ad ⊢;generalize af:Pt.size ⟨at_,b,false,to⟩=sz at ad hA ⊢;have ag:=hide af;clear af e;go_enter Tryz.func74,Tryz.ntmps74;go_wp2_with fail;rw [← al.out];refine(ad.out W ai.out).mono ?_;rintro e w1 ⟨rfl,ac⟩;have aa:=ak.out.keep ac;have ab:=an.out.keep ac;have ah:=hide (Zaf ai.out ac);have G2:=hide aa;have G4:=hide ab;have c0:=aa.c0;have c1:=aa.c1;have c2:=aa.c2;have c3:=aa.c3;have z0:=ab.c0;have z1:=ab.c1;have z2:=ab.c2;have z3:=ab.c3;have fz:=ab.fz;have fy:=aa.fz;have am:=aa.set1 (Sl.val (Sl.upto ⟨qa,ql,qc⟩ k));have aj:=ab.off (q:=w.heap.size) (o:=1) (by omega) (Sl.val (Sl.upto ⟨qa,ql,qc⟩ k));have GY4:=hide aj;unfold Sl.upto Sl.val at am aj;simp only at am aj;have d0:=am.c0;have d1:=am.c1;have d2:=am.c2;have d3:=am.c3;have y0:=aj.c0;have y1:=aj.c1;have y2:=aj.c2;have y3:=aj.c3;have fw:=aj.fz;clear ac aa ab am aj;go_wp2_with fail;show bodyPost Tryz.prog Tryz.f74 _ Exit.ret _ (setPt (w1.setCell ⟨w.heap.size,1,none⟩ (Sl.val (Sl.upto ⟨qa,ql,qc⟩ k))) (w.heap.size+1) at_ (Sl.val (Sl.upto ⟨qa,ql,qc⟩ k)) false to);refine Zeq rfl GY4.out ⟨at_,b.take k,false,to⟩ (Sl.upto ⟨qa,ql,qc⟩ k) (.bool true) (by rfl) (by rfl) rfl ?_;have ae:=ZbV (ah.out.setCell (p:=⟨w.heap.size,1,none⟩) (Nat.le_refl _) (Sl.val (Sl.upto ⟨qa,ql,qc⟩ k))) (Nat.le_succ _) at_ (Sl.val (Sl.upto ⟨qa,ql,qc⟩ k)) false to;exact⟨ae,Sl.upto ⟨qa,ql,qc⟩ k,rfl,(H.out.upto HK.out).keep ae (Nat.le_refl _)⟩
        · (have e:u.first n=(u,false):=by unfold Pt.first;rw [if_neg hA',if_pos (Or.inr (Or.inr h3))]);rw [e];clear hA' e;(replace h2:u.at_<0:=by omega);obtain⟨at_,b,trim,to⟩:=u;simp only at h3 h2;subst h3;have e:=trivial;simp only at al ak;simp only;unfold Pt.val Sl.val at ad;unfold Pt.val Sl.val;simp only at ad ⊢;generalize af:Pt.size ⟨at_,b,true,to⟩=sz at ad hA ⊢;have ag:=hide af;clear af e;go_enter Tryz.func74,Tryz.ntmps74;go_wp2_with fail;rw [← al.out];refine(ad.out W ai.out).mono ?_;rintro e w1 ⟨rfl,ac⟩;have aa:=ak.out.keep ac;have ab:=an.out.keep ac;have ah:=hide (Zaf ai.out ac);have G2:=hide aa;have G4:=hide ab;have c0:=aa.c0;have c1:=aa.c1;have c2:=aa.c2;have c3:=aa.c3;have z0:=ab.c0;have z1:=ab.c1;have z2:=ab.c2;have z3:=ab.c3;have fz:=ab.fz;have fy:=aa.fz;clear ac aa ab;go_wp2_with fail;show bodyPost Tryz.prog Tryz.f74 _ Exit.ret _ (setPt w1 (w.heap.size+1) at_ (Sl.val ⟨qa,ql,qc⟩) true to);refine Zeq rfl G4.out ⟨at_,b,true,to⟩ ⟨qa,ql,qc⟩ (.bool false) (by rfl) (by rfl) rfl ?_;have ae:=ZbV ah.out (Nat.le_succ _) at_ (Sl.val ⟨qa,ql,qc⟩) true to;exact⟨ae,⟨qa,ql,qc⟩,rfl,H.out.keep ae (Nat.le_refl _)⟩
theorem Zoc:(Tryz.prog.info? 117).map (fun i=>(i.zero,i.size,i.bytes))=some (some (.agg #[.int .i64 0,.slice none 0 0,.bool false,.int .i64 0]),4,48):=by kernel_rfl
structure PtS where
  u:Pt
  q:Sl
def ptD:PtS:=⟨⟨0,[],false,0⟩,Sl.nil⟩
def PtS.cells (i:PtS):List Value:=[.int .i64 i.u.at_,i.q.val,.bool i.u.trim,.int .i64 i.u.to]
def ZbF (l:List PtS):List Value:=l.flatMap PtS.cells
def RowP (w:World) (b:Nat):Prop:=∃C fr,w.heap[b]? = some (Obj.cells C 117 fr)
def PtAt (w:World) (b o:Nat) (i:PtS):Prop:=w.cell? ⟨b,o,none⟩=some (.int .i64 i.u.at_)∧w.cell? ⟨b,o+1,none⟩=some i.q.val∧w.cell? ⟨b,o+2,none⟩=some (.bool i.u.trim)∧w.cell? ⟨b,o+3,none⟩=some (.int .i64 i.u.to)∧RowP w b
def PtS.ok (K:Home) (w:World) (i:PtS):Prop:=BsS K w i.q i.u.b∧(Lit.int .i64 i.u.at_).wf=true∧(Lit.int .i64 i.u.to).wf=true
def Ps (K:Home) (w:World) (a:Option Addr) (len:Nat) (l:List PtS):Prop:=
  l.length=len∧(∀i∈l,PtS.ok K w i)∧∀j,j<len→∃b off,a=some ⟨b,off,none⟩∧PtAt w b (off+j*4) (l.getD j ptD)
theorem PtS.ok.keep {i:PtS}(h:PtS.ok K w i)(hb:Below B w w')(hB:w.heap.size≤B):PtS.ok K w' i:=⟨h.1.keep hb hB,h.2⟩
theorem Ps.keep {a:Option Addr}{l:List PtS}(h:Ps K w a len l)(hb:Below B w w')(hB:w.heap.size≤B):Ps K w' a len l:=by
 refine⟨h.1,fun i hi=>(h.2.1 i hi).keep hb hB,fun j hj=>?_⟩;obtain⟨b,off,ha,c0,c1,c2,c3,C4,fr4,c4⟩:=h.2.2 j hj;have aa:=Nat.lt_of_lt_of_le (World.block_lt_of_cell? w _ c0) hB;exact⟨b,off,ha,(hb.cell aa).trans c0,(hb.cell (p:=⟨b,off+j*4+1,none⟩) aa).trans c1,(hb.cell (p:=⟨b,off+j*4+2,none⟩) aa).trans c2,(hb.cell (p:=⟨b,off+j*4+3,none⟩) aa).trans c3,C4,fr4,(hb.block b aa).trans c4⟩
theorem Ps.okAt {a:Option Addr}{l:List PtS}(h:Ps K w a len l)(j:Nat)(hj:j<len):PtS.ok K w (l.getD j ptD):=by
 (have hj':j<l.length:=by rw [h.1];exact hj);have:=h.2.1 _ (List.getElem_mem hj');simpa [List.getD,hj'] using this
theorem Zcs:∀l,(ZbF l).length=l.length*4
 | []=>rfl
 | i :: r=>by
  have:=Zcs r
  simp only [ZbF,List.flatMap_cons,List.length_append,List.length_cons] at *
  rw [this]
  simp [PtS.cells]
  omega
theorem ZfD (l m:List PtS):ZbF (l ++ m)=ZbF l ++ ZbF m:=by simp [ZbF]
theorem ZiD (l:List PtS):∀u∈ZbF l,u.oneCell'=true:=by
 intro u hu;obtain⟨i,_,hi⟩:=List.mem_flatMap.1 hu;simp only [PtS.cells,List.mem_cons,List.mem_nil_iff,or_false] at hi;rcases hi with rfl | rfl | rfl | rfl <;> rfl
theorem Zd3:∀(l:List PtS)(j t:Nat),j<l.length→t<4→(ZbF l)[j*4+t]? = (l.getD j ptD).cells[t]?
 | i :: r,0,t,_,ht=>by
  simp only [ZbF,List.flatMap_cons]
  rw [List.getElem?_append_left (by simp [PtS.cells];omega)]
  simp
 | i :: r,j+1,t,hj,ht=>by
  have:=Zd3 r j t (by simpa using hj) ht
  simp only [ZbF,List.flatMap_cons] at *
  rw [List.getElem?_append_right (by simp [PtS.cells];omega)]
  have e:(j+1)*4+t-i.cells.length=j*4+t:=by simp [PtS.cells];omega
  rw [e,this]
  simp [List.getD]
def OwnsP (w:World) (base:Nat) (v:Value) (l:List PtS):Prop:=w.ownsRow base 117 4 v l.length (ZbF l)
theorem OwnsP.keep {l:List PtS}(h:OwnsP w base v l)(hb:Below B w w')(hB:w.heap.size≤B):OwnsP w' base v l:=by
 refine⟨h.1,?_⟩;rcases h.2 with hn | ⟨g,cap,cur,hv,aa,hg,rest⟩
 · exact .inl hn
 · refine .inr ⟨g,cap,cur,hv,aa,?_,rest⟩;rw [hb.block g (Nat.lt_of_lt_of_le (Array.getElem?_eq_some_iff.1 hg).1 hB)];exact hg
theorem OwnsP.is {l:List PtS}(h:OwnsP w base v l)(hf:∀i∈l,PtS.ok K w i):∃a cap,v=.slice a l.length cap∧Ps K w a l.length l∧(a=none→cap=0)∧l.length≤cap:=by
 rcases h.2 with ⟨hv,h0⟩ | ⟨g,cap,cur,hv,ab,hg,aa,hr⟩
 · refine⟨none,0,by rw [h0];exact hv,⟨rfl,hf,fun j hj=>by omega⟩,fun _=>rfl,by omega⟩
 · refine⟨some ⟨g,0,none⟩,cap,hv,⟨rfl,hf,fun j hj=>⟨g,0,rfl,?_⟩⟩,(fun e=>by cases e),aa⟩;rw [hv] at h;have hc:∀t,t<4→w.cell? ⟨g,0+j*4+t,none⟩=(l.getD j ptD).cells[t]?:=by
    intro t ht;have:=World.ownsRow.cellAt h (j*4+t) (by omega);rw [Nat.zero_add,this,Zd3 l j t hj ht]
   exact⟨hc 0 (by omega),hc 1 (by omega),hc 2 (by omega),hc 3 (by omega),_,_,hg⟩
def ZoO (w w':World):Prop:=∀(p:Nat) (C:Array Value) (t:TypeId) (fr:Nat × Nat),w.heap[p]? = some (Obj.cells C t fr)→t≠117→w'.heap[p]? = w.heap[p]?
theorem OwnsP.ne {l:List PtS}(h:OwnsP w base v l){C:Array Value}{t:TypeId}{fr:Nat × Nat}(hp:w.heap[p]? = some (Obj.cells C t fr))(ht:t≠117):v.ownBlock≠some p:=by
 intro e;rcases h.2 with ⟨hv,_⟩ | ⟨g,cap,cur,hv,_,hg,_⟩
 · rw [hv] at e;cases e
 · rw [hv] at e;simp [Value.ownBlock] at e;subst e;rw [hg] at hp;simp only [Option.some.injEq,Obj.cells.injEq] at hp;exact ht hp.2.1.symm
theorem Zam (w:World)(ty:TypeId)(base:Nat)(v:Value)(l:List PtS)(aa:OwnsP w base v l)(ao:Option Addr)(len cap:Nat)(m:List PtS)(hb:Ps K w ao len m)(hn:ao=none→cap=0)
    (ah:l.length+len≤1000000)(ab:base≤w.heap.size) :
    ∃v' w',(Builtin.append_ #[35,35] ty #[v,.slice ao len cap]).run Tryz.prog w=.ok v' w'∧OwnsP w' base v' (l ++ m)∧Below base w w'∧ZoO w w'∧(∀p,p<w.heap.size→v.ownBlock≠some p→w'.heap[p]? = w.heap[p]?):=by
  obtain⟨i0,hi,aj,ak,al⟩:=info_parts Zoc;have af:∀k,v.ownBlock=some k→base≤k:=fun k hk=>(World.ownsRow.lt aa k hk).1;have ag:=hb.1;cases ao with
  | none =>
   obtain rfl:=hn rfl;have h0:len=0:=by
    rcases Nat.eq_zero_or_pos len with h | h
    · exact h
    · obtain⟨_,_,e,_⟩:=hb.2.2 0 h;cases e
   subst h0;have hy:m=[]:=List.eq_nil_of_length_eq_zero ag;subst hy;have ae:=run_append_owned_none (P:=Tryz.prog) (w:=w) base 35 ty 117 i0 4 Tryz.underlying35 hi v l.length (ZbF l) aa;exact⟨v,w,ae,by simpa using aa,Below.refl _ _,fun _ _ _ _ _ _=>rfl,fun _ _ _=>rfl⟩
  | some ad =>
   have ac:∀j u,(ZbF m)[j]? = some u→w.cell? (ad.add j)=some u:=by
    intro j u hj;have am:j<m.length*4:=by
     have:=(List.getElem?_eq_some_iff.1 hj).1;rw [Zcs] at this;exact this
    obtain⟨b,off,e,c0,c1,c2,c3,_⟩:=hb.2.2 (j / 4) (by omega);obtain rfl:=Option.some.inj e;have hg:=Zd3 m (j / 4) (j % 4) (by omega) (by omega);rw [show j / 4*4+j % 4=j by omega,hj] at hg;rw [Addr.add_lit];(have ai:j % 4=0∨j % 4=1∨j % 4=2∨j % 4=3:=by omega);rcases ai with e4 | e4 | e4 | e4 <;> rw [e4] at hg
    · rw [show off+j=off+j / 4*4 by omega,c0,hg];rfl
    · rw [show off+j=off+j / 4*4+1 by omega,c1,hg];rfl
    · rw [show off+j=off+j / 4*4+2 by omega,c2,hg];rfl
    · rw [show off+j=off+j / 4*4+3 by omega,c3,hg];rfl
   obtain⟨v',w',ae,ho,hg,_⟩:=run_append_own (P:=Tryz.prog) w base 35 ty 117 i0 (.agg #[.int .i64 0,.slice none 0 0,.bool false,.int .i64 0]) 4 48 Tryz.underlying35 hi aj ak al rfl (by decide) v l.length (ZbF l) aa ad len cap (ZbF m) (by rw [Zcs,ag]) ac (ZiD m)
    (by unfold maxLen;omega) (by omega) ab
   refine⟨v',w',ae,?_,(Below.refl base w).grown hg ab af,fun p C t fr hp ht=>hg.block p (Array.getElem?_eq_some_iff.1 hp).1 (aa.ne hp ht).symm,fun p hp hn=>hg.block p hp hn.symm⟩;unfold OwnsP;rw [List.length_append,ag,ZfD];exact ho
theorem Zep (w:World)(i:PtS)(hf:PtS.ok K w i):Ps K (w.alloc (.cells #[.int .i64 i.u.at_,i.q.val,.bool i.u.trim,.int .i64 i.u.to] 117)) (some ⟨w.heap.size,0,none⟩) 1 [i]:=by
 have hn:=ZaB w i.u.at_ i.q.val i.u.trim i.u.to;refine⟨rfl,fun x hx=>by simp at hx;rw [hx];exact hf.keep (Zaa _ _) (Nat.le_refl _),fun j hj=>?_⟩;(obtain rfl:j=0:=by omega);exact⟨w.heap.size,0,rfl,hn.c0,hn.c1,hn.c2,hn.c3,_,_,hn⟩
namespace Pl
theorem H.three {P:Program}{ops:Array Oper}{S:World→Prop}{Q:Exit→Act→World→Prop}{n fuel:Nat}{listed:Array Bool}{f:Nat→Value}(i k l:Nat)(hr:Region.ready .any ops listed=[i,k,l])(h:HOp P ops S Q n fuel listed f w i)(h2:HOp P ops S Q n fuel listed f w k)(h3:HOp P ops S Q n fuel listed f w l):H P ops S Q n (fuel+1) listed f w:=by
 intro A hA;refine wpAnyH_all hr (by simp) ?_;intro j hj;(have:j=i∨j=k∨j=l:=by simpa using hj);rcases this with rfl | rfl | rfl
 · exact h A hA
 · exact h2 A hA
 · exact h3 A hA
end Pl
def DvBlk (w:World) (p:Nat) (k0:Value) (k1:Int) (k2:Value) (n0:Value) (n1:Int) (n2:Value) (d:Value) (g:Bool) (a:Int):Prop:=w.heap[p]? = some (Obj.cells #[k0,.int .i64 k1,k2,n0,.int .i64 n1,n2,d,.bool g,.int .i64 a] 37 (0,0))
section
variable {w w' : World} {p : Nat} {k0 k2 n0 n2 d : Value} {k1 n1 a : Int} {g : Bool}
theorem DvBlk.keep (h:DvBlk w p k0 k1 k2 n0 n1 n2 d g a)(hb:Below w.heap.size w w'):DvBlk w' p k0 k1 k2 n0 n1 n2 d g a:=(hb.block p (Array.getElem?_eq_some_iff.1 h).1).trans h
theorem DvBlk.c0 (h:DvBlk w p k0 k1 k2 n0 n1 n2 d g a):w.cell? ⟨p,0,none⟩=some (k0):=by unfold DvBlk at h;simp [World.cell?,h]
theorem DvBlk.c1 (h:DvBlk w p k0 k1 k2 n0 n1 n2 d g a):w.cell? ⟨p,1,none⟩=some (.int .i64 k1):=by unfold DvBlk at h;simp [World.cell?,h]
theorem DvBlk.c2 (h:DvBlk w p k0 k1 k2 n0 n1 n2 d g a):w.cell? ⟨p,2,none⟩=some (k2):=by unfold DvBlk at h;simp [World.cell?,h]
theorem DvBlk.c3 (h:DvBlk w p k0 k1 k2 n0 n1 n2 d g a):w.cell? ⟨p,3,none⟩=some (n0):=by unfold DvBlk at h;simp [World.cell?,h]
theorem DvBlk.c4 (h:DvBlk w p k0 k1 k2 n0 n1 n2 d g a):w.cell? ⟨p,4,none⟩=some (.int .i64 n1):=by unfold DvBlk at h;simp [World.cell?,h]
theorem DvBlk.c5 (h:DvBlk w p k0 k1 k2 n0 n1 n2 d g a):w.cell? ⟨p,5,none⟩=some (n2):=by unfold DvBlk at h;simp [World.cell?,h]
theorem DvBlk.c6 (h:DvBlk w p k0 k1 k2 n0 n1 n2 d g a):w.cell? ⟨p,6,none⟩=some (d):=by unfold DvBlk at h;simp [World.cell?,h]
theorem DvBlk.c7 (h:DvBlk w p k0 k1 k2 n0 n1 n2 d g a):w.cell? ⟨p,7,none⟩=some (.bool g):=by unfold DvBlk at h;simp [World.cell?,h]
theorem DvBlk.c8 (h:DvBlk w p k0 k1 k2 n0 n1 n2 d g a):w.cell? ⟨p,8,none⟩=some (.int .i64 a):=by unfold DvBlk at h;simp [World.cell?,h]
theorem DvBlk.fz (h:DvBlk w p k0 k1 k2 n0 n1 n2 d g a)(o:Nat):w.frozen? ⟨p,o,none⟩=false:=frozen_of_row w p _ _ 37 h
end
theorem ZaM (w:World)(k0:Value)(k1:Int)(k2:Value)(n0:Value)(n1:Int)(n2:Value)(d:Value)(g:Bool)(a:Int):DvBlk (w.alloc (.cells #[k0,.int .i64 k1,k2,n0,.int .i64 n1,n2,d,.bool g,.int .i64 a] 37)) w.heap.size k0 k1 k2 n0 n1 n2 d g a:=heap_alloc_new w _
theorem Zbw (p:Nat)(w:World):(Instr.fieldAt 37 (.pointer (some ⟨p,0,none⟩)) 2).run Tryz.prog w=.ok (.pointer (some ⟨p,6,none⟩)) w:=by simp [go_sem,Instr.fieldAt]
theorem Zel (b o:Nat)(a:Option Addr)(len cap:Nat)(w:World)(h:w.cell? ⟨b,o,none⟩=some (.slice a len cap)):(Instr.loadAt 35 (.pointer (some ⟨b,o,none⟩))).run Tryz.prog w=.ok (.slice a len cap) w:=by
 simp [go_sem,h]
theorem ZbD (b o:Nat)(v u:Value)(hv:∃a len cap,v=.slice a len cap)(w:World)(h:w.cell? ⟨b,o,none⟩=some u)(hf:w.frozen? ⟨b,o,none⟩=false):(Instr.storeAt 35 (.pointer (some ⟨b,o,none⟩)) v).run Tryz.prog w=.ok () (w.setCell ⟨b,o,none⟩ v):=by
 obtain⟨a,len,cap,rfl⟩:=hv;simp [go_sem,Instr.storeAt,h,hf]
theorem Zcz (w:World):(Instr.buildSlice 35 0 #[]).run Tryz.prog w=.ok (.slice (some ⟨w.heap.size,0,none⟩) 0 0) (w.alloc (.cells #[] 117)):=by
 simp [go_sem,Instr.buildSlice]
theorem ZbP (x:PtS)(w:World):(Instr.buildSlice 35 1 #[(0,x.u.val x.q)]).run Tryz.prog w=.ok (.slice (some ⟨w.heap.size,0,none⟩) 1 1) (w.alloc (.cells #[.int .i64 x.u.at_,x.q.val,.bool x.u.trim,.int .i64 x.u.to] 117)):=by
 simp [go_sem,Instr.buildSlice,Pt.val,Sl.val]
theorem OwnsP.form {l:List PtS}(h:OwnsP w base v l):∃a len cap,v=.slice a len cap:=by
 rcases h.2 with ⟨hv,_⟩ | ⟨g,cp,cur,hv,_⟩
 · exact⟨_,_,_,hv⟩
 · exact⟨_,_,_,hv⟩
theorem OwnsP.new' (w:World)(base:Nat)(hb:base≤w.heap.size):OwnsP (w.alloc (.cells #[] 117)) base (.slice (some ⟨w.heap.size,0,none⟩) 0 0) []:=by
 have:=World.ownsRow_lit (base:=base) (e:=117) (size:=4) w #[] 0 hb (by unfold maxLen;omega) (by simp);simpa [OwnsP,ZbF] using this
theorem Ps.stay {l:List PtS}(h:Ps K w (some ⟨g,0,none⟩) len l)(hg:w'.heap[g]? = w.heap[g]?)(aa:∀i∈l,PtS.ok K w' i):Ps K w' (some ⟨g,0,none⟩) len l:=by
 refine⟨h.1,aa,fun j hj=>?_⟩;obtain⟨b,off,ha,c0,c1,c2,c3,C4,fr4,c4⟩:=h.2.2 j hj;have e:=Option.some.inj ha;simp only [Addr.mk.injEq] at e;obtain⟨rfl,rfl,_⟩:=e;refine⟨g,0,rfl,?_⟩;have hc:∀o,w'.cell? ⟨g,o,none⟩=w.cell? ⟨g,o,none⟩:=by
  intro o;simp only [World.cell?];rw [hg]
 exact⟨(hc _).trans c0,(hc _).trans c1,(hc _).trans c2,(hc _).trans c3,C4,fr4,hg.trans c4⟩
theorem do10 (w:World)(p g:Nat)(aa:g≠p)(k0:Value)(k1:Int)(k2:Value)(n0:Value)(n1:Int)(n2:Value)(da:Option Addr)(dl dc:Nat)(gn:Bool)(am:Int)(x:PtS)(l:List PtS)(hd:DvBlk w p k0 k1 k2 n0 n1 n2 (.slice da dl dc) gn am)(hp:PtBlk w g x.u.at_ x.q.val x.u.trim x.u.to)(hx:PtS.ok K w x)(hl:Ps K w da dl l)(hn:da=none→dc=0)(ad:dl≤1000)
    {Q:Exit→Act→World→Prop}(ac:A.tmps.size=54)(ab:A.defers=[])(s2:A.tmps.getD 2 undef=.pointer (some ⟨p,0,none⟩))(s6:A.tmps.getD 6 undef=.pointer (some ⟨g,0,none⟩))
    (hend:∀(u:Nat→Value) w6 v6,OwnsP w6 w.heap.size v6 (l ++ [x])→Below w.heap.size w w6→Q .normal (((((((((A).put (some 38) (u 38)).put (some 41) (u 41)).put (some 37) (u 37)).put (some 39) (u 39)).put (some 42) (u 42)).put (some 40) (u 40)).put (some 43) (u 43)).put (some 44) (u 44)) (w6.setCell ⟨p,6,none⟩ v6)) :
    (Code.region 10 (Pl.find 10 ((Tryz.f88.body).getD .skip)) true).wp Tryz.prog Q A w:=by
  have ae:=hl.1;have b0:Below w.heap.size w w.drew:=(Below.refl _ _).drew;have hA:=Pl.At.same (v:=.pointer (some ⟨g,0,none⟩)) (d:=6) (Pl.At.same (v:=.pointer (some ⟨p,0,none⟩)) (d:=2) (Pl.At.here ac ab) s2) s6;refine Pl.qa (S:=fun w'=>PtBlk w' g x.u.at_ x.q.val x.u.trim x.u.to) hA (hp.keep b0) ?_;rw [show (Pl.find 10 ((Tryz.f88.body).getD .skip)).size=9 by kernel_rfl];refine Pl.q1 1 38 (.pointer (some ⟨p,6,none⟩)) (Pl.q0) (Pl.q4 37 (.tmp 2) 2 (Zbw p)) (hp.keep b0) ?_;refine Pl.q1 4 41 (x.u.val x.q) (Pl.q0) (Pl.q6 117 (.tmp 6) (fun w' hS=>Zcr g x.u x.q w' hS)) (hp.keep b0) ?_;refine Pl.H.three 0 2 5 (by kernel_rfl) ?_ ?_ ?_
  · have b1:Below w.heap.size w (w.drew.alloc (.cells #[] 117)):=b0.alloc b0.size _;have o1:OwnsP (w.drew.alloc (.cells #[] 117)) w.heap.size (.slice (some ⟨w.drew.heap.size,0,none⟩) 0 0) []:=OwnsP.new' _ _ b0.size;refine Pl.qe 0 37 (.slice (some ⟨w.drew.heap.size,0,none⟩) 0 0) (w.drew.alloc (.cells #[] 117)) (Pl.q_39 35 (Zcz w.drew)) (hp.keep b1) ?_;refine Pl.qr 2 5 ?_ ?_
    · refine Pl.qe 2 39 (.slice da dl dc) (w.drew.alloc (.cells #[] 117)) (Pl.qp 35 (.tmp 38) (Zel p 6 da dl dc _ (hd.keep b1).c6)) (hp.keep b1) ?_;refine Pl.qr 3 5 ?_ ?_
      · obtain⟨v3,w3,r3,o3,bb3,_,t3⟩:=Zam (w.drew.alloc (.cells #[] 117)) 35 w.heap.size (.slice (some ⟨w.drew.heap.size,0,none⟩) 0 0) [] o1 da dl dc l (hl.keep b1 (Nat.le_refl _)) hn (by simp;omega) b1.size;rw [List.nil_append] at o3;have b3:=b1.trans bb3;refine Pl.qe 3 40 v3 w3 (Pl.qn 35 35 (.tmp 37) (.tmp 39) r3) (hp.keep b3) ?_;refine Pl.qu 5 ?_;have b4:Below w.heap.size w (w3.alloc (.cells #[.int .i64 x.u.at_,x.q.val,.bool x.u.trim,.int .i64 x.u.to] 117)):=b3.alloc b3.size _;have e4:=Zep w3 x (hx.keep b3 (Nat.le_refl _));have o4:=o3.keep (Zaa w3 (.cells #[.int .i64 x.u.at_,x.q.val,.bool x.u.trim,.int .i64 x.u.to] 117)) (Nat.le_refl _);refine Pl.qe 5 42 (.slice (some ⟨w3.heap.size,0,none⟩) 1 1) (w3.alloc (.cells #[.int .i64 x.u.at_,x.q.val,.bool x.u.trim,.int .i64 x.u.to] 117)) (Pl.qt 35 (.tmp 41) (ZbP x w3)) (hp.keep b4) ?_;rw [Pl.qi 40 42];obtain⟨vz,wz,rz,oz,bbz,_,_⟩:=Zam (w3.alloc (.cells #[.int .i64 x.u.at_,x.q.val,.bool x.u.trim,.int .i64 x.u.to] 117)) 35 w.heap.size v3 l o4 _ 1 1 [x] e4 (fun h=>by cases h) (by omega) b4.size;have bz:=b4.trans bbz;refine Pl.qf 6 43 vz wz (Pl.q0) (Pl.qn 35 35 (.tmp 40) (.tmp 42) rz) (hp.keep bz) ?_;refine Pl.q1 7 44 (.pointer (some ⟨p,6,none⟩)) (Pl.q0) (Pl.q4 37 (.tmp 2) 2 (Zbw p)) (hp.keep bz) ?_;refine Pl.qd 8 (wz.setCell ⟨p,6,none⟩ vz) (Pl.q0) (Pl.qh 35 (.tmp 44) (.tmp 43) _ (ZbD p 6 vz _ oz.form wz (hd.keep bz).c6 ((hd.keep bz).fz 6))) ((hp.keep bz).off aa _) ?_;refine Pl.q7 (fun A' hA'=>?_);rw [Pl.At.ext hA' ((((((((hA.put 38 _).put 41 _).put 37 _).put 39 _).put 42 _).put 40 _).put 43 _).put 44 _)];exact hend hA'.fn _ _ oz bz
      · have b5:Below w.heap.size w ((w.drew.alloc (.cells #[] 117)).alloc (.cells #[.int .i64 x.u.at_,x.q.val,.bool x.u.trim,.int .i64 x.u.to] 117)):=b1.alloc b1.size _;have e5:=Zep (w.drew.alloc (.cells #[] 117)) x (hx.keep b1 (Nat.le_refl _));have o5:=o1.keep (Zaa (w.drew.alloc (.cells #[] 117)) (.cells #[.int .i64 x.u.at_,x.q.val,.bool x.u.trim,.int .i64 x.u.to] 117)) (Nat.le_refl _);refine Pl.qe 5 42 (.slice (some ⟨(w.drew.alloc (.cells #[] 117)).heap.size,0,none⟩) 1 1) ((w.drew.alloc (.cells #[] 117)).alloc (.cells #[.int .i64 x.u.at_,x.q.val,.bool x.u.trim,.int .i64 x.u.to] 117)) (Pl.qt 35 (.tmp 41) (ZbP x (w.drew.alloc (.cells #[] 117)))) (hp.keep b5) ?_;refine Pl.qu 3 ?_;obtain⟨v6,w6,r6,o6,bb6,_,t6⟩:=Zam ((w.drew.alloc (.cells #[] 117)).alloc (.cells #[.int .i64 x.u.at_,x.q.val,.bool x.u.trim,.int .i64 x.u.to] 117)) 35 w.heap.size (.slice (some ⟨w.drew.heap.size,0,none⟩) 0 0) [] o5 da dl dc l (hl.keep b5 (Nat.le_refl _)) hn (by simp;omega) b5.size;rw [List.nil_append] at o6;have b6:=b5.trans bb6;have e6:=e5.stay (t6 _ (by simp <;> omega) (by simp [Value.ownBlock] <;> omega)) (fun i hi=>by simp only [List.mem_singleton] at hi;rw [hi];exact hx.keep b6 (Nat.le_refl _));refine Pl.qe 3 40 v6 w6 (Pl.qn 35 35 (.tmp 37) (.tmp 39) r6) (hp.keep b6) ?_;obtain⟨vz,wz,rz,oz,bbz,_,_⟩:=Zam w6 35 w.heap.size v6 l o6 _ 1 1 [x] e6 (fun h=>by cases h) (by omega) b6.size;have bz:=b6.trans bbz;refine Pl.qf 6 43 vz wz (Pl.q0) (Pl.qn 35 35 (.tmp 40) (.tmp 42) rz) (hp.keep bz) ?_;refine Pl.q1 7 44 (.pointer (some ⟨p,6,none⟩)) (Pl.q0) (Pl.q4 37 (.tmp 2) 2 (Zbw p)) (hp.keep bz) ?_;refine Pl.qd 8 (wz.setCell ⟨p,6,none⟩ vz) (Pl.q0) (Pl.qh 35 (.tmp 44) (.tmp 43) _ (ZbD p 6 vz _ oz.form wz (hd.keep bz).c6 ((hd.keep bz).fz 6))) ((hp.keep bz).off aa _) ?_;refine Pl.q7 (fun A' hA'=>?_);rw [Pl.At.ext hA' ((((((((hA.put 38 _).put 41 _).put 37 _).put 39 _).put 42 _).put 40 _).put 43 _).put 44 _)];exact hend hA'.fn _ _ oz bz
    · have b7:Below w.heap.size w ((w.drew.alloc (.cells #[] 117)).alloc (.cells #[.int .i64 x.u.at_,x.q.val,.bool x.u.trim,.int .i64 x.u.to] 117)):=b1.alloc b1.size _;have e7:=Zep (w.drew.alloc (.cells #[] 117)) x (hx.keep b1 (Nat.le_refl _));have o7:=o1.keep (Zaa (w.drew.alloc (.cells #[] 117)) (.cells #[.int .i64 x.u.at_,x.q.val,.bool x.u.trim,.int .i64 x.u.to] 117)) (Nat.le_refl _);refine Pl.qe 5 42 (.slice (some ⟨(w.drew.alloc (.cells #[] 117)).heap.size,0,none⟩) 1 1) ((w.drew.alloc (.cells #[] 117)).alloc (.cells #[.int .i64 x.u.at_,x.q.val,.bool x.u.trim,.int .i64 x.u.to] 117)) (Pl.qt 35 (.tmp 41) (ZbP x (w.drew.alloc (.cells #[] 117)))) (hp.keep b7) ?_;refine Pl.qu 2 ?_;refine Pl.qe 2 39 (.slice da dl dc) ((w.drew.alloc (.cells #[] 117)).alloc (.cells #[.int .i64 x.u.at_,x.q.val,.bool x.u.trim,.int .i64 x.u.to] 117)) (Pl.qp 35 (.tmp 38) (Zel p 6 da dl dc _ (hd.keep b7).c6)) (hp.keep b7) ?_;rw [Pl.qi 42 39];refine Pl.qu 3 ?_;obtain⟨v9,w9,r9,o9,bb9,_,t9⟩:=Zam ((w.drew.alloc (.cells #[] 117)).alloc (.cells #[.int .i64 x.u.at_,x.q.val,.bool x.u.trim,.int .i64 x.u.to] 117)) 35 w.heap.size (.slice (some ⟨w.drew.heap.size,0,none⟩) 0 0) [] o7 da dl dc l (hl.keep b7 (Nat.le_refl _)) hn (by simp;omega) b7.size;rw [List.nil_append] at o9;have b9:=b7.trans bb9;have e9:=e7.stay (t9 _ (by simp <;> omega) (by simp [Value.ownBlock] <;> omega)) (fun i hi=>by simp only [List.mem_singleton] at hi;rw [hi];exact hx.keep b9 (Nat.le_refl _));refine Pl.qe 3 40 v9 w9 (Pl.qn 35 35 (.tmp 37) (.tmp 39) r9) (hp.keep b9) ?_;obtain⟨vz,wz,rz,oz,bbz,_,_⟩:=Zam w9 35 w.heap.size v9 l o9 _ 1 1 [x] e9 (fun h=>by cases h) (by omega) b9.size;have bz:=b9.trans bbz;refine Pl.qf 6 43 vz wz (Pl.q0) (Pl.qn 35 35 (.tmp 40) (.tmp 42) rz) (hp.keep bz) ?_;refine Pl.q1 7 44 (.pointer (some ⟨p,6,none⟩)) (Pl.q0) (Pl.q4 37 (.tmp 2) 2 (Zbw p)) (hp.keep bz) ?_;refine Pl.qd 8 (wz.setCell ⟨p,6,none⟩ vz) (Pl.q0) (Pl.qh 35 (.tmp 44) (.tmp 43) _ (ZbD p 6 vz _ oz.form wz (hd.keep bz).c6 ((hd.keep bz).fz 6))) ((hp.keep bz).off aa _) ?_;refine Pl.q7 (fun A' hA'=>?_);rw [Pl.At.ext hA' ((((((((hA.put 38 _).put 41 _).put 37 _).put 39 _).put 42 _).put 40 _).put 43 _).put 44 _)];exact hend hA'.fn _ _ oz bz
  · refine Pl.qe 2 39 (.slice da dl dc) w.drew (Pl.qp 35 (.tmp 38) (Zel p 6 da dl dc _ (hd.keep b0).c6)) (hp.keep b0) ?_;refine Pl.qr 0 5 ?_ ?_
    · have b11:Below w.heap.size w (w.drew.alloc (.cells #[] 117)):=b0.alloc b0.size _;have o11:OwnsP (w.drew.alloc (.cells #[] 117)) w.heap.size (.slice (some ⟨w.drew.heap.size,0,none⟩) 0 0) []:=OwnsP.new' _ _ b0.size;refine Pl.qe 0 37 (.slice (some ⟨w.drew.heap.size,0,none⟩) 0 0) (w.drew.alloc (.cells #[] 117)) (Pl.q_39 35 (Zcz w.drew)) (hp.keep b11) ?_;rw [Pl.qi 39 37];refine Pl.qr 3 5 ?_ ?_
      · obtain⟨v12,w12,r12,o12,bb12,_,t12⟩:=Zam (w.drew.alloc (.cells #[] 117)) 35 w.heap.size (.slice (some ⟨w.drew.heap.size,0,none⟩) 0 0) [] o11 da dl dc l (hl.keep b11 (Nat.le_refl _)) hn (by simp;omega) b11.size;rw [List.nil_append] at o12;have b12:=b11.trans bb12;refine Pl.qe 3 40 v12 w12 (Pl.qn 35 35 (.tmp 37) (.tmp 39) r12) (hp.keep b12) ?_;refine Pl.qu 5 ?_;have b13:Below w.heap.size w (w12.alloc (.cells #[.int .i64 x.u.at_,x.q.val,.bool x.u.trim,.int .i64 x.u.to] 117)):=b12.alloc b12.size _;have e13:=Zep w12 x (hx.keep b12 (Nat.le_refl _));have o13:=o12.keep (Zaa w12 (.cells #[.int .i64 x.u.at_,x.q.val,.bool x.u.trim,.int .i64 x.u.to] 117)) (Nat.le_refl _);refine Pl.qe 5 42 (.slice (some ⟨w12.heap.size,0,none⟩) 1 1) (w12.alloc (.cells #[.int .i64 x.u.at_,x.q.val,.bool x.u.trim,.int .i64 x.u.to] 117)) (Pl.qt 35 (.tmp 41) (ZbP x w12)) (hp.keep b13) ?_;rw [Pl.qi 40 42];obtain⟨vz,wz,rz,oz,bbz,_,_⟩:=Zam (w12.alloc (.cells #[.int .i64 x.u.at_,x.q.val,.bool x.u.trim,.int .i64 x.u.to] 117)) 35 w.heap.size v12 l o13 _ 1 1 [x] e13 (fun h=>by cases h) (by omega) b13.size;have bz:=b13.trans bbz;refine Pl.qf 6 43 vz wz (Pl.q0) (Pl.qn 35 35 (.tmp 40) (.tmp 42) rz) (hp.keep bz) ?_;refine Pl.q1 7 44 (.pointer (some ⟨p,6,none⟩)) (Pl.q0) (Pl.q4 37 (.tmp 2) 2 (Zbw p)) (hp.keep bz) ?_;refine Pl.qd 8 (wz.setCell ⟨p,6,none⟩ vz) (Pl.q0) (Pl.qh 35 (.tmp 44) (.tmp 43) _ (ZbD p 6 vz _ oz.form wz (hd.keep bz).c6 ((hd.keep bz).fz 6))) ((hp.keep bz).off aa _) ?_;refine Pl.q7 (fun A' hA'=>?_);rw [Pl.At.ext hA' ((((((((hA.put 38 _).put 41 _).put 37 _).put 39 _).put 42 _).put 40 _).put 43 _).put 44 _)];exact hend hA'.fn _ _ oz bz
      · have b14:Below w.heap.size w ((w.drew.alloc (.cells #[] 117)).alloc (.cells #[.int .i64 x.u.at_,x.q.val,.bool x.u.trim,.int .i64 x.u.to] 117)):=b11.alloc b11.size _;have e14:=Zep (w.drew.alloc (.cells #[] 117)) x (hx.keep b11 (Nat.le_refl _));have o14:=o11.keep (Zaa (w.drew.alloc (.cells #[] 117)) (.cells #[.int .i64 x.u.at_,x.q.val,.bool x.u.trim,.int .i64 x.u.to] 117)) (Nat.le_refl _);refine Pl.qe 5 42 (.slice (some ⟨(w.drew.alloc (.cells #[] 117)).heap.size,0,none⟩) 1 1) ((w.drew.alloc (.cells #[] 117)).alloc (.cells #[.int .i64 x.u.at_,x.q.val,.bool x.u.trim,.int .i64 x.u.to] 117)) (Pl.qt 35 (.tmp 41) (ZbP x (w.drew.alloc (.cells #[] 117)))) (hp.keep b14) ?_;refine Pl.qu 3 ?_;obtain⟨v15,w15,r15,o15,bb15,_,t15⟩:=Zam ((w.drew.alloc (.cells #[] 117)).alloc (.cells #[.int .i64 x.u.at_,x.q.val,.bool x.u.trim,.int .i64 x.u.to] 117)) 35 w.heap.size (.slice (some ⟨w.drew.heap.size,0,none⟩) 0 0) [] o14 da dl dc l (hl.keep b14 (Nat.le_refl _)) hn (by simp;omega) b14.size;rw [List.nil_append] at o15;have b15:=b14.trans bb15;have e15:=e14.stay (t15 _ (by simp <;> omega) (by simp [Value.ownBlock] <;> omega)) (fun i hi=>by simp only [List.mem_singleton] at hi;rw [hi];exact hx.keep b15 (Nat.le_refl _));refine Pl.qe 3 40 v15 w15 (Pl.qn 35 35 (.tmp 37) (.tmp 39) r15) (hp.keep b15) ?_;obtain⟨vz,wz,rz,oz,bbz,_,_⟩:=Zam w15 35 w.heap.size v15 l o15 _ 1 1 [x] e15 (fun h=>by cases h) (by omega) b15.size;have bz:=b15.trans bbz;refine Pl.qf 6 43 vz wz (Pl.q0) (Pl.qn 35 35 (.tmp 40) (.tmp 42) rz) (hp.keep bz) ?_;refine Pl.q1 7 44 (.pointer (some ⟨p,6,none⟩)) (Pl.q0) (Pl.q4 37 (.tmp 2) 2 (Zbw p)) (hp.keep bz) ?_;refine Pl.qd 8 (wz.setCell ⟨p,6,none⟩ vz) (Pl.q0) (Pl.qh 35 (.tmp 44) (.tmp 43) _ (ZbD p 6 vz _ oz.form wz (hd.keep bz).c6 ((hd.keep bz).fz 6))) ((hp.keep bz).off aa _) ?_;refine Pl.q7 (fun A' hA'=>?_);rw [Pl.At.ext hA' ((((((((hA.put 38 _).put 41 _).put 37 _).put 39 _).put 42 _).put 40 _).put 43 _).put 44 _)];exact hend hA'.fn _ _ oz bz
    · have b16:Below w.heap.size w (w.drew.alloc (.cells #[.int .i64 x.u.at_,x.q.val,.bool x.u.trim,.int .i64 x.u.to] 117)):=b0.alloc b0.size _;have e16:=Zep w.drew x (hx.keep b0 (Nat.le_refl _));refine Pl.qe 5 42 (.slice (some ⟨w.drew.heap.size,0,none⟩) 1 1) (w.drew.alloc (.cells #[.int .i64 x.u.at_,x.q.val,.bool x.u.trim,.int .i64 x.u.to] 117)) (Pl.qt 35 (.tmp 41) (ZbP x w.drew)) (hp.keep b16) ?_;refine Pl.qu 0 ?_;have b17:Below w.heap.size w ((w.drew.alloc (.cells #[.int .i64 x.u.at_,x.q.val,.bool x.u.trim,.int .i64 x.u.to] 117)).alloc (.cells #[] 117)):=b16.alloc b16.size _;have o17:OwnsP ((w.drew.alloc (.cells #[.int .i64 x.u.at_,x.q.val,.bool x.u.trim,.int .i64 x.u.to] 117)).alloc (.cells #[] 117)) w.heap.size (.slice (some ⟨(w.drew.alloc (.cells #[.int .i64 x.u.at_,x.q.val,.bool x.u.trim,.int .i64 x.u.to] 117)).heap.size,0,none⟩) 0 0) []:=OwnsP.new' _ _ b16.size;have e17:=e16.keep (Zaa (w.drew.alloc (.cells #[.int .i64 x.u.at_,x.q.val,.bool x.u.trim,.int .i64 x.u.to] 117)) (.cells #[] 117)) (Nat.le_refl _);refine Pl.qe 0 37 (.slice (some ⟨(w.drew.alloc (.cells #[.int .i64 x.u.at_,x.q.val,.bool x.u.trim,.int .i64 x.u.to] 117)).heap.size,0,none⟩) 0 0) ((w.drew.alloc (.cells #[.int .i64 x.u.at_,x.q.val,.bool x.u.trim,.int .i64 x.u.to] 117)).alloc (.cells #[] 117)) (Pl.q_39 35 (Zcz (w.drew.alloc (.cells #[.int .i64 x.u.at_,x.q.val,.bool x.u.trim,.int .i64 x.u.to] 117)))) (hp.keep b17) ?_;rw [Pl.qi 42 37];rw [Pl.qi 39 37];refine Pl.qu 3 ?_;obtain⟨v18,w18,r18,o18,bb18,_,t18⟩:=Zam ((w.drew.alloc (.cells #[.int .i64 x.u.at_,x.q.val,.bool x.u.trim,.int .i64 x.u.to] 117)).alloc (.cells #[] 117)) 35 w.heap.size (.slice (some ⟨(w.drew.alloc (.cells #[.int .i64 x.u.at_,x.q.val,.bool x.u.trim,.int .i64 x.u.to] 117)).heap.size,0,none⟩) 0 0) [] o17 da dl dc l (hl.keep b17 (Nat.le_refl _)) hn (by simp;omega) b17.size;rw [List.nil_append] at o18;have b18:=b17.trans bb18;have e18:=e17.stay (t18 _ (by simp <;> omega) (by simp [Value.ownBlock] <;> omega)) (fun i hi=>by simp only [List.mem_singleton] at hi;rw [hi];exact hx.keep b18 (Nat.le_refl _));refine Pl.qe 3 40 v18 w18 (Pl.qn 35 35 (.tmp 37) (.tmp 39) r18) (hp.keep b18) ?_;obtain⟨vz,wz,rz,oz,bbz,_,_⟩:=Zam w18 35 w.heap.size v18 l o18 _ 1 1 [x] e18 (fun h=>by cases h) (by omega) b18.size;have bz:=b18.trans bbz;refine Pl.qf 6 43 vz wz (Pl.q0) (Pl.qn 35 35 (.tmp 40) (.tmp 42) rz) (hp.keep bz) ?_;refine Pl.q1 7 44 (.pointer (some ⟨p,6,none⟩)) (Pl.q0) (Pl.q4 37 (.tmp 2) 2 (Zbw p)) (hp.keep bz) ?_;refine Pl.qd 8 (wz.setCell ⟨p,6,none⟩ vz) (Pl.q0) (Pl.qh 35 (.tmp 44) (.tmp 43) _ (ZbD p 6 vz _ oz.form wz (hd.keep bz).c6 ((hd.keep bz).fz 6))) ((hp.keep bz).off aa _) ?_;refine Pl.q7 (fun A' hA'=>?_);rw [Pl.At.ext hA' ((((((((hA.put 38 _).put 41 _).put 37 _).put 39 _).put 42 _).put 40 _).put 43 _).put 44 _)];exact hend hA'.fn _ _ oz bz
  · have b19:Below w.heap.size w (w.drew.alloc (.cells #[.int .i64 x.u.at_,x.q.val,.bool x.u.trim,.int .i64 x.u.to] 117)):=b0.alloc b0.size _;have e19:=Zep w.drew x (hx.keep b0 (Nat.le_refl _));refine Pl.qe 5 42 (.slice (some ⟨w.drew.heap.size,0,none⟩) 1 1) (w.drew.alloc (.cells #[.int .i64 x.u.at_,x.q.val,.bool x.u.trim,.int .i64 x.u.to] 117)) (Pl.qt 35 (.tmp 41) (ZbP x w.drew)) (hp.keep b19) ?_;refine Pl.qr 0 2 ?_ ?_
    · have b20:Below w.heap.size w ((w.drew.alloc (.cells #[.int .i64 x.u.at_,x.q.val,.bool x.u.trim,.int .i64 x.u.to] 117)).alloc (.cells #[] 117)):=b19.alloc b19.size _;have o20:OwnsP ((w.drew.alloc (.cells #[.int .i64 x.u.at_,x.q.val,.bool x.u.trim,.int .i64 x.u.to] 117)).alloc (.cells #[] 117)) w.heap.size (.slice (some ⟨(w.drew.alloc (.cells #[.int .i64 x.u.at_,x.q.val,.bool x.u.trim,.int .i64 x.u.to] 117)).heap.size,0,none⟩) 0 0) []:=OwnsP.new' _ _ b19.size;have e20:=e19.keep (Zaa (w.drew.alloc (.cells #[.int .i64 x.u.at_,x.q.val,.bool x.u.trim,.int .i64 x.u.to] 117)) (.cells #[] 117)) (Nat.le_refl _);refine Pl.qe 0 37 (.slice (some ⟨(w.drew.alloc (.cells #[.int .i64 x.u.at_,x.q.val,.bool x.u.trim,.int .i64 x.u.to] 117)).heap.size,0,none⟩) 0 0) ((w.drew.alloc (.cells #[.int .i64 x.u.at_,x.q.val,.bool x.u.trim,.int .i64 x.u.to] 117)).alloc (.cells #[] 117)) (Pl.q_39 35 (Zcz (w.drew.alloc (.cells #[.int .i64 x.u.at_,x.q.val,.bool x.u.trim,.int .i64 x.u.to] 117)))) (hp.keep b20) ?_;rw [Pl.qi 42 37];refine Pl.qu 2 ?_;refine Pl.qe 2 39 (.slice da dl dc) ((w.drew.alloc (.cells #[.int .i64 x.u.at_,x.q.val,.bool x.u.trim,.int .i64 x.u.to] 117)).alloc (.cells #[] 117)) (Pl.qp 35 (.tmp 38) (Zel p 6 da dl dc _ (hd.keep b20).c6)) (hp.keep b20) ?_;rw [Pl.qi 42 39];refine Pl.qu 3 ?_;obtain⟨v22,w22,r22,o22,bb22,_,t22⟩:=Zam ((w.drew.alloc (.cells #[.int .i64 x.u.at_,x.q.val,.bool x.u.trim,.int .i64 x.u.to] 117)).alloc (.cells #[] 117)) 35 w.heap.size (.slice (some ⟨(w.drew.alloc (.cells #[.int .i64 x.u.at_,x.q.val,.bool x.u.trim,.int .i64 x.u.to] 117)).heap.size,0,none⟩) 0 0) [] o20 da dl dc l (hl.keep b20 (Nat.le_refl _)) hn (by simp;omega) b20.size;rw [List.nil_append] at o22;have b22:=b20.trans bb22;have e22:=e20.stay (t22 _ (by simp <;> omega) (by simp [Value.ownBlock] <;> omega)) (fun i hi=>by simp only [List.mem_singleton] at hi;rw [hi];exact hx.keep b22 (Nat.le_refl _));refine Pl.qe 3 40 v22 w22 (Pl.qn 35 35 (.tmp 37) (.tmp 39) r22) (hp.keep b22) ?_;obtain⟨vz,wz,rz,oz,bbz,_,_⟩:=Zam w22 35 w.heap.size v22 l o22 _ 1 1 [x] e22 (fun h=>by cases h) (by omega) b22.size;have bz:=b22.trans bbz;refine Pl.qf 6 43 vz wz (Pl.q0) (Pl.qn 35 35 (.tmp 40) (.tmp 42) rz) (hp.keep bz) ?_;refine Pl.q1 7 44 (.pointer (some ⟨p,6,none⟩)) (Pl.q0) (Pl.q4 37 (.tmp 2) 2 (Zbw p)) (hp.keep bz) ?_;refine Pl.qd 8 (wz.setCell ⟨p,6,none⟩ vz) (Pl.q0) (Pl.qh 35 (.tmp 44) (.tmp 43) _ (ZbD p 6 vz _ oz.form wz (hd.keep bz).c6 ((hd.keep bz).fz 6))) ((hp.keep bz).off aa _) ?_;refine Pl.q7 (fun A' hA'=>?_);rw [Pl.At.ext hA' ((((((((hA.put 38 _).put 41 _).put 37 _).put 39 _).put 42 _).put 40 _).put 43 _).put 44 _)];exact hend hA'.fn _ _ oz bz
    · refine Pl.qe 2 39 (.slice da dl dc) (w.drew.alloc (.cells #[.int .i64 x.u.at_,x.q.val,.bool x.u.trim,.int .i64 x.u.to] 117)) (Pl.qp 35 (.tmp 38) (Zel p 6 da dl dc _ (hd.keep b19).c6)) (hp.keep b19) ?_;rw [Pl.qi 42 39];refine Pl.qu 0 ?_;have b24:Below w.heap.size w ((w.drew.alloc (.cells #[.int .i64 x.u.at_,x.q.val,.bool x.u.trim,.int .i64 x.u.to] 117)).alloc (.cells #[] 117)):=b19.alloc b19.size _;have o24:OwnsP ((w.drew.alloc (.cells #[.int .i64 x.u.at_,x.q.val,.bool x.u.trim,.int .i64 x.u.to] 117)).alloc (.cells #[] 117)) w.heap.size (.slice (some ⟨(w.drew.alloc (.cells #[.int .i64 x.u.at_,x.q.val,.bool x.u.trim,.int .i64 x.u.to] 117)).heap.size,0,none⟩) 0 0) []:=OwnsP.new' _ _ b19.size;have e24:=e19.keep (Zaa (w.drew.alloc (.cells #[.int .i64 x.u.at_,x.q.val,.bool x.u.trim,.int .i64 x.u.to] 117)) (.cells #[] 117)) (Nat.le_refl _);refine Pl.qe 0 37 (.slice (some ⟨(w.drew.alloc (.cells #[.int .i64 x.u.at_,x.q.val,.bool x.u.trim,.int .i64 x.u.to] 117)).heap.size,0,none⟩) 0 0) ((w.drew.alloc (.cells #[.int .i64 x.u.at_,x.q.val,.bool x.u.trim,.int .i64 x.u.to] 117)).alloc (.cells #[] 117)) (Pl.q_39 35 (Zcz (w.drew.alloc (.cells #[.int .i64 x.u.at_,x.q.val,.bool x.u.trim,.int .i64 x.u.to] 117)))) (hp.keep b24) ?_;rw [Pl.qi 42 37];rw [Pl.qi 39 37];refine Pl.qu 3 ?_;obtain⟨v25,w25,r25,o25,bb25,_,t25⟩:=Zam ((w.drew.alloc (.cells #[.int .i64 x.u.at_,x.q.val,.bool x.u.trim,.int .i64 x.u.to] 117)).alloc (.cells #[] 117)) 35 w.heap.size (.slice (some ⟨(w.drew.alloc (.cells #[.int .i64 x.u.at_,x.q.val,.bool x.u.trim,.int .i64 x.u.to] 117)).heap.size,0,none⟩) 0 0) [] o24 da dl dc l (hl.keep b24 (Nat.le_refl _)) hn (by simp;omega) b24.size;rw [List.nil_append] at o25;have b25:=b24.trans bb25;have e25:=e24.stay (t25 _ (by simp <;> omega) (by simp [Value.ownBlock] <;> omega)) (fun i hi=>by simp only [List.mem_singleton] at hi;rw [hi];exact hx.keep b25 (Nat.le_refl _));refine Pl.qe 3 40 v25 w25 (Pl.qn 35 35 (.tmp 37) (.tmp 39) r25) (hp.keep b25) ?_;obtain⟨vz,wz,rz,oz,bbz,_,_⟩:=Zam w25 35 w.heap.size v25 l o25 _ 1 1 [x] e25 (fun h=>by cases h) (by omega) b25.size;have bz:=b25.trans bbz;refine Pl.qf 6 43 vz wz (Pl.q0) (Pl.qn 35 35 (.tmp 40) (.tmp 42) rz) (hp.keep bz) ?_;refine Pl.q1 7 44 (.pointer (some ⟨p,6,none⟩)) (Pl.q0) (Pl.q4 37 (.tmp 2) 2 (Zbw p)) (hp.keep bz) ?_;refine Pl.qd 8 (wz.setCell ⟨p,6,none⟩ vz) (Pl.q0) (Pl.qh 35 (.tmp 44) (.tmp 43) _ (ZbD p 6 vz _ oz.form wz (hd.keep bz).c6 ((hd.keep bz).fz 6))) ((hp.keep bz).off aa _) ?_;refine Pl.q7 (fun A' hA'=>?_);rw [Pl.At.ext hA' ((((((((hA.put 38 _).put 41 _).put 37 _).put 39 _).put 42 _).put 40 _).put 43 _).put 44 _)];exact hend hA'.fn _ _ oz bz
def Dk.turn (d:Dk) (u:Pt):Dk:=
  if 0≤u.at_ then ⟨d.pg.take (128*u.at_.toNat) ++ u.b ++ d.pg.drop (128*u.at_.toNat+128),d.base,d.st⟩
  else if u.trim=true then ⟨d.pg,u.to,d.st.drop (u.to-d.base).toNat⟩
  else ⟨d.pg,d.base,d.st ++ u.b⟩
structure Fits (d:Dk) (u:Pt):Prop where
  pg:d.pg.length≤100000
  st:d.st.length≤100000
  b:u.b.length≤4000
  sec:0≤u.at_→128*u.at_.toNat+128≤d.pg.length
  cut:u.at_<0→u.trim=true→d.base≤u.to∧(u.to-d.base).toNat≤d.st.length
  to:(Lit.int .i64 u.to).wf=true
theorem ZbG (d:Dk)(p s:Sl)(u:Pt)(q:Sl)(w:World)(h:DkIn K w d p s)(hu:BsS K w q u.b)(hf:Fits d u) :
    Calls Tryz.prog 73 #[d.val p s,u.val q] w fun e w'=>Below w.heap.size w w'∧∃p' s',e=.returned ((d.turn u).val p' s')∧DkIn K w' (d.turn u) p' s':=by
  have l1:=h.pg.len;have l2:=h.st.len;have l3:=hu.len;have f1:=hf.pg;have f2:=hf.st;have f3:=hf.b;by_cases h0:0≤u.at_
  · (have e:d.turn u=⟨d.pg.take (128*u.at_.toNat) ++ u.b ++ d.pg.drop (128*u.at_.toNat+128),d.base,d.st⟩:=by unfold Dk.turn;rw [if_pos h0]);have f4:=hf.sec h0;rw [e];exact Zhq d p s u q u.at_.toNat w h hu (by omega) (by omega) (by omega) (by omega)
  · cases ht:u.trim
    · (have e:d.turn u=⟨d.pg,d.base,d.st ++ u.b⟩:=by unfold Dk.turn;rw [if_neg h0,if_neg (by rw [ht];decide)]);rw [e];exact Zhp d p s u q w h hu (by omega) ht (by omega)
    · (have e:d.turn u=⟨d.pg,u.to,d.st.drop (u.to-d.base).toNat⟩:=by unfold Dk.turn;rw [if_neg h0,if_pos ht]);obtain⟨g1,g2⟩:=hf.cut (by omega) ht;rw [e];exact ZkJ d p s u q (u.to-d.base).toNat w h (by omega) ht (by omega) (by omega) hf.to
structure Dv where
  kept:Dk
  now:Dk
  done:List PtS
  gone:Bool
  armed:Int
structure DvL where
  kp:Sl
  ks:Sl
  np:Sl
  ns:Sl
  ds:Sl
def Dv.val (d:Dv) (L:DvL):Value:=.agg #[L.kp.val,.int .i64 d.kept.base,L.ks.val,L.np.val,.int .i64 d.now.base,L.ns.val,L.ds.val,.bool d.gone,.int .i64 d.armed]
structure DvIn (K:Home) (w:World) (d:Dv) (L:DvL):Prop where
  kept:DkIn K w d.kept L.kp L.ks
  now:DkIn K w d.now L.np L.ns
  done:Ps K w L.ds.a L.ds.len d.done
  nil:L.ds.a=none→L.ds.cap=0
  le:L.ds.len≤L.ds.cap
theorem DvIn.keep {d:Dv}{L:DvL}(h:DvIn K w d L)(hb:Below B w w')(hB:w.heap.size≤B):DvIn K w' d L:=⟨h.kept.keep hb hB,h.now.keep hb hB,h.done.keep hb hB,h.nil,h.le⟩
def setDv (w:World) (p:Nat) (k0:Value) (k1:Int) (k2:Value) (n0:Value) (n1:Int) (n2:Value) (d:Value) (g:Bool) (a:Int):World:=(((((((((w.setCell ⟨p,0,none⟩ (k0)).setCell ⟨p,1,none⟩ (.int .i64 k1)).setCell ⟨p,2,none⟩ (k2)).setCell ⟨p,3,none⟩ (n0)).setCell ⟨p,4,none⟩ (.int .i64 n1)).setCell ⟨p,5,none⟩ (n2)).setCell ⟨p,6,none⟩ (d)).setCell ⟨p,7,none⟩ (.bool g)).setCell ⟨p,8,none⟩ (.int .i64 a))
theorem ZaK (w:World)(p:Nat)(k0:Value)(k1:Int)(k2:Value)(n0:Value)(n1:Int)(n2:Value)(d:Value)(g:Bool)(a:Int):(setDv w p k0 k1 k2 n0 n1 n2 d g a).heap.size=w.heap.size:=by simp only [setDv,Zag]
theorem Zdq (h:DvBlk w p k0' k1' k2' n0' n1' n2' d' g' a')(k0:Value)(k1:Int)(k2:Value)(n0:Value)(n1:Int)(n2:Value)(d:Value)(g:Bool)(a:Int):DvBlk (setDv w p k0 k1 k2 n0 n1 n2 d g a) p k0 k1 k2 n0 n1 n2 d g a:=by
 have h1:=heap_setCell_same w p 0 _ 37 (k0) h;have h2:=heap_setCell_same _ p 1 _ 37 (.int .i64 k1) h1;have h3:=heap_setCell_same _ p 2 _ 37 (k2) h2;have h4:=heap_setCell_same _ p 3 _ 37 (n0) h3;have h5:=heap_setCell_same _ p 4 _ 37 (.int .i64 n1) h4;have h6:=heap_setCell_same _ p 5 _ 37 (n2) h5;have h7:=heap_setCell_same _ p 6 _ 37 (d) h6;have h8:=heap_setCell_same _ p 7 _ 37 (.bool g) h7;have h9:=heap_setCell_same _ p 8 _ 37 (.int .i64 a) h8;unfold DvBlk setDv;rw [h9];simp
theorem Za3 (hb:Below B w0 w)(hg:B≤p)(k0:Value)(k1:Int)(k2:Value)(n0:Value)(n1:Int)(n2:Value)(d:Value)(g:Bool)(a:Int):Below B w0 (setDv w p k0 k1 k2 n0 n1 n2 d g a):=
 (((((((((hb.setCell (p:=⟨p,0,none⟩) hg _).setCell (p:=⟨p,1,none⟩) hg _).setCell (p:=⟨p,2,none⟩) hg _).setCell (p:=⟨p,3,none⟩) hg _).setCell (p:=⟨p,4,none⟩) hg _).setCell (p:=⟨p,5,none⟩) hg _).setCell (p:=⟨p,6,none⟩) hg _).setCell (p:=⟨p,7,none⟩) hg _).setCell (p:=⟨p,8,none⟩) hg _)
theorem Zas (w:World)(p:Nat)(k0:Value)(k1:Int)(k2:Value)(n0:Value)(n1:Int)(n2:Value)(d:Value)(g:Bool)(a:Int)(k:Nat)(hk:k≠p):(setDv w p k0 k1 k2 n0 n1 n2 d g a).heap[k]? = w.heap[k]?:=by
 unfold setDv;rw [Below.heap_setCell _ ⟨p,8,none⟩ _ k hk,Below.heap_setCell _ ⟨p,7,none⟩ _ k hk,Below.heap_setCell _ ⟨p,6,none⟩ _ k hk,Below.heap_setCell _ ⟨p,5,none⟩ _ k hk,Below.heap_setCell _ ⟨p,4,none⟩ _ k hk,Below.heap_setCell _ ⟨p,3,none⟩ _ k hk,Below.heap_setCell _ ⟨p,2,none⟩ _ k hk,Below.heap_setCell _ ⟨p,1,none⟩ _ k hk,Below.heap_setCell _ ⟨p,0,none⟩ _ k hk]
def ZaF (w:World) (p:Nat) (n0:Value) (n1:Int) (n2:Value):World:=(((w.setCell ⟨p,3,none⟩ (n0)).setCell ⟨p,4,none⟩ (.int .i64 n1)).setCell ⟨p,5,none⟩ (n2))
theorem ZbU (w:World)(p:Nat)(n0:Value)(n1:Int)(n2:Value):(ZaF w p n0 n1 n2).heap.size=w.heap.size:=by simp only [ZaF,Zag]
theorem Zbz (h:DvBlk w p k0' k1' k2' n0' n1' n2' d' g' a')(n0:Value)(n1:Int)(n2:Value):DvBlk (ZaF w p n0 n1 n2) p k0' k1' k2' n0 n1 n2 d' g' a':=by
 have h1:=heap_setCell_same w p 3 _ 37 (n0) h;have h2:=heap_setCell_same _ p 4 _ 37 (.int .i64 n1) h1;have h3:=heap_setCell_same _ p 5 _ 37 (n2) h2;unfold DvBlk ZaF;rw [h3];simp
theorem ZaQ (hb:Below B w0 w)(hg:B≤p)(n0:Value)(n1:Int)(n2:Value):Below B w0 (ZaF w p n0 n1 n2):=
 (((hb.setCell (p:=⟨p,3,none⟩) hg _).setCell (p:=⟨p,4,none⟩) hg _).setCell (p:=⟨p,5,none⟩) hg _)
theorem Zaq (w:World)(p:Nat)(n0:Value)(n1:Int)(n2:Value)(k:Nat)(hk:k≠p):(ZaF w p n0 n1 n2).heap[k]? = w.heap[k]?:=by
 unfold ZaF;rw [Below.heap_setCell _ ⟨p,5,none⟩ _ k hk,Below.heap_setCell _ ⟨p,4,none⟩ _ k hk,Below.heap_setCell _ ⟨p,3,none⟩ _ k hk]
theorem DvBlk.other (h:DvBlk w p k0' k1' k2' n0' n1' n2' d' g' a')(hk:w'.heap[p]? = w.heap[p]?):DvBlk w' p k0' k1' k2' n0' n1' n2' d' g' a':=hk.trans h
theorem PtBlk.other (h:PtBlk w p a x t o)(hk:w'.heap[p]? = w.heap[p]?):PtBlk w' p a x t o:=hk.trans h
theorem ZbH {x:Nat}(hr:fn.results=#[.cell x 37]){d:Dv}{L:DvL}(h:DvBlk W p L.kp.val d.kept.base L.ks.val L.np.val d.now.base L.ns.val L.ds.val d.gone d.armed)(tmps:Array Value)(ht:tmps.getD x undef=.pointer (some ⟨p,0,none⟩)):(results fn tmps).run Tryz.prog W=.ok (d.val L) W:=by
 have c0:=h.c0;have c1:=h.c1;have c2:=h.c2;have c3:=h.c3;have c4:=h.c4;have c5:=h.c5;have c6:=h.c6;have c7:=h.c7;have c8:=h.c8;unfold Sl.val at c0 c2 c3 c5 c6;(have aa:tmps[x]?.getD undef=.pointer (some ⟨p,0,none⟩):=by simpa using ht);simp [results,hr,aa,go_sem,c0,c1,c2,c3,c4,c5,c6,c7,c8,Dv.val,Sl.val]
theorem Zdd {x:Nat}(aa:fn.results=#[.cell x 37])(h:DvBlk W p k0' k1' k2' n0' n1' n2' d' g' a')(d:Dv)(L:DvL){R:Ending→World→Prop}(t2:A.tmps.getD x undef=.pointer (some ⟨p,0,none⟩))(hd:A.defers=[])
    (hR:R (.returned (d.val L)) (setDv W p L.kp.val d.kept.base L.ks.val L.np.val d.now.base L.ns.val L.ds.val d.gone d.armed)):bodyPost Tryz.prog fn R Exit.ret A (setDv W p L.kp.val d.kept.base L.ks.val L.np.val d.now.base L.ns.val L.ds.val d.gone d.armed):=by
  have hr:=Zdq h L.kp.val d.kept.base L.ks.val L.np.val d.now.base L.ns.val L.ds.val d.gone d.armed;generalize setDv W p L.kp.val d.kept.base L.ks.val L.np.val d.now.base L.ns.val L.ds.val d.gone d.armed=W' at *;exact bodyPost_ret (ZbH aa hr _ t2) hd hR
theorem DvBlk.no8 {s0 s2 s3 s5 s6:Sl}(h:DvBlk w p s0.val k1' s2.val s3.val n1' s5.val s6.val g' a'):∀o i,w.cell? ⟨p,o,none⟩≠some (.int .u8 i):=by
 intro o i;unfold DvBlk Sl.val at h;rcases o with _ | _ | _ | _ | _ | _ | _ | _ | _ | o <;> simp [World.cell?,h]
theorem DkIn.other {d:Dk}{p:Sl}(h:DkIn K w d p s)(hg:∀o i,w.cell? ⟨g,o,none⟩≠some (.int .u8 i))(ho:∀k,k≠g→w'.heap[k]? = w.heap[k]?)(hs:w.heap.size≤w'.heap.size:=by first | (simp only [Zag,Nat.le_refl];done) | (simp only [Zax,Zag,Nat.le_refl];done) | (simp only [ZaL,Zax,Zag,Nat.le_refl];done) | (simp only [ZbU,ZaK,ZaL,Zax,Zag,Nat.le_refl];done)):DkIn K w' d p s:=⟨h.pg.other hg ho hs,h.st.other hg ho hs⟩
structure DoIn (w W:World) (d:Dv) (L:DvL) (u:Pt) (q:Sl):Prop where
  below:Below w.heap.size w W
  size:W.heap.size=w.heap.size+1+1+1
  dv:DvBlk W w.heap.size L.kp.val d.kept.base L.ks.val L.np.val d.now.base L.ns.val L.ds.val d.gone d.armed
  pt:PtBlk W (w.heap.size+1) u.at_ q.val u.trim u.to
  zero:DvBlk W (w.heap.size+1+1) Sl.nil.val 0 Sl.nil.val Sl.nil.val 0 Sl.nil.val Sl.nil.val false 0
def doW (w:World) (d:Dv) (L:DvL) (u:Pt) (q:Sl):World:=
  ((w.alloc (.cells #[L.kp.val,.int .i64 d.kept.base,L.ks.val,L.np.val,.int .i64 d.now.base,L.ns.val,L.ds.val,.bool d.gone,.int .i64 d.armed] 37)).alloc (.cells #[.int .i64 u.at_,q.val,.bool u.trim,.int .i64 u.to] 117)).alloc (.cells #[Sl.nil.val,.int .i64 0,Sl.nil.val,Sl.nil.val,.int .i64 0,Sl.nil.val,Sl.nil.val,.bool false,.int .i64 0] 37)
theorem Zcp (w:World)(d:Dv)(L:DvL)(u:Pt)(q:Sl):DoIn w (doW w d L u q) d L u q:=by
 unfold doW;refine⟨Zaf (Za6 w _ _) (Zaa _ _),by simp,?_,?_,?_⟩
 · exact((ZaM w _ _ _ _ _ _ _ _ _).keep (Zaa _ _)).keep (Zaa _ _)
 · have:=(ZaB (w.alloc (.cells #[L.kp.val,.int .i64 d.kept.base,L.ks.val,L.np.val,.int .i64 d.now.base,L.ns.val,L.ds.val,.bool d.gone,.int .i64 d.armed] 37)) u.at_ q.val u.trim u.to).keep (Zaa _ (.cells #[Sl.nil.val,.int .i64 0,Sl.nil.val,Sl.nil.val,.int .i64 0,Sl.nil.val,Sl.nil.val,.bool false,.int .i64 0] 37));simpa using this
 · have:=ZaM ((w.alloc (.cells #[L.kp.val,.int .i64 d.kept.base,L.ks.val,L.np.val,.int .i64 d.now.base,L.ns.val,L.ds.val,.bool d.gone,.int .i64 d.armed] 37)).alloc (.cells #[.int .i64 u.at_,q.val,.bool u.trim,.int .i64 u.to] 117)) Sl.nil.val 0 Sl.nil.val Sl.nil.val 0 Sl.nil.val Sl.nil.val false 0;simpa using this
theorem ZmB (d:Dv)(L:DvL)(u:Pt)(q:Sl)(w:World)(h:DvIn K w d L)(hu:BsS K w q u.b)(hf:Fits d.now u)(hg:d.gone=true) :
    Calls Tryz.prog 88 #[d.val L,u.val q] w fun e w'=>Below w.heap.size w w'∧∃L',e=.returned (Dv.val ⟨d.kept,d.now.turn u,d.done,true,d.armed⟩ L')∧DvIn K w' ⟨d.kept,d.now.turn u,d.done,true,d.armed⟩ L':=by
  have HT:Hid (∀w',Below w.heap.size w w'→_):=fun w' hb=>ZbG d.now L.np L.ns u q w' (h.now.keep hb (Nat.le_refl _)) (hu.keep hb (Nat.le_refl _)) hf;have HI:=hide (Zcp w d L u q);have HE:Hid (doW w d L u q=doW w d L u q):=rfl;unfold doW at HE;have H:=hide h;generalize hW:doW w d L u q=W at HI;have ae:=hide hW;unfold doW at ae;obtain⟨kept,now,done,gone,armed⟩:=d;simp only at hg;subst hg;clear h hu hf hW HE;generalize am:now.turn u=nt at HT ⊢;clear am;unfold Dk.val Pt.val Sl.val at HT;unfold Sl.nil Sl.val at ae;unfold Dv.val Pt.val Sl.val;simp only at HT ae ⊢;go_enter Tryz.func88,Tryz.ntmps88;go_wp2_with fail;rw [ae.out];refine(HT.out W HI.out.below).mono ?_;rintro e w1 ⟨af,p1,s1,rfl,ad⟩;have ac:=HI.out.dv.keep af;have ai:=HI.out.zero.keep af;have ab:=Zbz ac p1.val nt.base s1.val;have aa:=ai.other (Zaq w1 w.heap.size p1.val nt.base s1.val (w.heap.size+1+1) (by omega));have aj:=hide (Zaf HI.out.below af);have al:=hide ad;have ak:=hide ac;have ah:=hide aa;unfold ZaF at ab aa;unfold Sl.nil at aa;unfold Sl.val at ac ab aa;simp only at ac ab aa;have c3:=ac.c3;have c4:=ac.c4;have c5:=ac.c5;have f1:=ac.fz;have d0:=ab.c0;have d1:=ab.c1;have d2:=ab.c2;have d3:=ab.c3;have d4:=ab.c4;have d5:=ab.c5;have d6:=ab.c6;have d7:=ab.c7;have d8:=ab.c8;have z0:=aa.c0;have z1:=aa.c1;have z2:=aa.c2;have z3:=aa.c3;have z4:=aa.c4;have z5:=aa.c5;have z6:=aa.c6;have z7:=aa.c7;have z8:=aa.c8;have fz:=aa.fz;clear af ac ai ab aa ad;go_wp2_with fail;show bodyPost Tryz.prog Tryz.f88 _ Exit.ret _ (setDv (ZaF w1 w.heap.size p1.val nt.base s1.val) (w.heap.size+1+1) L.kp.val kept.base L.ks.val p1.val nt.base s1.val L.ds.val true armed);refine Zdd rfl ah.out ⟨kept,nt,done,true,armed⟩ ⟨L.kp,L.ks,p1,s1,L.ds⟩ (by rfl) rfl ?_;have ag:=Za3 (ZaQ aj.out (Nat.le_refl _) p1.val nt.base s1.val) (show w.heap.size≤w.heap.size+1+1 by omega) L.kp.val kept.base L.ks.val p1.val nt.base s1.val L.ds.val true armed;refine⟨ag,⟨L.kp,L.ks,p1,s1,L.ds⟩,rfl,H.out.kept.keep ag (Nat.le_refl _),?_,H.out.done.keep ag (Nat.le_refl _),H.out.nil,H.out.le⟩;exact(al.out.other ak.out.no8 fun k hk=>Zaq _ _ _ _ _ k hk).other ah.out.no8 fun k hk=>Zas _ _ _ _ _ _ _ _ _ _ _ k hk
end Go.Proofs.YtpnlebpnhmibfaaGreat
