/-
  Lemmas.
-/
import Derived.Test.YtdojdcncncgncaaGreatKtbh
import Derived.Test.YtdojdcncncgncaaGreatKtbd
namespace Go.Proofs.YtdojdcncncgncaaGreat
open Go.RowKit
set_option linter.unusedVariables false
set_option maxRecDepth 100000
set_option maxHeartbeats 4000000
variable {w w0 w':World}{p b:Nat}{y:Sx}{s:Sl}{S:List Sx}
theorem ZiK:∀args w,(callFunc 73 args).run Tryz.prog w=.ok (.enter 73 args) w:=Pl.qj Tryz.func73
theorem Zn7 (p:Nat)(w:World):(Instr.fieldAt 33 (.pointer (some ⟨p,0,none⟩)) 0).run Tryz.prog w=.ok (.pointer (some ⟨p,0,none⟩)) w:=by simp [go_sem,Instr.fieldAt]
theorem ZoI {r:Rw}{c:Value}(h:RwBlk w p r c):(Instr.loadAt 23 (.pointer (some ⟨p,0,none⟩))).run Tryz.prog w=.ok (.float .f64 r.key) w:=by
 have c0:=h.c0;simp [go_sem,c0]
theorem ZhW (h:w.heap[b]? = some (.cells #[s.val] 105 (0,0))):(Instr.loadAt 105 (.pointer (some ⟨b,0,none⟩))).run Tryz.prog w=.ok s.val w:=by
 have c0:=(Zbj h).1;unfold Sl.val at *;simp [go_sem,c0]
theorem Zop (h:w.heap[b]? = some (.cells #[s.val] 105 (0,0)))(u:Sl):(Instr.storeAt 105 (.pointer (some ⟨b,0,none⟩)) u.val).run Tryz.prog w=.ok () (w.setCell ⟨b,0,none⟩ u.val):=by
 have c0:=(Zbj h).1;have f0:=(Zbj h).2;unfold Sl.val at *;simp [go_sem,c0,f0]
structure RkEnd (w w':World) (bR:Nat) (sR:Sl) (us:List Int):Prop where
  ex:∃s':Sl,w'.heap[bR]? = some (.cells #[s'.val] 105 (0,0))∧Own 100 1 w' s' (uVals us)∧(s'.blk=sR.blk∨∀k,s'.blk=some k→w.heap.size≤k)
  frm:Frm (fun k=>k=bR∨sR.blk=some k) w w'
theorem Zp9 (w:World)(p bR:Nat)(r:Rw)(c:Value)(sR:Sl)(us:List Int)(hx:RwBlk w p r c)(hb:w.heap[bR]? = some (.cells #[sR.val] 105 (0,0)))(ho:Own 100 1 w sR (uVals us))(hk:r.key<18446744073709551616)(hl:us.length+1≤100000)
    {Q:Exit→Act→World→Prop}{A:Act}(ba:A.tmps.size=18)(aw:A.defers=[])(s3:A.tmps.getD 3 undef=.pointer (some ⟨bR,0,none⟩))(s5:A.tmps.getD 5 undef=.pointer (some ⟨p,0,none⟩))
    (hend:∀(u:Nat→Value) w',RkEnd w w' bR sR (us ++ [((Fl.rk r.key:Nat):Int)])→Q .normal ((((((A.put (some 13) (u 13)).put (some 14) (u 14)).put (some 12) (u 12)).put (some 15) (u 15)).put (some 16) (u 16)).put (some 17) (u 17)) w') :
    (Code.region 2 (Pl.find 2 ((Tryz.f72.body).getD .skip)) true).wp Tryz.prog Q A w:=by
  obtain⟨v,hv⟩:∃v:Int,v=((Fl.rk r.key:Nat):Int):=⟨_,rfl⟩;(have ar:∀w,Calls Tryz.prog 73 #[.float .f64 r.key] w fun e w'=>e=.returned (.int .u64 v)∧w'=w:=fun w=>by rw [hv];exact ZmK r.key hk w);rw [← hv] at hend;have af:=Zaa w.drew (.cells #[.int .u64 v] 100);have ah:w.drew.heap[bR]? = some (.cells #[sR.val] 105 (0,0)):=hb;have ap:Own 100 1 w.drew sR (uVals us):=ho;have aj:(w.drew.alloc (.cells #[.int .u64 v] 100)).heap[bR]? = some (.cells #[sR.val] 105 (0,0)):=(af.block _ (Array.getElem?_eq_some_iff.1 ah).1).trans ah;have aq:Own 100 1 (w.drew.alloc (.cells #[.int .u64 v] 100)) sR (uVals us):=Own.frame ap (fun k hk=>af.block k (Own.lt ap hk));(have bb:us.length=sR.len:=by have:=ho.1;rw [Zfd,Nat.mul_one] at this;exact this);obtain⟨s',w2,ac,az,ax,an,av⟩:=ZaA Tryz.underlying105 ZnK rfl (by decide) _ sR (uVals us) aq (by intro u hu;obtain ⟨q,_,rfl⟩:=List.mem_map.1 hu;rfl) _ 1 (uVals [v]) (Zoo w.drew v) (by omega) 105;have ab:RwBlk w.drew p r c:=hx;have ad:RwBlk (w.drew.alloc (.cells #[.int .u64 v] 100)) p r c:=ab.keep af;have ao:∀(k:Nat) (C:Array Value) (t:TypeId) (fr:Nat × Nat),(w.drew.alloc (.cells #[.int .u64 v] 100)).heap[k]? = some (Obj.cells C t fr)→t≠100→w2.heap[k]? = (w.drew.alloc (.cells #[.int .u64 v] 100)).heap[k]?:=by
   intro k C t fr hk ht;refine an.block k (Array.getElem?_eq_some_iff.1 hk).1 (fun e=>?_);obtain⟨cur,aa⟩:=Own.kind aq e;rw [hk] at aa;simp only [Option.some.injEq,Obj.cells.injEq] at aa;exact ht aa.2.1
  have ae:RwBlk w2 p r c:=(ao p _ _ _ ad (by decide)).trans ad;have ak:w2.heap[bR]? = some (.cells #[sR.val] 105 (0,0)):=(ao bR _ _ _ aj (by decide)).trans aj;obtain⟨au,al⟩:=Zkw ak s'.val;have am:=Zop ak s';have ay:p≠bR:=by
   intro e;have h1:w.heap[p]? = some (.cells _ 33 (0,0)):=hx;rw [e,hb] at h1;simp only [Option.some.injEq,Obj.cells.injEq] at h1;exact absurd h1.2.1 (by decide)
  have ai:RwBlk (w2.setCell ⟨bR,0,none⟩ s'.val) p r c:=(al.block p (Array.getElem?_eq_some_iff.1 ae).1 ay).trans ae;have hE:RkEnd w (w2.setCell ⟨bR,0,none⟩ s'.val) bR sR (us ++ [v]):=by
   refine⟨⟨s',au,?_,?_⟩,?_⟩
   · (have ag:Own 100 1 w2 s' (uVals (us ++ [v])):=by unfold uVals at *;rw [List.map_append];exact az);exact Own.frame ag (fun k hk=>by
      obtain⟨cur,aa⟩:=Own.kind ag hk;refine al.block k (Array.getElem?_eq_some_iff.1 aa).1 (fun e=>?_);rw [e,ak] at aa;simp only [Option.some.injEq,Obj.cells.injEq] at aa;exact absurd aa.2.1 (by decide))
   · rcases av with e | ⟨e,_⟩
     · exact .inl e
     · refine .inr fun k hk=>?_;rw [e] at hk;cases hk;exact af.size
   · have f0:Frm (fun k=>k=bR∨sR.blk=some k) w w.drew:=(Frm.refl _ w).drew;have f1:Frm (fun k=>k=bR∨sR.blk=some k) w.drew (w.drew.alloc (.cells #[.int .u64 v] 100)):=Frm.ofBelow af;have f2:Frm (fun k=>k=bR∨sR.blk=some k) (w.drew.alloc (.cells #[.int .u64 v] 100)) w2:=an.mono (fun _ _ e=>.inr e);have f3:Frm (fun k=>k=bR∨sR.blk=some k) w2 (w2.setCell ⟨bR,0,none⟩ s'.val):=al.mono (fun _ _ e=>.inl e);exact((f0.trans f1 (fun _ _ e=>e)).trans f2 (fun _ _ e=>e)).trans f3 (fun _ _ e=>e)
  have hA:=Pl.At.same (v:=.pointer (some ⟨p,0,none⟩)) (d:=5) (Pl.At.same (v:=.pointer (some ⟨bR,0,none⟩)) (d:=3) (Pl.At.here ba aw) s3) s5;refine Pl.qa (S:=fun w'=>RwBlk w' p r c) hA ab ?_;rw [show (Pl.find 2 ((Tryz.f72.body).getD .skip)).size=7 by kernel_rfl];refine Pl.q0 1 13 (.pointer (some ⟨p,0,none⟩)) (Pl.q1) (Pl.q5 33 (.tmp 5) 0 (Zn7 p)) ab ?_;refine Pl.q0 2 14 (.float .f64 r.key) (Pl.q1) (Pl.q3 23 (.tmp 13) (fun w' hS=>ZoI hS)) ab ?_;refine Pl.qr 0 3 ?_ ?_
  · refine Pl.qk 0 12 sR.val w.drew (Pl.qs 105 (.tmp 3) (ZhW ah)) ab ?_;refine Pl.qp 3 ?_;refine Pl.qm 3 15 73 [(.tmp 14)] #[23] ZiK (Calls.mono (ar w.drew) ?_);rintro e w' ⟨rfl,hw⟩;subst hw;refine⟨.int .u64 v,rfl,ab,?_⟩;refine Pl.qp 4 ?_;refine Pl.qk 4 16 (.slice (some ⟨w.drew.heap.size,0,none⟩) 1 1) (w.drew.alloc (.cells #[.int .u64 v] 100)) (Pl.q_37 105 (.tmp 15) (Ze8 v w.drew)) ad ?_;refine Pl.qo 5 17 s'.val w2 (Pl.q1) (Pl.q_40 105 105 (.tmp 12) (.tmp 16) ac) ae ?_;refine Pl.qh 6 (w2.setCell ⟨bR,0,none⟩ s'.val) (Pl.q1) (Pl.qi 105 (.tmp 3) (.tmp 17) am) ai ?_;refine Pl.q7 (fun A' hA'=>?_);rw [Pl.At.ext hA' ((((((hA.put 13 _).put 14 _).put 12 _).put 15 _).put 16 _).put 17 _)];exact hend hA'.fn _ hE
  · refine Pl.qm 3 15 73 [(.tmp 14)] #[23] ZiK (Calls.mono (ar w.drew) ?_);rintro e w' ⟨rfl,hw⟩;subst hw;refine⟨.int .u64 v,rfl,ab,?_⟩;refine Pl.qr 0 4 ?_ ?_
    · refine Pl.qk 0 12 sR.val w.drew (Pl.qs 105 (.tmp 3) (ZhW ah)) ab ?_;rw [Pl.qg 15 12];refine Pl.qp 4 ?_;refine Pl.qk 4 16 (.slice (some ⟨w.drew.heap.size,0,none⟩) 1 1) (w.drew.alloc (.cells #[.int .u64 v] 100)) (Pl.q_37 105 (.tmp 15) (Ze8 v w.drew)) ad ?_;refine Pl.qo 5 17 s'.val w2 (Pl.q1) (Pl.q_40 105 105 (.tmp 12) (.tmp 16) ac) ae ?_;refine Pl.qh 6 (w2.setCell ⟨bR,0,none⟩ s'.val) (Pl.q1) (Pl.qi 105 (.tmp 3) (.tmp 17) am) ai ?_;refine Pl.q7 (fun A' hA'=>?_);rw [Pl.At.ext hA' ((((((hA.put 13 _).put 14 _).put 12 _).put 15 _).put 16 _).put 17 _)];exact hend hA'.fn _ hE
    · refine Pl.qk 4 16 (.slice (some ⟨w.drew.heap.size,0,none⟩) 1 1) (w.drew.alloc (.cells #[.int .u64 v] 100)) (Pl.q_37 105 (.tmp 15) (Ze8 v w.drew)) ad ?_;refine Pl.qp 0 ?_;refine Pl.qk 0 12 sR.val (w.drew.alloc (.cells #[.int .u64 v] 100)) (Pl.qs 105 (.tmp 3) (ZhW aj)) ad ?_;rw [Pl.qg 16 12];rw [Pl.qg 15 12];refine Pl.qo 5 17 s'.val w2 (Pl.q1) (Pl.q_40 105 105 (.tmp 12) (.tmp 16) ac) ae ?_;refine Pl.qh 6 (w2.setCell ⟨bR,0,none⟩ s'.val) (Pl.q1) (Pl.qi 105 (.tmp 3) (.tmp 17) am) ai ?_;refine Pl.q7 (fun A' hA'=>?_);rw [Pl.At.ext hA' ((((((hA.put 13 _).put 14 _).put 12 _).put 15 _).put 16 _).put 17 _)];exact hend hA'.fn _ hE
theorem ZmJ {bA bR:Nat}(h:Stk w0 w bA bR S)(y:Sx)(hc:ColF w y.x)(hf:y.x.r.fits)(hl:S.length+1≤100000) :
    Calls Tryz.prog 72 #[btV ((y.i:Nat),(y.k:Nat)),y.x.val,.pointer (some ⟨bA,0,none⟩),.pointer (some ⟨bR,0,none⟩)] w fun e w'=>e=.returned (.tuple #[])∧Stk w0 w' bA bR (S ++ [y]):=by
  have bn:∀(w:World) (a:Addr) (m:Mode) (x:Nat),(store a (.float .f64 x) m).run Tryz.prog w=stored Tryz.prog w a (.float .f64 x) m:=fun w a m x=>run_store Tryz.prog w a _ m rfl;obtain⟨i,k,r,a,n,cp⟩:=y;obtain⟨Y,hY⟩:∃Y:Sx,Y=⟨i,k,r,a,n,cp⟩:=⟨_,rfl⟩;have ap:=Zaa w (.cells #[.int .i64 (i:Nat),.int .i64 (k:Nat)] 26);have ak:=Zaa (w.alloc (.cells #[.int .i64 (i:Nat),.int .i64 (k:Nat)] 26)) (.cells #[.float .f64 r.key,.bool r.dead,.slice a n cp,.int .i64 r.wr,.int .i64 r.cell,.int .i64 r.no] 33);have hq:=(Zaw w ((i:Nat),(k:Nat))).keep ak;have hp:=Zak (w.alloc (.cells #[.int .i64 (i:Nat),.int .i64 (k:Nat)] 26)) r (.slice a n cp);rw [Zae] at hp;have al:=(h.keep ap).keep ak;have aw:=(hc.keep ap).keep ak;(have az:Y.x.r.fits:=by rw [hY];exact hf);have ba:r.key<18446744073709551616:=hf.key;(have bc:Y.cells=[.int .i64 (i:Nat),.int .i64 (k:Nat),.float .f64 r.key,.bool r.dead,.slice a n cp,.int .i64 r.wr,.int .i64 r.cell,.int .i64 r.no]:=by rw [hY];rfl);(have aj:((Fl.rk Y.x.r.key:Nat):Int)=((Fl.rk r.key:Nat):Int):=by rw [hY]);have bk:Hid ((w.alloc (.cells #[.int .i64 (i:Nat),.int .i64 (k:Nat)] 26)).alloc (.cells #[.float .f64 r.key,.bool r.dead,.slice a n cp,.int .i64 r.wr,.int .i64 r.cell,.int .i64 r.no] 33)=(w.alloc (.cells #[.int .i64 (i:Nat),.int .i64 (k:Nat)] 26)).alloc (.cells #[.float .f64 r.key,.bool r.dead,.slice a n cp,.int .i64 r.wr,.int .i64 r.cell,.int .i64 r.no] 33)):=rfl;obtain⟨W1,aq⟩:∃W1,W1=(w.alloc (.cells #[.int .i64 (i:Nat),.int .i64 (k:Nat)] 26)).alloc (.cells #[.float .f64 r.key,.bool r.dead,.slice a n cp,.int .i64 r.wr,.int .i64 r.cell,.int .i64 r.no] 33):=⟨_,rfl⟩;rw [← aq] at hq hp al aw;(have ay:ColF W1 Y.x:=by rw [hY];exact aw);have bj:=hide aq;clear bk ap ak aq;show Calls Tryz.prog 72 #[btV ((i:Nat),(k:Nat)),(⟨r,a,n,cp⟩:Rx).val,.pointer (some ⟨bA,0,none⟩),.pointer (some ⟨bR,0,none⟩)] w fun e w'=>e=.returned (.tuple #[])∧Stk w0 w' bA bR (S ++ [⟨i,k,r,a,n,cp⟩]);rw [show (⟨i,k,r,a,n,cp⟩:Sx)=Y from hY.symm];obtain⟨sA,s',W,au,ag,av,⟨sR,e1,e2,e3,e4,e5,e6⟩,ac,ab,bl⟩:=al.all Y hl;rw [bc] at ag;obtain⟨W2,ar⟩:∃W2,W2=W.setCell ⟨bA,0,none⟩ s'.val:=⟨_,rfl⟩;rw [← ar] at e1 e2 e3 e4 ac ab;have ax:=hide ar;have bb:=ab _ (Array.getElem?_eq_some_iff.1 hp).1 ⟨_,_,.inr (.inl hp)⟩;have bh:Hid (RwBlk W2 (w.heap.size+1) r (.slice a n cp)):=bb.trans hp;have am:Hid (∀y∈S ++ [Y],ColF W2 y.x):=by
   intro y hy;have af:ColF W1 y.x:=by
    rcases List.mem_append.1 hy with hy | hy
    · exact al.flt y hy
    · rw [List.mem_singleton.1 hy];exact ay
   have aa:∀b off,y.x.a=some ⟨b,off,none⟩→0<y.x.n→W2.heap[b]? = W1.heap[b]?:=by
    intro b off ha hn;obtain⟨C,fr,hk⟩:=af.home b off ha hn;exact ab b (Array.getElem?_eq_some_iff.1 hk).1 ⟨C,fr,.inl hk⟩
   refine⟨af.fs.same aa,fun b off ha hn=>?_⟩;obtain⟨C,fr,hk⟩:=af.home b off ha hn;exact⟨C,fr,(aa b off ha hn).trans hk⟩
  have ao:Hid (∀y∈S ++ [Y],y.x.r.fits):=by
   intro y hy;rcases List.mem_append.1 hy with hy | hy
   · exact h.fits y hy
   · rw [List.mem_singleton.1 hy];exact az
  (have bi:Hid ((rkS S).length+1≤100000):=by show _≤_;unfold rkS;rw [List.length_map];exact hl);have bf:Hid (∀w',RkEnd W2 w' bR sR (rkS S ++ [((Fl.rk r.key:Nat):Int)])→Stk w0 w' bA bR (S ++ [Y])):=by
   rintro w' ⟨⟨s2,g1,g2,g3⟩,gf⟩;have ae:∀(b:Nat) (C:Array Value) (t:TypeId) (fr:Nat × Nat),W2.heap[b]? = some (Obj.cells C t fr)→t≠100→t≠105→w'.heap[b]? = W2.heap[b]?:=by
    intro b C t fr hb h1 h2;refine gf.block b (Array.getElem?_eq_some_iff.1 hb).1 ?_;rintro (e | e)
    · rw [e,e2] at hb;simp only [Option.some.injEq,Obj.cells.injEq] at hb;exact h2 hb.2.1.symm
    · obtain⟨cur,ad⟩:=Own.kind e4 e;rw [hb] at ad;simp only [Option.some.injEq,Obj.cells.injEq] at ad;exact h1 ad.2.1
   have ai:Below w0.heap.size w0 w':=ac.trans (gf.below ac.size (fun k hk=>by
    rcases hk with rfl | hk
    · exact h.newR
    · exact e6 k hk))
   refine⟨⟨s',s2,(ae bA _ _ _ e1 (by decide) (by decide)).trans e1,g1,Own.frame e3 (fun b hb=>?_),?_,e5,fun b hb=>?_⟩,h.newA,h.newR,ai,fun y hy=>?_,ao.out⟩
   · obtain⟨cur,ad⟩:=Own.kind e3 hb;exact ae b _ _ _ ad (by decide) (by decide)
   · (have:rkS (S ++ [Y])=rkS S ++ [((Fl.rk r.key:Nat):Int)]:=by unfold rkS;rw [List.map_append,List.map_cons,aj];rfl);rw [this];exact g2
   · rcases g3 with e | e
     · exact e6 b (by rw [← e];exact hb)
     · exact Nat.le_trans ac.size (e b hb)
   · have af:=am.out y hy;have aa:∀b off,y.x.a=some ⟨b,off,none⟩→0<y.x.n→w'.heap[b]? = W2.heap[b]?:=by
      intro b off ha hn;obtain⟨C,fr,hk⟩:=af.home b off ha hn;exact ae b _ _ _ hk (by decide) (by decide)
     refine⟨af.fs.same aa,fun b off ha hn=>?_⟩;obtain⟨C,fr,hk⟩:=af.home b off ha hn;exact⟨C,fr,(aa b off ha hn).trans hk⟩
  have ah:=hide ag;have bd:=hide e2;have be:=hide e4;have bg:=hide ba;have q0:=hq.c0;have q1:=hq.c1;have p0:=hp.c0;have p1:=hp.c1;have p2:=hp.c2;have p3:=hp.c3;have p4:=hp.c4;have p5:=hp.c5;have a0:=(Zbj au).1;have aw0:=(Zbj av).1;have aw1:=(Zbj av).2;have bm:=(Array.getElem?_eq_some_iff.1 au).1;unfold Sl.val at ah a0 aw0 ax

  unfold btV Rx.val Rw.val;simp only;clear h hc hf hq hp al aw ay az ba bc aj hY au ag av e1 e2 e3 e4 e5 e6 ac ab bl bb ar;go_enter Tryz.func72,Tryz.ntmps72;go_upto_region 1 with fail;rw [← bj.out];go_upto_region 2 with (at_builtin;refine Zam _ rfl 68 (.tmp 6) (.tmp 10) rfl (.slice sA.a sA.len sA.cap) (.slice (some ⟨W1.heap.size,0,none⟩) 1 1) (.slice s'.a s'.len s'.cap) rfl rfl W ah.out ?_);rw [← ax.out];refine Pl.q9 (ops:=Pl.find 2 ((Tryz.f72.body).getD .skip)) ?_;refine Zp9 W2 (w.heap.size+1) bR r (.slice a n cp) sR (rkS S) bh.out bd.out be.out bg.out bi.out (by rfl) (by rfl) (by rfl) (by rfl) ?_;intro u w' hend;have an:=hide (bf.out w' hend);clear hend;simp only [Act.put,List.setIfInBounds_toArray,List.set_cons_zero,List.set_cons_succ];go_end0;exact⟨rfl,an.out⟩
def Zfl (l:List Lf):Prop:=∀f∈l,∀x∈f.slots,x ≠ []→decH x≠none
def Zoy (w0:World) (bA bR:Nat) (l:List Lf) (e:Ending) (w':World):Prop:=
  (Zfl l∧e=.returned (.bool true)∧∃S,Stk w0 w' bA bR S∧S.map Sx.hr=allH l)∨(¬Zfl l∧e=.returned (.bool false)∧Below w0.heap.size w0 w')
theorem ZcQ:∀(l:List Lf)(i:Nat),(∀f∈l,f.slots.length≤64)→(rowsH l i).length≤l.length*64
 | [],_,_=>by simp [rowsH]
 | f :: l,i,h=>by
  have h1:=ZcQ l (i+1) (fun g hg=>h g (List.mem_cons_of_mem _ hg))
  have h2:=ZdB i f.slots 0
  have h3:=h f (List.mem_cons_self ..)
  simp only [rowsH,List.length_append,List.length_cons]
  omega
theorem ZlC {l:List Lf}(h:∀a,a<l.length→∀b,b<(lf l a).slots.length→sl (lf l a).slots b ≠ []→decH (sl (lf l a).slots b)≠none):Zfl l:=by
 intro f hf x hx hn;obtain⟨a,ha,rfl⟩:=List.getElem_of_mem hf;obtain⟨b,hb,rfl⟩:=List.getElem_of_mem hx;have:=h a ha b (by rw [Zc1 ha];exact hb);rw [Zc1 ha,Zcq hb] at this;exact this hn
theorem ZlD {l:List Lf}{a:Nat}(ha:a<l.length)(hb:b<(lf l a).slots.length)(hn:sl (lf l a).slots b ≠ [])(hd:decH (sl (lf l a).slots b)=none):¬Zfl l:=by
 intro h;refine h (lf l a) (Zbe ha) (sl (lf l a).slots b) ?_ hn hd;rw [Zcq hb];exact List.getElem_mem hb
theorem Zm2 (w:World)(x:Sl):Calls Tryz.prog 92 #[x.val] w fun e w'=>e=.returned (.bool (decide (x.len=0)))∧w'=w:=by
 obtain⟨a,n,c⟩:=x;unfold Sl.val;simp only;by_cases h:n=0
 · subst h;go_enter Tryz.func92,Tryz.ntmps92;go_wp2_with fail;go_ret;exact⟨rfl,rfl⟩
 · (have i1:¬(n:Int)=0:=by omega);(have i2:((n:Int) == 0)=false:=by simp [h]);rw [decide_eq_false h];go_enter Tryz.func92,Tryz.ntmps92;go_wp2_with fail;go_ret;exact⟨by simp,rfl⟩
theorem Zmj (w0 w:World)(s:Sl)(L:List Lb)(bA bR:Nat)(h:Gl (fun _=>True) w0 s L)(hm:∀f∈lfs L,MayL f)(bm:s.len≤62)(hS:Stk w0 w bA bR []) :
    Calls Tryz.prog 71 #[s.val,.func (.func 72) #[] #[.pointer (some ⟨bA,0,none⟩),.pointer (some ⟨bR,0,none⟩)]] w (Zoy w0 bA bR (lfs L)):=by
  obtain⟨a,len,cap⟩:=s;have cp:∀(w:World) (a:Addr) (m:Mode) (x:Nat),(store a (.float .f64 x) m).run Tryz.prog w=stored Tryz.prog w a (.float .f64 x) m:=fun w a m x=>run_store Tryz.prog w a _ m rfl;have H:=hide h;have HS:=hide hS;have cd:len≤62:=bm;have HL:Hid (L.length=len):=h.len;have ak:Hid (∀f∈lfs L,f.slots.length≤64):=fun f hf=>(hm f hf).slots.1;clear h hm bm hS;unfold Sl.val;simp only;go_enter Tryz.func71,Tryz.ntmps71;go_wp2_with fail;go_loopw [13] (fun iv wr=>∃(i:Nat) (S:List Sx),i≤len∧iv=.int .i64 (i:Nat)∧Hid (Stk w0 wr bA bR S)∧Hid (S.map Sx.hr=rowsH ((lfs L).take i) 0)∧Hid (∀p,p<i→∀b,b<(lf (lfs L) p).slots.length→sl (lf (lfs L) p).slots b ≠ []→decH (sl (lf (lfs L) p).slots b)≠none)) (fun iv _=>len-(intOf iv).toNat)
  case atStart=>exact ⟨0,[],Nat.zero_le _,rfl,HS,rfl,fun p hp=>absurd hp (Nat.not_lt_zero _)⟩
  case round =>
   clear HS;obtain⟨i,S,hi,rfl,hI,ad,aw⟩:=hrel;rcases Nat.lt_or_ge i len with bq | cn
   · (have j1:(i:Int)<(len:Int):=by omega);have be:=H.out.below hI.out.below (Nat.le_refl _);have ag:i<(Sl.mk a len cap).len:=bq;obtain⟨b,off,ha,c0,c1⟩:=be.cell i ag;replace ha:a=some ⟨b,off,none⟩:=ha;subst ha;have av:=(be.at ag).2;have bg:=Zbt L i;have bp:lf (lfs L) i∈lfs L:=Zbe (by rw [Za4,HL.out];exact bq);have az:=ak.out _ bp;obtain⟨x,hx⟩:∃x,x=L.getD i Lb.zero:=⟨_,rfl⟩;rw [← hx] at c0 c1 av bg;obtain⟨xu,⟨va,vn,vc⟩,xt,xl⟩:=x;have bv:xl.length=vn:=av.len;have bx:Hid (Gb (fun _=>True) wr ⟨va,vn,vc⟩ xl):=av;have bz:Hid (∀wx,Below w0.heap.size w0 wx→Gb (fun _=>True) wx ⟨va,vn,vc⟩ xl):=fun wx hb=>by
      have:=((H.out.below hb (Nat.le_refl _)).at ag).2;rw [← hx] at this;exact this
     (have aj:Hid ((lf (lfs L) i).slots=bss xl):=by show _=_;rw [bg];rfl);(have al:Hid ((bss xl).length=vn):=by show _=_;rw [Zag];exact bv);(have cl:vn≤64:=by rw [aj.out,al.out] at az;exact az);have ax:=hide (Za5 (b:=b) (o:=off+i*2) c0 c1);have af:=Zaa wr (.cells #[xu.val,.slice va vn vc] 67);have bw:=hide (bx.out.below af (Nat.le_refl _));have bk:=hide (hI.out.keep af);have ca:Hid (S.map Sx.hr=rowsH ((lfs L).take i) 0 ++ rowsS i ((bss xl).take 0) 0):=by
      show _=_;rw [List.take_zero];unfold rowsS;rw [List.append_nil];exact ad.out
     have cc:Hid ((rowsH ((lfs L).take i) 0).length≤62*64):=by
      show _≤_;have h1:=ZcQ ((lfs L).take i) 0 (fun f hf=>ak.out f (List.mem_of_mem_take hf));rw [List.length_take] at h1;have:min i (lfs L).length*64≤62*64:=Nat.mul_le_mul_right _ (by omega);omega
     have ci:=HL.out;(have bl:Hid (i<(lfs L).length):=by show _<_;rw [Za4];omega);unfold lfV Sl.val at ax;unfold Sl.val at af bw bk;simp only at ax;clear be av hx hI c0 c1 bv bg bp az ad ci;go_upto_block 2 with (refine Zau _ rfl 67 (.tmp 16) rfl (.pointer (some ⟨b,off+i*2,none⟩)) (.agg #[.slice xu.a xu.len xu.cap,.slice va vn vc]) rfl ax.out ?_);go_wp2_with fail;generalize cm:wr.alloc (.cells #[.slice xu.a xu.len xu.cap,.slice va vn vc] 67)=WB at *;go_loopw [21] (fun kv wr2=>∃(k:Nat) (S:List Sx),k≤vn∧kv=.int .i64 (k:Nat)∧Hid (Stk w0 wr2 bA bR S)∧Hid (S.map Sx.hr=rowsH ((lfs L).take i) 0 ++ rowsS i ((bss xl).take k) 0)∧Hid (∀b,b<k→sl (bss xl) b ≠ []→decH (sl (bss xl) b)≠none)) (fun kv _=>vn-(intOf kv).toNat)
     case atStart=>exact ⟨0,S,Nat.zero_le _,rfl,bk,ca,fun b hb=>absurd hb (Nat.not_lt_zero _)⟩
     case round =>
      rename World=>wr2;obtain⟨k,S,hk,rfl,am,ae,ab⟩:=hrel;rcases Nat.lt_or_ge k vn with bf | co
      · (have j2:(k:Int)<(vn:Int):=by omega);have bd:=bz.out wr2 am.out.below;have ao:k<(Sl.mk va vn vc).len:=bf;obtain⟨vb,vo,bj,e0⟩:=bd.cell k ao;replace bj:va=some ⟨vb,vo,none⟩:=bj;subst bj;have au:=(bd.at ao).1;obtain⟨⟨sa,sn,sc⟩,bt⟩:∃s,s=(xl.getD k Sb.zero).s:=⟨_,rfl⟩;rw [← bt] at e0 au;have bu:(sl (bss xl) k).length=sn:=au.came.bs.1;have hD:=hide (Zl9 sa sn sc (sl (bss xl) k) wr2 au.came);have hE:=hide (Zm2 wr2 ⟨sa,sn,sc⟩);unfold Sl.val at e0 hE;simp only at e0 hE;have aq:=ZfQ (i:=i) (s:=bss xl) (k:=k) (by rw [al.out];exact bf);have aa:=hide aq;have ac:=hide bu;clear bd au bt aq bu;by_cases hz:sn=0
        · have ah:sl (bss xl) k=[]:=List.length_eq_zero_iff.1 (by rw [ac.out];exact hz);have hN:Hid (S.map Sx.hr=rowsH ((lfs L).take i) 0 ++ rowsS i ((bss xl).take (k+1)) 0):=by
           show _=_;rw [aa.out,ah,show decH []=none by kernel_rfl];simp only [List.append_nil];exact ae.out
          have ai:Hid (∀b,b<k+1→sl (bss xl) b ≠ []→decH (sl (bss xl) b)≠none):=by
           intro b hb hn;rcases Nat.lt_or_ge b k with h | h
           · exact ab.out b h hn
           · exact absurd (by rw [show b=k by omega];exact ah) hn
          have an:decide (sn=0)=true:=decide_eq_true hz;rw [an] at hE;clear ah aa ac ae ab hD hz an;go_wp2_with fail;refine hE.out.mono ?_;rintro e w1 ⟨rfl,hw⟩;subst hw;go_wp2_with fail;go_roundw
          case rel=>exact ⟨k+1,S,by omega,by go_num,am,hN,ai⟩
          case measure=>simp only [intOf];omega
        · have an:decide (sn=0)=false:=decide_eq_false hz;rw [an] at hE;have cj:sl (bss xl) k ≠ []:=fun h=>hz (by rw [← ac.out,h];rfl);(have bb:Hid (k<(lf (lfs L) i).slots.length):=by show _<_;rw [aj.out,al.out];exact bf);clear an ac;go_wp2_with fail;refine hE.out.mono ?_;rintro e w1 ⟨rfl,hw⟩;subst hw;go_wp2_with fail;refine hD.out.mono ?_;intro e w3 ht;have ar:Hid (Stk w0 w3 bA bR S):=am.out.keep ht.1;cases hd:decH (sl (bss xl) k) with
          | none =>
           have bh:=ht.2.1 hd;subst bh;have hA:=Zaa w3 (.cells #[.float .f64 0,.bool false,.slice none 0 0,.int .i64 0,.int .i64 0,.int .i64 0] 33);have cf:Hid (¬Zfl (lfs L)):=ZlD bl.out bb.out (by rw [aj.out];exact cj) (by rw [aj.out];exact hd);have ce:=hide ((ar.out.keep hA).below);clear ht hd hD hA e0 ar ae ab aa bb;unfold Zcr;go_wp2_with fail;go_ret;exact .inr ⟨cf.out,rfl,ce.out⟩
          | some r =>
           obtain⟨br,ra,rl,rc,bh,bo,ap⟩:=ht.2.2 r hd;subst bh;rw [hd] at aa;simp only at aa;have hA:=Zaa w3 (.cells #[.float .f64 r.key,.bool r.dead,.slice ra rl rc,.int .i64 r.wr,.int .i64 r.cell,.int .i64 r.no] 33);have hX:=Zak w3 r (.slice ra rl rc);have ba:=ar.out.keep hA;have bc:ColF (w3.alloc (.cells #[.float .f64 r.key,.bool r.dead,.slice ra rl rc,.int .i64 r.wr,.int .i64 r.cell,.int .i64 r.no] 33)) ⟨r,ra,rl,rc⟩:=(ColF.owns ap bo).keep hA;have hN:Hid ((S ++ [(⟨i,k,⟨r,ra,rl,rc⟩⟩:Sx)]).map Sx.hr=rowsH ((lfs L).take i) 0 ++ rowsS i ((bss xl).take (k+1)) 0):=by
            show _=_;rw [aa.out,← List.append_assoc,← ae.out,List.map_append];rfl
           have ai:Hid (∀b,b<k+1→sl (bss xl) b ≠ []→decH (sl (bss xl) b)≠none):=by
            intro b hb hn;rcases Nat.lt_or_ge b k with h | h
            · exact ab.out b h hn
            · rw [show b=k by omega,hd];exact (fun h=>by cases h)
           have bn:S.length+1≤100000:=by
            have h1:=congrArg List.length ae.out;rw [List.length_map,List.length_append] at h1;have h2:=cc.out;have h3:=ZdB i ((bss xl).take k) 0;rw [List.length_take] at h3;omega
           unfold Rw.val;have bi:=ZbR r.key r.dead ra rl rc r.wr r.cell r.no w3;generalize ch:w3.alloc (.cells #[.float .f64 r.key,.bool r.dead,.slice ra rl rc,.int .i64 r.wr,.int .i64 r.cell,.int .i64 r.no] 33)=W4 at hX ba bc bi;have HP:=hide (ZmJ ba ⟨i,k,⟨r,ra,rl,rc⟩⟩ bc br bn);have x0:=hX.c0;have x1:=hX.c1;have x2:=hX.c2;have x3:=hX.c3;have x4:=hX.c4;have x5:=hX.c5;have cb:=hide bi;clear ht hd hD ar hA e0 hX ba bc bo ap aa bn br ch bi ae ab bb am hE;unfold Rx.val btV at HP;simp only at HP;go_wp2_with (first | refine Zac _ rfl rfl 33 (.tmp 9) (.tmp 31) rfl (.pointer (some ⟨w3.heap.size,0,none⟩)) (.agg #[.float .f64 r.key,.bool r.dead,.slice ra rl rc,.int .i64 r.wr,.int .i64 r.cell,.int .i64 r.no]) rfl rfl W4 cb.out ?_);refine HP.out.mono ?_;rintro e w5 ⟨rfl,cg⟩;go_wp2_with fail;go_roundw
           case rel=>exact ⟨k+1,S ++ [(⟨i,k,⟨r,ra,rl,rc⟩⟩:Sx)],by omega,by go_num,hide cg,hN,ai⟩
           case measure=>simp only [intOf];omega
      · (have j2:¬(k:Int)<(vn:Int):=by omega);(have e0:k=vn:=by omega);have HN:Hid (S.map Sx.hr=rowsH ((lfs L).take (i+1)) 0):=by
         have:=ae.out;rw [e0,List.take_of_length_le (l:=bss xl) (by rw [al.out];exact Nat.le_refl _),← aj.out] at this;show _=_;rw [ZfO bl.out];exact this
        have ay:Hid (∀p,p<i+1→∀b,b<(lf (lfs L) p).slots.length→sl (lf (lfs L) p).slots b ≠ []→decH (sl (lf (lfs L) p).slots b)≠none):=by
         intro p hp b hb hn;rcases Nat.lt_or_ge p i with h | h
         · exact aw.out p h b hb hn
         · (have ck:p=i:=by omega);subst ck;rw [aj.out] at hb hn ⊢;exact ab.out b (by rw [al.out] at hb;omega) hn
        clear ae ab aw e0;go_wp2_with fail;go_roundw
        case rel=>exact ⟨i+1,S,by omega,by go_num,am,HN,ay⟩
        case measure=>simp only [intOf];omega
   · (have j1:¬(i:Int)<(len:Int):=by omega);(have e0:i=len:=by omega);have HT:Hid (S.map Sx.hr=allH (lfs L)):=by
      have:=ad.out;rw [e0,List.take_of_length_le (by rw [Za4,HL.out];exact Nat.le_refl _)] at this;exact this
     have ay:Hid (Zfl (lfs L)):=ZlC (fun p hp=>aw.out p (by rw [Za4,HL.out] at hp;omega));clear ad aw e0;go_wp2_with fail;go_ret;exact .inl ⟨ay.out,rfl,S,hI.out,HT.out⟩
structure Std (w0 w:World) (s:Sl) (S:List Sx):Prop where
  own:Own 72 8 w s (ZaR S)
  new:∀k,s.blk=some k→w0.heap.size≤k
  below:Below w0.heap.size w0 w
  flt:∀y∈S,ColF w y.x
  fits:∀y∈S,y.x.r.fits
theorem Std.keep (h:Std w0 w s S)(hb:Below w.heap.size w w'):Std w0 w' s S:=
 ⟨Own.frame h.own (fun k hk=>hb.block k (Own.lt h.own hk)),h.new,h.below.trans (hb.mono h.below.size),fun y hy=>(h.flt y hy).keep hb,h.fits⟩
def Zga (w0:World) (l:List Lf) (e:Ending) (w':World):Prop:=
  (MayH l∧∃s S,e=.returned (.tuple #[s.val,.int .i64 0])∧Std w0 w' s S∧S.map Sx.hr=allH l)∨(¬MayH l∧e=.returned (.tuple #[.slice none 0 0,.int .i64 1])∧Below w0.heap.size w0 w')
theorem Zh0 {l:List Hr}(h:S.map Sx.hr=l)(hg:∀g∈l,Zfg g.r):(rkS S).Nodup↔ZbN l:=by
 subst h;unfold ZbN rkS List.Nodup;rw [List.pairwise_map,List.pairwise_map];refine List.Pairwise.iff_of_mem (fun {a b} ha hb=>?_);have ga:=hg _ (List.mem_map_of_mem ha);have gb:=hg _ (List.mem_map_of_mem hb);constructor
 · intro aa he;exact aa (by simp only [Sx.hr] at he;rw [he])
 · intro aa he;exact aa (Znq ga.fit gb.fit ga.key gb.key (by simp only [Sx.hr];omega))
theorem ZlO (w:World):Stk w ((w.alloc (.cells #[.slice none 0 0] 68)).alloc (.cells #[.slice none 0 0] 105)) w.heap.size (w.heap.size+1) []:=by
 have h1:=Zaa w (.cells #[.slice none 0 0] 68);have h2:=Zaa (w.alloc (.cells #[.slice none 0 0] 68)) (.cells #[.slice none 0 0] 105);have e1:=heap_alloc_new w (.cells #[.slice none 0 0] 68);have e2:=heap_alloc_new (w.alloc (.cells #[.slice none 0 0] 68)) (.cells #[.slice none 0 0] 105);rw [Zae] at e2;refine⟨⟨⟨none,0,0⟩,⟨none,0,0⟩,(h2.block _ (by rw [Zae];omega)).trans e1,e2,⟨rfl,.inl ⟨rfl,rfl⟩⟩,⟨rfl,.inl ⟨rfl,rfl⟩⟩,?_,?_⟩,Nat.le_refl _,by omega,Zad h1 h2,?_,?_⟩
 · intro k hk;cases hk
 · intro k hk;cases hk
 · intro y hy;cases hy
 · intro y hy;cases hy
theorem Zbz (w:World)(s:Sl)(L:List Lb)(h:Gl (fun _=>True) w s L) :
    Calls Tryz.prog 33 #[s.val] w (Zga w (lfs L)):=by
  have ay:∀(w:World) (a:Addr) (m:Mode) (x:Nat),(store a (.float .f64 x) m).run Tryz.prog w=stored Tryz.prog w a (.float .f64 x) m:=fun w a m x=>run_store Tryz.prog w a _ m rfl;obtain⟨a,len,cap⟩:=s;have HG:=hide h;(have HL:Hid ((lfs L).length=len):=by show _=_;rw [Za4];exact h.len);have aw:len≤900:=h.big;have HX:=hide (Zjt w ⟨a,len,cap⟩ L h);have aq:=hide h.good;clear h;unfold Sl.val at *;simp only at *;rcases Nat.lt_or_ge len 1 with h1 | h1
  · (have i1:(len:Int)<1:=by omega);(have ad:Hid (¬MayH (lfs L)):=fun hm=>by have:=hm.pos;rw [HL.out] at this;omega);have d1:=decide_eq_true i1;go_enter Tryz.func33,Tryz.ntmps33;go_wp2_with fail;go_ret2;exact .inr ⟨ad.out,rfl,Below.refl _ _⟩
  · (have i1:¬(len:Int)<1:=by omega);have d1:=decide_eq_false i1;rcases Nat.lt_or_ge 62 len with h2 | h2
    · (have i2:(62:Int)<(len:Int):=by omega);have d2:=decide_eq_true i2;(have ad:Hid (¬MayH (lfs L)):=fun hm=>by have:=hm.few;rw [HL.out] at this;omega);go_enter Tryz.func33,Tryz.ntmps33;go_wp2_with fail;go_ret2;exact .inr ⟨ad.out,rfl,Below.refl _ _⟩
    · (have i2:¬(62:Int)<(len:Int):=by omega);have d2:=decide_eq_false i2;go_enter Tryz.func33,Tryz.ntmps33;go_wp2_with fail;refine HX.out.mono ?_;rintro e w1 ⟨hx,hb⟩;rcases hx with ⟨hm,rfl⟩ | ⟨hm,rfl⟩
      · have am:=hide (ZlO w1);have ah:=HG.out.below hb (Nat.le_refl _);have ai:=hide (Zmj w1 _ ⟨a,len,cap⟩ L w1.heap.size (w1.heap.size+1) ah hm h2 am.out);have HB:=hide hb;have HM:=hide hm;clear hb hm ah;unfold Sl.val at ai;simp only at ai;go_wp2_with fail;refine ai.out.mono ?_;rintro e w2 ax;rcases ax with ⟨ao,rfl,S,hS,ab⟩ | ⟨an,rfl,ag⟩
        · obtain⟨⟨sa,sn,sc⟩,⟨ra,rn,rc⟩,e1,e2,o1,o2,n1,n2⟩:=hS.ex;have av:(rkS S).length≤62*64:=by
           unfold rkS;have:=congrArg List.length ab;rw [List.length_map] at this ⊢;rw [this];have h3:=ZcQ (lfs L) 0 (fun f hf=>(HM.out f hf).slots.1);rw [HL.out] at h3;have:len*64≤62*64:=Nat.mul_le_mul_right _ h2;exact Nat.le_trans h3 this
          have ae:=hide (ZlT w2 ⟨ra,rn,rc⟩ (rkS S) o2 (by omega));have c5:=(Zbj e2).1;have aj:Hid (∀w3,Frm (fun k=>(Sl.mk ra rn rc).blk=some k) w2 w3→w3.cell? ⟨w1.heap.size,0,none⟩=some (.slice sa sn sc)∧Std w w3 ⟨sa,sn,sc⟩ S):=by
           intro w3 hf;have hk:∀(k:Nat) (C:Array Value) (t:TypeId) (fr:Nat × Nat),w2.heap[k]? = some (Obj.cells C t fr)→t≠100→w3.heap[k]? = w2.heap[k]?:=by
            intro k C t fr hk ht;refine hf.block k (Array.getElem?_eq_some_iff.1 hk).1 (fun e=>?_);obtain⟨cur,aa⟩:=Own.kind o2 e;rw [hk] at aa;simp only [Option.some.injEq,Obj.cells.injEq] at aa;exact ht aa.2.1
           have f1:=(hk _ _ _ _ e1 (by decide)).trans e1;refine⟨(Zbj f1).1,Own.frame o1 (fun k hh=>?_),fun k hh=>Nat.le_trans HB.out.size (n1 k hh),?_,fun y hy=>(hS.flt y hy).frm hf (fun k hh C fr hc=>?_),hS.fits⟩
           · obtain⟨cur,aa⟩:=Own.kind o1 hh;exact hk _ _ _ _ aa (by decide)
           · have ag:=Zad HB.out hS.below;exact ag.trans (hf.below ag.size (fun k hh=>Nat.le_trans HB.out.size (n2 k hh)))
           · obtain⟨cur,aa⟩:=Own.kind o2 hh;rw [hc] at aa;simp only [Option.some.injEq,Obj.cells.injEq] at aa;exact absurd aa.2.1 (by decide)
          have al:=hide (Zh0 ab aq.out);have au:=hide ab;have ar:=hide ao;clear hS e1 e2 o1 o2 n1 n2 av ab ao ai am;unfold Sl.val at ae c5;simp only at ae c5;by_cases hk:ZbN (allH (lfs L))
          · have ak:Hid (MayH (lfs L)):=⟨HM.out,ar.out,hk,by rw [HL.out];exact h1,by rw [HL.out];exact h2⟩;(have hd:(!decide (rkS S).Nodup)=false:=by rw [decide_eq_true (al.out.2 hk)];rfl);rw [hd] at ae;clear hk hd;go_wp2_with fail;refine ae.out.mono ?_;rintro e w3 ⟨rfl,hf⟩;obtain⟨c4,ac⟩:=aj.out w3 hf;have af:=hide ac;clear hf ac aj ae;go_wp2_with fail;go_ret2;exact .inl ⟨ak.out,⟨sa,sn,sc⟩,S,rfl,af.out,au.out⟩
          · have ad:Hid (¬MayH (lfs L)):=fun hh=>hk hh.keys;(have hd:(!decide (rkS S).Nodup)=true:=by rw [decide_eq_false (fun h=>hk (al.out.1 h))];rfl);rw [hd] at ae;clear hk hd;go_wp2_with fail;refine ae.out.mono ?_;rintro e w3 ⟨rfl,hf⟩;obtain⟨c4,ac⟩:=aj.out w3 hf;have af:=hide ac;clear hf ac aj ae;go_wp2_with fail;go_ret2;exact .inr ⟨ad.out,rfl,af.out.below⟩
        · have ad:Hid (¬MayH (lfs L)):=fun hh=>an hh.rows;have ap:=hide (Zad HB.out ag);clear an ag;go_wp2_with fail;go_ret2;exact .inr ⟨ad.out,rfl,ap.out⟩
      · have ad:Hid (¬MayH (lfs L)):=fun hh=>hm hh.leaf;have HB:=hide hb;clear hb hm;go_wp2_with fail;go_ret2;exact .inr ⟨ad.out,rfl,HB.out⟩
def SxBlk (w:World) (p:Nat) (y:Sx):Prop:=w.heap[p]? = some (Obj.cells y.cells.toArray 72 (0,0))
theorem SxBlk.lt (h:SxBlk w p y):p<w.heap.size:=(Array.getElem?_eq_some_iff.1 h).1
theorem SxBlk.keep (h:SxBlk w p y)(hb:Below w.heap.size w w'):SxBlk w' p y:=(hb.block p h.lt).trans h
theorem SxBlk.new (w:World)(y:Sx):SxBlk (w.alloc (.cells y.cells.toArray 72)) w.heap.size y:=heap_alloc_new w _
theorem SxBlk.c0 (h:SxBlk w p y):w.cell? ⟨p,0,none⟩=some (.int .i64 (y.i:Nat)):=by unfold SxBlk at h;rw [cell_of_row _ _ _ _ _ _ h];rfl
theorem SxBlk.c1 (h:SxBlk w p y):w.cell? ⟨p,1,none⟩=some (.int .i64 (y.k:Nat)):=by unfold SxBlk at h;rw [cell_of_row _ _ _ _ _ _ h];rfl
theorem SxBlk.c2 (h:SxBlk w p y):w.cell? ⟨p,2,none⟩=some (.float .f64 y.x.r.key):=by unfold SxBlk at h;rw [cell_of_row _ _ _ _ _ _ h];rfl
theorem SxBlk.c3 (h:SxBlk w p y):w.cell? ⟨p,3,none⟩=some (.bool y.x.r.dead):=by unfold SxBlk at h;rw [cell_of_row _ _ _ _ _ _ h];rfl
theorem SxBlk.c4 (h:SxBlk w p y):w.cell? ⟨p,4,none⟩=some (.slice y.x.a y.x.n y.x.c):=by unfold SxBlk at h;rw [cell_of_row _ _ _ _ _ _ h];rfl
theorem SxBlk.c5 (h:SxBlk w p y):w.cell? ⟨p,5,none⟩=some (.int .i64 y.x.r.wr):=by unfold SxBlk at h;rw [cell_of_row _ _ _ _ _ _ h];rfl
theorem SxBlk.c6 (h:SxBlk w p y):w.cell? ⟨p,6,none⟩=some (.int .i64 y.x.r.cell):=by unfold SxBlk at h;rw [cell_of_row _ _ _ _ _ _ h];rfl
theorem SxBlk.c7 (h:SxBlk w p y):w.cell? ⟨p,7,none⟩=some (.int .i64 y.x.r.no):=by unfold SxBlk at h;rw [cell_of_row _ _ _ _ _ _ h];rfl
structure SxAt (w:World) (b o:Nat) (y:Sx):Prop where
  c0:w.cell? ⟨b,o,none⟩=some (.int .i64 (y.i:Nat))
  c1:w.cell? ⟨b,o+1,none⟩=some (.int .i64 (y.k:Nat))
  c2:w.cell? ⟨b,o+2,none⟩=some (.float .f64 y.x.r.key)
  c3:w.cell? ⟨b,o+3,none⟩=some (.bool y.x.r.dead)
  c4:w.cell? ⟨b,o+4,none⟩=some (.slice y.x.a y.x.n y.x.c)
  c5:w.cell? ⟨b,o+5,none⟩=some (.int .i64 y.x.r.wr)
  c6:w.cell? ⟨b,o+6,none⟩=some (.int .i64 y.x.r.cell)
  c7:w.cell? ⟨b,o+7,none⟩=some (.int .i64 y.x.r.no)
theorem ZeO {o:Nat}(h:SxAt w b o y):(Instr.loadAt 72 (.pointer (some ⟨b,o,none⟩))).run Tryz.prog w=.ok y.val w:=by
 have c0:=h.c0;have c1:=h.c1;have c2:=h.c2;have c3:=h.c3;have c4:=h.c4;have c5:=h.c5;have c6:=h.c6;have c7:=h.c7;simp [go_sem,c0,c1,c2,c3,c4,c5,c6,c7,Sx.val]
theorem Zdx (b o len cap k:Nat)(hk:k<len)(w:World):(Instr.indexAt 68 (.slice (some ⟨b,o,none⟩) len cap) (.int .i64 (k:Nat))).run Tryz.prog w=.ok (.pointer (some ⟨b,o+k*8,none⟩)) w:=by
 (have aa:Tryz.prog.underlying 68=some (.slice (Tryz.prog.elem 68)):=by kernel_rfl);(have h1:(0:Int)≤(k:Int):=by omega);simp [go_sem,Instr.indexAt,run_underlying aa,h1,Addr.add_lit];omega
theorem Zck (y:Sx)(w:World):(Instr.storeAt 72 (.pointer (some ⟨w.heap.size,0,none⟩)) y.val).run Tryz.prog (w.alloc (.cells #[.int .i64 0,.int .i64 0,.float .f64 0,.bool false,.slice none 0 0,.int .i64 0,.int .i64 0,.int .i64 0] 72))=.ok () (w.alloc (.cells y.cells.toArray 72)):=by
 have aa:∀(w:World) (a:Addr) (m:Mode) (x:Nat),(store a (.float .f64 x) m).run Tryz.prog w=stored Tryz.prog w a (.float .f64 x) m:=fun w a m x=>run_store Tryz.prog w a _ m rfl;simp [go_sem,Instr.storeAt,aa,Sx.val,Sx.cells]
theorem Std.cell (h:Std w0 w s S){i:Nat}(hi:i<S.length):∃b off,s.a=some ⟨b,off,none⟩∧SxAt w b (off+i*8) (S.getD i Sx.zero):=by
 rcases h.own.2 with ⟨rfl,h0⟩ | ⟨g,off,cur,ha,hg,ac,ab,aa,ht⟩
 · have:=congrArg List.length h0;rw [ZcI] at this;simp at this;omega
 · refine⟨g,off,ha,?_⟩;have hc:∀t,t<8→∀u,(S.getD i Sx.zero).cells[t]? = some u→w.cell? ⟨g,off+(i*8+t),none⟩=some u:=by
    intro t ht u hu;have:=h.own.cell ha (i*8+t) u (by rw [Zfs S i t hi ht];exact hu);rw [Addr.add_lit] at this;exact this
   exact⟨hc 0 (by omega) _ rfl,hc 1 (by omega) _ rfl,hc 2 (by omega) _ rfl,hc 3 (by omega) _ rfl,hc 4 (by omega) _ rfl,hc 5 (by omega) _ rfl,hc 6 (by omega) _ rfl,hc 7 (by omega) _ rfl⟩
theorem Std.len (h:Std w0 w s S):S.length=s.len:=by have:=h.own.1;rw [ZcI] at this;omega
def ZcX (w:World) (p:Nat) (k:Nat):Prop:=w.heap[p]? = some (Obj.cells #[.float .f64 k] 23 (0,0))
theorem ZcX.keep {k:Nat}(h:ZcX w p k)(hb:Below w.heap.size w w'):ZcX w' p k:=(hb.block p (Array.getElem?_eq_some_iff.1 h).1).trans h
theorem ZcX.c0 {k:Nat}(h:ZcX w p k):w.cell? ⟨p,0,none⟩=some (.float .f64 k):=(Zbj h).1
theorem Zgk {a:Nat}(ha:a<18446744073709551616)(hb:b<18446744073709551616):(cmp a b == 0)=(Fl.key a == Fl.key b):=by
 have h1:=Zgz ha hb;have h2:=Zgz hb ha;have e:(Fl.key a == Fl.key b)=decide (Fl.rk a=Fl.rk b):=by
  by_cases h:Fl.key a=Fl.key b
  · (have:Fl.rk a=Fl.rk b:=by unfold Fl.rk;rw [h]);rw [decide_eq_true this];exact beq_iff_eq.2 h
  · have:¬Fl.rk a=Fl.rk b:=fun e=>h (by rw [← Fl.of_rk a ha,← Fl.of_rk b hb,e]);rw [decide_eq_false this];exact beq_eq_false_iff_ne.2 h
 rw [e];unfold cmp;by_cases c1:Fl.less a b=true
 · have:=h1.1 c1;rw [if_pos c1,decide_eq_false (by omega)];rfl
 · by_cases c2:Fl.less b a=true
   · have:=h2.1 c2;rw [if_neg c1,if_pos c2,decide_eq_false (by omega)];rfl
   · have n1:¬Fl.rk a<Fl.rk b:=fun h=>c1 (h1.2 h);have n2:¬Fl.rk b<Fl.rk a:=fun h=>c2 (h2.2 h);rw [if_neg c1,if_neg c2,decide_eq_true (by omega)];rfl
def ofK (k:Nat) (y:Sx):Bool:=Fl.key y.x.r.key == Fl.key k
def inB (b:Bt) (y:Sx):Bool:=((y.i:Int) == b.1) && ((y.k:Int) == b.2)
theorem ZnZ (w:World)(y:Sx)(g key:Nat)(hy:y.x.r.key<18446744073709551616)(hk:key<18446744073709551616)(hg:ZcX w g key) :
    Calls Tryz.prog 76 #[y.val,.pointer (some ⟨g,0,none⟩)] w fun e w'=>e=.returned (.bool (ofK key y))∧Below w.heap.size w w':=by
  have hB:=Zaa w (.cells y.cells.toArray 72);have hX:=SxBlk.new w y;have HB:=hide hB;have g0:=(hg.keep hB).c0;have x2:=hX.c2;have ac:=Zgk hy hk;have HC:=hide (fun w=>ZbX y.x.r.key key hy hk w);have HR:Hid ((cmp y.x.r.key key == 0)=ofK key y):=ac;clear hB hX hg ac;generalize cmp y.x.r.key key=z at *;generalize ofK key y=r at *;unfold Sx.cells at *;unfold Sx.val at *;have aa:=HR.out;clear HR;cases hz:(z == 0) with
  | true =>
   have ab:z=0:=beq_iff_eq.1 hz;rw [hz] at aa;subst aa ab;go_enter Tryz.func76,Tryz.ntmps76;go_wp2_with fail;refine(HC.out _).mono ?_;rintro e w1 ⟨rfl,hw⟩;obtain rfl:=hw.symm;go_wp2_with fail;go_ret;exact⟨rfl,HB.out⟩
  | false =>
   (have ab:¬z=0:=fun e=>by rw [e] at hz;cases hz);rw [hz] at aa;subst aa;go_enter Tryz.func76,Tryz.ntmps76;go_wp2_with fail;refine(HC.out _).mono ?_;rintro e w1 ⟨rfl,hw⟩;obtain rfl:=hw.symm;go_wp2_with fail;go_ret;exact⟨by first | rfl | simp [hz] | simp [ab],HB.out⟩
theorem ZnJ (w:World)(y:Sx)(g:Nat)(b:Bt)(hg:BtBlk w g b) :
    Calls Tryz.prog 77 #[y.val,.pointer (some ⟨g,0,none⟩)] w fun e w'=>e=.returned (.bool (inB b y))∧Below w.heap.size w w':=by
  have hB:=Zaa w (.cells y.cells.toArray 72);have hX:=SxBlk.new w y;have HB:=hide (fun o=>Zaa w o);have g0:=(hg.keep hB).c0;have g1:=(hg.keep hB).c1;have x0:=hX.c0;have x1:=hX.c1;have HR:Hid (inB b y=(((y.i:Int) == b.1) && ((y.k:Int) == b.2))):=rfl;clear hB hX hg;generalize inB b y=r at *;unfold Sx.cells at *;unfold Sx.val at *;obtain⟨b1,b2⟩:=b;simp only at *;go_enter Tryz.func77,Tryz.ntmps77;go_wp2_with fail;all_goals
   go_ret;exact⟨by rw [HR.out];simp [*],HB.out _⟩
def Znx (w:World) (S:List Sx) (p:Sx→Bool) (e:Ending) (w':World):Prop:=
  ((∃i,∃hi:i<S.length,p S[i]=true∧(∀j (hj:j<i),p (S[j]'(by omega))=false)∧e=.returned (.int .i64 (i:Nat)))∨((∀j (hj:j<S.length),p S[j]=false)∧e=.returned (.int .i64 (-1))))∧Below w.heap.size w w'
theorem Zmz (w0 w:World)(s:Sl)(S:List Sx)(h:Std w0 w s S)(hl:S.length≤100000)(g:Nat)(key:Nat)(hk:key<18446744073709551616)(hg:ZcX w g key) :
    Calls Tryz.prog 75 #[s.val,.func (.func 76) #[] #[.pointer (some ⟨g,0,none⟩)]] w (Znx w S (ofK key)):=by
  obtain⟨a,len,cap⟩:=s;have HS:=hide h;have HL:Hid (S.length=len):=h.len;(have hl':len≤100000:=by rw [← HL.out];exact hl);have HG:=hide hg;clear h hl hg;unfold Sl.val;simp only;go_enter Tryz.func75,Tryz.ntmps75;go_wp2_with fail;go_loopw [8] (fun iv wr=>∃i:Nat,i≤len∧iv=.int .i64 (i:Nat)∧Hid (Below w.heap.size w wr)∧Hid (∀j (hj:j<S.length),j<i→ofK key (S[j])=false)) (fun iv _=>len-(intOf iv).toNat)
  case atStart=>exact ⟨0,Nat.zero_le _,rfl,Below.refl _ _,fun _ _ h=>absurd h (Nat.not_lt_zero _)⟩
  case round =>
   obtain⟨i,hi,rfl,hW,ac⟩:=hrel;rcases Nat.lt_or_ge i len with ah | af
   · (have i1:(i:Int)<(len:Int):=by omega);(have ad:i<S.length:=by rw [HL.out];exact ah);obtain⟨bb,oo,ha,c0⟩:=(HS.out.keep hW.out).cell ad;replace ha:a=some ⟨bb,oo,none⟩:=ha;subst ha;(have af:S.getD i Sx.zero=S[i]:=by simp [List.getD,ad]);rw [af] at c0;have ae:=hide (ZeO c0);have ai:=hide (Zdx bb oo len cap i ah);have ab:=HS.out.fits _ (List.getElem_mem ad);have ag:=hide ad;have aa:=hide (ZnZ wr S[i] g key ab.key hk (HG.out.keep hW.out));generalize hy:S[i]=y at *;have HY:=hide hy;clear c0 af ad ab hy;unfold Sx.val at ae aa;cases hp:ofK key y with
     | true =>
      rw [hp] at aa;have HP:=hide hp;clear hp;go_wp2_with (first | refine Zau _ rfl 72 (.tmp 14) rfl (.pointer (some ⟨bb,oo+i*8,none⟩)) _ rfl ae.out ?_);refine aa.out.mono ?_;rintro e w1 ⟨rfl,hb⟩;have HB:=hide (Zad hW.out hb);clear hb;go_wp2_with fail;go_ret;exact⟨.inl ⟨i,ag.out,(congrArg (ofK key) HY.out).trans HP.out,fun j hj=>ac.out j (Nat.lt_trans hj ag.out) hj,rfl⟩,HB.out⟩
     | false =>
      rw [hp] at aa;have HE:Hid (∀j (hj:j<S.length),j<i+1→ofK key (S[j])=false):=by
       intro j hj aj;by_cases e:j=i
       · subst e;exact (congrArg (ofK key) HY.out).trans hp
       · exact ac.out j hj (by omega)
      clear hp ac;go_wp2_with (first | refine Zau _ rfl 72 (.tmp 14) rfl (.pointer (some ⟨bb,oo+i*8,none⟩)) _ rfl ae.out ?_);refine aa.out.mono ?_;rintro e w1 ⟨rfl,hb⟩;have HB:=hide (Zad hW.out hb);clear hb;go_wp2_with fail;go_roundw
      case rel=>exact ⟨i+1,by omega,by go_num,HB,HE⟩
      case measure=>simp only [intOf];omega
   · (have i1:¬(i:Int)<(len:Int):=by omega);have HE:Hid (∀j (hj:j<S.length),ofK key (S[j])=false):=fun j hj=>ac.out j hj (by rw [HL.out] at hj;omega);clear ac;go_wp2_with fail;go_ret;exact⟨.inr ⟨HE.out,rfl⟩,hW.out⟩
def Znw (w:World) (S:List Sx) (p:Sx→Bool) (e:Ending) (w':World):Prop:=
  ((∃i,∃hi:i<S.length,p S[i]=true∧(∀j (hj:j<i),p (S[j]'(by omega))=false)∧e=.returned (.int .i64 (i:Nat)))∨((∀j (hj:j<S.length),p S[j]=false)∧e=.returned (.int .i64 (-1))))∧Below w.heap.size w w'
theorem Zmw (w0 w:World)(s:Sl)(S:List Sx)(h:Std w0 w s S)(hl:S.length≤100000)(g:Nat)(b:Bt)(hg:BtBlk w g b) :
    Calls Tryz.prog 75 #[s.val,.func (.func 77) #[] #[.pointer (some ⟨g,0,none⟩)]] w (Znw w S (inB b)):=by
  obtain⟨a,len,cap⟩:=s;have HS:=hide h;have HL:Hid (S.length=len):=h.len;(have hl':len≤100000:=by rw [← HL.out];exact hl);have HG:=hide hg;clear h hl hg;unfold Sl.val;simp only;go_enter Tryz.func75,Tryz.ntmps75;go_wp2_with fail;go_loopw [8] (fun iv wr=>∃i:Nat,i≤len∧iv=.int .i64 (i:Nat)∧Hid (Below w.heap.size w wr)∧Hid (∀j (hj:j<S.length),j<i→inB b (S[j])=false)) (fun iv _=>len-(intOf iv).toNat)
  case atStart=>exact ⟨0,Nat.zero_le _,rfl,Below.refl _ _,fun _ _ h=>absurd h (Nat.not_lt_zero _)⟩
  case round =>
   obtain⟨i,hi,rfl,hW,ab⟩:=hrel;rcases Nat.lt_or_ge i len with ah | af
   · (have i1:(i:Int)<(len:Int):=by omega);(have ac:i<S.length:=by rw [HL.out];exact ah);obtain⟨bb,oo,ha,c0⟩:=(HS.out.keep hW.out).cell ac;replace ha:a=some ⟨bb,oo,none⟩:=ha;subst ha;(have af:S.getD i Sx.zero=S[i]:=by simp [List.getD,ac]);rw [af] at c0;have ad:=hide (ZeO c0);have ai:=hide (Zdx bb oo len cap i ah);have ae:=HS.out.fits _ (List.getElem_mem ac);have ag:=hide ac;have aa:=hide (ZnJ wr S[i] g b (HG.out.keep hW.out));generalize hy:S[i]=y at *;have HY:=hide hy;clear c0 af ac ae hy;unfold Sx.val at ad aa;cases hp:inB b y with
     | true =>
      rw [hp] at aa;have HP:=hide hp;clear hp;go_wp2_with (first | refine Zau _ rfl 72 (.tmp 14) rfl (.pointer (some ⟨bb,oo+i*8,none⟩)) _ rfl ad.out ?_);refine aa.out.mono ?_;rintro e w1 ⟨rfl,hb⟩;have HB:=hide (Zad hW.out hb);clear hb;go_wp2_with fail;go_ret;exact⟨.inl ⟨i,ag.out,(congrArg (inB b) HY.out).trans HP.out,fun j hj=>ab.out j (Nat.lt_trans hj ag.out) hj,rfl⟩,HB.out⟩
     | false =>
      rw [hp] at aa;have HE:Hid (∀j (hj:j<S.length),j<i+1→inB b (S[j])=false):=by
       intro j hj aj;by_cases e:j=i
       · subst e;exact (congrArg (inB b) HY.out).trans hp
       · exact ab.out j hj (by omega)
      clear hp ab;go_wp2_with (first | refine Zau _ rfl 72 (.tmp 14) rfl (.pointer (some ⟨bb,oo+i*8,none⟩)) _ rfl ad.out ?_);refine aa.out.mono ?_;rintro e w1 ⟨rfl,hb⟩;have HB:=hide (Zad hW.out hb);clear hb;go_wp2_with fail;go_roundw
      case rel=>exact ⟨i+1,by omega,by go_num,HB,HE⟩
      case measure=>simp only [intOf];omega
   · (have i1:¬(i:Int)<(len:Int):=by omega);have HE:Hid (∀j (hj:j<S.length),inB b (S[j])=false):=fun j hj=>ab.out j hj (by rw [HL.out] at hj;omega);clear ab;go_wp2_with fail;go_ret;exact⟨.inr ⟨HE.out,rfl⟩,hW.out⟩
end Go.Proofs.YtdojdcncncgncaaGreat
