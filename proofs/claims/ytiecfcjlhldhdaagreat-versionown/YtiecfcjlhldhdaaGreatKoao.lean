/-
  Lemmas.
-/
import Derived.Test.YtiecfcjlhldhdaaGreatKoan
import Derived.Test.YtiecfcjlhldhdaaGreatKoam
import Derived.Test.YtiecfcjlhldhdaaGreatKoae
import Derived.Test.YtiecfcjlhldhdaaGreatKoak
import Derived.Test.YtiecfcjlhldhdaaGreatKoaj
import Derived.Deep.CutBlock
import Derived.Sort.WalkA
import Derived.Sort.LotD3
import Derived.Test.YtiecfcjlhldhdaaGreatKoaa
import Derived.Sort.LotB
import Derived.Sort.LotC
namespace Go.Proofs.YtiecfcjlhldhdaaGreat
open Go.RowKit Go.Proofs.Tryz
set_option linter.unusedVariables false
set_option linter.unusedSimpArgs false
set_option maxRecDepth 100000
set_option maxHeartbeats 4000000
variable {w0 W w:World}{blk off m i j hi first root:Nat}{d:Array Int}{tx:Int}{r:Rw}{xs:List Nat}
theorem ZoU (w:World)(v:Vw)(s:Sl):∃W,(Instr.storeAt 31 (.pointer (some ⟨w.heap.size,0,none⟩)) (.agg #[.int .i64 v.self,.int .i64 v.next,.slice s.a s.len s.cap])).run prog (w.alloc (.cells #[.int .i64 0,.int .i64 0,.slice none 0 0] 31))=.ok () W∧VwBlk W w.heap.size v s∧Bl w W:=by
 have hz:VwBlk (w.alloc (.cells #[.int .i64 0,.int .i64 0,.slice none 0 0] 31)) w.heap.size ⟨0,0,[]⟩ Sl.nil:=Zd9 w ⟨0,0,[]⟩ Sl.nil;have hA:=Zab w (.cells #[.int .i64 0,.int .i64 0,.slice none 0 0] 31);have c0:=hz.c0;have c1:=hz.c1;have c2:=hz.c2;have f0:=hz.fz;refine⟨(((w.alloc (.cells #[.int .i64 0,.int .i64 0,.slice none 0 0] 31)).setCell ⟨w.heap.size,0,none⟩ (.int .i64 v.self)).setCell ⟨w.heap.size,1,none⟩ (.int .i64 v.next)).setCell ⟨w.heap.size,2,none⟩ (.slice s.a s.len s.cap),by simp [go_sem,Instr.storeAt,stored,c0,c1,c2,f0],?_,?_⟩
 · have s0:=heap_setCell_same _ w.heap.size 0 _ 31 (.int .i64 v.self) hz;have s1:=heap_setCell_same _ w.heap.size 1 _ 31 (.int .i64 v.next) s0;exact heap_setCell_same _ w.heap.size 2 _ 31 (.slice s.a s.len s.cap) s1
 · exact((hA.setCell (p:=⟨w.heap.size,0,none⟩) (Nat.le_refl _) _).setCell (p:=⟨w.heap.size,1,none⟩) (Nat.le_refl _) _).setCell (p:=⟨w.heap.size,2,none⟩) (Nat.le_refl _) _
structure OwA (w0 w:World) (z:Bz) (tx:Int) (g8:Nat) (q:Rx) (g9 g10:Nat) (y:Rx):Prop where
  bs:BsBlk w w0.heap.size z
  bin:Bin w z
  r8:RwBlk w g8 q.r (.slice q.a q.n q.c)
  f8:Fs w q.a q.n q.c q.r.xs
  v9:VwBlk w g9 ⟨0,tx,[]⟩ Sl.nil
  r10:RwBlk w g10 y.r (.slice y.a y.n y.c)
  f10:Fs w y.a y.n y.c y.r.xs
  below:Bl w0 w
theorem OwA.keep {w':World}{z:Bz}{g8:Nat}{q:Rx}{g9 g10:Nat}{y:Rx}(h:OwA w0 w z tx g8 q g9 g10 y)(hb:Bl w w'):OwA w0 w' z tx g8 q g9 g10 y:=
 ⟨h.bs.keep hb,h.bin.keep hb,h.r8.keep hb,h.f8.keep hb (Nat.le_refl _),h.v9.keep hb,h.r10.keep hb,h.f10.keep hb (Nat.le_refl _),Zad h.below hb⟩
structure OwB (w0 w:World) (z:Bz) (tx:Int) (g8:Nat) (q:Rx) (g9 g10:Nat) (y:Rx) (g14:Nat) (x:Bz) (g15:Nat) (m:Rx):Prop where
  a:OwA w0 w z tx g8 q g9 g10 y
  b14:BsBlk w g14 x
  bin:Bin w x
  r15:RwBlk w g15 m.r (.slice m.a m.n m.c)
  f15:Fs w m.a m.n m.c m.r.xs
theorem OwB.keep {w':World}{z:Bz}{g8:Nat}{q:Rx}{g9 g10:Nat}{y:Rx}{g14:Nat}{x:Bz}{g15:Nat}{m:Rx}(h:OwB w0 w z tx g8 q g9 g10 y g14 x g15 m)(hb:Bl w w'):OwB w0 w' z tx g8 q g9 g10 y g14 x g15 m:=
 ⟨h.a.keep hb,h.b14.keep hb,h.bin.keep hb,h.r15.keep hb,h.f15.keep hb (Nat.le_refl _)⟩
theorem ZfP (h:1≤tx∧tx≤1000):MayV ⟨0,tx,[]⟩:=
 ⟨⟨by show (0:Int)≤0;decide,by show (0:Int)≤_;decide⟩,⟨by show 0≤tx;omega,by show tx≤_;omega⟩,Nat.zero_le _,fun i hi=>absurd hi (Nat.not_lt_zero _),fun i hi=>absurd hi (Nat.not_lt_zero _)⟩
theorem ZnW (h:1≤tx∧tx≤1000):MayV ⟨tx,tx,[]⟩:=
 ⟨⟨by show 0≤tx;omega,by show tx≤_;omega⟩,⟨by show 0≤tx;omega,by show tx≤_;omega⟩,Nat.zero_le _,fun i hi=>absurd hi (Nat.not_lt_zero _),fun i hi=>absurd hi (Nat.not_lt_zero _)⟩
theorem Zia {b:Bse}(h:MayBs b)(ht:1≤tx∧tx≤1000)(hf:r.fits):Zeg b tx r=b∨Ownd b tx r (Zeg b tx r):=by
 by_cases hs:stopB b
 · exact .inl (ZbS hs)
 · by_cases hw:failB b tx r
   · exact .inl (ZbR hs hw)
   · exact .inr (owned h ht hf hs hw)
theorem Zna {b:Bse}(h:MayBs b)(ht:1≤tx∧tx≤1000)(hf:r.fits):MayBs (Zeg b tx r):=by
 rcases Zia h ht hf with e | e
 · rw [e];exact h
 · exact e.may
theorem ZqY {F:Prop}(HS:Zgn F)(w:World)(z:Bz)(h:BIn w z)(key:Nat)(cr:key<18446744073709551616)(ca:Option Addr)(cn cc:Nat)(xs:List Nat)(hx:Fs w ca cn cc xs) :
    Calls prog 6 #[z.val,.float .f64 key,.slice ca cn cc] w fun e w'=>e=.returned (.bool true)∧Bl w w':=by
  have hA:=Zab w (.cells #[.int .i64 z.t.nx,.int .i64 z.t.no,.int .i64 z.t.cm,.slice z.es.a z.es.len z.es.cap,.slice z.cs.a z.cs.len z.cs.cap,.slice z.ls.a z.ls.len z.ls.cap] 28);have du:=ZaD w z;obtain⟨W0,hW⟩:∃W,w.alloc (.cells #[.int .i64 z.t.nx,.int .i64 z.t.no,.int .i64 z.t.cm,.slice z.es.a z.es.len z.es.cap,.slice z.cs.a z.cs.len z.cs.cap,.slice z.ls.a z.ls.len z.ls.cap] 28)=W:=⟨_,rfl⟩;rw [hW] at hA du;have eo:=Zh hW;have ay:=Zh du;have HA:=Zh hA;have da:=Zh (Zk3 W0 z (h.keep hA));have HX:=Zh hx;have HH:=Zh HS;have bj:=Zh (fun W=>ZjS HS W);have fz:cn≤9223372036854775807:=hx.big;have ao:=Zh cr;clear h hx HS hW du hA cr;have k0:=ay.o.c0;have k1:=ay.o.c1;have k2:=ay.o.c2;have k3:=ay.o.c3;have k4:=ay.o.c4;have k5:=ay.o.c5;unfold Bz.val at da;unfold Bz.val;go_enter func6,ntmps6;go_wp2_with fail;rw [eo.o];clear eo;refine da.o.mono ?_;rintro e w1 ⟨hl | ⟨cp,fv,hl⟩,bx⟩
  · subst hl;have dd:=Zh (Zad HA.o bx);clear bx da;go_wp2_with fail;refine(bj.o _).mono ?_;rintro e w90 ⟨rfl,aa⟩;have an:=Zh (Zad dd.o aa);clear aa;go_wp2;go_ret;exact⟨rfl,an.o⟩
  · subst hl;have dd:=Zh (Zad HA.o bx);have ae:=Zh (ay.o.keep bx);have bk:=Zh (cp.keep bx);clear da k0 k1 k2 k3 k4 k5 bx cp ay;have k0:=ae.o.c0;have k1:=ae.o.c1;have k2:=ae.o.c2;have k3:=ae.o.c3;have k4:=ae.o.c4;have k5:=ae.o.c5;have dk:=Zh (Zm2 w1 z bk.o);unfold Bz.val at dk;go_wp2_with fail;refine dk.o.mono ?_;rintro e w2 ⟨⟨rm,rfl,eb⟩,dc⟩;have bv:=Zh (Zad dd.o dc);have ac:=Zh (ae.o.keep dc);have bz:=Zh (bk.o.keep dc);clear k0 k1 k2 k3 k4 k5 dc ae bk dk;have k0:=ac.o.c0;have k1:=ac.o.c1;have k2:=ac.o.c2;have k3:=ac.o.c3;have k4:=ac.o.c4;have k5:=ac.o.c5;cases rm with
    | false =>
     clear eb;go_wp2_with fail;refine(bj.o _).mono ?_;rintro e w90 ⟨rfl,aa⟩;have an:=Zh (Zad bv.o aa);clear aa;go_wp2;go_ret;exact⟨rfl,an.o⟩
    | true =>
     have HM:Hi (MayBs z.b):=eb.1 rfl;clear eb;by_cases fu:cn≤4
     · (have i4:¬(4:Int)<(cn:Int):=by omega);by_cases hn:z.t.nx≤1000
       · (have in1:¬(1000:Int)<z.t.nx:=by omega);have fh:1≤z.t.nx∧z.t.nx≤1000:=⟨HM.o.t.nx.1,hn⟩;have be:Hi (1≤z.t.nx∧z.t.nx≤1000):=fh;have ek:=Zh (Zmu key ao.o ca cn cc xs w2 (HX.o.keep bv.o (Nat.le_refl _)) fu);have db:Hi (ofR key xs).fits:=ZnY key ao.o xs HX.o.fit;clear fh;go_wp2_with fail;refine ek.o.mono ?_;rintro e w3 ⟨ck,qa,qc,rfl,ev⟩;obtain⟨W4,cv,fc,dq⟩:=ZeM w3 (Rx.mk (ofR key xs) qa cn qc);obtain⟨W5,cw,cz,dr⟩:=ZoU W4 ⟨0,z.t.nx,[]⟩ Sl.nil;have ar:=Zad dq dr;have af:=Zh ((ac.o.keep ck).keep ar);have bl:=Zh ((bz.o.keep ck).keep ar);have ef:=Zh (Zad (Zad bv.o ck) ar);have em:=Zh (fc.keep dr);have eg:=Zh (ev.keep ar (Nat.le_refl _));have en:=Zh cz;have bn:=Zh cv;have bo:=Zh cw;have k2':=ac.o.keep ck;have k2'':=k2'.keep dq;have m0:=k2'.c0;have n0:=k2''.c0;have ag:=Zh (HH.o.read W5 W5 z ⟨0,z.t.nx,[]⟩ Sl.nil key (Below.refl _ _) bl.o (Gi.none _) (by show 0≤200;decide) ao.o HM.o (ZfP be.o));obtain⟨o1,dz⟩:∃o1,o1=Vn.cut (readB (uns z.ux) (lfs z.lb) ⟨0,z.t.nx,[]⟩ key):=⟨_,rfl⟩;simp only [← dz] at ag;have ej:=Zh dz;have p0:=af.o.c0;have p1:=af.o.c1;have p2:=af.o.c2;have p3:=af.o.c3;have p4:=af.o.c4;have p5:=af.o.c5;have v0:=cz.c0;have v1:=cz.c1;have v2:=cz.c2;unfold vwV Bz.val at ag;simp only [Sl.val,Sl.nil] at ag bo v0 v1 v2;simp only at bn;unfold Rw.val;clear ck cv fc dq cw cz dr ar ev ac bz bv ek k2' k2'' dz k0 k1 k2 k3 k4 k5;go_wp2_with (first | refine Zac _ rfl rfl 39 (.tmp 8) (.tmp 48) rfl (.pointer (some ⟨w3.heap.size,0,none⟩)) (.agg #[.float .f64 (ofR key xs).key,.bool (ofR key xs).dead,.slice qa cn qc,.int .i64 (ofR key xs).wr,.int .i64 (ofR key xs).cell,.int .i64 (ofR key xs).no]) rfl rfl W4 bn.o ?_ | refine Zac _ rfl rfl 31 (.tmp 9) (.tmp 50) rfl (.pointer (some ⟨W4.heap.size,0,none⟩)) (.agg #[.int .i64 0,.int .i64 z.t.nx,.slice none 0 0]) rfl rfl W5 bo.o ?_);refine ag.o.mono ?_;rintro e w6 ⟨er,y,⟨na,nn,nc⟩,rfl,fj,fi,fy⟩;obtain⟨W7,cx,fd,ds⟩:=ZeM w6 y;have ak:=Zad er ds;have ai:Hi (OwA w W7 z z.t.nx w3.heap.size (Rx.mk (ofR key xs) qa cn qc) W4.heap.size w6.heap.size y):=⟨af.o.keep ak,bl.o.keep ak,em.o.keep ak,eg.o.keep ak (Nat.le_refl _),en.o.keep ak,fd,fi.fs.keep ds (Nat.le_refl _),Zad ef.o ak⟩;have ft:=Zh fj;have ce:=Zh cx;obtain⟨b1,bq⟩:∃b1,b1=o1.1.isSome:=⟨_,rfl⟩;obtain⟨e1,dv⟩:∃e1,e1=o1.2.2:=⟨_,rfl⟩;rw [← bq,← dv];have de:=Zh bq;have fl:=Zh dv;have dn:=Zh (ZhK W7 z ai.o.bin HM.o z.t.nx be.o (ofR key xs) qa cn qc ai.o.f8 db.o);unfold Bz.val Rw.val at dn;have s0:=ai.o.bs.c0;have s1:=ai.o.bs.c1;have s2:=ai.o.bs.c2;have s3:=ai.o.bs.c3;have s4:=ai.o.bs.c4;have s5:=ai.o.bs.c5;have r0:=ai.o.r8.c0;have r1:=ai.o.r8.c1;have r2:=ai.o.r8.c2;have r3:=ai.o.r8.c3;have r4:=ai.o.r8.c4;have r5:=ai.o.r8.c5;simp only at r0 r1 r2 r3 r4 r5;unfold Rx.val Rw.val;(try simp only [Sl.val]);clear er ds ak cx fd fj fi fy bq dv af bl ef em eg en ag p0 p1 p2 p3 p4 p5 v0 v1 v2 m0 n0 bn bo;go_wp2_with (first | refine Zac _ rfl rfl 39 (.tmp 10) (.tmp 56) rfl (.pointer (some ⟨w6.heap.size,0,none⟩)) (.agg #[.float .f64 y.r.key,.bool y.r.dead,.slice y.a y.n y.c,.int .i64 y.r.wr,.int .i64 y.r.cell,.int .i64 y.r.no]) rfl rfl W7 ce.o ?_);refine dn.o.mono ?_;rintro e w8 ⟨et,x,rfl,eu,ee⟩;obtain⟨W9,cy,bi,dt⟩:=ZoA w8 x;have co:=Zad et dt;have cd:=Zh (ai.o.keep co);have eq:=Zh ee;have bm:=Zh (eu.keep dt);have ep:=Zh bi;have bp:=Zh cy;have ei:Hi (MayBs x.b):=by
          show MayBs _;rw [ee];exact Zna HM.o be.o db.o
         have ag:=Zh (HH.o.read W9 W9 x ⟨z.t.nx,z.t.nx,[]⟩ Sl.nil key (Below.refl _ _) bm.o (Gi.none _) (by show 0≤200;decide) ao.o ei.o (ZnW be.o));obtain⟨o2,bf⟩:∃o2,o2=Vn.cut (readB (uns x.ux) (lfs x.lb) ⟨z.t.nx,z.t.nx,[]⟩ key):=⟨_,rfl⟩;simp only [← bf] at ag;have fq:=Zh bf;have p0:=bi.c0;have p1:=bi.c1;have p2:=bi.c2;have p3:=bi.c3;have p4:=bi.c4;have p5:=bi.c5;unfold vwV Bz.val at ag;unfold Bz.val at bp;simp only [Sl.val,Sl.nil] at ag;unfold Bz.val;clear et eu ee cy bi dt co ai dn bf s0 s1 s2 s3 s4 s5 r0 r1 r2 r3 r4 r5 ce;go_wp2_with (first | refine Zac _ rfl rfl 28 (.tmp 14) (.tmp 63) rfl (.pointer (some ⟨w8.heap.size,0,none⟩)) (.agg #[.int .i64 x.t.nx,.int .i64 x.t.no,.int .i64 x.t.cm,.slice x.es.a x.es.len x.es.cap,.slice x.cs.a x.cs.len x.cs.cap,.slice x.ls.a x.ls.len x.ls.cap]) rfl rfl W9 bp.o ?_);refine ag.o.mono ?_;rintro e w10 ⟨cf,m,⟨ma,mn,mc⟩,rfl,ey,ew,fw⟩;obtain⟨W11,bg,ct,br⟩:=ZeM w10 m;have ad:=Zad cf br;have aj:Hi (OwB w W11 z z.t.nx w3.heap.size (Rx.mk (ofR key xs) qa cn qc) W4.heap.size w6.heap.size y w8.heap.size x w10.heap.size m):=⟨cd.o.keep ad,ep.o.keep ad,bm.o.keep ad,ct,ew.fs.keep br (Nat.le_refl _)⟩;have eh:=Zh ey;have bc:=Zh bg;obtain⟨b2,bt⟩:∃b2,b2=o2.1.isSome:=⟨_,rfl⟩;obtain⟨e2,dw⟩:∃e2,e2=o2.2.2:=⟨_,rfl⟩;rw [← bt,← dw];have di:=Zh bt;have fm:=Zh dw;have bw:=Zh (ZkT W11 x z aj.o.bin aj.o.a.bin);unfold Bz.val at bw;have s0:=aj.o.a.bs.c0;have s1:=aj.o.a.bs.c1;have s2:=aj.o.a.bs.c2;have s3:=aj.o.a.bs.c3;have s4:=aj.o.a.bs.c4;have s5:=aj.o.a.bs.c5;have q0:=aj.o.b14.c0;have q1:=aj.o.b14.c1;have q2:=aj.o.b14.c2;have q3:=aj.o.b14.c3;have q4:=aj.o.b14.c4;have q5:=aj.o.b14.c5;unfold Rx.val Rw.val;(try simp only [Sl.val]);clear cf br ad bg ct ey ew fw bt dw cd ep bm ag p0 p1 p2 p3 p4 p5 bp;go_wp2_with (first | refine Zac _ rfl rfl 39 (.tmp 15) (.tmp 71) rfl (.pointer (some ⟨w10.heap.size,0,none⟩)) (.agg #[.float .f64 m.r.key,.bool m.r.dead,.slice m.a m.n m.c,.int .i64 m.r.wr,.int .i64 m.r.cell,.int .i64 m.r.no]) rfl rfl W11 bc.o ?_);refine bw.o.mono ?_;rintro e w12 ⟨⟨rs,rfl,fe⟩,cg⟩;have am:=Zh (aj.o.keep cg);have dl:Hi (rs=false→Ownd z.b z.t.nx (ofR key xs) x.b):=fun e=>by
          rcases Zia HM.o be.o db.o with k | k
          · have:=fe (by rw [eq.o];exact k);rw [e] at this;cases this
          · rw [eq.o];exact k
         clear cg fe aj bw s0 s1 s2 s3 s4 s5 q0 q1 q2 q3 q4 q5 bc;cases rs with
         | true =>
          go_wp2_with fail;refine(bj.o _).mono ?_;rintro e w90 ⟨rfl,aa⟩;have an:=Zh (Zad am.o.a.below aa);clear aa;go_wp2;go_ret;exact⟨rfl,an.o⟩
         | false =>
          by_cases he:e1=0
          · subst he;have el:=Zh (dl.o rfl);have bf:o2=(some (wrB z.b z.t.nx (ofR key xs)),[],0):=by
             rw [fq.o,← Zch];exact congrArg Vn.cut (el.o.mine be.o.1 rfl)
            obtain⟨o3,ea⟩:∃o3,o3=Vn.cut (readB (uns x.ux) (lfs x.lb) ⟨0,z.t.nx,[]⟩ key):=⟨_,rfl⟩;have ax:∃t3,o3=(o1.1,z.t.nx :: t3,0):=by
             have e1:(readB (uns z.ux) (lfs z.lb) ⟨0,z.t.nx,[]⟩ key).1=o1.1:=(congrArg Prod.fst ej.o).symm;have e2:(readB (uns z.ux) (lfs z.lb) ⟨0,z.t.nx,[]⟩ key).2.2=0:=(congrArg (fun k=>k.2.2) ej.o).symm.trans fl.o.symm;have e3:readB (uns x.ux) (lfs x.lb) ⟨0,z.t.nx,[]⟩ (Fl.key key)=_:=el.o.others be.o.1 HM.o (by show (readB (uns z.ux) (lfs z.lb) ⟨0,z.t.nx,[]⟩ (Fl.key key)).2.2=0;rw [Zch];exact e2);rw [Zch] at e3;refine⟨(readB (uns z.ux) (lfs z.lb) ⟨0,z.t.nx,[]⟩ (Fl.key key)).2.1.take 399,?_⟩;rw [ea,e3,← e1,← Zch (uns z.ux) (lfs z.lb) ⟨0,z.t.nx,[]⟩ key];rfl
            obtain⟨t3,ax⟩:=ax;(have dp:b2=true:=by rw [di.o,bf];rfl);(have dx:e2=0:=by rw [fm.o,bf]);subst dp dx;have dj:Hi (m.r=wrB z.b z.t.nx (ofR key xs)):=by
             show _=_;rw [eh.o,bf];rfl
            have ag:=Zh (HH.o.read w12 w12 x ⟨0,z.t.nx,[]⟩ Sl.nil key (Below.refl _ _) am.o.bin (Gi.none _) (by show 0≤200;decide) ao.o ei.o (ZfP be.o));simp only [← ea] at ag;have cb:=Zh ax;have p0:=am.o.b14.c0;have p1:=am.o.b14.c1;have p2:=am.o.b14.c2;have p3:=am.o.b14.c3;have p4:=am.o.b14.c4;have p5:=am.o.b14.c5;have v0:=am.o.a.v9.c0;have v1:=am.o.a.v9.c1;have v2:=am.o.a.v9.c2;unfold vwV Bz.val at ag;simp only [Sl.val,Sl.nil] at ag v0 v1 v2;clear bf ea ax dl;go_wp2_with fail;refine ag.o.mono ?_;rintro e w13 ⟨ch,n,⟨ta,tn,tc⟩,rfl,fb,ez,fa⟩;obtain⟨W14,bh,cu,av⟩:=ZeM w13 n;have ap:=Zad ch av;have ba:=Zh (am.o.keep ap);have bd:=Zh bh;have dm:=Zh cu;have fo:=Zh (ez.fs.keep av (Nat.le_refl _));have bu:=fa.below av (Nat.le_refl _);(have cl:o3.1.isSome=b1:=by rw [cb.o,de.o]);(have cq:o3.2.2=0:=by rw [cb.o]);rw [cl,cq];have fg:o3.2.1.length=tn:=bu.len;(have fx:0<tn:=by rw [← fg,cb.o];simp);(have i1:(1:Int)≤(tn:Int):=by omega);(have i0:(0:Int)<(tn:Int):=by omega);obtain⟨tb,tof,ec,ed⟩:=bu.cell 0 fx;replace ec:ta=some ⟨tb,tof,none⟩:=ec;subst ec;(have ff:o3.2.1.getD 0 0=z.t.nx:=by rw [cb.o];rfl);rw [ff] at ed;have fr:=Zh ed;have fp:Hi (n.r=y.r):=by
             show _=_;rw [fb,ft.o,cb.o]
            (have dy:m.r.key=Fl.key key:=by rw [dj.o];rfl);have fk:=Zh (fun W=>Zgp (a:=m.r.key) (b:=key) (m:=true) (by rw [dy,Fl.key_key];exact beq_self_eq_true _) (by rw [dy];exact db.o.key) ao.o W);(have ex:(m.r.xs == (ofR key xs).xs)=true:=by rw [dj.o];exact beq_self_eq_true _);have fn:Hi (∀W,Bl W14 W→Calls prog 24 #[.slice m.a m.n m.c,.slice qa cn qc] W fun e w'=>e=.returned (.bool true)∧Bl W w'):=fun W hb=>by
             have:=ZfU m.a m.n m.c qa cn qc m.r.xs (ofR key xs).xs W (ba.o.f15.keep hb (Nat.le_refl _)) (ba.o.a.f8.keep hb (Nat.le_refl _));rwa [ex] at this
            have bw:Hi (∀W,Bl W14 W→Calls prog 13 #[n.val,y.val] W fun e w'=>e=.returned (.bool true)∧Bl W w'):=fun W hb=>ZkW fp.o W (fo.o.keep hb (Nat.le_refl _)) (ba.o.a.f10.keep hb (Nat.le_refl _));have a0:=ba.o.r15.c0;have a2:=ba.o.r15.c2;unfold Rx.val Rw.val;unfold Rx.val Rw.val at bw;(try simp only [Sl.val]);clear ch bh cu av ap fb ez fa bu cl cq fg ff ed dy ex am ag eh dj p0 p1 p2 p3 p4 p5 v0 v1 v2;go_wp2_with (first | refine Zac _ rfl rfl 39 (.tmp 19) (.tmp 88) rfl (.pointer (some ⟨w13.heap.size,0,none⟩)) (.agg #[.float .f64 n.r.key,.bool n.r.dead,.slice n.a n.n n.c,.int .i64 n.r.wr,.int .i64 n.r.cell,.int .i64 n.r.no]) rfl rfl W14 bd.o ?_);refine(fk.o _).mono ?_;rintro e w15 ⟨rfl,aw⟩;have au:=ba.o.keep aw;have a2':=au.r15.c2;have l2:=au.a.r8.c2;simp only at l2;have df:=Zh aw;have az:=Zh (fn.o w15 aw);clear aw au a0 a2 bd;go_wp2_with fail;refine az.o.mono ?_;rintro e w16 ⟨rfl,ci⟩;have ah:=Zad df.o ci;have ab:=ba.o.keep ah;have al:=dm.o.keep ah;have n0:=al.c0;have n1:=al.c1;have n2:=al.c2;have n3:=al.c3;have n4:=al.c4;have n5:=al.c5;have y0:=ab.a.r10.c0;have y1:=ab.a.r10.c1;have y2:=ab.a.r10.c2;have y3:=ab.a.r10.c3;have y4:=ab.a.r10.c4;have y5:=ab.a.r10.c5;have dg:=Zh ah;have bb:=Zh (bw.o w16 ah);clear ci ah ab al a2' l2 az;go_wp2_with fail;refine bb.o.mono ?_;rintro e w17 ⟨rfl,cj⟩;have aq:=Zad dg.o cj;have dh:=Zh (Zad ba.o.a.below aq);have t0:=Zae fr.o aq;simp only [Nat.add_zero] at t0;clear cj aq bb n0 n1 n2 n3 n4 n5 y0 y1 y2 y3 y4 y5;go_wp2_with fail;refine(bj.o _).mono ?_;rintro e w90 ⟨rfl,aa⟩;have an:=Zh (Zad dh.o aa);clear aa;go_wp2;go_ret;exact⟨rfl,an.o⟩
          · clear dl;go_wp2_with fail;refine(bj.o _).mono ?_;rintro e w90 ⟨rfl,aa⟩;have an:=Zh (Zad am.o.a.below aa);clear aa;go_wp2;go_ret;exact⟨rfl,an.o⟩
       · (have in1:(1000:Int)<z.t.nx:=by omega);go_wp2_with fail;refine(bj.o _).mono ?_;rintro e w90 ⟨rfl,aa⟩;have an:=Zh (Zad bv.o aa);clear aa;go_wp2;go_ret;exact⟨rfl,an.o⟩
     · (have i4:(4:Int)<(cn:Int):=by omega);go_wp2_with fail;refine(bj.o _).mono ?_;rintro e w90 ⟨rfl,aa⟩;have an:=Zh (Zad bv.o aa);clear aa;go_wp2;go_ret;exact⟨rfl,an.o⟩
def orN:List Int→Int
  | []=>0
  | x :: l=>if x=0 then orN l else x
theorem ZoJ:∀(t:List Int)(i:Nat),(∀j,j<i→t.getD j 0=0)→i<t.length→t.getD i 0≠0→orN t=t.getD i 0
 | [],i,_,h,_=>absurd h (Nat.not_lt_zero i)
 | x :: l,0,_,_,hn=>by
  have hx:¬x=0:=hn
  show (if x=0 then orN l else x)=x
  rw [if_neg hx]
 | x :: l,i+1,h0,hl,hn=>by
  have hx:x=0:=h0 0 (Nat.succ_pos i)
  have e:=ZoJ l i (fun j hj=>h0 (j+1) (by omega)) (by simpa using hl) hn
  show (if x=0 then orN l else x)=l.getD i 0
  rw [if_pos hx,e]
theorem Zj9:∀(t:List Int),(∀j,j<t.length→t.getD j 0=0)→orN t=0
 | [],_=>rfl
 | x :: l,h=>by
  have hx:x=0:=h 0 (by simp)
  show (if x=0 then orN l else x)=0
  rw [if_pos hx,Zj9 l (fun j hj=>h (j+1) (by simpa using hj))]
theorem Zoc (p q r s:Bool):orN [chk p,chk q,chk r,chk s]=chk (p && q && r && s):=by
 cases p <;> cases q <;> cases r <;> cases s <;> rfl
theorem ZoK (w:World)(b off len:Nat)(t:List Int)(hl:t.length=len)(h4:len≤1000)(hc:∀i,i<len→w.cell? ⟨b,off+i,none⟩=some (.int .i64 (t.getD i 0))) :
    Calls prog 29 #[.slice (some ⟨b,off,none⟩) len len] w fun e w'=>e=.returned (.int .i64 (orN t))∧w'=w:=by
  have HC:=Zh hc;have HL:=Zh hl;clear hc hl;go_enter func29,ntmps29;go_wp2_with fail;go_loopw [8] (fun iv wr=>wr=w∧∃i:Nat,i≤len∧iv=.int .i64 (i:Nat)∧Hi (∀j,j<i→t.getD j 0=0)) (fun iv _=>len-(intOf iv).toNat)
  case atStart=>exact ⟨rfl,0,Nat.zero_le _,rfl,fun _ h=>absurd h (Nat.not_lt_zero _)⟩
  case round =>
   obtain⟨rfl,i,hi,rfl,hz⟩:=hrel;rcases Nat.lt_or_ge i len with aa | ab
   · (have i1:(i:Int)<(len:Int):=by omega);have c0:=HC.o i aa;obtain⟨x,hx⟩:∃x,x=t.getD i 0:=⟨_,rfl⟩;rw [← hx] at c0;have HX:=Zh hx;clear hx;by_cases h0:x=0
     · have HN:Hi (∀j,j<i+1→t.getD j 0=0):=fun j hj=>by
        by_cases e:j=i
        · rw [e,← HX.o,h0]
        · exact hz.o j (by omega)
       clear hz HX;subst h0;go_wp2;go_roundw;exact ⟨trivial,i+1,by omega,by go_num,HN⟩;simp only [intOf];omega
     · have HE:Hi (orN t=x):=by
        show _=_;rw [HX.o];exact ZoJ t i hz.o (by rw [HL.o];exact aa) (by rw [← HX.o];exact h0)
       clear hz HX;go_wp2;go_ret;exact⟨by rw [HE.o];rfl,rfl⟩
   · (have i1:¬(i:Int)<(len:Int):=by omega);have HE:Hi (orN t=0):=Zj9 t (fun j hj=>hz.o j (by rw [HL.o] at hj;omega));clear hz;go_wp2;go_ret;exact⟨by rw [HE.o];rfl,rfl⟩
theorem ZrN (w:World)(a b:Int):(Instr.buildSlice 112 2 #[(0,.int .i64 a),(1,.int .i64 b)]).run prog w=.ok (.slice (some ⟨w.heap.size,0,none⟩) 2 2) (w.alloc (.cells #[.int .i64 a,.int .i64 b] 40)):=by
 simp [go_sem,Instr.buildSlice]
theorem ZrO (w:World)(a b c d:Int):(Instr.buildSlice 112 4 #[(0,.int .i64 a),(1,.int .i64 b),(2,.int .i64 c),(3,.int .i64 d)]).run prog w=.ok (.slice (some ⟨w.heap.size,0,none⟩) 4 4) (w.alloc (.cells #[.int .i64 a,.int .i64 b,.int .i64 c,.int .i64 d] 40)):=by
 simp [go_sem,Instr.buildSlice]
theorem Zp3 (w:World)(a b:Int):Calls prog 29 #[.slice (some ⟨w.heap.size,0,none⟩) 2 2] (w.alloc (.cells #[.int .i64 a,.int .i64 b] 40)) fun e w'=>e=.returned (.int .i64 (orN [a,b]))∧Bl w w':=
 (ZoK _ w.heap.size 0 2 [a,b] rfl (by decide) (fun i hi=>by
  have hk:=heap_alloc_new w (.cells #[.int .i64 a,.int .i64 b] 40)
  match i,hi with
  | 0,_=>exact (show World.cell? _ ⟨w.heap.size,0,none⟩=some (.int .i64 a) from by rw [cell_of_row _ _ _ _ _ _ hk];rfl)
  | 1,_=>exact (show World.cell? _ ⟨w.heap.size,1,none⟩=some (.int .i64 b) from by rw [cell_of_row _ _ _ _ _ _ hk];rfl))).mono fun e w' h=>⟨h.1,by rw [h.2];exact Zab w _⟩
theorem Zp4 (w:World)(a b c d:Int):Calls prog 29 #[.slice (some ⟨w.heap.size,0,none⟩) 4 4] (w.alloc (.cells #[.int .i64 a,.int .i64 b,.int .i64 c,.int .i64 d] 40)) fun e w'=>e=.returned (.int .i64 (orN [a,b,c,d]))∧Bl w w':=
 (ZoK _ w.heap.size 0 4 [a,b,c,d] rfl (by decide) (fun i hi=>by
  have hk:=heap_alloc_new w (.cells #[.int .i64 a,.int .i64 b,.int .i64 c,.int .i64 d] 40)
  match i,hi with
  | 0,_=>exact (show World.cell? _ ⟨w.heap.size,0,none⟩=some (.int .i64 a) from by rw [cell_of_row _ _ _ _ _ _ hk];rfl)
  | 1,_=>exact (show World.cell? _ ⟨w.heap.size,1,none⟩=some (.int .i64 b) from by rw [cell_of_row _ _ _ _ _ _ hk];rfl)
  | 2,_=>exact (show World.cell? _ ⟨w.heap.size,2,none⟩=some (.int .i64 c) from by rw [cell_of_row _ _ _ _ _ _ hk];rfl)
  | 3,_=>exact (show World.cell? _ ⟨w.heap.size,3,none⟩=some (.int .i64 d) from by rw [cell_of_row _ _ _ _ _ _ hk];rfl))).mono fun e w' h=>⟨h.1,by rw [h.2];exact Zab w _⟩
theorem Zmp (n:Nat)(la:Option Addr)(lc:Nat)(y:Ux)(b:Nat)(w:World)(hb:w.cell? ⟨b,5,none⟩=some (.slice la n lc)) :
    Calls prog 80 #[y.val,.pointer (some ⟨b,0,none⟩)] w fun e w'=>e=.returned (.bool (decide ((n:Int)≤y.u.page)))∧Bl w w':=by
  unfold Ux.val Un.val;have hA:=Zab w (.cells #[.int .i64 y.u.tx,.int .i64 y.u.no,.int .i64 y.u.prev,.int .i64 y.u.kind,.int .i64 y.u.page,.int .i64 y.u.slot,.float .f64 y.u.row.key,.bool y.u.row.dead,.slice y.a y.n y.c,.int .i64 y.u.row.wr,.int .i64 y.u.row.cell,.int .i64 y.u.row.no] 65);have hc:=(hA.cell (p:=⟨b,5,none⟩) (World.block_lt_of_cell? w _ hb)).trans hb;have HA:=Zh hA;clear hA hb;go_enter func80,ntmps80;go_wp2;go_ret;exact⟨rfl,HA.o⟩
theorem ZrG (w:World)(va:Option Addr)(vl vc:Nat)(l:List Ux)(h:Us w va vl l)(aj:vl≤1000000)(b n:Nat)(la:Option Addr)(lc:Nat)(hb:w.cell? ⟨b,5,none⟩=some (.slice la n lc)) :
    Calls prog 118 #[.slice va vl vc,.func (.func 80) #[] #[.pointer (some ⟨b,0,none⟩)]] w fun e w'=>e=.returned (.int .i64 (ixU ((uns l).findIdx? (fun y:Un=>decide ((n:Int)≤y.page)))))∧Bl w w':=by
  have HE:=Zh h;have hl:l.length=vl:=h.len;have HC:=Zh hb;have H0:=Zh (Below.refl w.heap.size w);clear h hb;have HL:=Zh hl;clear hl;go_enter func118,ntmps118;go_wp2_with fail;go_loopw [8] (fun iv wr=>∃i:Nat,i≤vl∧iv=.int .i64 (i:Nat)∧Hi (∀j,j<i→(fun y:Un=>decide ((n:Int)≤y.page)) (l.getD j Ux.zero).u=false)∧Hi (Bl w wr)) (fun iv _=>vl-(intOf iv).toNat)
  case atStart=>exact ⟨0,Nat.zero_le _,rfl,fun j hj=>absurd hj (Nat.not_lt_zero _),H0⟩
  case round =>
   obtain⟨i,hi,rfl,aa,ac⟩:=hrel;rcases Nat.lt_or_ge i vl with ah | ak
   · (have i1:(i:Int)<(vl:Int):=by omega);have hr:=HE.o.keep ac.o (Nat.le_refl _);obtain⟨b1,off,rfl,ag⟩:=hr.at' i ah;have ad:=hr.cols _ (hr.mem ah);obtain⟨y,hy⟩:∃y,y=l.getD i Ux.zero:=⟨_,rfl⟩;rw [← hy] at ag ad;have ai:=Zh (ZaE b1 (off+i*12) y wr ag);have HY:=Zh hy;have ae:Hi (Calls prog 80 #[y.val,.pointer (some ⟨b,0,none⟩)] wr fun e w'=>e=.returned (.bool ((fun y:Un=>decide ((n:Int)≤y.page)) y.u))∧Bl wr w'):=Zmp n la lc y b wr ((ac.o.cell (World.block_lt_of_cell? w _ HC.o)).trans HC.o);clear ag hy ad hr;cases hon:((fun y:Un=>decide ((n:Int)≤y.page)) y.u:Bool) with
     | true =>
      rw [hon] at ae;have HF:Hi ((uns l).findIdx? (fun y:Un=>decide ((n:Int)≤y.page))=some i):=ZlJ (by rw [Zba,HL.o];exact ah) (by rw [ZaQ,← HY.o];exact hon) (fun j hj=>by rw [ZaQ];exact aa.o j hj);clear aa HY hon;go_wp2_with (refine Zah _ rfl 65 (.tmp 14) rfl (.pointer (some ⟨b1,off+i*12,none⟩)) y.val rfl ai.o ?_);refine ae.o.mono ?_;rintro e w1 ⟨rfl,ab⟩;have af:=Zh (Zad ac.o ab);clear ab;go_wp2;go_ret;exact⟨by rw [HF.o];rfl,af.o⟩
     | false =>
      rw [hon] at ae;have HN:Hi (∀j,j<i+1→(fun y:Un=>decide ((n:Int)≤y.page)) (l.getD j Ux.zero).u=false):=by
       intro j hj;by_cases e:j=i
       · rw [e,← HY.o];exact hon
       · exact aa.o j (by omega)
      clear aa HY hon;go_wp2_with (refine Zah _ rfl 65 (.tmp 14) rfl (.pointer (some ⟨b1,off+i*12,none⟩)) y.val rfl ai.o ?_);refine ae.o.mono ?_;rintro e w1 ⟨rfl,ab⟩;have af:=Zh (Zad ac.o ab);clear ab;go_wp2;go_roundw;exact ⟨i+1,by omega,by go_num,HN,af⟩;simp only [intOf];omega
   · (have i1:¬(i:Int)<(vl:Int):=by omega);have HF:Hi ((uns l).findIdx? (fun y:Un=>decide ((n:Int)≤y.page))=none):=Ziu (fun j hj=>by rw [ZaQ];exact aa.o j (by rw [Zba,HL.o] at hj;omega));clear aa;go_wp2;go_ret;exact⟨by rw [HF.o];rfl,ac.o⟩
theorem Zqf (w:World)(va:Option Addr)(vl vc:Nat)(l:List Ux)(h:Us w va vl l)(ac:vl≤1000000)(b n:Nat)(la:Option Addr)(lc:Nat)(hb:w.cell? ⟨b,5,none⟩=some (.slice la n lc)) :
    Calls prog 79 #[.slice va vl vc,.func (.func 80) #[] #[.pointer (some ⟨b,0,none⟩)]] w fun e w'=>e=.returned (.bool ((uns l).findIdx? (fun y:Un=>decide ((n:Int)≤y.page))).isSome)∧Bl w w':=by
  have HX:=Zh (ZrG w va vl vc l h ac b n la lc hb);have hg:=Zpl (fun y:Un=>decide ((n:Int)≤y.page)) (uns l);obtain⟨z,hz⟩:∃z,z=ixU ((uns l).findIdx? (fun y:Un=>decide ((n:Int)≤y.page))):=⟨_,rfl⟩;rw [← hz] at hg HX;rw [← hg];clear h hb hg hz;by_cases hp:0≤z
  · have HR:Hi (decide (0≤z)=true):=decide_eq_true hp;go_enter func79,ntmps79;go_wp2_with fail;refine HX.o.mono ?_;rintro e w1 ⟨rfl,aa⟩;have ab:=Zh aa;clear aa;go_wp2;go_ret;exact⟨by rw [HR.o];rfl,ab.o⟩
  · have HR:Hi (decide (0≤z)=false):=decide_eq_false hp;go_enter func79,ntmps79;go_wp2_with fail;refine HX.o.mono ?_;rintro e w1 ⟨rfl,aa⟩;have ab:=Zh aa;clear aa;go_wp2;go_ret;exact⟨by rw [HR.o];rfl,ab.o⟩
theorem ZkN (w:World)(z:Bz)(h:Bin w z) :
    Calls prog 36 #[z.val] w fun e w'=>e=.returned (.int .i64 (chk (!((uns z.ux).findIdx? (fun y:Un=>decide ((z.ls.len:Int)≤y.page))).isSome)))∧Bl w w':=by
  have hA:=Zab w (.cells #[.int .i64 z.t.nx,.int .i64 z.t.no,.int .i64 z.t.cm,.slice z.es.a z.es.len z.es.cap,.slice z.cs.a z.cs.len z.cs.cap,.slice z.ls.a z.ls.len z.ls.cap] 28);have hb:=ZaD w z;have HX:=Zh (Zqf _ z.cs.a z.cs.len z.cs.cap z.ux (h.keep hA).cs (by have:=h.cb;omega) w.heap.size z.ls.len z.ls.a z.ls.cap hb.c5);have HA:=Zh hA;have c4:=hb.c4;clear h hA hb;generalize ((uns z.ux).findIdx? (fun y:Un=>decide ((z.ls.len:Int)≤y.page))).isSome=m at *;unfold Bz.val;go_enter func36,ntmps36;go_wp2_with fail;refine HX.o.mono ?_;rintro e w1 ⟨rfl,ab⟩;have aa:=Zh (Zad HA.o ab);clear ab HX;cases m with
  | true =>
   go_wp2;go_ret;exact⟨rfl,aa.o⟩
  | false =>
   go_wp2;go_ret;exact⟨rfl,aa.o⟩
theorem Zmn (u:List Un)(n:Nat):(u.findIdx? (fun y:Un=>decide ((n:Int)≤y.page))).isSome=false↔∀i,i<u.length→(u.getD i zeroU).page<(n:Int):=by
 rw [List.findIdx?_isSome,List.any_eq_false];constructor
 · intro h i hi;have h1:=h (u.getD i zeroU) (by rw [List.getD_eq_getElem?_getD,List.getElem?_eq_getElem hi];exact List.getElem_mem hi);simp only [decide_eq_true_eq] at h1;omega
 · intro h y hy;obtain⟨i,hi,rfl⟩:=List.getElem_of_mem hy;have h1:=h i hi;rw [List.getD_eq_getElem?_getD,List.getElem?_eq_getElem hi] at h1;simp only [Option.getD_some,decide_eq_true_eq] at h1 ⊢;omega
theorem Zds (n:Int)(b:Bool)(w:World)(hb:b=decide (1≤n∧n≤2147483647)):Calls prog 71 #[.int .i64 n] w fun e w'=>e=.returned (.bool b)∧w'=w:=by
 by_cases h1:1≤n
 · by_cases h2:n≤2147483647
   · have h:b=true:=hb.trans (decide_eq_true ⟨h1,h2⟩);clear hb;subst h;go_enter func71,ntmps71;go_wp2;go_ret;exact⟨rfl,rfl⟩
   · have h:b=false:=hb.trans (decide_eq_false (fun k=>h2 k.2));clear hb;subst h;go_enter func71,ntmps71;go_wp2;go_ret;exact⟨rfl,rfl⟩
 · have h:b=false:=hb.trans (decide_eq_false (fun k=>h1 k.1));clear hb;subst h;go_enter func71,ntmps71;go_wp2;go_ret;exact⟨rfl,rfl⟩
def Stand (t:Tbl) (x:En):Prop:=(x.st=0∧x=En.zero)∨((x.st=1∨x.st=2)∧(1≤x.tx∧x.tx<t.nx)∧(0≤x.last∧x.last≤65535)∧(x.st=1→x.com=0)∧(x.st=2→1≤x.com∧x.com≤t.cm))
instance (t:Tbl) (x:En):Decidable (Stand t x):=by unfold Stand;infer_instance
def clashB (x y:En):Bool:=(x.tx != 0 && x.tx == y.tx) || (x.com != 0 && x.com == y.com)
theorem Zl0 (t:Tbl)(i:Nat):EntOk t i↔Stand t (t.en i)∧∀k,k<i→clashB (t.en i) (t.en k)=false:=by
 constructor
 · intro h;have hs:=h.st;constructor
   · by_cases h0:(t.en i).st=0
     · exact .inl ⟨h0,h.free h0⟩
     · exact .inr ⟨by omega,h.tx h0,h.last h0,h.act,h.done⟩
   · intro k hk;by_cases h0:(t.en i).st=0
     · rw [h.free h0];rfl
     · have h1:=h.one h0 k hk;have h2:=h.tx h0;have h3:(t.en i).com=0∨0<(t.en i).com:=by
        by_cases h1:(t.en i).st=1
        · exact .inl (h.act h1)
        · have:=h.done (by omega);exact .inr (by omega)
       unfold clashB;rw [show ((t.en i).tx == (t.en k).tx)=false from beq_eq_false_iff_ne.2 (fun e=>h1.1 e.symm),Bool.and_false,Bool.false_or];rcases h3 with h3 | h3
       · rw [h3];rfl
       · rw [show ((t.en i).com == (t.en k).com)=false from beq_eq_false_iff_ne.2 (fun e=>h1.2 h3 e.symm),Bool.and_false]
 · rintro ⟨h,hc⟩;rcases h with ⟨h0,he⟩ | ⟨hs,ad,ac,aa,ab⟩
   · have z0:En.zero.st=0:=rfl;constructor <;> rw [he]
     · decide
     · exact fun _=>rfl
     · exact fun h=>absurd z0 h
     · exact fun h=>absurd z0 h
     · exact fun _=>rfl
     · exact fun h=>by cases h
     · exact fun h=>absurd z0 h
   · refine⟨by omega,fun h=>by omega,fun _=>ad,fun _=>ac,aa,ab,fun _ k hk=>?_⟩;have h1:=hc k hk;unfold clashB at h1;simp only [Bool.or_eq_false_iff,Bool.and_eq_false_iff,bne_eq_false_iff_eq,beq_eq_false_iff_ne] at h1;refine⟨fun e=>?_,fun h0 e=>?_⟩
     · rcases h1.1 with k1 | k1
       · omega
       · exact k1 e.symm
     · rcases h1.2 with k1 | k1
       · omega
       · exact k1 e.symm
theorem Znq (w:World)(t:Tbl)(v:Sl)(x:En):Bl w ((w.alloc (.cells #[.int .i64 t.nx,.int .i64 t.no,.int .i64 t.cm,.slice v.a v.len v.cap] 24)).alloc (.cells #[.int .i64 x.tx,.int .i64 x.st,.int .i64 x.last,.int .i64 x.com] 127)):=Zad (Zab _ _) (Zab _ _)
theorem Znp (w:World)(x y:En):Bl w ((w.alloc (.cells #[.int .i64 x.tx,.int .i64 x.st,.int .i64 x.last,.int .i64 x.com] 127)).alloc (.cells #[.int .i64 y.tx,.int .i64 y.st,.int .i64 y.last,.int .i64 y.com] 127)):=Zad (Zab _ _) (Zab _ _)
theorem Zox (t:Tbl)(v:Sl)(xt xs xl xc:Int)(b:Bool)(w:World)(hb:b=decide (Stand t ⟨xt,xs,xl,xc⟩)) :
    Calls prog 72 #[.agg #[.int .i64 t.nx,.int .i64 t.no,.int .i64 t.cm,.slice v.a v.len v.cap],.agg #[.int .i64 xt,.int .i64 xs,.int .i64 xl,.int .i64 xc]] w fun e w'=>e=.returned (.bool b)∧Bl w w':=by
  have HW:=Znq w t v ⟨xt,xs,xl,xc⟩;simp only at HW;replace HW:=Zh HW;by_cases h0:xs=0
  · by_cases h1:xt=0
    · by_cases h2:xl=0
      · by_cases h3:xc=0
        · have h:b=true:=hb.trans (decide_eq_true (.inl ⟨h0,by rw [h0,h1,h2,h3];rfl⟩));clear hb;subst h;subst h0;subst h1;subst h2;subst h3;go_enter func72,ntmps72;go_wp2;go_ret;exact⟨by first | rfl | simp [*],HW.o⟩
        · have h:b=false:=hb.trans (decide_eq_false (fun k=>k.elim (fun k=>h3 (congrArg En.com k.2)) (fun k=>by have:=k.1;simp only at this;omega)));clear hb;subst h;subst h0;subst h1;subst h2;go_enter func72,ntmps72;go_wp2;go_ret;exact⟨by first | rfl | simp [*],HW.o⟩
      · have h:b=false:=hb.trans (decide_eq_false (fun k=>k.elim (fun k=>h2 (congrArg En.last k.2)) (fun k=>by have:=k.1;simp only at this;omega)));clear hb;subst h;subst h0;subst h1;go_enter func72,ntmps72;go_wp2;go_ret;exact⟨by first | rfl | simp [*],HW.o⟩
    · have h:b=false:=hb.trans (decide_eq_false (fun k=>k.elim (fun k=>h1 (congrArg En.tx k.2)) (fun k=>by have:=k.1;simp only at this;omega)));clear hb;subst h;subst h0;go_enter func72,ntmps72;go_wp2;go_ret;exact⟨by first | rfl | simp [*],HW.o⟩
  by_cases v0:xt<1
  · have h:b=false:=hb.trans (decide_eq_false (fun k=>k.elim (fun k=>h0 k.1) (fun k=>by have:=k.2.1;simp only at this;omega)));clear hb;subst h;go_enter func72,ntmps72;go_wp2;go_ret;exact⟨by first | rfl | simp [*],HW.o⟩
  by_cases v1:t.nx≤xt
  · have h:b=false:=hb.trans (decide_eq_false (fun k=>k.elim (fun k=>h0 k.1) (fun k=>by have:=k.2.1;simp only at this;omega)));clear hb;subst h;go_enter func72,ntmps72;go_wp2;go_ret;exact⟨by first | rfl | simp [*],HW.o⟩
  by_cases v2:xl<0
  · have h:b=false:=hb.trans (decide_eq_false (fun k=>k.elim (fun k=>h0 k.1) (fun k=>by have:=k.2.2.1;simp only at this;omega)));clear hb;subst h;go_enter func72,ntmps72;go_wp2;go_ret;exact⟨by first | rfl | simp [*],HW.o⟩
  by_cases v3:65535<xl
  · have h:b=false:=hb.trans (decide_eq_false (fun k=>k.elim (fun k=>h0 k.1) (fun k=>by have:=k.2.2.1;simp only at this;omega)));clear hb;subst h;go_enter func72,ntmps72;go_wp2;go_ret;exact⟨by first | rfl | simp [*],HW.o⟩
  by_cases s1:xs=1
  · by_cases c0:xc=0
    · have h:b=true:=hb.trans (decide_eq_true (.inr ⟨.inl s1,by simp only;omega,by simp only;omega,fun _=>c0,fun k=>by simp only at k;omega⟩));clear hb;subst h;subst s1;subst c0;go_enter func72,ntmps72;go_wp2;go_ret;exact⟨by first | rfl | simp [*],HW.o⟩
    · have h:b=false:=hb.trans (decide_eq_false (fun k=>k.elim (fun k=>h0 k.1) (fun k=>c0 (k.2.2.2.1 s1))));clear hb;subst h;subst s1;go_enter func72,ntmps72;go_wp2;go_ret;exact⟨by first | rfl | simp [*],HW.o⟩
  by_cases s2:xs=2
  · by_cases c0:1≤xc
    · by_cases c1:xc≤t.cm
      · have h:b=true:=hb.trans (decide_eq_true (.inr ⟨.inr s2,by simp only;omega,by simp only;omega,fun k=>by simp only at k;omega,fun _=>⟨c0,c1⟩⟩));clear hb;subst h;subst s2;go_enter func72,ntmps72;go_wp2;go_ret;exact⟨by first | rfl | simp [*],HW.o⟩
      · have h:b=false:=hb.trans (decide_eq_false (fun k=>k.elim (fun k=>h0 k.1) (fun k=>c1 (k.2.2.2.2 s2).2)));clear hb;subst h;subst s2;go_enter func72,ntmps72;go_wp2;go_ret;exact⟨by first | rfl | simp [*],HW.o⟩
    · have h:b=false:=hb.trans (decide_eq_false (fun k=>k.elim (fun k=>h0 k.1) (fun k=>c0 (k.2.2.2.2 s2).1)));clear hb;subst h;subst s2;go_enter func72,ntmps72;go_wp2;go_ret;exact⟨by first | rfl | simp [*],HW.o⟩
  have h:b=false:=hb.trans (decide_eq_false (fun k=>k.elim (fun k=>h0 k.1) (fun k=>by have:=k.1;simp only at this;omega)));clear hb;subst h;go_enter func72,ntmps72;go_wp2;go_ret;exact⟨by first | rfl | simp [*],HW.o⟩
theorem Zgg (t:Tbl)(v:Sl)(x:En)(w:World) :
    Calls prog 72 #[t.val v,x.val] w fun e w'=>e=.returned (.bool (decide (Stand t x)))∧Bl w w':=Zox t v x.tx x.st x.last x.com _ w rfl
theorem Znv (xt xs xl xc yt ys yl yc:Int)(b:Bool)(w:World)(hb:b=((xt != 0 && xt == yt) || (xc != 0 && xc == yc))) :
    Calls prog 75 #[.agg #[.int .i64 xt,.int .i64 xs,.int .i64 xl,.int .i64 xc],.agg #[.int .i64 yt,.int .i64 ys,.int .i64 yl,.int .i64 yc]] w fun e w'=>e=.returned (.bool b)∧Bl w w':=by
  have HW:=Znp w ⟨xt,xs,xl,xc⟩ ⟨yt,ys,yl,yc⟩;simp only at HW;replace HW:=Zh HW;by_cases a0:xt=0
  · by_cases b0:xc=0
    · have h:b=false:=hb.trans (by simp [a0,b0]);clear hb;subst h;subst a0;subst b0;go_enter func75,ntmps75;go_wp2;go_ret;exact⟨by first | rfl | simp [*],HW.o⟩
    by_cases b1:xc=yc
    · have h:b=true:=hb.trans (by subst b1;simp [b0]);clear hb;subst h;subst a0;subst b1;go_enter func75,ntmps75;go_wp2;go_ret;exact⟨by first | rfl | simp [*],HW.o⟩
    have h:b=false:=hb.trans (by simp [a0,b1]);clear hb;subst h;subst a0;go_enter func75,ntmps75;go_wp2;go_ret;exact⟨by first | rfl | simp [*],HW.o⟩
  by_cases a1:xt=yt
  · have h:b=true:=hb.trans (by subst a1;simp [a0]);clear hb;subst h;subst a1;go_enter func75,ntmps75;go_wp2;go_ret;exact⟨by first | rfl | simp [*],HW.o⟩
  by_cases b0:xc=0
  · have h:b=false:=hb.trans (by simp [a1,b0]);clear hb;subst h;subst b0;go_enter func75,ntmps75;go_wp2;go_ret;exact⟨by first | rfl | simp [*],HW.o⟩
  by_cases b1:xc=yc
  · have h:b=true:=hb.trans (by subst b1;simp [b0]);clear hb;subst h;subst b1;go_enter func75,ntmps75;go_wp2;go_ret;exact⟨by first | rfl | simp [*],HW.o⟩
  have h:b=false:=hb.trans (by simp [a1,b1]);clear hb;subst h;go_enter func75,ntmps75;go_wp2;go_ret;exact⟨by first | rfl | simp [*],HW.o⟩
theorem Zka (x y:En)(w:World) :
    Calls prog 75 #[x.val,y.val] w fun e w'=>e=.returned (.bool (clashB x y))∧Bl w w':=Znv x.tx x.st x.last x.com y.tx y.st y.last y.com _ w rfl
theorem ZjX (x y:En)(b:Nat)(w:World)(hb:EnAt w b 0 x) :
    Calls prog 74 #[.agg #[.int .i64 y.tx,.int .i64 y.st,.int .i64 y.last,.int .i64 y.com],.pointer (some ⟨b,0,none⟩)] w fun e w'=>e=.returned (.bool (clashB x y))∧Bl w w':=by
  have hA:=Zab w (.cells #[.int .i64 y.tx,.int .i64 y.st,.int .i64 y.last,.int .i64 y.com] 127);have HC:=Zh (Zka x y (w.alloc (.cells #[.int .i64 y.tx,.int .i64 y.st,.int .i64 y.last,.int .i64 y.com] 127)));have ac:=Zh (ZeU b 0 x _ (hb.keep hA (Nat.le_refl _)));have ad:=Zh (ZeU w.heap.size 0 y _ (ZcM.new w y).at);have HA:=Zh hA;clear hA hb;go_enter func74,ntmps74;go_wp2_with (first | refine Zah _ rfl 127 (.tmp 1) rfl (.pointer (some ⟨b,0,none⟩)) x.val rfl ac.o ?_ | refine Zah _ rfl 127 (.tmp 2) rfl (.pointer (some ⟨w.heap.size,0,none⟩)) y.val rfl ad.o ?_);refine HC.o.mono ?_;rintro e w1 ⟨rfl,aa⟩;have ab:=Zh (Zad HA.o aa);clear aa;go_wp2;go_ret;exact⟨rfl,ab.o⟩
theorem ZnI (w:World)(v:Sl)(l:List En)(h:Es w v l)(b:Nat)(x:En)(hb:EnAt w b 0 x) :
    Calls prog 114 #[.slice v.a v.len v.cap,.func (.func 74) #[] #[.pointer (some ⟨b,0,none⟩)]] w fun e w'=>e=.returned (.int .i64 (ixN (l.findIdx? (fun y=>clashB x y))))∧Bl w w':=by
  have HE:=Zh h;have hl:l.length=v.len:=h.len;have ag:=h.big;have HC:=Zh hb;have H0:=Zh (Below.refl w.heap.size w);clear h hb;obtain⟨va,vl,vc⟩:=v;simp only at hl ag;have HL:=Zh hl;clear hl;simp only;go_enter func114,ntmps114;go_wp2_with fail;go_loopw [8] (fun iv wr=>∃i:Nat,i≤vl∧iv=.int .i64 (i:Nat)∧Hi (∀j,j<i→(fun y=>clashB x y) (l.getD j En.zero)=false)∧Hi (Bl w wr)) (fun iv _=>vl-(intOf iv).toNat)
  case atStart=>exact ⟨0,Nat.zero_le _,rfl,fun j hj=>absurd hj (Nat.not_lt_zero _),H0⟩
  case round =>
   obtain⟨i,hi,rfl,ab,ad⟩:=hrel;rcases Nat.lt_or_ge i vl with ah | ai
   · (have i1:(i:Int)<(vl:Int):=by omega);obtain⟨b1,off,ha,aa⟩:=(HE.o.keep ad.o (Nat.le_refl _)).at' i ah;replace ha:va=some ⟨b1,off,none⟩:=ha;subst ha;obtain⟨y,hy⟩:∃y,y=l.getD i En.zero:=⟨_,rfl⟩;rw [← hy] at aa;have c0:=aa.c0;have c1:=aa.c1;have c2:=aa.c2;have c3:=aa.c3;have HY:=Zh hy;have ae:=Zh (ZjX x y b wr (HC.o.keep ad.o (Nat.le_refl _)));clear aa hy;cases hon:(clashB x y:Bool) with
     | true =>
      rw [hon] at ae;have HF:Hi (l.findIdx? (fun y=>clashB x y)=some i):=Zq2 (by rw [HL.o];exact ah) (by rw [← HY.o];exact hon) ab.o;clear ab HY hon;go_wp2_with fail;refine ae.o.mono ?_;rintro e w1 ⟨rfl,ac⟩;have af:=Zh (Zad ad.o ac);clear ac;go_wp2;go_ret;exact⟨by rw [HF.o];rfl,af.o⟩
     | false =>
      rw [hon] at ae;have HN:Hi (∀j,j<i+1→(fun y=>clashB x y) (l.getD j En.zero)=false):=by
       intro j hj;by_cases e:j=i
       · rw [e,← HY.o];exact hon
       · exact ab.o j (by omega)
      clear ab HY hon;go_wp2_with fail;refine ae.o.mono ?_;rintro e w1 ⟨rfl,ac⟩;have af:=Zh (Zad ad.o ac);clear ac;go_wp2;go_roundw;exact ⟨i+1,by omega,by go_num,HN,af⟩;simp only [intOf];omega
   · (have i1:¬(i:Int)<(vl:Int):=by omega);have HF:Hi (l.findIdx? (fun y=>clashB x y)=none):=Zq3 (fun j hj=>ab.o j (by rw [HL.o] at hj;omega));clear ab;go_wp2;go_ret;exact⟨by rw [HF.o];rfl,ad.o⟩
theorem Zpk (p:En→Bool)(l:List En):decide (0≤ixN (l.findIdx? p))=l.any p:=by
 cases h:l.findIdx? p with
 | none =>
  have:=List.findIdx?_eq_none_iff.1 h;rw [List.any_eq_false.2 (fun x hx=>by rw [this x hx];decide)];rfl
 | some i =>
  obtain⟨hi,h1,_⟩:=List.findIdx?_eq_some_iff_getElem.1 h;rw [List.any_eq_true.2 ⟨_,List.getElem_mem hi,h1⟩];exact decide_eq_true (Int.natCast_nonneg _)
theorem Zhc (w:World)(v:Sl)(l:List En)(h:Es w v l)(b:Nat)(x:En)(hb:EnAt w b 0 x) :
    Calls prog 73 #[.slice v.a v.len v.cap,.func (.func 74) #[] #[.pointer (some ⟨b,0,none⟩)]] w fun e w'=>e=.returned (.bool (l.any (clashB x)))∧Bl w w':=by
  have HX:=Zh (ZnI w v l h b x hb);have hg:=Zpk (clashB x) l;obtain⟨z,hz⟩:∃z,z=ixN (l.findIdx? (clashB x)):=⟨_,rfl⟩;rw [← hz] at hg;(replace HX:Hi (Calls prog 114 #[.slice v.a v.len v.cap,.func (.func 74) #[] #[.pointer (some ⟨b,0,none⟩)]] w fun e w'=>e=.returned (.int .i64 z)∧Bl w w'):=by rw [hz];exact HX);rw [← hg];clear h hb hg hz;by_cases hp:0≤z
  · have HR:Hi (decide (0≤z)=true):=decide_eq_true hp;go_enter func73,ntmps73;go_wp2_with fail;refine HX.o.mono ?_;rintro e w1 ⟨rfl,aa⟩;have ab:=Zh aa;clear aa;go_wp2;go_ret;exact⟨by rw [HR.o];rfl,ab.o⟩
  · have HR:Hi (decide (0≤z)=false):=decide_eq_false hp;go_enter func73,ntmps73;go_wp2_with fail;refine HX.o.mono ?_;rintro e w1 ⟨rfl,aa⟩;have ab:=Zh aa;clear aa;go_wp2;go_ret;exact⟨by rw [HR.o];rfl,ab.o⟩
section
variable {ops : Array Oper} {rest : List Oper} {o : Oper} {a : Act} {Q : Exit → Act → World → Prop}
theorem ZdB (w:World)(ab:o.guard=none)(t:TypeId)(x:Operand)(lo hi:Option Operand)(ho:o.op=.slice t x lo hi none)(v:Value)(aa:(Instr.sliceAt t (a.eval x) (lo.map a.eval) (hi.map a.eval) none).run prog w=.ok v w)(hK:wpList prog ops Q rest (a.put o.dst v) w):wpList prog ops Q (o :: rest) a w:=by
 refine ZcL w ab v w ?_ hK;have e:execOp a.eval o=(do pure (.value (← Instr.sliceAt t (a.eval x) (lo.map a.eval) (hi.map a.eval) none))):=by
  unfold execOp;rw [ho];rfl
 rw [e];simp [aa]
end
theorem szEn (w:World):(sizeOf 127).run prog w=.ok 4 w:=by
 obtain⟨i,hi,ab,aa,ac⟩:=info_parts ZoE;simp [sizeOf,typeInfo,hi,aa]
theorem Zqh:prog.elem 22=127:=by kernel_rfl
theorem ZiN (b o len cap k:Nat)(hk:k≤cap)(h0:0<cap)(w:World):(Instr.sliceAt 22 (.slice (some ⟨b,o,none⟩) len cap) none (some (.int .i64 (k:Int))) none).run prog w=.ok (.slice (some ⟨b,o,none⟩) k cap) w:=by
 (have aa:prog.underlying 22=some (.slice (prog.elem 22)):=by kernel_rfl);rw [run_sliceAt_slice w 22 _ _ _ _ aa,run_slice_h w 22 (some ⟨b,o,none⟩) len cap aa .i64 (k:Nat) (by omega) (by omega),Zqh,szEn];(have:¬cap=0:=by omega);simp [Result.andThen,sliced,this,Addr.add_lit]
theorem Es.upto {a:Option Addr}{n c:Nat}{l:List En}(h:Es w ⟨a,n,c⟩ l)(i:Nat)(hi:i≤n):Es w ⟨a,i,c⟩ (l.take i):=by
 have hl:l.length=n:=h.len;have h1:n≤c:=h.le;have h2:n≤9223372036854775807:=h.big;refine⟨by rw [List.length_take];show min i l.length=i;omega,h.nil,(by show i≤c;omega),(by show i≤_;omega),fun j hj=>?_⟩;have hj':j<i:=hj;obtain⟨b,off,ha,aa⟩:=h.at' j (by show j<n;omega);refine⟨b,off,ha,?_⟩;rw [show (l.take i).getD j En.zero=l.getD j En.zero by simp [List.getD,hj']];exact aa
theorem Znl {t:Tbl}{x:En}(hi:i≤t.es.length):(t.es.take i).any (clashB x)=false↔∀k,k<i→clashB x (t.en k)=false:=by
 rw [List.any_eq_false];constructor
 · intro h k hk;(have aa:k<t.es.length:=by omega);have hm:t.en k∈t.es.take i:=by
    unfold Tbl.en;rw [ZeI aa];exact List.mem_take_iff_getElem.2 ⟨k,by omega,rfl⟩
   have:=h _ hm;simpa using this
 · intro h y hy;obtain⟨k,hk,e⟩:=List.mem_take_iff_getElem.1 hy;(have aa:k<t.es.length:=by omega);have:=h k (by omega);unfold Tbl.en at this;rw [ZeI aa,e] at this;rw [this];decide
theorem Znu (t:Tbl)(v:Sl)(c:Int)(w:World)(h:Es w v t.es)(hc:c=if mayB t=true then 0 else 1) :
    Calls prog 33 #[t.val v] w fun e w'=>e=.returned (.int .i64 c)∧Bl w w':=by
  (have ac:¬t.May→c=1:=fun k=>by rw [hc,Zcc k];rfl);(have ab:t.May→c=0:=fun k=>by rw [hc,ZgD k];rfl);clear hc;have hb:=Zdk w t v;have HW:=Zh hb;have HT:=Zh (ZaB.new w t v);have HE:=Zh (h.keep hb (Nat.le_refl _));have hl:t.es.length=v.len:=h.len;have ay:=h.big;clear h hb;obtain⟨va,vl,vc⟩:=v;simp only at hl ay;have HL:=Zh hl;unfold Tbl.val;by_cases z0:1≤t.nx∧t.nx≤2147483647
  case neg =>
   have hc:=ac (fun k=>z0 k.nx);subst hc;have HN:=Zh (fun W=>Zds t.nx false W (decide_eq_false z0).symm);clear hl HT HE HL ac ab z0;go_enter func33,ntmps33;go_wp2_with fail;refine(HN.o _).mono ?_;rintro e w1 ⟨rfl,rfl⟩;go_wp2;go_ret;exact⟨rfl,HW.o⟩
  have HN:=Zh (fun W=>Zds t.nx true W (decide_eq_true z0).symm);by_cases z1:1≤t.no∧t.no≤2147483647
  case neg =>
   have hc:=ac (fun k=>z1 k.no);subst hc;have af:=Zh (fun W=>Zds t.no false W (decide_eq_false z1).symm);clear hl HT HE HL ac ab z0 z1;go_enter func33,ntmps33;go_wp2_with fail;refine(HN.o _).mono ?_;rintro e w1 ⟨rfl,rfl⟩;go_wp2_with fail;refine(af.o _).mono ?_;rintro e w1 ⟨rfl,rfl⟩;go_wp2;go_ret;exact⟨rfl,HW.o⟩
  have af:=Zh (fun W=>Zds t.no true W (decide_eq_true z1).symm);by_cases z4:t.cm<0
  · have hc:=ac (fun k=>by have:=k.cm;omega);subst hc;clear hl HT HE HL ac ab z0 z1;go_enter func33,ntmps33;go_wp2_with fail;refine(HN.o _).mono ?_;rintro e w1 ⟨rfl,rfl⟩;go_wp2_with fail;refine(af.o _).mono ?_;rintro e w1 ⟨rfl,rfl⟩;go_wp2;go_ret;exact⟨rfl,HW.o⟩
  by_cases z5:2147483647<t.cm
  · have hc:=ac (fun k=>by have:=k.cm;omega);subst hc;clear hl HT HE HL ac ab z0 z1;go_enter func33,ntmps33;go_wp2_with fail;refine(HN.o _).mono ?_;rintro e w1 ⟨rfl,rfl⟩;go_wp2_with fail;refine(af.o _).mono ?_;rintro e w1 ⟨rfl,rfl⟩;go_wp2;go_ret;exact⟨rfl,HW.o⟩
  by_cases z6:vl=12
  case neg =>
   have hc:=ac (fun k=>z6 (by rw [← hl];exact k.len));subst hc;(have q6:((vl:Int) != 12)=true:=by simp;omega);(have q7:¬(vl:Int)=12:=by omega);clear hl HT HE HL ac ab z0 z1 z6;go_enter func33,ntmps33;go_wp2_with fail;refine(HN.o _).mono ?_;rintro e w1 ⟨rfl,rfl⟩;go_wp2_with fail;refine(af.o _).mono ?_;rintro e w1 ⟨rfl,rfl⟩;go_wp2;go_ret;exact⟨rfl,HW.o⟩
  subst z6;have aq:Hi ((1≤t.nx∧t.nx≤2147483647)∧(1≤t.no∧t.no≤2147483647)∧(0≤t.cm∧t.cm≤2147483647)):=⟨z0,z1,by omega,by omega⟩;have bd:=Zh ac;have aw:=Zh ab;have bi:12≤vc:=HE.o.le;clear ac ab z0 z1;go_enter func33,ntmps33;go_wp2_with fail;refine(HN.o _).mono ?_;rintro e w1 ⟨rfl,rfl⟩;go_wp2_with fail;refine(af.o _).mono ?_;rintro e w1 ⟨rfl,rfl⟩;go_wp2_with fail;generalize w.alloc (.cells #[.int .i64 t.nx,.int .i64 t.no,.int .i64 t.cm,.slice va 12 vc] 24)=W at *;clear hl HN af;have H0:=Zh (Below.refl W.heap.size W);go_loopw [32] (fun iv wr=>∃i:Nat,i≤12∧iv=.int .i64 (i:Nat)∧Hi (∀j,j<i→EntOk t j)∧Hi (Bl W wr)) (fun iv _=>12-(intOf iv).toNat)
  case atStart=>exact ⟨0,Nat.zero_le _,rfl,fun j hj=>absurd hj (Nat.not_lt_zero _),H0⟩
  case round =>
   obtain⟨i,hi,rfl,ai,an⟩:=hrel;rename World=>wo;have bg:=HT.o.keep an.o;rcases Nat.lt_or_ge i 12 with ba | bl
   · (have i1:(i:Int)<12:=by omega);have ax:=HE.o.keep an.o (Nat.le_refl _);obtain⟨b,off,ha,bf⟩:=ax.at' i ba;replace ha:va=some ⟨b,off,none⟩:=ha;subst ha;obtain⟨x,hx⟩:∃x,x=t.en i:=⟨_,rfl⟩;(have ad:EnAt wo b (off+i*4) x:=by rw [hx];exact bf);have c0:=ad.c0;have c1:=ad.c1;have c2:=ad.c2;have c3:=ad.c3;have am:=Zab wo (.cells #[.int .i64 x.tx,.int .i64 x.st,.int .i64 x.last,.int .i64 x.com] 127);have ap:=Zh (Zad an.o am);have az:=bg.keep am;have av:=Zh (ZcM.new wo x);have bb:=Zh ((ax.keep am (Nat.le_refl _)).upto i (by omega));(have bj:Hi ((wo.alloc (.cells #[.int .i64 x.tx,.int .i64 x.st,.int .i64 x.last,.int .i64 x.com] 127)).heap.size=wo.heap.size+1):=by show _=_;simp);have ag:Hi (EntOk t i↔Stand t x∧(t.es.take i).any (clashB x)=false):=by
      show _↔_;rw [Zl0,hx,Znl (by rw [HL.o];omega)]
     have be:=Zh (fun W=>ZiN b off 12 vc i (by omega) (by omega) W);clear ax bf ad hx am bg;generalize bk:wo.alloc (.cells #[.int .i64 x.tx,.int .i64 x.st,.int .i64 x.last,.int .i64 x.com] 127)=W4 at *;have ar:=Zh (Zpr w.heap.size t _ W4 az);have au:=Zh (ZeU wo.heap.size 0 x W4 av.o.at);have bc:=Zh az;have bm:∀(fn:Fn) (first cap:Array Value) (w:World),(Instr.makeFunc fn first cap).run prog w=.ok (.func fn first cap) w:=fun _ _ _ _=>rfl;clear az;by_cases hs:Stand t x
     case neg =>
      have hc:=bd.o (fun m=>hs (ag.o.1 (m.ok i ba)).1);subst hc;have ah:=Zh (Zgg t ⟨some ⟨b,off,none⟩,12,vc⟩ x W4);rw [decide_eq_false hs] at ah;clear hs ai ag;go_wp2_with (first | refine Zah _ rfl 24 (.tmp 1) rfl (.pointer (some ⟨w.heap.size,0,none⟩)) (t.val ⟨some ⟨b,off,none⟩,12,vc⟩) rfl ar.o ?_ | refine Zah _ rfl 127 (.tmp 4) rfl (.pointer (some ⟨wo.heap.size,0,none⟩)) x.val rfl au.o ?_);refine ah.o.mono ?_;rintro e w5 ⟨rfl,aa⟩;have aj:=Zh (Zad ap.o aa);clear aa;go_wp2;go_ret;exact⟨rfl,Zad HW.o aj.o⟩
     have ah:=Zh (Zgg t ⟨some ⟨b,off,none⟩,12,vc⟩ x W4);rw [decide_eq_true hs] at ah;cases hcl:(t.es.take i).any (clashB x) with
     | true =>
      have hc:=bd.o (fun m=>by have:=(ag.o.1 (m.ok i ba)).2;rw [hcl] at this;cases this);subst hc;have ak:Hi (∀w5,Bl W4 w5→Calls prog 73 #[.slice (some ⟨b,off,none⟩) i vc,.func (.func 74) #[] #[.pointer (some ⟨wo.heap.size,0,none⟩)]] w5 fun e w'=>e=.returned (.bool true)∧Bl w5 w'):=fun w5 aa=>by
       have:=Zhc w5 ⟨some ⟨b,off,none⟩,i,vc⟩ (t.es.take i) (bb.o.keep aa (Nat.le_refl _)) wo.heap.size x (av.o.at.keep aa (Nat.le_refl _));rw [hcl] at this;exact this
      clear hs ai ag hcl;go_wp2_with (first | refine Zah _ rfl 24 (.tmp 1) rfl (.pointer (some ⟨w.heap.size,0,none⟩)) (t.val ⟨some ⟨b,off,none⟩,12,vc⟩) rfl ar.o ?_ | refine Zah _ rfl 127 (.tmp 4) rfl (.pointer (some ⟨wo.heap.size,0,none⟩)) x.val rfl au.o ?_);refine ah.o.mono ?_;rintro e w5 ⟨rfl,aa⟩;have aj:=Zh (Zad ap.o aa);have ae:=Zh (ak.o w5 aa);have d3:=(bc.o.keep aa).c3;clear aa ak;go_wp2_with (refine ZdB _ rfl 22 (.tmp 42) none (some (.tmp 43)) rfl (.slice (some ⟨b,off,none⟩) i vc) (be.o _) ?_);refine ae.o.mono ?_;rintro e w6 ⟨rfl,al⟩;have ao:=Zh (Zad aj.o al);clear al;go_wp2;go_ret;exact⟨rfl,Zad HW.o ao.o⟩
     | false =>
      have bh:Hi (∀j,j<i+1→EntOk t j):=by
       intro j hj;by_cases e:j=i
       · subst e;exact ag.o.2 ⟨hs,hcl⟩
       · exact ai.o j (by omega)
      have ak:Hi (∀w5,Bl W4 w5→Calls prog 73 #[.slice (some ⟨b,off,none⟩) i vc,.func (.func 74) #[] #[.pointer (some ⟨wo.heap.size,0,none⟩)]] w5 fun e w'=>e=.returned (.bool false)∧Bl w5 w'):=fun w5 aa=>by
       have:=Zhc w5 ⟨some ⟨b,off,none⟩,i,vc⟩ (t.es.take i) (bb.o.keep aa (Nat.le_refl _)) wo.heap.size x (av.o.at.keep aa (Nat.le_refl _));rw [hcl] at this;exact this
      clear hs ai ag hcl;go_wp2_with (first | refine Zah _ rfl 24 (.tmp 1) rfl (.pointer (some ⟨w.heap.size,0,none⟩)) (t.val ⟨some ⟨b,off,none⟩,12,vc⟩) rfl ar.o ?_ | refine Zah _ rfl 127 (.tmp 4) rfl (.pointer (some ⟨wo.heap.size,0,none⟩)) x.val rfl au.o ?_);refine ah.o.mono ?_;rintro e w5 ⟨rfl,aa⟩;have aj:=Zh (Zad ap.o aa);have ae:=Zh (ak.o w5 aa);have d3:=(bc.o.keep aa).c3;clear aa ak;go_wp2_with (refine ZdB _ rfl 22 (.tmp 42) none (some (.tmp 43)) rfl (.slice (some ⟨b,off,none⟩) i vc) (be.o _) ?_);refine ae.o.mono ?_;rintro e w6 ⟨rfl,al⟩;have ao:=Zh (Zad aj.o al);clear al;go_wp2;go_roundw;exact ⟨i+1,by omega,by go_num,bh,ao⟩;simp only [intOf];omega
   · (have i1:¬(i:Int)<12:=by omega);have hc:=aw.o ⟨aq.o.1,aq.o.2.1,aq.o.2.2,HL.o,fun j hj=>ai.o j (by omega)⟩;subst hc;clear ai;go_wp2;go_ret;exact⟨rfl,Zad HW.o an.o⟩
theorem ZnN (w:World)(x:Nat):Calls prog 169 #[.int .u8 (x:Int)] w fun e w'=>e=.returned (.bool (!(x == 0)))∧w'=w:=by
 by_cases h:x=0
 · subst h;go_enter func169,ntmps169;go_wp2;go_ret;exact⟨rfl,rfl⟩
 · (have i1:¬(x:Int)=0:=by omega);(have i2:(x == 0)=false:=by simp [h]);rw [i2];go_enter func169,ntmps169;go_wp2;go_ret;exact⟨by simp [h],rfl⟩
theorem ZlH (w:World)(a:Option Addr)(len cap:Nat)(xs:List Nat)(h:Bs w a len xs)(ad:len≤1000000) :
    Calls prog 184 #[.slice a len cap,.func (.func 169) #[] #[]] w fun e w'=>(∃z,e=.returned (.int .i64 z)∧decide (0≤z) = !(nul xs))∧w'=w:=by
  have HG:=Zh h;have HL:=Zh h.1;clear h;go_enter func184,ntmps184;go_wp2_with fail;go_loopw [8] (fun iv wr=>wr=w∧∃i:Nat,i≤len∧iv=.int .i64 (i:Nat)∧Hi (∀j,j<i→xs.getD j 0=0)) (fun iv _=>len-(intOf iv).toNat)
  case atStart=>exact ⟨rfl,0,Nat.zero_le _,rfl,fun _ h=>absurd h (Nat.not_lt_zero _)⟩
  case round =>
   obtain⟨rfl,i,hi,rfl,aa⟩:=hrel;rcases Nat.lt_or_ge i len with ac | ae
   · (have i1:(i:Int)<(len:Int):=by omega);obtain⟨bb,oo,ha,c0⟩:=HG.o.2.2 i ac;subst ha;obtain⟨x,hx⟩:∃x,x=xs.getD i 0:=⟨_,rfl⟩;rw [← hx] at c0;have HX:=Zh hx;have ab:=Zh (ZnN wr x);clear hx;by_cases h0:x=0
     · rw [h0] at ab c0;have HE:Hi (∀j,j<i+1→xs.getD j 0=0):=by
        intro j hj;by_cases e:j=i
        · rw [e,← HX.o];exact h0
        · exact aa.o j (by omega)
       clear aa HX h0;go_wp2_with fail;refine ab.o.mono ?_;rintro e w1 ⟨rfl,hw⟩;obtain rfl:=hw.symm;go_wp2;go_roundw;exact ⟨trivial,i+1,by omega,by go_num,HE⟩;simp only [intOf];omega
     · (have hb:(!(x == 0))=true:=by simp [h0]);rw [hb] at ab;have HE:Hi (decide (0≤(i:Int)) = !(nul xs)):=by
        show _=_;rw [ZqV (i:=i) (by rw [HL.o];exact ac) (by rw [← HX.o];exact h0)];simp
       clear aa HX h0 hb;go_wp2_with fail;refine ab.o.mono ?_;rintro e w1 ⟨rfl,hw⟩;obtain rfl:=hw.symm;go_wp2;go_ret;exact⟨⟨_,rfl,HE.o⟩,rfl⟩
   · (have i1:¬(i:Int)<(len:Int):=by omega);have HE:Hi (decide (0≤(-1:Int)) = !(nul xs)):=by
      show _=_;rw [Zpz (fun j hj=>aa.o j (by rw [HL.o] at hj;omega))];rfl
     clear aa;go_wp2;go_ret;exact⟨⟨_,rfl,HE.o⟩,rfl⟩
theorem Zkb (w:World)(a:Option Addr)(len cap:Nat)(xs:List Nat)(h:Bs w a len xs)(aa:len≤1000000) :
    Calls prog 168 #[.slice a len cap,.func (.func 169) #[] #[]] w fun e w'=>e=.returned (.bool (!(nul xs)))∧w'=w:=by
  have HX:=Zh (ZlH w a len cap xs h aa);clear h;generalize nul xs=n at *;go_enter func168,ntmps168;go_wp2_with fail;refine HX.o.mono ?_;rintro e w1 ⟨⟨z,rfl,hz⟩,hw⟩;obtain rfl:=hw.symm;have HZ:=Zh hz;clear HX hz;go_wp2;go_ret;exact⟨by rw [← HZ.o];rfl,rfl⟩
def ZpZ (f:Lf) (e:Ending):Prop:=(MayL f∧e=.returned (.bool false))∨(¬MayL f∧e=.returned (.bool true))
theorem ZkA {D:Nat→Prop}(w:World)(u v:Sl)(t:List Int)(l:List Sb)(hi:Gi D w u t)(hg:Gb D w v l) :
    Calls prog 104 #[lfV u v] w fun e w'=>ZpZ ⟨t,bss l⟩ e∧Bl w w':=by
  have hA:=Zab w (.cells #[u.val,v.val] 101);have hk:=Zao w u.val v.val;have c0:=hk.c0;have c1:=hk.c1;have HC:=Zh (ZjZ _ u v t l (hi.below hA (Nat.le_refl _)) (hg.below hA (Nat.le_refl _)));have HA:=Zh hA;clear hi hg hA hk;obtain⟨a,len,cap⟩:=v;obtain⟨ua,ul,uc⟩:=u;unfold lfV Sl.val at *;simp only at *;go_enter func104,ntmps104;go_wp2_with fail;refine HC.o.mono ?_;rintro e w1 ⟨aa,hb⟩;have HB:=Zh (Zad HA.o hb);clear hb HC HA;rcases aa with ⟨hm,rfl⟩ | ⟨hm,rfl⟩
  · have HM:=Zh hm;clear hm;go_wp2;go_ret;exact⟨.inl ⟨HM.o,rfl⟩,HB.o⟩
  · have HM:=Zh hm;clear hm;go_wp2;go_ret;exact⟨.inr ⟨HM.o,rfl⟩,HB.o⟩
def IxNl (l:List Lf) (e:Ending):Prop:=((∀f∈l,MayL f)∧e=.returned (.int .i64 (-1)))∨((¬ ∀f∈l,MayL f)∧∃i:Nat,e=.returned (.int .i64 (i:Nat)))
theorem ZlI (w:World)(s:Sl)(L:List Lb)(h:Gl (fun _=>True) w s L) :
    Calls prog 137 #[s.val,.func (.func 104) #[] #[]] w fun e w'=>IxNl (lfs L) e∧Bl w w':=by
  obtain⟨a,len,cap⟩:=s;have HE:=Zh h;have hl:L.length=len:=h.len;have al:len≤900:=h.big;have H0:=Zh (Below.refl w.heap.size w);clear h;have HL:=Zh hl;clear hl;unfold Sl.val;simp only;go_enter func137,ntmps137;go_wp2_with fail;go_loopw [8] (fun iv wr=>∃i:Nat,i≤len∧iv=.int .i64 (i:Nat)∧Hi (∀j,j<i→MayL (lf (lfs L) j))∧Hi (Bl w wr)) (fun iv _=>len-(intOf iv).toNat)
  case atStart=>exact ⟨0,Nat.zero_le _,rfl,fun j hj=>absurd hj (Nat.not_lt_zero _),H0⟩
  case round =>
   obtain⟨i,hi,rfl,aa,ae⟩:=hrel;rcases Nat.lt_or_ge i len with ak | an
   · (have i1:(i:Int)<(len:Int):=by omega);have hr:=HE.o.below ae.o (Nat.le_refl _);have ab:i<(Sl.mk a len cap).len:=ak;obtain⟨b1,off,ha,c0,c1⟩:=hr.cell i ab;replace ha:a=some ⟨b1,off,none⟩:=ha;subst ha;have ad:=hr.at ab;have af:=Zdv L i;obtain⟨x,hx⟩:∃x,x=L.getD i Lb.zero:=⟨_,rfl⟩;rw [← hx] at c0 c1 ad af;have ah:=Zh (ZkA wr x.u x.v x.t x.l ad.1 ad.2);have ai:=Zh (Zbo (b:=b1) (o:=off+i*2) c0 c1);have ac:Hi (lf (lfs L) i=⟨x.t,bss x.l⟩):=af;clear c0 c1 ad hr hx af;go_wp2_with (refine Zah _ rfl 101 (.tmp 14) rfl (.pointer (some ⟨b1,off+i*2,none⟩)) (lfV x.u x.v) rfl ai.o ?_);refine ah.o.mono ?_;rintro e w1 ⟨am,aj⟩;have ag:=Zh (Zad ae.o aj);clear aj ah ai;rcases am with ⟨hm,rfl⟩ | ⟨hm,rfl⟩
     · have HN:Hi (∀j,j<i+1→MayL (lf (lfs L) j)):=by
        intro j hj;by_cases e:j=i
        · rw [e,ac.o];exact hm
        · exact aa.o j (by omega)
       clear hm aa ac;go_wp2;go_roundw;exact ⟨i+1,by omega,by go_num,HN,ag⟩;simp only [intOf];omega
     · have HF:Hi (¬ ∀f∈lfs L,MayL f):=fun hh=>hm (by rw [← ac.o];exact hh _ (ZbG (by rw [ZaP,HL.o];exact ak)));clear hm aa ac;go_wp2;go_ret;exact⟨.inr ⟨HF.o,i,rfl⟩,ag.o⟩
   · (have i1:¬(i:Int)<(len:Int):=by omega);have HF:Hi (∀f∈lfs L,MayL f):=by
      intro f hf;obtain⟨j,hj,rfl⟩:=List.getElem_of_mem hf;have:=aa.o j (by rw [ZaP,HL.o] at hj;omega);rwa [ZcQ hj] at this
     clear aa;go_wp2;go_ret;exact⟨.inl ⟨HF.o,rfl⟩,ae.o⟩
theorem Zkc (w:World)(s:Sl)(L:List Lb)(h:Gl (fun _=>True) w s L) :
    Calls prog 103 #[s.val,.func (.func 104) #[] #[]] w fun e w'=>(((∀f∈lfs L,MayL f)∧e=.returned (.bool false))∨((¬ ∀f∈lfs L,MayL f)∧e=.returned (.bool true)))∧Bl w w':=by
  have HX:=Zh (ZlI w s L h);clear h;unfold Sl.val at *;go_enter func103,ntmps103;go_wp2_with fail;refine HX.o.mono ?_;rintro e w1 ⟨hx,hb⟩;have HB:=Zh hb;clear hb HX;rcases hx with ⟨hm,rfl⟩ | ⟨hm,i,rfl⟩
  · have HM:=Zh hm;clear hm;go_wp2;go_ret;exact⟨.inl ⟨HM.o,rfl⟩,HB.o⟩
  · have HM:=Zh hm;(have aa:(0:Int)≤(i:Int):=by omega);clear hm;go_wp2;go_ret;exact⟨.inr ⟨HM.o,rfl⟩,HB.o⟩
theorem ZqU (h:nul xs=true):xs=List.replicate xs.length 0:=by
 rw [List.eq_replicate_iff];refine⟨rfl,fun x hx=>?_⟩;unfold nul at h;have:=List.all_eq_true.1 h x hx;simpa using this
theorem ZkD (n:Nat):nul (List.replicate n 0)=true:=by
 unfold nul;rw [List.all_eq_true];intro x hx;rw [(List.mem_replicate.1 hx).2];rfl
theorem ZoW (hn:nul (xs.drop (20+8*xs.getD 19 0))=false):decH xs=none:=by
 cases hd:decH xs with
 | none=>rfl
 | some r =>
  obtain⟨h1,h2,h3,h4⟩:=Zcq hd;have hm:=Zey h3;have aa:=ZlF hm;rw [h4] at aa;have hl:=Zco r;have:xs.drop (20+8*xs.getD 19 0)=List.replicate (52-r.bytes.length) 0:=by
   rw [aa,← h4,← hl];unfold hpB;rw [List.drop_left]
  rw [this,ZkD] at hn;cases hn
theorem Zqg (hx:Bytes xs)(h1:xs.length=52)(h4:xs.getD 19 0≤4)(hn:nul (xs.drop (20+8*xs.getD 19 0))=true)(h:decB (xs.take (20+8*xs.getD 19 0))=some r):decH xs=some r:=by
 refine Zjh h1 h4 h ?_;have hc:=Zhi (fun x hh=>hx x (List.mem_of_mem_take hh)) h;have hz:=ZqU hn;unfold hpB;rw [hc,List.length_take,Nat.min_eq_left (by omega)];rw [List.length_drop,h1] at hz;rw [← hz,List.take_append_drop]
theorem Zm7 (a:Option Addr)(len cap:Nat)(xs:List Nat)(w:World)(h:Came w a len cap xs)(hl:len≠52) :
    Calls prog 140 #[.slice a len cap] w (Zbl xs w):=by
  have aa:∀(w:World) (a:Addr) (m:Mode) (x:Nat),(store a (.float .f64 x) m).run prog w=stored prog w a (.float .f64 x) m:=fun w a m x=>run_store prog w a _ m rfl;have HZ:=Zh (Zai w zeroR (.slice none 0 0));have HW:=Zh (Zab w (.cells #[.float .f64 0,.bool false,.slice none 0 0,.int .i64 0,.int .i64 0,.int .i64 0] 39));have HN:=Zh (Zhf (xs:=xs) (by rw [h.bs.1];exact hl));(have i1:¬(len:Int)=52:=by omega);have i2:((len:Int) == 52)=false:=beq_eq_false_iff_ne.2 i1;clear h;go_enter func140,ntmps140;go_wp2;refine bodyPost_ret (ZaN rfl HZ.o _ _ rfl rfl ⟨_,_,_,rfl⟩) rfl ?_;exact Zbl.no HN.o HW.o
theorem ZkR (a:Option Addr)(cap:Nat)(xs:List Nat)(w:World)(h:Came w a 52 cap xs)(h4:4<xs.getD 19 0) :
    Calls prog 140 #[.slice a 52 cap] w (Zbl xs w):=by
  have aa:∀(w:World) (a:Addr) (m:Mode) (x:Nat),(store a (.float .f64 x) m).run prog w=stored prog w a (.float .f64 x) m:=fun w a m x=>run_store prog w a _ m rfl;have HZ:=Zh (Zai w zeroR (.slice none 0 0));have HW:=Zh (Zab w (.cells #[.float .f64 0,.bool false,.slice none 0 0,.int .i64 0,.int .i64 0,.int .i64 0] 39));have HN:=Zh (Zhg (xs:=xs) h4);have hb:xs.getD 19 0<256:=by
   have hl:=h.bs.1;have:=h.bs.2.1 (xs.getD 19 0) (by simp [List.getD,show 19<xs.length by omega]);omega
  obtain⟨b,off,rfl,c19⟩:=(h.bs.keep HW.o (Nat.le_refl _)).2.2 19 (by omega);generalize xs.getD 19 0=n at *;(have i2:(52:Int)<20+8*(n:Int):=by omega);(have ab:IntKind.i64.wrap (8*(n:Int))=8*(n:Int):=by rw [IntKind.wrap_i64];omega);(have ac:IntKind.i64.wrap (20+8*(n:Int))=20+8*(n:Int):=by rw [IntKind.wrap_i64];omega);(have ad:IntKind.i64.wrap (n:Int)=(n:Int):=by rw [IntKind.wrap_i64];omega);clear h;go_enter func140,ntmps140;go_wp2;refine bodyPost_ret (ZaN rfl HZ.o _ _ rfl rfl ⟨_,_,_,rfl⟩) rfl ?_;exact Zbl.no HN.o HW.o
theorem ZkS (a:Option Addr)(cap:Nat)(xs:List Nat)(w:World)(h:Came w a 52 cap xs)(h4:xs.getD 19 0≤4) :
    Calls prog 140 #[.slice a 52 cap] w (Zbl xs w):=by
  have bk:∀(w:World) (a:Addr) (m:Mode) (x:Nat),(store a (.float .f64 x) m).run prog w=stored prog w a (.float .f64 x) m:=fun w a m x=>run_store prog w a _ m rfl;have HZ:=Zh (Zai w zeroR (.slice none 0 0));have HW:=Zh (Zab w (.cells #[.float .f64 0,.bool false,.slice none 0 0,.int .i64 0,.int .i64 0,.int .i64 0] 39));have bg:Hi (xs.length=52):=h.bs.1;have bf:=Zh h.bs.2.1;have HC:=Zh h;have am:=Zh (Zly (xs:=xs));have ao:=Zh (ZoW (xs:=xs));have ag:Hi (nul (xs.drop (20+8*xs.getD 19 0))=true→∀r,decB (xs.take (20+8*xs.getD 19 0))=some r→decH xs=some r):=fun hn r hr=>Zqg bf.o bg.o h4 hn hr;have au:=h.bs.keep HW.o (Nat.le_refl _);have ad:=au.from (cap:=cap) (k:=20+8*xs.getD 19 0) (by omega) h.le;have af:=Zh (Zkb _ _ _ (cap-(20+8*xs.getD 19 0)) _ ad (by omega));obtain⟨b,off,rfl,c19⟩:=au.2.2 19 (by omega);have HT:=Zh ((HC.o.keep HW.o (Nat.le_refl _)).top (k:=20+8*xs.getD 19 0) (by omega));clear au ad;generalize xs.getD 19 0=n at *;(have i2:¬(52:Int)<20+8*(n:Int):=by omega);(have av:fromA (some ⟨b,off,none⟩) cap 0=some ⟨b,off,none⟩:=by unfold fromA;have:=HC.o.le;rw [if_neg (by omega)];rfl);rw [av] at HT;have HD:=Zh (Zke (some ⟨b,off,none⟩) (20+8*n) cap (xs.take (20+8*n)) _ HT.o (by omega));have bh:52≤cap:=HC.o.le;have bl:∀w:World,(Instr.sliceAt 107 (.slice (some ⟨b,off,none⟩) 52 cap) none (some (.int .i64 (20+8*(n:Int)))) none).run prog w=.ok (.slice (some ⟨b,off,none⟩) (20+8*n) cap) w:=by
   intro w;have:=Zgf (some ⟨b,off,none⟩) 52 cap (20+8*n) (by omega) w;rw [av,show ((20+8*n:Nat):Int)=20+8*(n:Int) by omega] at this;exact this
  obtain⟨fa,ax⟩:∃fa,fa=fromA (some ⟨b,off,none⟩) cap (20+8*n):=⟨_,rfl⟩;obtain⟨fl,ay⟩:∃fl,fl=52-(20+8*n):=⟨_,rfl⟩;obtain⟨fc,aw⟩:∃fc,fc=cap-(20+8*n):=⟨_,rfl⟩;have bi:∀w:World,(Instr.sliceAt 107 (.slice (some ⟨b,off,none⟩) 52 cap) (some (.int .i64 (20+8*(n:Int)))) none none).run prog w=.ok (.slice fa fl fc) w:=by
   intro w;have:=ZcJ (some ⟨b,off,none⟩) 52 cap (20+8*n) (by omega) w;rw [← ax,← ay,← aw,show ((20+8*n:Nat):Int)=20+8*(n:Int) by omega] at this;exact this
  rw [← ax,← ay,← aw] at af;(have bm:IntKind.i64.wrap (8*(n:Int))=8*(n:Int):=by rw [IntKind.wrap_i64];omega);(have bn:IntKind.i64.wrap (20+8*(n:Int))=20+8*(n:Int):=by rw [IntKind.wrap_i64];omega);(have bo:IntKind.i64.wrap (n:Int)=(n:Int):=by rw [IntKind.wrap_i64];omega);clear h av HT ax ay aw;cases hnu:nul (xs.drop (20+8*n)) with
  | false =>
   rw [hnu] at af;have HN:=Zh (ao.o hnu);clear hnu ao ag am HD;go_enter func140,ntmps140;go_wp2_with fail;refine af.o.mono ?_;rintro e w1 ⟨rfl,hw⟩;obtain rfl:=hw.symm;go_wp2;refine bodyPost_ret (ZaN rfl HZ.o _ _ rfl rfl ⟨_,_,_,rfl⟩) rfl ?_;exact Zbl.no HN.o HW.o
  | true =>
   rw [hnu] at af;have ac:=Zh (ag.o hnu);clear hnu ao ag;go_enter func140,ntmps140;go_wp2_with fail;refine af.o.mono ?_;rintro e w1 ⟨rfl,hw⟩;obtain rfl:=hw.symm;go_wp2_with fail;refine HD.o.mono ?_;intro e w1 hr;have bb:=Zh (Zad HW.o hr.1);have bc:=Zh (HZ.o.keep hr.1);cases hd:decB (xs.take (20+8*n)) with
   | none =>
    have HN:=Zh (am.o hd);have az:=hr.2.1 hd;subst az;have al:=Zh (Zab w1 (.cells #[.float .f64 zeroR.key,.bool zeroR.dead,.slice none 0 0,.int .i64 zeroR.wr,.int .i64 zeroR.cell,.int .i64 zeroR.no] 39));clear hr hd am ac HD c19 af;unfold Zc5;have ae:Hi (Bl w (w1.alloc (.cells #[.float .f64 zeroR.key,.bool zeroR.dead,.slice none 0 0,.int .i64 zeroR.wr,.int .i64 zeroR.cell,.int .i64 zeroR.no] 39))):=Zad bb.o al.o;have aa:=Zh (bc.o.keep al.o);unfold zeroR at ae aa al;simp only at ae aa al;have ab:=Zh (Zai w1 zeroR (.slice none 0 0));unfold zeroR at ab;simp only at ab;generalize ai:w1.alloc (.cells #[.float .f64 0,.bool false,.slice none 0 0,.int .i64 0,.int .i64 0,.int .i64 0] 39)=WX at ae aa ab;have aq:=Zh ai;clear ai;have z0:=aa.o.c0;have z1:=aa.o.c1;have z2:=aa.o.c2;have z3:=aa.o.c3;have z4:=aa.o.c4;have z5:=aa.o.c5;have f0:=aa.o.fz;have x0:=ab.o.c0;have x1:=ab.o.c1;have x2:=ab.o.c2;have x3:=ab.o.c3;have x4:=ab.o.c4;have x5:=ab.o.c5;simp only at z0 z1 z3 z4 z5 x0 x1 x3 x4 x5;go_upto_region 7 with fail;rw [aq.o];go_wp2_with fail;show bodyPost prog f140 _ Exit.ret _ (setRw WX w.heap.size zeroR (.slice none 0 0));refine Zci rfl aa.o zeroR (.slice none 0 0) (.bool false) ⟨_,_,_,rfl⟩ (by rfl) (by rfl) (by rfl) ?_;exact Zbl.no HN.o (Zak ae.o (Nat.le_refl _) _ _)
   | some r =>
    obtain⟨be,ra,rl,rc,az,bd,ak⟩:=hr.2.2 r hd;subst az;have HY:=Zh (ac.o r hd);have ah:=Zh be;have an:=Zab w1 (.cells #[.float .f64 r.key,.bool r.dead,.slice ra rl rc,.int .i64 r.wr,.int .i64 r.cell,.int .i64 r.no] 39);have ae:=Zh (Zad bb.o an);have aa:=Zh (bc.o.keep an);have ab:=Zh (Zai w1 r (.slice ra rl rc));have ap:=Zh ((ak.lower (b':=w.heap.size) HW.o.size).keep an (Nat.le_refl _));have aj:=Zey hd;have bj:=(Rw.may_parts aj).2.1;have ba:rl=r.xs.length:=(bd.len).symm;(have ar:Hi (r.xs.length≤100):=by show _≤_;omega);unfold Rw.val;generalize ai:w1.alloc (.cells #[.float .f64 r.key,.bool r.dead,.slice ra rl rc,.int .i64 r.wr,.int .i64 r.cell,.int .i64 r.no] 39)=WX at ae aa ab ap;have aq:=Zh ai;clear ai hr hd am ac HD c19 af be bd ak an aj bj ba;have z0:=aa.o.c0;have z1:=aa.o.c1;have z2:=aa.o.c2;have z3:=aa.o.c3;have z4:=aa.o.c4;have z5:=aa.o.c5;have f0:=aa.o.fz;simp only [zeroR] at z0 z1 z3 z4 z5;have x0:=ab.o.c0;have x1:=ab.o.c1;have x2:=ab.o.c2;have x3:=ab.o.c3;have x4:=ab.o.c4;have x5:=ab.o.c5;go_upto_region 7 with fail;rw [aq.o];go_wp2_with fail;show bodyPost prog f140 _ Exit.ret _ (setRw WX w.heap.size r (.slice ra rl rc));refine Zci rfl aa.o r (.slice ra rl rc) (.bool true) ⟨_,_,_,rfl⟩ (by rfl) (by rfl) (by rfl) ?_;refine⟨Zak ae.o (Nat.le_refl _) _ _,(fun h=>by rw [HY.o] at h;cases h),fun q h=>?_⟩;rw [HY.o] at h;simp only [Option.some.injEq] at h;subst h;exact⟨ah.o,ra,rl,rc,rfl,(ap.o.setRw aa.o _ _).fsAt ah.o.xs (by have:=ar.o;omega),ap.o.setRw aa.o _ _⟩
theorem Zm6 (a:Option Addr)(len cap:Nat)(xs:List Nat)(w:World)(h:Came w a len cap xs) :
    Calls prog 140 #[.slice a len cap] w (Zbl xs w):=by
  by_cases hl:len=52
  · subst hl;rcases Nat.lt_or_ge 4 (xs.getD 19 0) with h4 | h4
    · exact ZkR a cap xs w h h4
    · exact ZkS a cap xs w h h4
  · exact Zm7 a len cap xs w h hl
open Go.RowKit Go.Sort
def uE (x:Int):Value:=.int .u64 x
structure Sq (w0:World) (blk off m:Nat) (W:World) (d:Array Int):Prop where
  size:d.size=m
  holds:Holds uE W blk off d
  frm:Frm (fun k=>k=blk) w0 W
theorem Sq.cell (h:Sq w0 blk off m W d)(t:Nat)(ht:t<m):W.cell? ⟨blk,off+t,none⟩=some (.int .u64 d[t]!):=(h.holds t (by rw [h.size];exact ht)).1
theorem Sq.fz (h:Sq w0 blk off m W d)(t:Nat)(ht:t<m):W.frozen? ⟨blk,off+t,none⟩=false:=(h.holds t (by rw [h.size];exact ht)).2
theorem Sq.drewN (h:Sq w0 blk off m W d)(q:Nat):Sq w0 blk off m (W.drewN q) d:=
 ⟨h.size,h.holds,⟨h.frm.os,h.frm.tape,h.frm.output,h.frm.size,h.frm.block⟩⟩
theorem Sq.drew1 (h:Sq w0 blk off m W d):Sq w0 blk off m W.drew d:=h.drewN 1
theorem Sq.lt (h:Sq w0 blk off m W d)(hm:0<m):blk<W.heap.size:=World.block_lt_of_cell? W _ (h.cell 0 hm)
theorem Sq.below {W':World}(h:Sq w0 blk off m W d)(hb:Bl W W'):Sq w0 blk off m W' d:=by
 refine⟨h.size,fun t ht=>?_,h.frm.trans (G:=fun _=>False) (Frm.ofBelow hb) (fun _ _ h=>h.elim)⟩;have hl:blk<W.heap.size:=World.block_lt_of_cell? W _ (h.holds t ht).1;refine⟨(hb.cell (p:=⟨blk,off+t,none⟩) hl).trans (h.holds t ht).1,?_⟩;rw [← (h.holds t ht).2];simp only [World.frozen?,hb.block blk hl]
theorem Sq.swap (h:Sq w0 blk off m W d)(q i j:Nat)(hi:i<m)(hj:j<m):Sq w0 blk off m (((W.drewN q).setCell ⟨blk,off+i,none⟩ (.int .u64 d[j]!)).setCell ⟨blk,off+j,none⟩ (.int .u64 d[i]!)) (swp d i j):=by
 have hd:=h.drewN q;generalize W.drewN q=V at hd;have hs:=hd.size;have e:(V.setCell ⟨blk,off+i,none⟩ (.int .u64 d[j]!)).setCell ⟨blk,off+j,none⟩ (.int .u64 d[i]!)=putRow uE V blk off (swp d i j):=by
  have:=putRow_swp uE V blk off d i j (by omega) (by omega);rw [putRow_self uE V blk off d hd.holds] at this;exact this
 refine⟨by rw [size_swp];exact hs,?_,(hd.frm.setCell rfl _).setCell rfl _⟩;rw [e];exact holds_putRow uE V blk off d _ hd.holds (by rw [size_swp])
theorem Zag (x y:Int)(w:World):Calls prog 195 #[.int .u64 x,.int .u64 y] w fun e w'=>e=.returned (.bool (ltInt x y))∧w'=w:=by
 have hN:∀(z:Int) (w:World),Calls prog 206 #[.int .u64 z] w fun e w'=>e=.returned (.bool false)∧w'=w:=by
  intro z w;go_enter func206,ntmps206;go_wp2;go_ret;exact⟨by simp,rfl⟩
 go_enter func195,ntmps195;go_wp2_with (go_at_call 206;refine (hN _ _).mono ?_;rintro e w' ⟨rfl,rfl⟩);go_ret;exact⟨rfl,rfl⟩
theorem ZlM (w0 W:World)(blk off m cap a b:Nat)(d:Array Int)(h:Sq w0 blk off m W d)(ag:a≤b)(hb:b≤m)(hm:m<1000000) :
    Calls prog 189 #[.slice (some ⟨blk,off,none⟩) m cap,.int .i64 (a:Nat),.int .i64 (b:Nat)] W fun e W'=>e=.returned (.tuple #[])∧Sq w0 blk off m W' (insertionSort ltInt d a b):=by
  have HS:=Zh h;clear h;go_enter func189,ntmps189;go_wp2_with fail;go_loopw [6] (fun vi wr=>∃(i:Nat) (dk:Array Int),vi=.int .i64 (i:Nat)∧a<i∧i≤b+1∧Hi (Sq w0 blk off m wr dk)∧Hi (insOuter ltInt a b i dk=insOuter ltInt a b (a+1) d)) (fun vi _=>b+1-(intOf vi).toNat)
  case atStart=>exact ⟨a+1,d,by go_num,by omega,by omega,HS,rfl⟩
  case round =>
   obtain⟨i,dk,rfl,ah,am,ad,hO⟩:=hrel;rcases Nat.lt_or_ge i b with af | al
   · (have j1:(i:Int)<(b:Int):=by omega);go_wp2_with fail;go_loopw [7] (fun vj wr2=>∃(j:Nat) (dj:Array Int),vj=.int .i64 (j:Nat)∧a≤j∧j≤i∧Hi (Sq w0 blk off m wr2 dj)∧Hi (insInner ltInt a j dj=insInner ltInt a i dk)) (fun vj _=>(intOf vj).toNat)
     case atStart=>exact ⟨i,dk,rfl,by omega,Nat.le_refl _,ad,rfl⟩
     case round =>
      rename World=>wr2;obtain⟨j,dj,rfl,ai,an,aa,hI⟩:=hrel;have OUT:(j≤a∨ltInt dj[j]! dj[j-1]! = false)→Hi (insOuter ltInt a b (i+1) dj=insOuter ltInt a b (a+1) d):=fun hs=>by
       show _=_;rw [← hO.o,insOuter_go _ _ _ _ _ af,← hI.o,insInner_stop _ _ _ _ hs]
      by_cases ae:a<j
      · obtain⟨G,hG⟩:∃G:Nat→Int,∀t,G t=dj[t]!:=⟨fun t=>dj[t]!,fun _=>rfl⟩;(have aj:∀t,t<m→wr2.cell? ⟨blk,off+t,none⟩=some (.int .u64 (G t)):=fun t ht=>by rw [hG];exact aa.o.cell t ht);have ak:∀t,t<m→wr2.frozen? ⟨blk,off+t,none⟩=false:=aa.o.fz;have HG:Hi (∀t,G t=dj[t]!):=hG;(have j2:(a:Int)<(j:Int):=by omega);have ab:=Zh OUT;clear hG OUT;cases hl:ltInt (G j) (G (j-1)) with
        | true =>
         have HL:Hi (insInner ltInt a (j-1) (swp dj j (j-1))=insInner ltInt a i dk):=by
          show _=_;rw [← hI.o,insInner_go ltInt a j dj ae (by rw [← HG.o,← HG.o];exact hl)]
         have HW:∀q,Hi (Sq w0 blk off m (((wr2.drewN q).setCell ⟨blk,off+j,none⟩ (.int .u64 (G (j-1)))).setCell ⟨blk,off+(j-1),none⟩ (.int .u64 (G j))) (swp dj j (j-1))):=fun q=>by
          rw [HG.o,HG.o];exact aa.o.swap q j (j-1) (by omega) (by omega)
         clear hI aa ab;go_wp2_with fail;go_quiet (first | (go_at_call 195;refine Calls.quiet_of_same (Zag _ _ _)));go_wp2_with fail;go_region;(all_goals go_wp2_with fail);go_roundw;exact ⟨j-1,swp dj j (j-1),by congr 1;omega,by omega,by omega,HW (nq+1),HL⟩;simp only [intOf];omega
        | false =>
         have ac:Hi (insOuter ltInt a b (i+1) dj=insOuter ltInt a b (a+1) d):=ab.o (.inr (by rw [← HG.o,← HG.o];exact hl));have HW:∀q,Hi (Sq w0 blk off m (wr2.drewN q) dj):=fun q=>aa.o.drewN q;clear hI aa ab;go_wp2_with fail;go_quiet (first | (go_at_call 195;refine Calls.quiet_of_same (Zag _ _ _)));go_wp2;go_roundw;exact ⟨i+1,dj,by go_num,by omega,by omega,HW nq,ac⟩;simp only [intOf];omega
      · (have j2:¬(a:Int)<(j:Int):=by omega);have ac:=OUT (.inl (by omega));have HW:∀q,Hi (Sq w0 blk off m (wr2.drewN q) dj):=fun q=>aa.o.drewN q;clear OUT hI aa;go_wp2_with fail;go_quiet (first | (go_at_call 195;refine Calls.quiet_of_same (Zag _ _ _)));go_wp2;go_roundw;exact ⟨i+1,dj,by go_num,by omega,by omega,HW nq,ac⟩;simp only [intOf];omega
   · (have j1:¬(i:Int)<(b:Int):=by omega);have HE:Hi (dk=insertionSort ltInt d a b):=by
      show _=_;unfold insertionSort;rw [← hO.o,insOuter_stop _ _ _ _ _ (by omega)]
     go_wp2_with fail;go_end0;exact⟨rfl,by rw [← HE.o];exact ad.o⟩
open Go.RowKit Go.Sort
section
variable {α : Type} [Inhabited α] (lt : α → α → Bool)
theorem ZmM {d:Array α}(h:hi≤2*root+1):siftDown lt hi first root d=d:=by
 rw [siftDown,dif_pos h]
theorem ZkZ {d:Array α}(h1:¬hi≤2*root+1)(h2:2*root+2<hi)(hl:lt d[first+2*root+1]! d[first+2*root+2]! = true) :
    siftDown lt hi first root d=if lt d[first+root]! d[first+2*root+2]! = true then siftDown lt hi first (2*root+2) (swp d (first+root) (first+2*root+2)) else d:=by
  have hl':lt d[first+(2*root+1)]! d[first+(2*root+1)+1]! = true:=hl;rw [siftDown,dif_neg h1,if_pos (by rw [hl'];simpa using h2)];have e:first+(2*root+2)=first+2*root+2:=rfl;rw [e];cases h3:lt d[first+root]! d[first+2*root+2]! <;> simp [h2]
theorem ZhS {d:Array α}(h1:¬hi≤2*root+1)(h2:¬2*root+2<hi∨lt d[first+2*root+1]! d[first+2*root+2]! = false) :
    siftDown lt hi first root d=if lt d[first+root]! d[first+2*root+1]! = true then siftDown lt hi first (2*root+1) (swp d (first+root) (first+2*root+1)) else d:=by
  have hc:¬((decide (2*root+1+1<hi) && lt d[first+(2*root+1)]! d[first+(2*root+1)+1]!)=true):=by
   have e:first+(2*root+1)+1=first+2*root+2:=rfl;have e':first+(2*root+1)=first+2*root+1:=rfl;rcases h2 with h | h
   · rw [decide_eq_false (by omega)];simp
   · rw [e,e',h];simp
  rw [siftDown,dif_neg h1,if_neg hc];have e':first+(2*root+1)=first+2*root+1:=rfl;rw [e'];cases h3:lt d[first+root]! d[first+2*root+1]! <;> simp
end
theorem Zge (w0 W:World)(blk off m cap lo hi first:Nat)(d:Array Int)(h:Sq w0 blk off m W d)(hf:first+hi≤m)(hm:m<1000000)(ak:lo<1000000) :
    Calls prog 203 #[.slice (some ⟨blk,off,none⟩) m cap,.int .i64 (lo:Nat),.int .i64 (hi:Nat),.int .i64 (first:Nat)] W fun e W'=>e=.returned (.tuple #[])∧Sq w0 blk off m W' (siftDown ltInt hi first lo d):=by
  have HS:=Zh h;clear h;go_enter func203,ntmps203;go_wp2_with fail;go_loopw [8] (fun vi wr=>∃(r:Nat) (dk:Array Int),vi=.int .i64 (r:Nat)∧r<1000000∧Hi (Sq w0 blk off m wr dk)∧Hi (siftDown ltInt hi first r dk=siftDown ltInt hi first lo d)) (fun vi _=>hi-(intOf vi).toNat)
  case atStart=>exact ⟨lo,d,rfl,ak,HS,rfl⟩
  case round =>
   obtain⟨r,dk,rfl,hr,ai,hO⟩:=hrel;by_cases ag:hi≤2*r+1
   · have HE:Hi (dk=siftDown ltInt hi first lo d):=by
      show _=_;rw [← hO.o,ZmM _ ag]
     go_wp2_with fail;go_end0;exact⟨rfl,by rw [← HE.o];exact ai.o⟩
   · obtain⟨G,hG⟩:∃G:Nat→Int,∀t,G t=dk[t]!:=⟨fun t=>dk[t]!,fun _=>rfl⟩;(have ae:∀t,t<m→wr.cell? ⟨blk,off+t,none⟩=some (.int .u64 (G t)):=fun t ht=>by rw [hG];exact ai.o.cell t ht);have af:∀t,t<m→wr.frozen? ⟨blk,off+t,none⟩=false:=ai.o.fz;have HG:Hi (∀t,G t=dk[t]!):=hG;have ad:=ai;clear hG;(have i1:first+r<m:=by omega);(have i2:first+2*r+1<m:=by omega);(have n2:¬((hi:Int)≤2*(r:Int)+1):=by omega);by_cases h2:2*r+2<hi
     · (have i3:first+2*r+2<m:=by omega);(have j2:(2*(r:Int)+1+1)<(hi:Int):=by omega);cases hl:ltInt (G (first+2*r+1)) (G (first+2*r+2)) with
       | true =>
        have hx:=ZkZ ltInt (d:=dk) (first:=first) ag h2 (by rw [← HG.o,← HG.o];exact hl);rw [hO.o,← HG.o,← HG.o] at hx;cases hk:ltInt (G (first+r)) (G (first+2*r+2)) with
        | true =>
         rw [hk,if_pos rfl] at hx;have HX:=Zh hx;clear hx hO ai;go_wp2_with fail;go_quiet (first | (go_at_call 195;refine Calls.quiet_of_same (Zag _ _ _)));go_wp2_with fail;have ac:Sq w0 blk off m (wr.drewN nq) dk:=ad.o.drewN nq;have aa:∀t,t<m→(wr.drewN nq).cell? ⟨blk,off+t,none⟩=some (.int .u64 (G t)):=ae;have ab:∀t,t<m→(wr.drewN nq).frozen? ⟨blk,off+t,none⟩=false:=af;clear ad ae af;generalize wr.drewN nq=wr2 at ac aa ab ⊢;clear nq;have ad:=Zh ac;have ae:=aa;have af:=ab;clear ac aa ab;go_quiet (first | (go_at_call 195;refine Calls.quiet_of_same (Zag _ _ _)));go_wp2_with fail;have aj:Hi (∀q,Sq w0 blk off m (((wr2.drewN q).setCell ⟨blk,off+(first+r),none⟩ (.int .u64 (G (first+2*r+2)))).setCell ⟨blk,off+(first+2*r+2),none⟩ (.int .u64 (G (first+r)))) (swp dk (first+r) (first+2*r+2))):=fun q=>by
          rw [HG.o,HG.o];exact ad.o.swap q _ _ i1 (by omega)
         clear ad HG;go_region;(all_goals go_wp2_with fail);go_roundw;exact ⟨2*r+2,_,by go_num,by omega,aj.o _,Zh HX.o.symm⟩;simp only [intOf];omega
        | false =>
         rw [hk,if_neg (by decide)] at hx;have HX:=Zh hx;clear hx hO ai HG;go_wp2_with fail;go_quiet (first | (go_at_call 195;refine Calls.quiet_of_same (Zag _ _ _)));go_wp2_with fail;have ac:Sq w0 blk off m (wr.drewN nq) dk:=ad.o.drewN nq;have aa:∀t,t<m→(wr.drewN nq).cell? ⟨blk,off+t,none⟩=some (.int .u64 (G t)):=ae;have ab:∀t,t<m→(wr.drewN nq).frozen? ⟨blk,off+t,none⟩=false:=af;clear ad ae af;generalize wr.drewN nq=wr2 at ac aa ab ⊢;clear nq;have ad:=Zh ac;have ae:=aa;have af:=ab;clear ac aa ab;go_quiet (first | (go_at_call 195;refine Calls.quiet_of_same (Zag _ _ _)));go_wp2_with fail;have ah:Hi (∀q,Sq w0 blk off m (wr2.drewN q) dk):=ad.o.drewN;(try simp only [Exit.inBlock,Exit.then]);refine bodyPost_ret (results_none rfl _ _ _) rfl ?_;exact⟨rfl,by rw [HX.o];exact ah.o _⟩
       | false =>
        have hx:=ZhS ltInt (d:=dk) (first:=first) ag (.inr (by rw [← HG.o,← HG.o];exact hl));rw [hO.o,← HG.o,← HG.o] at hx;cases hk:ltInt (G (first+r)) (G (first+2*r+1)) with
        | true =>
         rw [hk,if_pos rfl] at hx;have HX:=Zh hx;clear hx hO ai;go_wp2_with fail;go_quiet (first | (go_at_call 195;refine Calls.quiet_of_same (Zag _ _ _)));go_wp2_with fail;have ac:Sq w0 blk off m (wr.drewN nq) dk:=ad.o.drewN nq;have aa:∀t,t<m→(wr.drewN nq).cell? ⟨blk,off+t,none⟩=some (.int .u64 (G t)):=ae;have ab:∀t,t<m→(wr.drewN nq).frozen? ⟨blk,off+t,none⟩=false:=af;clear ad ae af;generalize wr.drewN nq=wr2 at ac aa ab ⊢;clear nq;have ad:=Zh ac;have ae:=aa;have af:=ab;clear ac aa ab;go_quiet (first | (go_at_call 195;refine Calls.quiet_of_same (Zag _ _ _)));go_wp2_with fail;have aj:Hi (∀q,Sq w0 blk off m (((wr2.drewN q).setCell ⟨blk,off+(first+r),none⟩ (.int .u64 (G (first+2*r+1)))).setCell ⟨blk,off+(first+2*r+1),none⟩ (.int .u64 (G (first+r)))) (swp dk (first+r) (first+2*r+1))):=fun q=>by
          rw [HG.o,HG.o];exact ad.o.swap q _ _ i1 (by omega)
         clear ad HG;go_region;(all_goals go_wp2_with fail);go_roundw;exact ⟨2*r+1,_,by go_num,by omega,aj.o _,Zh HX.o.symm⟩;simp only [intOf];omega
        | false =>
         rw [hk,if_neg (by decide)] at hx;have HX:=Zh hx;clear hx hO ai HG;go_wp2_with fail;go_quiet (first | (go_at_call 195;refine Calls.quiet_of_same (Zag _ _ _)));go_wp2_with fail;have ac:Sq w0 blk off m (wr.drewN nq) dk:=ad.o.drewN nq;have aa:∀t,t<m→(wr.drewN nq).cell? ⟨blk,off+t,none⟩=some (.int .u64 (G t)):=ae;have ab:∀t,t<m→(wr.drewN nq).frozen? ⟨blk,off+t,none⟩=false:=af;clear ad ae af;generalize wr.drewN nq=wr2 at ac aa ab ⊢;clear nq;have ad:=Zh ac;have ae:=aa;have af:=ab;clear ac aa ab;go_quiet (first | (go_at_call 195;refine Calls.quiet_of_same (Zag _ _ _)));go_wp2_with fail;have ah:Hi (∀q,Sq w0 blk off m (wr2.drewN q) dk):=ad.o.drewN;(try simp only [Exit.inBlock,Exit.then]);refine bodyPost_ret (results_none rfl _ _ _) rfl ?_;exact⟨rfl,by rw [HX.o];exact ah.o _⟩
     · have j2:decide ((2*(r:Int)+1+1)<(hi:Int))=false:=decide_eq_false (by omega);have hx:=ZhS ltInt (d:=dk) (first:=first) ag (.inl h2);rw [hO.o,← HG.o,← HG.o] at hx;cases hk:ltInt (G (first+r)) (G (first+2*r+1)) with
       | true =>
        rw [hk,if_pos rfl] at hx;have HX:=Zh hx;clear hx hO ai;go_wp2_with fail;go_quiet (first | (go_at_call 195;refine Calls.quiet_of_same (Zag _ _ _)));go_wp2_with fail;have ac:Sq w0 blk off m (wr.drewN nq) dk:=ad.o.drewN nq;have aa:∀t,t<m→(wr.drewN nq).cell? ⟨blk,off+t,none⟩=some (.int .u64 (G t)):=ae;have ab:∀t,t<m→(wr.drewN nq).frozen? ⟨blk,off+t,none⟩=false:=af;clear ad ae af;generalize wr.drewN nq=wr2 at ac aa ab ⊢;clear nq;have ad:=Zh ac;have ae:=aa;have af:=ab;clear ac aa ab;go_quiet (first | (go_at_call 195;refine Calls.quiet_of_same (Zag _ _ _)));go_wp2_with fail;have aj:Hi (∀q,Sq w0 blk off m (((wr2.drewN q).setCell ⟨blk,off+(first+r),none⟩ (.int .u64 (G (first+2*r+1)))).setCell ⟨blk,off+(first+2*r+1),none⟩ (.int .u64 (G (first+r)))) (swp dk (first+r) (first+2*r+1))):=fun q=>by
         rw [HG.o,HG.o];exact ad.o.swap q _ _ i1 (by omega)
        clear ad HG;go_region;(all_goals go_wp2_with fail);go_roundw;exact ⟨2*r+1,_,by go_num,by omega,aj.o _,Zh HX.o.symm⟩;simp only [intOf];omega
       | false =>
        rw [hk,if_neg (by decide)] at hx;have HX:=Zh hx;clear hx hO ai HG;go_wp2_with fail;go_quiet (first | (go_at_call 195;refine Calls.quiet_of_same (Zag _ _ _)));go_wp2_with fail;have ac:Sq w0 blk off m (wr.drewN nq) dk:=ad.o.drewN nq;have aa:∀t,t<m→(wr.drewN nq).cell? ⟨blk,off+t,none⟩=some (.int .u64 (G t)):=ae;have ab:∀t,t<m→(wr.drewN nq).frozen? ⟨blk,off+t,none⟩=false:=af;clear ad ae af;generalize wr.drewN nq=wr2 at ac aa ab ⊢;clear nq;have ad:=Zh ac;have ae:=aa;have af:=ab;clear ac aa ab;go_quiet (first | (go_at_call 195;refine Calls.quiet_of_same (Zag _ _ _)));go_wp2_with fail;have ah:Hi (∀q,Sq w0 blk off m (wr2.drewN q) dk):=ad.o.drewN;(try simp only [Exit.inBlock,Exit.then]);refine bodyPost_ret (results_none rfl _ _ _) rfl ?_;exact⟨rfl,by rw [HX.o];exact ah.o _⟩
theorem Zkr (w0 W:World)(blk off m cap a b:Nat)(d:Array Int)(h:Sq w0 blk off m W d)(aj:a<b)(hb:b≤m)(hm:m<1000000) :
    Calls prog 190 #[.slice (some ⟨blk,off,none⟩) m cap,.int .i64 (a:Nat),.int .i64 (b:Nat)] W fun e W'=>e=.returned (.tuple #[])∧Sq w0 blk off m W' (heapSort ltInt d a b):=by
  have HS:=Zh h;clear h;obtain⟨n,hn⟩:∃n:Nat,b=a+n:=⟨b-a,by omega⟩;(have ao:1≤n:=by omega);(have ap:a+n≤m:=by omega);have ab:Hi (∀(V:World) (dk:Array Int) (lo hi:Nat),Sq w0 blk off m V dk→hi≤n→lo<1000000→Calls prog 203 #[.slice (some ⟨blk,off,none⟩) m cap,.int .i64 (lo:Nat),.int .i64 (hi:Nat),.int .i64 (a:Nat)] V fun e W'=>e=.returned (.tuple #[])∧Sq w0 blk off m W' (siftDown ltInt hi a lo dk)):=fun V dk lo hi hq hh hl=>Zge w0 V blk off m cap lo hi a dk hq (by omega) hm hl;have ad:Hi (heapSort ltInt d a b=heapPop ltInt a n (heapBuild ltInt n a ((n-1) / 2+1) d)):=by
   show _=_;unfold heapSort;rw [hn,show a+n-a=n by omega]
  (have q1:((b:Int)-(a:Int))=(n:Int):=by omega);obtain⟨p,hp⟩:∃p:Nat,p=(n-1) / 2:=⟨_,rfl⟩;(have aq:p<1000000:=by omega);have HP:=Zh hp;rw [← hp] at ad;clear hn hp;go_enter func190,ntmps190;go_wp2_with fail;go_loopw [9] (fun vi wr=>∃(k:Nat) (z:Int) (dk:Array Int),vi=.int .i64 z∧Hi (z=(k:Int)-1)∧k≤p+1∧Hi (Sq w0 blk off m wr dk)∧Hi (heapBuild ltInt n a k dk=heapBuild ltInt n a (p+1) d)) (fun vi _=>(intOf vi+1).toNat)
  case atStart=>exact ⟨p+1,_,d,rfl,(show Hi _ from by show _=_;have:=HP.o;omega),Nat.le_refl _,HS,rfl⟩
  case round =>
   obtain⟨k,z,dk,rfl,hz,hk,ai,hO⟩:=hrel;cases k with
   | succ k =>
    (obtain rfl:z=(k:Int):=by have:=hz.o;omega);have aa:=Zh (ab.o wr dk k n ai.o (Nat.le_refl _) (by omega));have HO:Hi (heapBuild ltInt n a k (siftDown ltInt n a k dk)=heapBuild ltInt n a (p+1) d):=hO;clear hz hO ai;go_wp2_with fail;refine aa.o.mono ?_;rintro e w2 ⟨rfl,ac⟩;have ag:=Zh ac;clear ac aa;go_wp2;go_roundw;exact ⟨k,(k:Int)-1,_,rfl,(show Hi _ from rfl),by omega,ag,HO⟩;simp only [intOf];omega
   | zero =>
    (obtain rfl:z = -1:=by have:=hz.o;omega);have HB:Hi (dk=heapBuild ltInt n a (p+1) d):=hO;clear hz hO ab HP;have ab:Hi (∀(V:World) (dk:Array Int) (lo hi:Nat),Sq w0 blk off m V dk→hi≤n→lo<1000000→Calls prog 203 #[.slice (some ⟨blk,off,none⟩) m cap,.int .i64 (lo:Nat),.int .i64 (hi:Nat),.int .i64 (a:Nat)] V fun e W'=>e=.returned (.tuple #[])∧Sq w0 blk off m W' (siftDown ltInt hi a lo dk)):=fun V dk lo hi hq hh hl=>Zge w0 V blk off m cap lo hi a dk hq (by omega) hm hl;rw [← HB.o] at ad;have al:=ai.o.size;go_wp2_with fail;rename World=>w1;go_loopw [10] (fun vi wr=>∃(k:Nat) (z:Int) (dj:Array Int),vi=.int .i64 z∧Hi (z=(k:Int)-1)∧k≤n∧Hi (Sq w0 blk off m wr dj)∧Hi (heapPop ltInt a k dj=heapPop ltInt a n dk)) (fun vi _=>(intOf vi+1).toNat)
    case atStart=>exact ⟨n,(n:Int)-1,dk,rfl,(show Hi _ from rfl),Nat.le_refl _,ai,rfl⟩
    case round =>
     obtain⟨k,z,dj,rfl,hz,hk,af,hO⟩:=hrel;cases k with
     | succ k =>
      (obtain rfl:z=(k:Int):=by have:=hz.o;omega);have HO:Hi (heapPop ltInt a k (siftDown ltInt k a 0 (swp dj a (a+k)))=heapPop ltInt a n dk):=hO;obtain⟨G,hG⟩:∃G:Nat→Int,∀t,G t=dj[t]!:=⟨fun t=>dj[t]!,fun _=>rfl⟩;(have ak:∀t,t<m→wr.cell? ⟨blk,off+t,none⟩=some (.int .u64 (G t)):=fun t ht=>by rw [hG];exact af.o.cell t ht);have am:∀t,t<m→wr.frozen? ⟨blk,off+t,none⟩=false:=af.o.fz;have HG:Hi (∀t,G t=dj[t]!):=hG;have ah:=af;clear hG;(have i1:a<m:=by omega);(have i2:a+k<m:=by omega);by_cases an:0<k
      · have ae:=Zh ((ah.o.swap 0 a (a+k) i1 i2).drew1);rw [← HG.o,← HG.o] at ae;have aa:=ab.o _ _ 0 k ae.o (by omega) (by decide);have HC:Hi (Calls prog 203 #[.slice (some ⟨blk,off,none⟩) m cap,.int .i64 0,.int .i64 (k:Nat),.int .i64 (a:Nat)] (((wr.setCell ⟨blk,off+a,none⟩ (.int .u64 (G (a+k)))).setCell ⟨blk,off+(a+k),none⟩ (.int .u64 (G a))).drew) fun e W'=>e=.returned (.tuple #[])∧Sq w0 blk off m W' (siftDown ltInt k a 0 (swp dj a (a+k)))):=aa;clear hz hO af HG ah ae aa;go_wp2_with fail;go_region;(all_goals go_wp2_with fail);refine HC.o.mono ?_;rintro e w2 ⟨rfl,ac⟩;have ag:=Zh ac;clear ac HC;go_wp2;go_roundw;exact ⟨k,(k:Int)-1,_,rfl,(show Hi _ from rfl),by omega,ag,HO⟩;simp only [intOf];omega
      · (obtain rfl:k=0:=by omega);have ae:=Zh ((ah.o.swap 0 a a i1 i1).drew1);rw [← HG.o] at ae;have aa:=ab.o _ _ 0 0 ae.o (by omega) (by decide);have HC:Hi (Calls prog 203 #[.slice (some ⟨blk,off,none⟩) m cap,.int .i64 0,.int .i64 0,.int .i64 (a:Nat)] (((wr.setCell ⟨blk,off+a,none⟩ (.int .u64 (G a))).setCell ⟨blk,off+a,none⟩ (.int .u64 (G a))).drew) fun e W'=>e=.returned (.tuple #[])∧Sq w0 blk off m W' (siftDown ltInt 0 a 0 (swp dj a (a+0)))):=aa;clear hz hO af HG ah ae aa;go_wp2_with fail;go_region;(all_goals go_wp2_with fail);refine HC.o.mono ?_;rintro e w2 ⟨rfl,ac⟩;have ag:=Zh ac;clear ac HC;go_wp2;go_roundw;exact ⟨0,-1,_,rfl,(show Hi _ from rfl),by omega,ag,HO⟩;simp only [intOf];omega
     | zero =>
      (obtain rfl:z = -1:=by have:=hz.o;omega);have HE:Hi (dj=heapSort ltInt d a b):=by
       show _=_;rw [ad.o,← hO.o];rfl
      clear hz hO;go_wp2_with fail;go_end0;exact⟨rfl,by rw [← HE.o];exact af.o⟩
open Go.RowKit Go.Sort
section
variable {α : Type} [Inhabited α]
theorem ZpU {p:α→Bool}{d:Array α}(h:i≤j)(hp:p d[i]! = true):scanUp p d j (i+1)=scanUp p d j i:=by
 conv=>rhs;rw [scanUp]
 rw [if_pos (by simp [h,hp])]
theorem Zed {p:α→Bool}{d:Array α}(h:¬i≤j∨p d[i]! = false):scanUp p d j i=i:=by
 rw [scanUp,if_neg];rcases h with h | h <;> simp [h]
theorem Ziq {p:α→Bool}{d:Array α}(h0:1≤j)(h:i≤j)(hp:p d[j]! = true):scanDown p d i (j-1)=scanDown p d i j:=by
 obtain⟨k,rfl⟩:∃k,j=k+1:=⟨j-1,by omega⟩
 conv=>rhs;rw [scanDown]
 rw [if_pos (by simp [h,hp])];rfl
theorem ZbD {p:α→Bool}{d:Array α}(h:¬i≤j∨p d[j]! = false):scanDown p d i j=j:=by
 cases j with
 | zero=>rw [scanDown]
 | succ k =>
  rw [scanDown,if_neg];rcases h with h | h <;> simp [h]
theorem scans {p q:α→Bool}(hq:∀x,q x = !p x)(d:Array α)(h0:0<i)(aa:i≤j+1):i≤scanUp p d j i∧scanUp p d j i≤j+1∧scanDown q d (scanUp p d j i) j≤j∧scanUp p d j i≤scanDown q d (scanUp p d j i) j+1∧(scanUp p d j i≤scanDown q d (scanUp p d j i) j→scanUp p d j i<scanDown q d (scanUp p d j i) j):=by
 obtain⟨h1,h2,h3,h4,_,_,h5⟩:=round_facts p q hq d (i-1) (j+1) i j (by omega) aa (fun t a b=>by omega) (fun t a b=>by omega);exact⟨h1,h2,h3,h4,fun h=>(h5 (by omega)).2.2⟩
end
theorem ZkK (w0 W:World)(blk off m cap a b pivot:Nat)(d:Array Int)(h:Sq w0 blk off m W d)(bf:a≤pivot)(bg:pivot<b)(hb:b≤m)(hm:m<1000000) :
    Calls prog 197 #[.slice (some ⟨blk,off,none⟩) m cap,.int .i64 (a:Nat),.int .i64 (b:Nat),.int .i64 (pivot:Nat)] W fun e W'=>(∃ap:Bool,e=.returned (.tuple #[.int .i64 ((partition ltInt d a b pivot).1:Nat),.bool ap]))∧Sq w0 blk off m W' (partition ltInt d a b pivot).2.2:=by
  rw [partition_fst,partition_arr];obtain⟨d1,aw⟩:∃d1,d1=swp d a pivot:=⟨_,rfl⟩;rw [← aw];obtain⟨R,hR⟩:∃R,R=partLoop ltInt a (a+1) (b-1) d1:=⟨_,rfl⟩;rw [← hR];have ar:=Zh aw;have HR:=Zh hR;have HS:=Zh h;clear h aw hR;go_enter func197,ntmps197;go_upto_region 1 with fail;go_cut [] from 12 (fun wx=>Hi (Sq w0 blk off m wx d1))
  case first =>
   obtain⟨G,hG⟩:∃G:Nat→Int,∀t,G t=d[t]!:=⟨fun t=>d[t]!,fun _=>rfl⟩;(have ah:∀t,t<m→W.cell? ⟨blk,off+t,none⟩=some (.int .u64 (G t)):=fun t ht=>by rw [hG];exact HS.o.cell t ht);have ai:∀t,t<m→W.frozen? ⟨blk,off+t,none⟩=false:=HS.o.fz;have HG:Hi (∀t,G t=d[t]!):=hG;have aa:=HS;clear hG;(have i1:a<m:=by omega);(have i2:pivot<m:=by omega);by_cases ba:a<pivot
   · have HX:=Zh (aa.o.swap 0 a pivot i1 i2).drew1;rw [← HG.o,← HG.o,← ar.o] at HX;clear aa HS HG;go_region;(all_goals go_wp2_with fail);go_meet
     case rel=>exact HX
   · (obtain rfl:pivot=a:=by omega);have HX:=Zh (aa.o.swap 0 pivot pivot i1 i1).drew1;rw [← HG.o,← ar.o] at HX;clear aa HS HG;go_region;(all_goals go_wp2_with fail);go_meet
     case rel=>exact HX
  case rest =>
   have ac:=hcut;clear hcut ar HS;go_upto_region 2 with fail;go_cut [10,11] from 12 (fun iv jv wx=>∃i0 j0:Nat,iv=.int .i64 (i0:Nat)∧jv=.int .i64 (j0:Nat)∧Hi (i0=a+1)∧Hi (j0+1=b)∧Hi (Sq w0 blk off m wx d1))
   case first =>
    go_wp2_with fail;go_meet
    case rel=>exact ⟨a+1,b-1,(by first | rfl | go_num | (congr 1;omega)),(by first | rfl | go_num | (congr 1;omega)),rfl,(show Hi _ from by show _=_;omega),ac⟩
   case rest =>
    clear ac;obtain⟨i0,j0,rfl,rfl,ao,aq,ac⟩:=hcut;have an:Hi (R=partLoop ltInt a i0 j0 d1):=by
     show _=_;rw [HR.o,ao.o,show b-1=j0 by have:=aq.o;omega]
    (have k1:a<i0:=by have:=ao.o;omega);(have k2:i0≤j0+1:=by have:=ao.o;have:=aq.o;omega);(have k3:j0<b:=by have:=aq.o;omega);(have k4:a≤j0:=by omega);clear HR ao aq;go_upto_block 0 with fail;go_cut [10] from 30 (fun iv wx=>∃I:Nat,iv=.int .i64 (I:Nat)∧Hi (I=scanUp (fun x=>ltInt x d1[a]!) d1 j0 i0)∧Hi (Sq w0 blk off m wx d1))
    case first =>
     go_wp2_with fail;go_loopw [10] (fun vi wr_=>∃iu:Nat,vi=.int .i64 (iu:Nat)∧i0≤iu∧iu≤j0+1∧Hi (Sq w0 blk off m wr_ d1)∧Hi (scanUp (fun x=>ltInt x d1[a]!) d1 j0 iu=scanUp (fun x=>ltInt x d1[a]!) d1 j0 i0)) (fun vi _=>j0+1-(intOf vi).toNat)
     case atStart=>exact ⟨i0,rfl,Nat.le_refl _,by omega,ac,rfl⟩
     case round =>
      rename World=>wr_;obtain⟨iu,rfl,au,av,ab,hO⟩:=hrel;by_cases hc:iu≤j0
      · (have ak:(iu:Int)≤(j0:Int):=by omega);obtain⟨G,hG⟩:∃G:Nat→Int,∀t,G t=d1[t]!:=⟨fun t=>d1[t]!,fun _=>rfl⟩;(have ah:∀t,t<m→wr_.cell? ⟨blk,off+t,none⟩=some (.int .u64 (G t)):=fun t ht=>by rw [hG];exact ab.o.cell t ht);have ai:∀t,t<m→wr_.frozen? ⟨blk,off+t,none⟩=false:=ab.o.fz;have HG:Hi (∀t,G t=d1[t]!):=hG;have aa:=ab;clear hG;(have i1:iu<m:=by omega);(have i2:a<m:=by omega);have HD:Hi (∀q,Sq w0 blk off m (wr_.drewN q) d1):=aa.o.drewN;clear aa ab;cases hl:ltInt (G iu) (G a) with
        | true =>
         (have aj:Hi (scanUp (fun x=>ltInt x d1[a]!) d1 j0 (iu+1)=scanUp (fun x=>ltInt x d1[a]!) d1 j0 i0):=by show _=_;rw [ZpU hc (by simp only [← HG.o];simp [hl])];exact hO.o);clear hO HG;go_wp2_with fail;go_quiet (first | (go_at_call 195;refine Calls.quiet_of_same (Zag _ _ _)));go_wp2;go_roundw;exact ⟨iu+1,by go_num,by omega,by omega,HD.o _,aj⟩;simp only [intOf];omega
        | false =>
         (have HE:Hi (iu=scanUp (fun x=>ltInt x d1[a]!) d1 j0 i0):=by show _=_;rw [← hO.o,Zed (.inr (by simp only [← HG.o];simp [hl]))]);clear hO HG;go_wp2_with fail;go_quiet (first | (go_at_call 195;refine Calls.quiet_of_same (Zag _ _ _)));go_wp2_with fail;go_meet
         case rel=>exact ⟨iu,rfl,HE,HD.o _⟩
      · have ak:decide ((iu:Int)≤(j0:Int))=false:=decide_eq_false (by omega);(have HE:Hi (iu=scanUp (fun x=>ltInt x d1[a]!) d1 j0 i0):=by show _=_;rw [← hO.o,Zed (.inl hc)]);have HD:Hi (∀q,Sq w0 blk off m (wr_.drewN q) d1):=ab.o.drewN;clear hO ab;go_wp2_with fail;go_quiet (first | (go_at_call 195;refine Calls.quiet_of_same (Zag _ _ _)));go_wp2_with fail;go_meet
        case rel=>exact ⟨iu,rfl,HE,HD.o _⟩
    case rest =>
     clear ac;obtain⟨I,rfl,HI,ac⟩:=hcut;have ag:=scans (p:=fun x=>ltInt x d1[a]!) (q:=fun x=>!ltInt x d1[a]!) (fun x=>rfl) d1 (i:=i0) (j:=j0) (by omega) k2;have al:=partLoop_eq ltInt a i0 j0 d1;rw [← HI.o] at ag al;have af:=Zh ag;have ae:=Zh al;have k5:=ag.1;have k6:=ag.2.1;clear ag al;go_upto_block 2 with fail;go_cut [11] from 44 (fun jv wx=>∃J:Nat,jv=.int .i64 (J:Nat)∧Hi (J=scanDown (fun x=>!ltInt x d1[a]!) d1 I j0)∧Hi (Sq w0 blk off m wx d1))
     case first =>
      go_wp2_with fail;go_loopw [11] (fun vi wr_=>∃jd:Nat,vi=.int .i64 (jd:Nat)∧I≤jd+1∧jd≤j0∧Hi (Sq w0 blk off m wr_ d1)∧Hi (scanDown (fun x=>!ltInt x d1[a]!) d1 I jd=scanDown (fun x=>!ltInt x d1[a]!) d1 I j0)) (fun vi _=>(intOf vi).toNat)
      case atStart=>exact ⟨j0,rfl,by omega,Nat.le_refl _,ac,rfl⟩
      case round =>
       rename World=>wr_;obtain⟨jd,rfl,au,av,ab,hO⟩:=hrel;by_cases hc:I≤jd
       · (have ak:(I:Int)≤(jd:Int):=by omega);obtain⟨G,hG⟩:∃G:Nat→Int,∀t,G t=d1[t]!:=⟨fun t=>d1[t]!,fun _=>rfl⟩;(have ah:∀t,t<m→wr_.cell? ⟨blk,off+t,none⟩=some (.int .u64 (G t)):=fun t ht=>by rw [hG];exact ab.o.cell t ht);have ai:∀t,t<m→wr_.frozen? ⟨blk,off+t,none⟩=false:=ab.o.fz;have HG:Hi (∀t,G t=d1[t]!):=hG;have aa:=ab;clear hG;(have i1:jd<m:=by omega);(have i2:a<m:=by omega);have HD:Hi (∀q,Sq w0 blk off m (wr_.drewN q) d1):=aa.o.drewN;clear aa ab;cases hl:ltInt (G jd) (G a) with
         | false =>
          (have aj:Hi (scanDown (fun x=>!ltInt x d1[a]!) d1 I (jd-1)=scanDown (fun x=>!ltInt x d1[a]!) d1 I j0):=by show _=_;rw [Ziq (by omega) hc (by simp only [← HG.o];simp [hl])];exact hO.o);clear hO HG;go_wp2_with fail;go_quiet (first | (go_at_call 195;refine Calls.quiet_of_same (Zag _ _ _)));go_wp2;go_roundw;exact ⟨jd-1,by congr 1;omega,by omega,by omega,HD.o _,aj⟩;simp only [intOf];omega
         | true =>
          (have HE:Hi (jd=scanDown (fun x=>!ltInt x d1[a]!) d1 I j0):=by show _=_;rw [← hO.o,ZbD (.inr (by simp only [← HG.o];simp [hl]))]);clear hO HG;go_wp2_with fail;go_quiet (first | (go_at_call 195;refine Calls.quiet_of_same (Zag _ _ _)));go_wp2_with fail;go_meet
          case rel=>exact ⟨jd,rfl,HE,HD.o _⟩
       · have ak:decide ((I:Int)≤(jd:Int))=false:=decide_eq_false (by omega);(have HE:Hi (jd=scanDown (fun x=>!ltInt x d1[a]!) d1 I j0):=by show _=_;rw [← hO.o,ZbD (.inl hc)]);have HD:Hi (∀q,Sq w0 blk off m (wr_.drewN q) d1):=ab.o.drewN;clear hO ab;go_wp2_with fail;go_quiet (first | (go_at_call 195;refine Calls.quiet_of_same (Zag _ _ _)));go_wp2_with fail;go_meet
         case rel=>exact ⟨jd,rfl,HE,HD.o _⟩
     case rest =>
      clear ac;obtain⟨J,rfl,HJ,ac⟩:=hcut;rw [← HJ.o] at af ae;have k7:=af.o.2.2.1;have k8:=af.o.2.2.2.1;have k9:=af.o.2.2.2.2;clear af;by_cases az:J<I
      · have HV:Hi (R=(J,d1)):=by
         show _=_;rw [an.o,ae.o,if_pos az]
        (have bc:(J:Int)<(I:Int):=by omega);(have k10:a≤J:=by omega);clear ae an k9;go_upto_region 8 with fail;go_cut [] from 66 (fun wx=>Hi (Sq w0 blk off m wx (swp d1 J a)))
        case first =>
         rename World=>wz;obtain⟨G,hG⟩:∃G:Nat→Int,∀t,G t=d1[t]!:=⟨fun t=>d1[t]!,fun _=>rfl⟩;(have ah:∀t,t<m→wz.cell? ⟨blk,off+t,none⟩=some (.int .u64 (G t)):=fun t ht=>by rw [hG];exact ac.o.cell t ht);have ai:∀t,t<m→wz.frozen? ⟨blk,off+t,none⟩=false:=ac.o.fz;have HG:Hi (∀t,G t=d1[t]!):=hG;have aa:=ac;clear hG;(have i1:J<m:=by omega);(have i2:a<m:=by omega);by_cases ba:a<J
         · have HX:=Zh (aa.o.swap 0 J a i1 i2).drew1;rw [← HG.o,← HG.o] at HX;clear aa ac HG;go_region;(all_goals go_wp2_with fail);go_meet
           case rel=>exact HX
         · (obtain rfl:J=a:=by omega);have HX:=Zh (aa.o.swap 0 J J i1 i1).drew1;rw [← HG.o] at HX;clear aa ac HG;go_region;(all_goals go_wp2_with fail);go_meet
           case rel=>exact HX
        case rest =>
         have bd:=hcut;clear ac;go_wp2;go_ret2;rw [HV.o];exact⟨⟨true,rfl⟩,bd.o⟩
      · (have bc:¬(J:Int)<(I:Int):=by omega);have HV:Hi (partLoop ltInt a (I+1) (J-1) (swp d1 I J)=R):=by
         show _=_;rw [an.o,ae.o,if_neg az]
        have k10:=k9 (by omega);obtain⟨G,hG⟩:∃G:Nat→Int,∀t,G t=d1[t]!:=⟨fun t=>d1[t]!,fun _=>rfl⟩;(have ah:∀t,t<m→wc.cell? ⟨blk,off+t,none⟩=some (.int .u64 (G t)):=fun t ht=>by rw [hG];exact ac.o.cell t ht);have ai:∀t,t<m→wc.frozen? ⟨blk,off+t,none⟩=false:=ac.o.fz;have HG:Hi (∀t,G t=d1[t]!):=hG;have aa:=ac;clear hG;(have i1:I<m:=by omega);(have i2:J<m:=by omega);have HX:=Zh (aa.o.swap 0 I J i1 i2).drew1;rw [← HG.o,← HG.o] at HX;clear aa ac HG ae an k9;go_upto_region 10 with fail;go_region;(all_goals go_wp2_with fail);go_loopw [10,11] (fun vi vj wr=>∃(i j:Nat) (dk:Array Int),vi=.int .i64 (i:Nat)∧vj=.int .i64 (j:Nat)∧a<i∧i≤j+1∧j<b∧Hi (Sq w0 blk off m wr dk)∧Hi (partLoop ltInt a i j dk=R)) (fun vi vj _=>(intOf vj).toNat+1-(intOf vi).toNat)
        case atStart=>exact ⟨I+1,J-1,_,by go_num,by congr 1;omega,by omega,by omega,by omega,HX,HV⟩
        case round =>
         clear HX HV ah ai;obtain⟨i,j,dk,rfl,rfl,m1,m2,m3,ad,hO⟩:=hrel;(have m4:a≤j:=by omega);go_upto_block 6 with fail;go_cut [10] from 99 to 152 (fun iv wx=>∃I:Nat,iv=.int .i64 (I:Nat)∧Hi (I=scanUp (fun x=>ltInt x dk[a]!) dk j i)∧Hi (Sq w0 blk off m wx dk))
         case first =>
          go_wp2_with fail;go_loopw [10] (fun vi wr_=>∃iu:Nat,vi=.int .i64 (iu:Nat)∧i≤iu∧iu≤j+1∧Hi (Sq w0 blk off m wr_ dk)∧Hi (scanUp (fun x=>ltInt x dk[a]!) dk j iu=scanUp (fun x=>ltInt x dk[a]!) dk j i)) (fun vi _=>j+1-(intOf vi).toNat)
          case atStart=>exact ⟨i,rfl,Nat.le_refl _,by omega,ad,rfl⟩
          case round =>
           rename World=>wr_;obtain⟨iu,rfl,au,av,ab,hO⟩:=hrel;by_cases hc:iu≤j
           · (have ak:(iu:Int)≤(j:Int):=by omega);obtain⟨G,hG⟩:∃G:Nat→Int,∀t,G t=dk[t]!:=⟨fun t=>dk[t]!,fun _=>rfl⟩;(have ah:∀t,t<m→wr_.cell? ⟨blk,off+t,none⟩=some (.int .u64 (G t)):=fun t ht=>by rw [hG];exact ab.o.cell t ht);have ai:∀t,t<m→wr_.frozen? ⟨blk,off+t,none⟩=false:=ab.o.fz;have HG:Hi (∀t,G t=dk[t]!):=hG;have aa:=ab;clear hG;(have i1:iu<m:=by omega);(have i2:a<m:=by omega);have HD:Hi (∀q,Sq w0 blk off m (wr_.drewN q) dk):=aa.o.drewN;clear aa ab;cases hl:ltInt (G iu) (G a) with
             | true =>
              (have aj:Hi (scanUp (fun x=>ltInt x dk[a]!) dk j (iu+1)=scanUp (fun x=>ltInt x dk[a]!) dk j i):=by show _=_;rw [ZpU hc (by simp only [← HG.o];simp [hl])];exact hO.o);clear hO HG;go_wp2_with fail;go_quiet (first | (go_at_call 195;refine Calls.quiet_of_same (Zag _ _ _)));go_wp2;go_roundw;exact ⟨iu+1,by go_num,by omega,by omega,HD.o _,aj⟩;simp only [intOf];omega
             | false =>
              (have HE:Hi (iu=scanUp (fun x=>ltInt x dk[a]!) dk j i):=by show _=_;rw [← hO.o,Zed (.inr (by simp only [← HG.o];simp [hl]))]);clear hO HG;go_wp2_with fail;go_quiet (first | (go_at_call 195;refine Calls.quiet_of_same (Zag _ _ _)));go_wp2_with fail;go_meet
              case rel=>exact ⟨iu,rfl,HE,HD.o _⟩
           · have ak:decide ((iu:Int)≤(j:Int))=false:=decide_eq_false (by omega);(have HE:Hi (iu=scanUp (fun x=>ltInt x dk[a]!) dk j i):=by show _=_;rw [← hO.o,Zed (.inl hc)]);have HD:Hi (∀q,Sq w0 blk off m (wr_.drewN q) dk):=ab.o.drewN;clear hO ab;go_wp2_with fail;go_quiet (first | (go_at_call 195;refine Calls.quiet_of_same (Zag _ _ _)));go_wp2_with fail;go_meet
             case rel=>exact ⟨iu,rfl,HE,HD.o _⟩
         case rest =>
          clear ad;obtain⟨I2,rfl,ay,ad⟩:=hcut;have ag:=scans (p:=fun x=>ltInt x dk[a]!) (q:=fun x=>!ltInt x dk[a]!) (fun x=>rfl) dk (i:=i) (j:=j) (by omega) m2;have al:=partLoop_eq ltInt a i j dk;rw [hO.o,← ay.o] at al;rw [← ay.o] at ag;have af:=Zh ag;have ae:=Zh al;have m5:=ag.1;have m6:=ag.2.1;clear ag al hO;go_upto_block 8 with fail;go_cut [11] from 99 to 152 (fun jv wx=>∃J:Nat,jv=.int .i64 (J:Nat)∧Hi (J=scanDown (fun x=>!ltInt x dk[a]!) dk I2 j)∧Hi (Sq w0 blk off m wx dk))
          case first =>
           go_wp2_with fail;go_loopw [11] (fun vi wr_=>∃jd:Nat,vi=.int .i64 (jd:Nat)∧I2≤jd+1∧jd≤j∧Hi (Sq w0 blk off m wr_ dk)∧Hi (scanDown (fun x=>!ltInt x dk[a]!) dk I2 jd=scanDown (fun x=>!ltInt x dk[a]!) dk I2 j)) (fun vi _=>(intOf vi).toNat)
           case atStart=>exact ⟨j,rfl,by omega,Nat.le_refl _,ad,rfl⟩
           case round =>
            rename World=>wr_;obtain⟨jd,rfl,au,av,ab,hO⟩:=hrel;by_cases hc:I2≤jd
            · (have ak:(I2:Int)≤(jd:Int):=by omega);obtain⟨G,hG⟩:∃G:Nat→Int,∀t,G t=dk[t]!:=⟨fun t=>dk[t]!,fun _=>rfl⟩;(have ah:∀t,t<m→wr_.cell? ⟨blk,off+t,none⟩=some (.int .u64 (G t)):=fun t ht=>by rw [hG];exact ab.o.cell t ht);have ai:∀t,t<m→wr_.frozen? ⟨blk,off+t,none⟩=false:=ab.o.fz;have HG:Hi (∀t,G t=dk[t]!):=hG;have aa:=ab;clear hG;(have i1:jd<m:=by omega);(have i2:a<m:=by omega);have HD:Hi (∀q,Sq w0 blk off m (wr_.drewN q) dk):=aa.o.drewN;clear aa ab;cases hl:ltInt (G jd) (G a) with
              | false =>
               (have aj:Hi (scanDown (fun x=>!ltInt x dk[a]!) dk I2 (jd-1)=scanDown (fun x=>!ltInt x dk[a]!) dk I2 j):=by show _=_;rw [Ziq (by omega) hc (by simp only [← HG.o];simp [hl])];exact hO.o);clear hO HG;go_wp2_with fail;go_quiet (first | (go_at_call 195;refine Calls.quiet_of_same (Zag _ _ _)));go_wp2;go_roundw;exact ⟨jd-1,by congr 1;omega,by omega,by omega,HD.o _,aj⟩;simp only [intOf];omega
              | true =>
               (have HE:Hi (jd=scanDown (fun x=>!ltInt x dk[a]!) dk I2 j):=by show _=_;rw [← hO.o,ZbD (.inr (by simp only [← HG.o];simp [hl]))]);clear hO HG;go_wp2_with fail;go_quiet (first | (go_at_call 195;refine Calls.quiet_of_same (Zag _ _ _)));go_wp2_with fail;go_meet
               case rel=>exact ⟨jd,rfl,HE,HD.o _⟩
            · have ak:decide ((I2:Int)≤(jd:Int))=false:=decide_eq_false (by omega);(have HE:Hi (jd=scanDown (fun x=>!ltInt x dk[a]!) dk I2 j):=by show _=_;rw [← hO.o,ZbD (.inl hc)]);have HD:Hi (∀q,Sq w0 blk off m (wr_.drewN q) dk):=ab.o.drewN;clear hO ab;go_wp2_with fail;go_quiet (first | (go_at_call 195;refine Calls.quiet_of_same (Zag _ _ _)));go_wp2_with fail;go_meet
              case rel=>exact ⟨jd,rfl,HE,HD.o _⟩
          case rest =>
           clear ad;obtain⟨J2,rfl,bb,ad⟩:=hcut;rw [← bb.o] at af ae;have m7:=af.o.2.2.1;have m8:=af.o.2.2.2.1;have m9:=af.o.2.2.2.2;clear af;by_cases am:J2<I2
           · have HV:Hi (R=(J2,dk)):=by
              show _=_;rw [ae.o,if_pos am]
             (have ax:(J2:Int)<(I2:Int):=by omega);(have k10:a≤J2:=by omega);clear ae m9;go_upto_region 21 with fail;go_upto_region 21 with fail;go_cut [] from 153 (fun wx=>Hi (Sq w0 blk off m wx (swp dk J2 a)))
             case first =>
              rename World=>wz;obtain⟨G,hG⟩:∃G:Nat→Int,∀t,G t=dk[t]!:=⟨fun t=>dk[t]!,fun _=>rfl⟩;(have ah:∀t,t<m→wz.cell? ⟨blk,off+t,none⟩=some (.int .u64 (G t)):=fun t ht=>by rw [hG];exact ad.o.cell t ht);have ai:∀t,t<m→wz.frozen? ⟨blk,off+t,none⟩=false:=ad.o.fz;have HG:Hi (∀t,G t=dk[t]!):=hG;have aa:=ad;clear hG;(have i1:J2<m:=by omega);(have i2:a<m:=by omega);by_cases ba:a<J2
              · have HX:=Zh (aa.o.swap 0 J2 a i1 i2).drew1;rw [← HG.o,← HG.o] at HX;clear aa ad HG;go_region;(all_goals go_wp2_with fail);go_meet
                case rel=>exact HX
              · (obtain rfl:J2=a:=by omega);have HX:=Zh (aa.o.swap 0 J2 J2 i1 i1).drew1;rw [← HG.o] at HX;clear aa ad HG;go_region;(all_goals go_wp2_with fail);go_meet
                case rel=>exact HX
             case rest =>
              have be:=hcut;clear ad;go_wp2;go_ret2;rw [HV.o];exact⟨⟨false,rfl⟩,be.o⟩
           · (have ax:¬(J2:Int)<(I2:Int):=by omega);have HV:Hi (partLoop ltInt a (I2+1) (J2-1) (swp dk I2 J2)=R):=by
              show _=_;rw [ae.o,if_neg am]
             have m10:=m9 (by omega);obtain⟨G,hG⟩:∃G:Nat→Int,∀t,G t=dk[t]!:=⟨fun t=>dk[t]!,fun _=>rfl⟩;(have ah:∀t,t<m→wc.cell? ⟨blk,off+t,none⟩=some (.int .u64 (G t)):=fun t ht=>by rw [hG];exact ad.o.cell t ht);have ai:∀t,t<m→wc.frozen? ⟨blk,off+t,none⟩=false:=ad.o.fz;have HG:Hi (∀t,G t=dk[t]!):=hG;have aa:=ad;clear hG;(have i1:I2<m:=by omega);(have i2:J2<m:=by omega);have HX:=Zh (aa.o.swap 0 I2 J2 i1 i2).drew1;rw [← HG.o,← HG.o] at HX;clear aa ad HG ae m9;go_upto_region 18 with fail;go_region;(all_goals go_wp2_with fail);go_roundw;exact ⟨I2+1,J2-1,_,by go_num,by congr 1;omega,by omega,by omega,by omega,HX,HV⟩;simp only [intOf];omega
theorem ZhE (w0 W:World)(blk off m cap a b pivot:Nat)(d:Array Int)(h:Sq w0 blk off m W d)(aw:a≤pivot)(ay:pivot<b)(hb:b≤m)(hm:m<1000000) :
    Calls prog 196 #[.slice (some ⟨blk,off,none⟩) m cap,.int .i64 (a:Nat),.int .i64 (b:Nat),.int .i64 (pivot:Nat)] W fun e W'=>e=.returned (.int .i64 ((partitionEqual ltInt d a b pivot).1:Nat))∧Sq w0 blk off m W' (partitionEqual ltInt d a b pivot).2:=by
  unfold partitionEqual;obtain⟨d1,al⟩:∃d1,d1=swp d a pivot:=⟨_,rfl⟩;rw [← al];obtain⟨R,hR⟩:∃R,R=partEqLoop ltInt a (a+1) (b-1) d1:=⟨_,rfl⟩;rw [← hR];have ah:=Zh al;have HR:=Zh hR;have HS:=Zh h;clear h al hR;go_enter func196,ntmps196;go_upto_region 1 with fail;go_cut [] from 11 (fun wx=>Hi (Sq w0 blk off m wx d1))
  case first =>
   obtain⟨G,hG⟩:∃G:Nat→Int,∀t,G t=d[t]!:=⟨fun t=>d[t]!,fun _=>rfl⟩;(have aj:∀t,t<m→W.cell? ⟨blk,off+t,none⟩=some (.int .u64 (G t)):=fun t ht=>by rw [hG];exact HS.o.cell t ht);have an:∀t,t<m→W.frozen? ⟨blk,off+t,none⟩=false:=HS.o.fz;have HG:Hi (∀t,G t=d[t]!):=hG;have aa:=HS;clear hG;(have i1:a<m:=by omega);(have i2:pivot<m:=by omega);by_cases ax:a<pivot
   · have HX:=Zh (aa.o.swap 0 a pivot i1 i2).drew1;rw [← HG.o,← HG.o,← ah.o] at HX;clear aa HS HG;go_region;(all_goals go_wp2_with fail);go_meet
     case rel=>exact HX
   · (obtain rfl:pivot=a:=by omega);have HX:=Zh (aa.o.swap 0 pivot pivot i1 i1).drew1;rw [← HG.o,← ah.o] at HX;clear aa HS HG;go_region;(all_goals go_wp2_with fail);go_meet
     case rel=>exact HX
  case rest =>
   have aq:=hcut;clear hcut ah HS;go_wp2_with fail;go_loopw [9,10] (fun vi vj wr=>∃(i j:Nat) (dk:Array Int),vi=.int .i64 (i:Nat)∧vj=.int .i64 (j:Nat)∧a<i∧i≤j+1∧j<b∧Hi (Sq w0 blk off m wr dk)∧Hi (partEqLoop ltInt a i j dk=R)) (fun vi vj _=>(intOf vj).toNat+1-(intOf vi).toNat)
   case atStart=>exact ⟨a+1,b-1,d1,by go_num,by congr 1;omega,by omega,by omega,by omega,aq,Zh HR.o.symm⟩
   case round =>
    clear aq HR;obtain⟨i,j,dk,rfl,rfl,m1,m2,m3,ac,hO⟩:=hrel;(have m4:a≤j:=by omega);go_upto_block 2 with fail;go_cut [9] from 29 to 82 (fun iv wx=>∃I:Nat,iv=.int .i64 (I:Nat)∧Hi (I=scanUp (fun x=>!ltInt dk[a]! x) dk j i)∧Hi (Sq w0 blk off m wx dk))
    case first =>
     go_wp2_with fail;go_loopw [9] (fun vi wr_=>∃iu:Nat,vi=.int .i64 (iu:Nat)∧i≤iu∧iu≤j+1∧Hi (Sq w0 blk off m wr_ dk)∧Hi (scanUp (fun x=>!ltInt dk[a]! x) dk j iu=scanUp (fun x=>!ltInt dk[a]! x) dk j i)) (fun vi _=>j+1-(intOf vi).toNat)
     case atStart=>exact ⟨i,rfl,Nat.le_refl _,by omega,ac,rfl⟩
     case round =>
      rename World=>wr_;obtain⟨iu,rfl,au,av,ab,hO⟩:=hrel;by_cases hc:iu≤j
      · (have ak:(iu:Int)≤(j:Int):=by omega);obtain⟨G,hG⟩:∃G:Nat→Int,∀t,G t=dk[t]!:=⟨fun t=>dk[t]!,fun _=>rfl⟩;(have aj:∀t,t<m→wr_.cell? ⟨blk,off+t,none⟩=some (.int .u64 (G t)):=fun t ht=>by rw [hG];exact ab.o.cell t ht);have an:∀t,t<m→wr_.frozen? ⟨blk,off+t,none⟩=false:=ab.o.fz;have HG:Hi (∀t,G t=dk[t]!):=hG;have aa:=ab;clear hG;(have i1:iu<m:=by omega);(have i2:a<m:=by omega);have HD:Hi (∀q,Sq w0 blk off m (wr_.drewN q) dk):=aa.o.drewN;clear aa ab;cases hl:ltInt (G a) (G iu) with
        | false =>
         (have ai:Hi (scanUp (fun x=>!ltInt dk[a]! x) dk j (iu+1)=scanUp (fun x=>!ltInt dk[a]! x) dk j i):=by show _=_;rw [ZpU hc (by simp only [← HG.o];simp [hl])];exact hO.o);clear hO HG;go_wp2_with fail;go_quiet (first | (go_at_call 195;refine Calls.quiet_of_same (Zag _ _ _)));go_wp2;go_roundw;exact ⟨iu+1,by go_num,by omega,by omega,HD.o _,ai⟩;simp only [intOf];omega
        | true =>
         (have HE:Hi (iu=scanUp (fun x=>!ltInt dk[a]! x) dk j i):=by show _=_;rw [← hO.o,Zed (.inr (by simp only [← HG.o];simp [hl]))]);clear hO HG;go_wp2_with fail;go_quiet (first | (go_at_call 195;refine Calls.quiet_of_same (Zag _ _ _)));go_wp2_with fail;go_meet
         case rel=>exact ⟨iu,rfl,HE,HD.o _⟩
      · have ak:decide ((iu:Int)≤(j:Int))=false:=decide_eq_false (by omega);(have HE:Hi (iu=scanUp (fun x=>!ltInt dk[a]! x) dk j i):=by show _=_;rw [← hO.o,Zed (.inl hc)]);have HD:Hi (∀q,Sq w0 blk off m (wr_.drewN q) dk):=ab.o.drewN;clear hO ab;go_wp2_with fail;go_quiet (first | (go_at_call 195;refine Calls.quiet_of_same (Zag _ _ _)));go_wp2_with fail;go_meet
        case rel=>exact ⟨iu,rfl,HE,HD.o _⟩
    case rest =>
     clear ac;obtain⟨I2,rfl,ap,ac⟩:=hcut;have ag:=scans (p:=fun x=>!ltInt dk[a]! x) (q:=fun x=>ltInt dk[a]! x) (fun x=>by simp) dk (i:=i) (j:=j) (by omega) m2;have am:=partEqLoop_eq ltInt a i j dk;rw [hO.o,← ap.o] at am;rw [← ap.o] at ag;have ae:=Zh ag;have ad:=Zh am;have m5:=ag.1;have m6:=ag.2.1;clear ag am hO;go_upto_block 4 with fail;go_cut [10] from 29 to 82 (fun jv wx=>∃J:Nat,jv=.int .i64 (J:Nat)∧Hi (J=scanDown (fun x=>ltInt dk[a]! x) dk I2 j)∧Hi (Sq w0 blk off m wx dk))
     case first =>
      go_wp2_with fail;go_loopw [10] (fun vi wr_=>∃jd:Nat,vi=.int .i64 (jd:Nat)∧I2≤jd+1∧jd≤j∧Hi (Sq w0 blk off m wr_ dk)∧Hi (scanDown (fun x=>ltInt dk[a]! x) dk I2 jd=scanDown (fun x=>ltInt dk[a]! x) dk I2 j)) (fun vi _=>(intOf vi).toNat)
      case atStart=>exact ⟨j,rfl,by omega,Nat.le_refl _,ac,rfl⟩
      case round =>
       rename World=>wr_;obtain⟨jd,rfl,au,av,ab,hO⟩:=hrel;by_cases hc:I2≤jd
       · (have ak:(I2:Int)≤(jd:Int):=by omega);obtain⟨G,hG⟩:∃G:Nat→Int,∀t,G t=dk[t]!:=⟨fun t=>dk[t]!,fun _=>rfl⟩;(have aj:∀t,t<m→wr_.cell? ⟨blk,off+t,none⟩=some (.int .u64 (G t)):=fun t ht=>by rw [hG];exact ab.o.cell t ht);have an:∀t,t<m→wr_.frozen? ⟨blk,off+t,none⟩=false:=ab.o.fz;have HG:Hi (∀t,G t=dk[t]!):=hG;have aa:=ab;clear hG;(have i1:jd<m:=by omega);(have i2:a<m:=by omega);have HD:Hi (∀q,Sq w0 blk off m (wr_.drewN q) dk):=aa.o.drewN;clear aa ab;cases hl:ltInt (G a) (G jd) with
         | true =>
          (have ai:Hi (scanDown (fun x=>ltInt dk[a]! x) dk I2 (jd-1)=scanDown (fun x=>ltInt dk[a]! x) dk I2 j):=by show _=_;rw [Ziq (by omega) hc (by simp only [← HG.o];simp [hl])];exact hO.o);clear hO HG;go_wp2_with fail;go_quiet (first | (go_at_call 195;refine Calls.quiet_of_same (Zag _ _ _)));go_wp2;go_roundw;exact ⟨jd-1,by congr 1;omega,by omega,by omega,HD.o _,ai⟩;simp only [intOf];omega
         | false =>
          (have HE:Hi (jd=scanDown (fun x=>ltInt dk[a]! x) dk I2 j):=by show _=_;rw [← hO.o,ZbD (.inr (by simp only [← HG.o];simp [hl]))]);clear hO HG;go_wp2_with fail;go_quiet (first | (go_at_call 195;refine Calls.quiet_of_same (Zag _ _ _)));go_wp2_with fail;go_meet
          case rel=>exact ⟨jd,rfl,HE,HD.o _⟩
       · have ak:decide ((I2:Int)≤(jd:Int))=false:=decide_eq_false (by omega);(have HE:Hi (jd=scanDown (fun x=>ltInt dk[a]! x) dk I2 j):=by show _=_;rw [← hO.o,ZbD (.inl hc)]);have HD:Hi (∀q,Sq w0 blk off m (wr_.drewN q) dk):=ab.o.drewN;clear hO ab;go_wp2_with fail;go_quiet (first | (go_at_call 195;refine Calls.quiet_of_same (Zag _ _ _)));go_wp2_with fail;go_meet
         case rel=>exact ⟨jd,rfl,HE,HD.o _⟩
     case rest =>
      clear ac;obtain⟨J2,rfl,ar,ac⟩:=hcut;rw [← ar.o] at ae ad;have m7:=ae.o.2.2.1;have m8:=ae.o.2.2.2.1;have m9:=ae.o.2.2.2.2;clear ae;by_cases af:J2<I2
      · have HV:Hi (R=(I2,dk)):=by
         show _=_;rw [ad.o,if_pos af]
        (have ao:(J2:Int)<(I2:Int):=by omega);clear ad m9;go_wp2;go_ret;rw [HV.o];exact⟨rfl,ac.o⟩
      · (have ao:¬(J2:Int)<(I2:Int):=by omega);have HV:Hi (partEqLoop ltInt a (I2+1) (J2-1) (swp dk I2 J2)=R):=by
         show _=_;rw [ad.o,if_neg af]
        have m10:=m9 (by omega);obtain⟨G,hG⟩:∃G:Nat→Int,∀t,G t=dk[t]!:=⟨fun t=>dk[t]!,fun _=>rfl⟩;(have aj:∀t,t<m→wc.cell? ⟨blk,off+t,none⟩=some (.int .u64 (G t)):=fun t ht=>by rw [hG];exact ac.o.cell t ht);have an:∀t,t<m→wc.frozen? ⟨blk,off+t,none⟩=false:=ac.o.fz;have HG:Hi (∀t,G t=dk[t]!):=hG;have aa:=ac;clear hG;(have i1:I2<m:=by omega);(have i2:J2<m:=by omega);have HX:=Zh (aa.o.swap 0 I2 J2 i1 i2).drew1;rw [← HG.o,← HG.o] at HX;clear aa ac HG ad m9;go_upto_region 8 with fail;go_region;(all_goals go_wp2_with fail);go_roundw;exact ⟨I2+1,J2-1,_,by go_num,by congr 1;omega,by omega,by omega,by omega,HX,HV⟩;simp only [intOf];omega
theorem Zmw (w0 W:World)(blk off m cap a b:Nat)(d:Array Int)(h:Sq w0 blk off m W d)(ad:a<b)(hb:b≤m)(hm:m<1000000) :
    Calls prog 193 #[.slice (some ⟨blk,off,none⟩) m cap,.int .i64 (a:Nat),.int .i64 (b:Nat)] W fun e W'=>e=.returned (.tuple #[])∧Sq w0 blk off m W' (reverseRange d a b):=by
  have HS:=Zh h;clear h;unfold reverseRange;go_enter func193,ntmps193;go_wp2_with fail;go_loopw [6,7] (fun vi vj wr=>∃(i j:Nat) (dk:Array Int),vi=.int .i64 (i:Nat)∧vj=.int .i64 (j:Nat)∧j<b∧Hi (Sq w0 blk off m wr dk)∧Hi (reverseLoop i j dk=reverseLoop a (b-1) d)) (fun vi vj _=>(intOf vj).toNat-(intOf vi).toNat)
  case atStart=>exact ⟨a,b-1,d,rfl,by congr 1;omega,by omega,HS,rfl⟩
  case round =>
   obtain⟨i,j,dk,rfl,rfl,m1,aa,hO⟩:=hrel;by_cases ac:i<j
   · (have hz:(i:Int)<(j:Int):=by omega);have HV:Hi (reverseLoop (i+1) (j-1) (swp dk i j)=reverseLoop a (b-1) d):=by
      show _=_;rw [← hO.o]
      conv=>rhs;rw [reverseLoop]
      rw [if_pos ac]
     obtain⟨G,hG⟩:∃G:Nat→Int,∀t,G t=dk[t]!:=⟨fun t=>dk[t]!,fun _=>rfl⟩;(have ae:∀t,t<m→wr.cell? ⟨blk,off+t,none⟩=some (.int .u64 (G t)):=fun t ht=>by rw [hG];exact aa.o.cell t ht);have af:∀t,t<m→wr.frozen? ⟨blk,off+t,none⟩=false:=aa.o.fz;have HG:Hi (∀t,G t=dk[t]!):=hG;have ab:=aa;clear hG;(have i1:i<m:=by omega);(have i2:j<m:=by omega);have HX:=Zh (ab.o.swap 0 i j i1 i2).drew1;rw [← HG.o,← HG.o] at HX;clear ab aa HG hO;go_wp2_with fail;go_region;(all_goals go_wp2_with fail);go_roundw;exact ⟨i+1,j-1,_,by go_num,by congr 1;omega,by omega,HX,HV⟩;simp only [intOf];omega
   · (have hz:¬(i:Int)<(j:Int):=by omega);have HV:Hi (dk=reverseLoop a (b-1) d):=by
      show _=_;rw [← hO.o,reverseLoop,if_neg ac]
     go_wp2_with fail;go_end0;exact⟨rfl,by rw [← HV.o];exact aa.o⟩
end Go.Proofs.YtiecfcjlhldhdaaGreat
