/-
  Lemmas.
-/
import Derived.Test.YtiecfcjlhldhdaaGreatKnam
import Derived.Test.YtiecfcjlhldhdaaGreatKnaj
import Derived.Test.YtiecfcjlhldhdaaGreatKnai
import Derived.Test.YtiecfcjlhldhdaaGreatKnal
import Derived.Test.YtiecfcjlhldhdaaGreatKnah
import Derived.Test.YtiecfcjlhldhdaaGreatKnae
import Derived.Test.YtiecfcjlhldhdaaGreatKnak
import Derived.Deep.CutBlock
import Derived.Sort.WalkA
import Derived.Sort.LotD3
import Derived.Test.YtiecfcjlhldhdaaGreatKnaa
namespace Go.Proofs.YtiecfcjlhldhdaaGreat
open Go.RowKit Go.Proofs.Tryz
set_option linter.unusedVariables false
set_option linter.unusedSimpArgs false
set_option maxRecDepth 100000
set_option maxHeartbeats 4000000
variable {w0 W w:World}{blk off m i hi first root:Nat}{d:Array Int}{r:Rw}{u:List Un}{l:List Lf}{z:Bz}{v:Vw}{xs:List Nat}
theorem ZgM.here {live:List Int}(p:ZgM l r live i)(h:MayH l)(hf:r.fits):findH (putH l r live).l r.key=some ⟨r,i,atE (lf l i).slots⟩:=by
 have hm:=p.mayH h hf;have t:=ZjO p.hi live p.ins;rw [p.is];refine ZnL ((Zdm.1 hm).2.2.1) (h:=⟨r,i,atE (lf l i).slots⟩) ?_ (Zj4 p.may).symm;show decH (cellH _ i (atE (lf l i).slots))=some r;rw [t.here];exact Zjr p.may hf
def u17:Un:=⟨9,1,0,1,0,0,zeroR⟩
def x17:Ux:=⟨u17,none,0,0⟩
def six17:List Un:=(List.replicate 6 zeroU).set 0 u17
def r17:Rw:=⟨4613937818241073152,false,[],9,1,1⟩
theorem ZpX:r17.may=true:=by decide
theorem ZgF:r17.fits:=⟨by decide,by decide,by decide,by decide,by decide⟩
theorem ZoA:u17.fits:=⟨by decide,by decide,by decide,by decide,by decide,by decide,ZaP⟩
theorem Zna:MayU six17=true:=by decide
theorem ZhT:uns ((List.replicate 6 Ux.zero).set 0 x17)=six17:=rfl
theorem Zro:ZgM (ZaH 1) r17 [] 0:=Zm9 (by decide) (by decide) ZpX (by decide)
theorem Zsc:MayBs ⟨Zar,six17,(putH (ZaH 1) r17 []).l⟩:=by
 refine⟨fun i hi=>?_,ZlN,Zna,Zmt (Zc1 (by decide) (by decide)) ZgF []⟩;(have hl:((putH (ZaH 1) r17 []).l.length:Int)=1:=by rw [Zro.is];rfl);show (six17.getD i zeroU).page<((putH (ZaH 1) r17 []).l.length:Int);rw [hl];have aa:i<6:=hi;(have:i=0∨i=1∨i=2∨i=3∨i=4∨i=5:=by omega);rcases this with rfl | rfl | rfl | rfl | rfl | rfl <;> decide
theorem ZrB:MayV ⟨5,6,[]⟩:=by decide
theorem Zrt:readB six17 (putH (ZaH 1) r17 []).l ⟨5,6,[]⟩ 4613937818241073152=(none,[9],0):=by
 have h:=Zro.here (Zc1 (by decide) (by decide)) ZgF;have h2:readB six17 (putH (ZaH 1) r17 []).l ⟨5,6,[]⟩ 4613937818241073152=(vnB six17 ⟨5,6,[]⟩).look 400 r17:=ZfM h;rw [h2,(vnB six17 ⟨5,6,[]⟩).look_new 399 (r:=r17) (by decide) (Zi7 (u:=six17) (r:=r17) (by decide) (by decide))];rfl
theorem Zq2 (w:World)(z:Bz):∃W,(Instr.storeAt 28 (.pointer (some ⟨w.heap.size,0,none⟩)) z.val).run prog (w.alloc (.cells #[.int .i64 0,.int .i64 0,.int .i64 0,.slice none 0 0,.slice none 0 0,.slice none 0 0] 28))=.ok () W∧BsBlk W w.heap.size z∧Bl w W:=by
 have hz:BsBlk (w.alloc (.cells #[.int .i64 0,.int .i64 0,.int .i64 0,.slice none 0 0,.slice none 0 0,.slice none 0 0] 28)) w.heap.size ⟨Tbl.zero,Sl.nil,Sl.nil,[],Sl.nil,[]⟩:=ZaU w ⟨Tbl.zero,Sl.nil,Sl.nil,[],Sl.nil,[]⟩;have hA:=Zab w (.cells #[.int .i64 0,.int .i64 0,.int .i64 0,.slice none 0 0,.slice none 0 0,.slice none 0 0] 28);exact⟨_,Zo3 hz z,Zdw hz z,hA.trans ((Zdx _ _ _).below hA.size (fun k hk=>by rw [hk];exact Nat.le_refl _))⟩
theorem Zq3 (w:World)(b:Bt):∃W,(Instr.storeAt 67 (.pointer (some ⟨w.heap.size,0,none⟩)) (.agg #[.int .i64 b.1,.int .i64 b.2])).run prog (w.alloc (.cells #[.int .i64 0,.int .i64 0] 67))=.ok () W∧BtBlk W w.heap.size b∧Bl w W:=by
 have hz:=Zbv w (0,0);have hA:=Zab w (.cells #[.int .i64 0,.int .i64 0] 67);have hf:=ZaD (w.alloc (.cells #[.int .i64 0,.int .i64 0] 67)) w.heap.size b;exact⟨_,Zfm _ w.heap.size _ hz b,ZaW hz b,hA.trans (hf.below hA.size (fun k hk=>by rw [hk];exact Nat.le_refl _))⟩
theorem ZrW {w1:World}(h:EmB w w1 1 z){g:Nat}{y:Bz}(hg:BsBlk w1 g y)(ah:w.heap.size≤g) :
    ∃b off c,z.cs=⟨some ⟨b,off,none⟩,6,c⟩∧∃W,(Instr.storeAt 65 (.pointer (some ⟨b,off,none⟩)) (.agg #[.int .i64 9,.int .i64 1,.int .i64 0,.int .i64 1,.int .i64 0,.int .i64 0,.float .f64 0,.bool false,.slice none 0 0,.int .i64 0,.int .i64 0,.int .i64 0])).run prog w1=.ok () W∧BsBlk W g y∧Ud w W z.cs ((List.replicate 6 Ux.zero).set 0 x17)∧OwnE W z.es z.t.es∧EmI w W z.ls z.lb∧Bl w W:=by
  have hu:=h.cs;rw [h.ux] at hu;obtain⟨t,es,⟨ca,cn,cc⟩,ux,ls,lb⟩:=z;have hl:6=cn:=hu.len;subst hl;obtain⟨b,off,ha,_⟩:=hu.us.at' 0 (by show 0<6;decide);have ad:ca=some ⟨b,off,none⟩:=ha;subst ad;obtain⟨W,ag,ac,ab⟩:=hu.set (g:=b) (off:=off) rfl 0 (by decide) x17 ⟨Zc9 _,fun _ _ _ hn=>absurd hn (Nat.lt_irrefl 0)⟩ ZoA;obtain⟨cur,aa⟩:=Own.kind hu.own (k:=b) rfl;have ae:w.heap.size≤b:=hu.new b rfl;have af:¬g=b:=fun e=>by
   unfold BsBlk at hg;rw [e,aa] at hg;simp only [Option.some.injEq,Obj.cells.injEq] at hg;exact absurd hg.2.1 (by decide)
  exact⟨b,off,cc,rfl,W,ag,hg.frm ab af,ac,Own.frmT h.es aa (by decide) ab,h.ls.frmT aa (by decide) (by decide) ab ae,ac.below⟩
theorem ZjW {F:Prop}(HS:Zgf F)(w:World):Calls prog 8 #[] w fun e w'=>e=.returned (.bool true)∧Bl w w':=by
 have HH:=Zh HS;have HE:Hi (Calls prog 27 #[.int .i64 1] w fun e w'=>(∃z:Bz,e=.returned z.val∧EmB w w' 1 z)∧Bl w w'):=Zkk w 1 (by decide);clear HS;go_enter func8,ntmps8;go_wp2_with fail;refine HE.o.mono ?_;rintro e w1 ⟨⟨z,rfl,ab⟩,bo⟩;obtain⟨W2,az,ai,bg⟩:=Zq2 w1 z;have au:EmB w W2 1 z:=⟨ab.t,Own.frame ab.es (fun k hk=>bg.block k (Own.lt ab.es hk)),ab.ux,ab.cs.keep bg,ab.ls.keep bg,ab.ll,ab.em⟩;obtain⟨b,off,cc,bs,W3,ba,af,be,av,ay,ce⟩:=ZrW au ai bo.size;have aw:=ay.glN (by rw [ab.ll];decide) af;(have ci:∀f∈lfs z.lb,MayL f:=by rw [ab.em];exact (Zc1 (n:=1) (by decide) (by decide)).leaf);have bt:=ZmS W3 z.ls z.lb aw ci r17 none 0 0 (Zc9 W3) ZgF Sl.nil [] (Gi.none W3);rw [ab.em] at bt;have ct:w.heap.size≤w1.heap.size:=bo.size;have ah:=Zh az;have ap:=Zh ba;have an:=Zh af;have bm:=Zh be;have bk:=Zh av;have cb:=Zh ce;have cr:=Zh ab.t;have c4:=ai.c4;have d5:=af.c5;rw [bs] at c4;simp only at c4;obtain⟨t,es,cs,ux,⟨la,ln,lc⟩,lb⟩:=z;simp only at bs;subst bs;have cd:Hi (Calls prog 28 #[.slice la ln lc,.agg #[.float .f64 4613937818241073152,.bool false,.slice none 0 0,.int .i64 9,.int .i64 1,.int .i64 1],.slice none 0 0] W3 (ZbM (fun k=>k≠w1.heap.size) W3 (putH (ZaH 1) r17 []))):=bt;unfold Bz.val at ah;simp only at ah ap c4 d5;unfold Bz.val;simp only;clear az ba ai af bg be av aw ci bt ce au ab ay bo HE;go_wp2_with (first | refine Zad _ rfl rfl 28 (.tmp 1) (.tmp 9) rfl (.pointer (some ⟨w1.heap.size,0,none⟩)) (.agg #[.int .i64 t.nx,.int .i64 t.no,.int .i64 t.cm,.slice es.a es.len es.cap,.slice (some ⟨b,off,none⟩) 6 cc,.slice la ln lc]) rfl rfl W2 ah.o ?_ | refine Zad _ rfl rfl 65 (.tmp 13) (.tmp 12) rfl (.pointer (some ⟨b,off,none⟩)) (.agg #[.int .i64 9,.int .i64 1,.int .i64 0,.int .i64 1,.int .i64 0,.int .i64 0,.float .f64 0,.bool false,.slice none 0 0,.int .i64 0,.int .i64 0,.int .i64 0]) rfl rfl W3 ap.o ?_);refine cd.o.mono ?_;rintro e w4 ⟨bp,⟨xa,xn,xc⟩,L',rfl,ax,ak⟩;obtain⟨W5,bb,br,bh⟩:=Zq3 w4 (putH (ZaH 1) r17 []).b;have ag:=(an.o.keep bp).keep bh;obtain⟨W6,bc,aa,ad⟩:=Zr2 ag ⟨xa,xn,xc⟩ L';have ac:=Zac bp bh;have cv:w1.heap.size<W3.heap.size:=an.o.lt;have am:Hi (Bin W6 ⟨t,es,⟨some ⟨b,off,none⟩,6,cc⟩,(List.replicate 6 Ux.zero).set 0 x17,⟨xa,xn,xc⟩,L'⟩):=by
  refine⟨?_,?_,by show 6≤1000;decide,?_⟩
  · exact((OwnE.es bk.o).keep ac (Nat.le_refl _)).box ag ad
  · exact((bm.o.us).keep ac (Nat.le_refl _)).box ag ad
  · refine((ax.below bh (Nat.le_refl _)).keep (Kept.frm ad (fun k hk e=>?_))).wide (fun _ _=>trivial);rcases hk with h | h
    · exact h e
    · omega
 have cf:Bl w W6:=(Zac cb.o ac).trans (ad.below (by have:=cb.o.size;have:=ac.size;omega) (fun k hk=>by rw [hk];exact ct));have ch:(⟨t,uns ((List.replicate 6 Ux.zero).set 0 x17),lfs L'⟩:Bse)=⟨Zar,six17,(putH (ZaH 1) r17 []).l⟩:=by
  have ht:t=Zar:=cr.o;rw [ak,ht,ZhT]
 (have al:MayBs (⟨t,uns ((List.replicate 6 Ux.zero).set 0 x17),lfs L'⟩:Bse):=by rw [ch];exact Zsc);have ao:=Zh (HH.o.read W6 W6 ⟨t,es,⟨some ⟨b,off,none⟩,6,cc⟩,(List.replicate 6 Ux.zero).set 0 x17,⟨xa,xn,xc⟩,L'⟩ ⟨5,6,[]⟩ Sl.nil 4613937818241073152 (Below.refl _ _) am.o (Gi.none W6) (by show 0≤200;decide) (by decide) al ZrB);(have cl:Vn.cut (readB (uns ((List.replicate 6 Ux.zero).set 0 x17)) (lfs L') ⟨5,6,[]⟩ 4613937818241073152)=(none,[9],0):=by rw [ak,ZhT,Zrt];rfl);simp only [cl] at ao;have bf:Hi (∀W,Bl W6 W→Calls prog 10 #[(Bz.mk t es ⟨some ⟨b,off,none⟩,6,cc⟩ ((List.replicate 6 Ux.zero).set 0 x17) ⟨xa,xn,xc⟩ L').val] W fun e w'=>e=.returned (.int .i64 0)∧Bl W w'):=fun W hb=>(HH.o.check W _ (am.o.keep hb)).mono (fun e w' h=>⟨by rcases h.1 with k | k;exact k.2;exact absurd al k.1,h.2⟩);have aq:=Zh bb;have ar:=Zh bc;have bi:=Zh aa;have co:=Zh cf;generalize (putH (ZaH 1) r17 []).b=pb at *;generalize (putH (ZaH 1) r17 []).e=pe at *;obtain⟨pb1,pb2⟩:=pb;have k0:=aa.c0;have k1:=aa.c1;have k2:=aa.c2;have k3:=aa.c3;have k4:=aa.c4;have k5:=aa.c5;unfold Bz.val vwV Sl.nil Sl.val at ao;unfold Bz.val at bf;simp only at ao bf aq ar k0 k1 k2 k3 k4 k5;unfold btV;simp only;clear bp ax ak bb br bh ag bc aa ad ac cf ch al cl c4 d5 cd;go_wp2_with (first | refine Zad _ rfl rfl 67 (.tmp 3) (.tmp 21) rfl (.pointer (some ⟨w4.heap.size,0,none⟩)) (.agg #[.int .i64 pb1,.int .i64 pb2]) rfl rfl W5 aq.o ?_ | refine Zad _ rfl rfl 26 (.tmp 24) (.tmp 23) rfl (.pointer (some ⟨w1.heap.size,5,none⟩)) (.slice xa xn xc) rfl rfl W6 ar.o ?_);refine ao.o.mono ?_;rintro e w7 ⟨cg,y,⟨qa,qn,qc⟩,rfl,cu,ca,cn⟩;replace ca:=ca.fs;obtain⟨W8,bd,bz,bn⟩:=ZlQ w7 y;have ae:=Zac cg bn;have bl:=Zh bd;have cp:=Zh (Zac co.o ae);have bj:=Zh (bf.o W8 ae);have aj:=bi.o.keep ae;have k0:=aj.c0;have k1:=aj.c1;have k2:=aj.c2;have k3:=aj.c3;have k4:=aj.c4;have k5:=aj.c5;have bu:=cn.below bn (Nat.le_refl _);have bw:([9]:List Int).length=qn:=bu.len;obtain⟨qb,qo,ck,cj⟩:=bu.cell 0 (by show 0<qn;rw [← bw];decide);have bv:qa=some ⟨qb,qo,none⟩:=ck;subst bv;have bx:1=qn:=bw;subst bx;have q9:W8.cell? ⟨qb,qo,none⟩=some (.int .i64 9):=cj;simp only at k0 k1 k2 k3 k4 k5;unfold Rx.val Rw.val Sl.val;simp only;clear cg cu ca cn bd bz bn ae aj bu bw ck cj ao bf;go_wp2_with (first | refine Zad _ rfl rfl 39 (.tmp 5) (.tmp 29) rfl (.pointer (some ⟨w7.heap.size,0,none⟩)) (.agg #[.float .f64 y.r.key,.bool y.r.dead,.slice y.a y.n y.c,.int .i64 y.r.wr,.int .i64 y.r.cell,.int .i64 y.r.no]) rfl rfl W8 bl.o ?_);refine bj.o.mono ?_;rintro e w9 ⟨rfl,bq⟩;have cq:=Zh (Zac cp.o bq);have q9':=Zaf q9 bq;clear bq q9;go_wp2;go_ret;exact⟨rfl,cq.o⟩
theorem Zrd (w:World)(g b off len c m lc i:Nat)(la:Option Addr)(x:Ux)(hi:i<len)(h4:w.cell? ⟨g,4,none⟩=some (.slice (some ⟨b,off,none⟩) len c))(h5:w.cell? ⟨g,5,none⟩=some (.slice la m lc))(hx:w.cell? ⟨b,off+i*12+4,none⟩=some (.int .i64 x.u.page))(hc:(m:Int)≤x.u.page)
    {Q:Exit→Act→World→Prop}{A:Act}(ac:A.tmps.size=34)(ab:A.defers=[])(s1:A.tmps.getD 1 undef=.pointer (some ⟨g,0,none⟩))(s3:A.tmps.getD 3 undef=.int .i64 (i:Int))
    (hend:∀(u:Nat→Value) w',Bl w w'→Q .normal ((Pl.pu A u [11,12,13,14,15,16,17,18,19]).put (some 20) (.bool true)) w') :
    Pl.rg prog 4 f11 Q A w:=by
  have aa:Bl w w.drew:=Zaa w;have hA:=Pl.At.same (v:=.int .i64 (i:Int)) (d:=3) (Pl.At.same (v:=.pointer (some ⟨g,0,none⟩)) (d:=1) (Pl.At.here ac ab) s1) s3;refine Pl.qb (S:=fun w'=>Bl w w') hA aa ?_;rw [show (Pl.fd 4 f11).size=10 by kernel_rfl];refine Pl.q0 0 11 (.pointer (some ⟨g,4,none⟩)) (Pl.q1) (Pl.q6 28 (.tmp 1) 1 (Zpp g)) aa ?_;refine Pl.q0 1 12 (.slice (some ⟨b,off,none⟩) len c) (Pl.q1) (Pl.q4 25 (.tmp 11) (fun w' hS=>ldCs (Zaf h4 hS))) aa ?_;refine Pl.q0 2 13 (.int .i64 (i:Int)) (Pl.q1) (Pl.q2 (.tmp 3)) aa ?_;refine Pl.q0 3 14 (.pointer (some ⟨b,off+i*12,none⟩)) (Pl.q1) (Pl.qa 25 (.tmp 12) (.tmp 13) (Zcz b off len c i hi)) aa ?_;refine Pl.q0 4 15 (.pointer (some ⟨b,off+i*12+4,none⟩)) (Pl.q1) (Pl.q6 65 (.tmp 14) 4 (ZqI b (off+i*12))) aa ?_;refine Pl.q0 5 16 (.int .i64 x.u.page) (Pl.q1) (Pl.q4 3 (.tmp 15) (fun w' hS=>ldI1 b (off+i*12+4) _ w' (Zaf hx hS))) aa ?_;refine Pl.q0 6 17 (.pointer (some ⟨g,5,none⟩)) (Pl.q1) (Pl.q6 28 (.tmp 1) 2 (Zpq g)) aa ?_;refine Pl.q0 7 18 (.slice la m lc) (Pl.q1) (Pl.q4 26 (.tmp 17) (fun w' hS=>ldLs (Zaf h5 hS))) aa ?_;refine Pl.q0 8 19 (.int .i64 (m:Int)) (Pl.q1) (Pl.qr 26 (.tmp 18) (fun _ _=>rfl)) aa ?_;refine Pl.q0 9 20 (.bool true) (Pl.q1) (Pl.qc .geq 3 3 (.tmp 16) (.tmp 19) (.int .i64 x.u.page) (.int .i64 (m:Int)) (fun w=>geqT x.u.page (m:Int) _ _ hc w)) aa ?_;refine Pl.q8 (fun A' hA'=>?_);exact Pl.en hA' hA [11,12,13,14,15,16,17,18,19,20] (hend hA'.fn _ aa)
theorem Zrc (w:World)(g b off len c m lc i:Nat)(la:Option Addr)(x:Ux)(hi:i<len)(h4:w.cell? ⟨g,4,none⟩=some (.slice (some ⟨b,off,none⟩) len c))(h5:w.cell? ⟨g,5,none⟩=some (.slice la m lc))(hx:w.cell? ⟨b,off+i*12+4,none⟩=some (.int .i64 x.u.page))(hc:¬(m:Int)≤x.u.page)
    {Q:Exit→Act→World→Prop}{A:Act}(ac:A.tmps.size=34)(ab:A.defers=[])(s1:A.tmps.getD 1 undef=.pointer (some ⟨g,0,none⟩))(s3:A.tmps.getD 3 undef=.int .i64 (i:Int))
    (hend:∀(u:Nat→Value) w',Bl w w'→Q .normal ((Pl.pu A u [11,12,13,14,15,16,17,18,19]).put (some 20) (.bool false)) w') :
    Pl.rg prog 4 f11 Q A w:=by
  have aa:Bl w w.drew:=Zaa w;have hA:=Pl.At.same (v:=.int .i64 (i:Int)) (d:=3) (Pl.At.same (v:=.pointer (some ⟨g,0,none⟩)) (d:=1) (Pl.At.here ac ab) s1) s3;refine Pl.qb (S:=fun w'=>Bl w w') hA aa ?_;rw [show (Pl.fd 4 f11).size=10 by kernel_rfl];refine Pl.q0 0 11 (.pointer (some ⟨g,4,none⟩)) (Pl.q1) (Pl.q6 28 (.tmp 1) 1 (Zpp g)) aa ?_;refine Pl.q0 1 12 (.slice (some ⟨b,off,none⟩) len c) (Pl.q1) (Pl.q4 25 (.tmp 11) (fun w' hS=>ldCs (Zaf h4 hS))) aa ?_;refine Pl.q0 2 13 (.int .i64 (i:Int)) (Pl.q1) (Pl.q2 (.tmp 3)) aa ?_;refine Pl.q0 3 14 (.pointer (some ⟨b,off+i*12,none⟩)) (Pl.q1) (Pl.qa 25 (.tmp 12) (.tmp 13) (Zcz b off len c i hi)) aa ?_;refine Pl.q0 4 15 (.pointer (some ⟨b,off+i*12+4,none⟩)) (Pl.q1) (Pl.q6 65 (.tmp 14) 4 (ZqI b (off+i*12))) aa ?_;refine Pl.q0 5 16 (.int .i64 x.u.page) (Pl.q1) (Pl.q4 3 (.tmp 15) (fun w' hS=>ldI1 b (off+i*12+4) _ w' (Zaf hx hS))) aa ?_;refine Pl.q0 6 17 (.pointer (some ⟨g,5,none⟩)) (Pl.q1) (Pl.q6 28 (.tmp 1) 2 (Zpq g)) aa ?_;refine Pl.q0 7 18 (.slice la m lc) (Pl.q1) (Pl.q4 26 (.tmp 17) (fun w' hS=>ldLs (Zaf h5 hS))) aa ?_;refine Pl.q0 8 19 (.int .i64 (m:Int)) (Pl.q1) (Pl.qr 26 (.tmp 18) (fun _ _=>rfl)) aa ?_;refine Pl.q0 9 20 (.bool false) (Pl.q1) (Pl.qc .geq 3 3 (.tmp 16) (.tmp 19) (.int .i64 x.u.page) (.int .i64 (m:Int)) (fun w=>geqF x.u.page (m:Int) _ _ hc w)) aa ?_;refine Pl.q8 (fun A' hA'=>?_);exact Pl.en hA' hA [11,12,13,14,15,16,17,18,19,20] (hend hA'.fn _ aa)
def Zb1 (b:Bse) (e:Ending):Prop:=∃r:Bool,e=.returned (.bool r)∧(r=true↔MayBs b)
theorem Zfc (w:World)(z:Bz)(h:Bin w z) :
    Calls prog 11 #[z.val] w fun e w'=>Zb1 z.b e∧Bl w w':=by
  have hA:=Zab w (.cells #[.int .i64 z.t.nx,.int .i64 z.t.no,.int .i64 z.t.cm,.slice z.es.a z.es.len z.es.cap,.slice z.cs.a z.cs.len z.cs.cap,.slice z.ls.a z.ls.len z.ls.cap] 28);have HA:=Zh hA;have HB:=Zh (ZaU w z);have HI:=Zh (h.keep hA);have bf:z.cs.len≤1000:=h.cb;have bh:z.ls.len≤900:=h.ls.big;(have an:Hi (z.b.u.length=z.cs.len):=by show (uns z.ux).length=_;rw [Zcd];exact h.cs.len);(have al:Hi (z.b.l.length=z.ls.len):=by show (lfs z.lb).length=_;rw [Zbh];exact h.ls.len);have HT:=Zh (fun W (hb:Below (w.alloc (.cells #[.int .i64 z.t.nx,.int .i64 z.t.no,.int .i64 z.t.cm,.slice z.es.a z.es.len z.es.cap,.slice z.cs.a z.cs.len z.cs.cap,.slice z.ls.a z.ls.len z.ls.cap] 28)).heap.size (w.alloc (.cells #[.int .i64 z.t.nx,.int .i64 z.t.no,.int .i64 z.t.cm,.slice z.es.a z.es.len z.es.cap,.slice z.cs.a z.cs.len z.cs.cap,.slice z.ls.a z.ls.len z.ls.cap] 28)) W)=>ZmK z.t z.es W (HI.o.keep hb).es);have HU:=Zh (fun W (hb:Below (w.alloc (.cells #[.int .i64 z.t.nx,.int .i64 z.t.no,.int .i64 z.t.cm,.slice z.es.a z.es.len z.es.cap,.slice z.cs.a z.cs.len z.cs.cap,.slice z.ls.a z.ls.len z.ls.cap] 28)).heap.size (w.alloc (.cells #[.int .i64 z.t.nx,.int .i64 z.t.no,.int .i64 z.t.cm,.slice z.es.a z.es.len z.es.cap,.slice z.cs.a z.cs.len z.cs.cap,.slice z.ls.a z.ls.len z.ls.cap] 28)) W)=>Zos z.cs.a z.cs.len z.cs.cap z.ux W (HI.o.keep hb).cs (by omega));have HL:=Zh (fun W (hb:Below (w.alloc (.cells #[.int .i64 z.t.nx,.int .i64 z.t.no,.int .i64 z.t.cm,.slice z.es.a z.es.len z.es.cap,.slice z.cs.a z.cs.len z.cs.cap,.slice z.ls.a z.ls.len z.ls.cap] 28)).heap.size (w.alloc (.cells #[.int .i64 z.t.nx,.int .i64 z.t.no,.int .i64 z.t.cm,.slice z.es.a z.es.len z.es.cap,.slice z.cs.a z.cs.len z.cs.cap,.slice z.ls.a z.ls.len z.ls.cap] 28)) W)=>ZmJ W z.ls z.lb (HI.o.keep hb).ls);have ao:Hi (∀i,(z.b.u.getD i zeroU)=(z.ux.getD i Ux.zero).u):=fun i=>Zbz z.ux i;have ab:Hi (MayBs z.b↔(∀i,i<z.cs.len→(z.ux.getD i Ux.zero).u.page<(z.ls.len:Int))∧mayB z.t=true∧MayU (uns z.ux)=true∧MayH (lfs z.lb)):=by
   show _↔_;constructor
   · intro m;refine⟨fun i hi=>?_,Zey.2 m.t,m.u,m.l⟩;have:=m.pg i (by rw [an.o];exact hi);rw [al.o,ao.o] at this;exact this
   · rintro ⟨a,b,c,d⟩;refine⟨fun i hi=>?_,Zey.1 b,c,d⟩;have:=a i (by rw [an.o] at hi;exact hi);rw [al.o,ao.o];exact this
  obtain⟨q,hq⟩:∃q:Prop,q=MayBs z.b:=⟨_,rfl⟩;rw [← hq] at ab;have HQ:=Zh hq;obtain⟨mt,bb⟩:∃m,m=mayB z.t:=⟨_,rfl⟩;rw [← bb] at ab HT;obtain⟨mu,bc⟩:∃m,m=MayU (uns z.ux):=⟨_,rfl⟩;rw [← bc] at ab HU;have HS:Hi (∀(r:Bool),(r=true↔q)→Zb1 z.b (.returned (.bool r))):=fun r hr=>⟨r,rfl,by rw [← HQ.o];exact hr⟩;obtain⟨bs,az⟩:∃bs,bs=z.b:=⟨_,rfl⟩;rw [← az] at HS ⊢;clear h hA hq bb bc az HQ an al ao;obtain⟨⟨nx,no,cm,es⟩,⟨ea,el,ec⟩,⟨ca,cl,cc⟩,ux,⟨la,ll,lc⟩,lb⟩:=z;unfold Tbl.val Sl.val at *;unfold Bz.val;simp only at *;generalize aw:w.alloc (.cells #[.int .i64 nx,.int .i64 no,.int .i64 cm,.slice ea el ec,.slice ca cl cc,.slice la ll lc] 28)=W0 at *;have bd:=Zh aw;clear aw;go_enter func11,ntmps11;have k0:=HB.o.c0;have k1:=HB.o.c1;have k2:=HB.o.c2;have k3:=HB.o.c3;have k4:=HB.o.c4;have k5:=HB.o.c5;simp only at k0 k1 k2 k3 k4 k5;go_wp2_with fail;rw [bd.o];go_loopw [3] (fun iv wr=>∃i:Nat,i≤cl∧iv=.int .i64 (i:Nat)∧Hi (∀j,j<i→(ux.getD j Ux.zero).u.page<(ll:Int))∧Hi (Bl W0 wr)) (fun iv _=>cl-(intOf iv).toNat)
  case atStart=>exact ⟨0,Nat.zero_le _,rfl,fun j hj=>absurd hj (Nat.not_lt_zero _),Below.refl _ _⟩
  case round =>
   obtain⟨i,hi,rfl,ag,ae⟩:=hrel;have ad:=HB.o.keep ae.o;have be:=Zh ad;clear k0 k1 k2 k3 k4 k5;have k0:=ad.c0;have k1:=ad.c1;have k2:=ad.c2;have k3:=ad.c3;have k4:=ad.c4;have k5:=ad.c5;simp only at k0 k1 k2 k3 k4 k5;clear ad;rcases Nat.lt_or_ge i cl with ai | bg
   · (have i1:(i:Int)<(cl:Int):=by omega);obtain⟨b,off,ha,ap⟩:=(HI.o.keep ae.o).cs.at' i ai;replace ha:ca=some ⟨b,off,none⟩:=ha;subst ha;obtain⟨x,hx⟩:∃x,x=ux.getD i Ux.zero:=⟨_,rfl⟩;rw [← hx] at ap;have HX:=Zh hx;have HC:=Zh ap.c4;clear hx ap;by_cases aj:(ll:Int)≤x.u.page
     · have HR:Hi (Zb1 bs (.returned (.bool false))):=HS.o false ⟨(fun e=>by cases e),fun m=>by
        have:=(ab.o.1 m).1 i ai;rw [← HX.o] at this;omega⟩
       have am:=Zh aj;clear ag aj;go_wp2_with fail;refine Pl.q9 (ops:=Pl.fd 4 f11) ?_;refine Zrd _ w.heap.size b off cl cc ll lc i la x ai k4 k5 HC.o (by have:=am.o;omega) (by rfl) rfl (by rfl) (by rfl) ?_;intro u1 w1 ac;simp only [Pl.pu,List.foldl,Act.put,List.setIfInBounds_toArray,List.set];have aa:=Zh (Zac HA.o (Zac ae.o ac));clear ac;go_wp2;go_ret;exact⟨HR.o,aa.o⟩
     · have HN:Hi (∀j,j<i+1→(ux.getD j Ux.zero).u.page<(ll:Int)):=by
        intro j hj;by_cases e:j=i
        · rw [e,← HX.o];omega
        · exact ag.o j (by omega)
       have am:=Zh aj;clear ag aj;go_wp2_with fail;refine Pl.q9 (ops:=Pl.fd 4 f11) ?_;refine Zrc _ w.heap.size b off cl cc ll lc i la x ai k4 k5 HC.o (by have:=am.o;omega) (by rfl) rfl (by rfl) (by rfl) ?_;intro u1 w1 ac;simp only [Pl.pu,List.foldl,Act.put,List.setIfInBounds_toArray,List.set];have aa:=Zh (Zac ae.o ac);clear ac;go_wp2;go_roundw;exact ⟨i+1,by omega,by go_num,HN,aa⟩;simp only [intOf];omega
   · (have i1:¬(i:Int)<(cl:Int):=by omega);have ak:Hi (∀j,j<cl→(ux.getD j Ux.zero).u.page<(ll:Int)):=fun j hj=>ag.o j (by omega);have au:=Zh (HT.o _ ae.o);clear ag HT;go_wp2_with fail;refine au.o.mono ?_;rintro e w1 ⟨rfl,ac⟩;have aa:=Zh (Zac ae.o ac);have aq:=HB.o.keep aa.o;clear ac au k0 k1 k2 k3 k4 k5;have k4:=aq.c4;have k5:=aq.c5;simp only at k4 k5;clear aq;cases mt with
     | false =>
      have HR:Hi (Zb1 bs (.returned (.bool false))):=HS.o false ⟨(fun e=>by cases e),(fun m=>by cases (ab.o.1 m).2.1)⟩;have af:=Zh (Zac HA.o aa.o);go_wp2;go_ret;exact⟨HR.o,af.o⟩
     | true =>
      have av:=Zh (HU.o w1 aa.o);clear HU;go_wp2_with fail;refine av.o.mono ?_;rintro e w2 ⟨rfl,ax⟩;have ah:=Zh (Zac aa.o ax);have ba:=HB.o.keep ah.o;clear ax av k4 k5;have k5:=ba.c5;simp only at k5;clear ba;cases mu with
      | false =>
       have HR:Hi (Zb1 bs (.returned (.bool false))):=HS.o false ⟨(fun e=>by cases e),(fun m=>by cases (ab.o.1 m).2.2.1)⟩;have af:=Zh (Zac HA.o ah.o);go_wp2;go_ret;exact⟨HR.o,af.o⟩
      | true =>
       have ar:=Zh (HL.o w2 ah.o);clear HL;go_wp2_with fail;refine ar.o.mono ?_;rintro e w3 ⟨⟨r,rfl,hr⟩,ay⟩;have HR:Hi (Zb1 bs (.returned (.bool r))):=HS.o r (hr.trans ⟨fun m=>ab.o.2 ⟨ak.o,(by first | rfl | trivial),(by first | rfl | trivial),m⟩,fun m=>(ab.o.1 m).2.2.2⟩);have af:=Zh (Zac HA.o (Zac ah.o ay));clear ay ar hr;go_wp2;go_ret;exact⟨HR.o,af.o⟩
theorem ZoX {b:Bse}(h:MayBs b){e:Ending}(k:Zb1 b e):e=.returned (.bool true):=by obtain ⟨r,rfl,hr⟩:=k;rw [hr.2 h]
theorem ZpK {b:Bse}(h:¬MayBs b){e:Ending}(k:Zb1 b e):e=.returned (.bool false):=by
 obtain⟨r,rfl,hr⟩:=k;cases r with
 | false=>rfl
 | true=>exact absurd (hr.1 rfl) h
theorem Zfq (w:World)(z:Bz)(v:Vw)(s:Sl):∃Wa W0,w.alloc (.cells #[.int .i64 z.t.nx,.int .i64 z.t.no,.int .i64 z.t.cm,.slice z.es.a z.es.len z.es.cap,.slice z.cs.a z.cs.len z.cs.cap,.slice z.ls.a z.ls.len z.ls.cap] 28)=Wa∧Wa.alloc (.cells #[.int .i64 v.self,.int .i64 v.next,s.val] 31)=W0∧BsBlk W0 w.heap.size z∧ZaG W0 (w.heap.size+1) v s∧Bl w W0:=by
 have ab:=Zab w (.cells #[.int .i64 z.t.nx,.int .i64 z.t.no,.int .i64 z.t.cm,.slice z.es.a z.es.len z.es.cap,.slice z.cs.a z.cs.len z.cs.cap,.slice z.ls.a z.ls.len z.ls.cap] 28);have b1:=ZaU w z;obtain⟨Wa,ha⟩:∃W,w.alloc (.cells #[.int .i64 z.t.nx,.int .i64 z.t.no,.int .i64 z.t.cm,.slice z.es.a z.es.len z.es.cap,.slice z.cs.a z.cs.len z.cs.cap,.slice z.ls.a z.ls.len z.ls.cap] 28)=W:=⟨_,rfl⟩;(have sa:Wa.heap.size=w.heap.size+1:=by rw [← ha];exact Zae _ _);rw [ha] at ab b1;have aa:=Zab Wa (.cells #[.int .i64 v.self,.int .i64 v.next,s.val] 31);have b2:=ZbJ Wa v s;obtain⟨Wb,hb⟩:∃W,Wa.alloc (.cells #[.int .i64 v.self,.int .i64 v.next,s.val] 31)=W:=⟨_,rfl⟩;rw [hb] at aa b2;rw [sa] at b2;exact⟨Wa,Wb,ha,hb,b1.keep aa,b2,Zac ab aa⟩
structure Lw17 (w0 w:World) (z:Bz) (v:Vw) (s:Sl):Prop where
  bs:BsBlk w w0.heap.size z
  vw:ZaG w (w0.heap.size+1) v s
  bin:Bin w z
  gi:Gi (fun _=>True) w s v.act
  below:Bl w0 w
theorem Lw17.keep {w':World}{s:Sl}(h:Lw17 w0 w z v s)(hb:Bl w w'):Lw17 w0 w' z v s:=
 ⟨h.bs.keep hb,h.vw.keep hb,h.bin.keep hb,h.gi.below hb (Nat.le_refl _),Zac h.below hb⟩
theorem Zlf (w:World)(s s2:Sl)(l m:List Rx)(h:RzS w s l)(h2:RzS w s2 m)(he:rws l=rws m)(hb:s.len≤1000000) :
    Calls prog 18 #[.slice s.a s.len s.cap,.slice s2.a s2.len s2.cap] w fun e w'=>e=.returned (.bool true)∧Bl w w':=by
  have hl:s.len=s2.len:=by
   have h1:=congrArg List.length he;rw [ZaR,ZaR,h.rz.len,h2.rz.len] at h1;exact h1
  obtain⟨a,len,cap⟩:=s;obtain⟨a2,len2,cap2⟩:=s2;simp only at hl hb;subst hl;have H:=Zh h;have H2:=Zh h2;have HE:=Zh he;clear h h2 he;simp only;go_enter func18,ntmps18;go_wp2_with fail;go_loopw [5] (fun iv wr=>∃i:Nat,i≤len∧iv=.int .i64 (i:Nat)∧Hi (Bl w wr)) (fun iv _=>len-(intOf iv).toNat)
  case atStart=>exact ⟨0,Nat.zero_le _,rfl,Below.refl _ _⟩
  case round =>
   obtain⟨i,hi,rfl,hW⟩:=hrel;rcases Nat.lt_or_ge i len with aa | al
   · (have j1:(i:Int)<(len:Int):=by omega);have hr:=H.o.rz.keep hW.o (Nat.le_refl _);have ab:=H2.o.rz.keep hW.o (Nat.le_refl _);obtain⟨b,off,ha,hx⟩:=hr.at' i aa;obtain⟨b2,off2,ac,hy⟩:=ab.at' i aa;replace ha:a=some ⟨b,off,none⟩:=ha;replace ac:a2=some ⟨b2,off2,none⟩:=ac;subst ha ac;have ae:=hr.cols _ (hr.mem aa);have af:=ab.cols _ (ab.mem aa);(have ag:(l.getD i Rx.zero).r=(m.getD i Rx.zero).r:=by rw [← ZcL,← ZcL,HE.o]);have HX:=Zh hx;have HY:=Zh hy;have ah:=Zh ae;have ai:=Zh af;have ak:=Zh ag;clear hr ab hx hy ae af ag;go_wp2_with fail;refine Pl.q9 (ops:=Pl.fd 6 f18) ?_;refine rws6 wr wr b off len cap b2 off2 cap2 i aa _ _ HX.o HY.o ak.o ah.o ai.o (Below.refl _ _) (by rfl) (by rfl) (by rfl) (by rfl) (by rfl) ?_;intro u w3 ad;simp only [Pl.pu,List.foldl,Act.put,List.setIfInBounds_toArray,List.set];have aj:=Zh (Zac hW.o ad);clear ad;go_wp2;go_roundw;exact ⟨i+1,by omega,by go_num,aj⟩;simp only [intOf];omega
   · (have j1:¬(i:Int)<(len:Int):=by omega);go_wp2;go_ret;exact⟨rfl,hW.o⟩
theorem ZmC (h:MayH l)(lo hi:Nat):(Zax lo hi (allH l)).length≤62000:=Nat.le_trans (ZdK _ _ _) (Zjj h)
theorem ZmV (h:MayH l)(lo hi:Nat):(scanB u l v lo hi).1.length≤1000000:=by
 have h1:=ZmC h lo hi;show (if (vnB u v).code (Zax lo hi (allH l))=0 then (vnB u v).rows (Zax lo hi (allH l)) else []).length≤_;split
 · have h2:((vnB u v).rows (Zax lo hi (allH l))).length≤(Zax lo hi (allH l)).length:=List.length_filterMap_le _ _;omega
 · simp
theorem ZiX (w:World)(z:Bz)(v:Vw)(s:Sl)(x y:Nat):∃Wa Wb W0,w.alloc (.cells #[.int .i64 z.t.nx,.int .i64 z.t.no,.int .i64 z.t.cm,.slice z.es.a z.es.len z.es.cap,.slice z.cs.a z.cs.len z.cs.cap,.slice z.ls.a z.ls.len z.ls.cap] 28)=Wa∧Wa.alloc (.cells #[.int .i64 v.self,.int .i64 v.next,s.val] 31)=Wb∧Wb.alloc (.cells #[.float .f64 x,.float .f64 y] 48)=W0∧BsBlk W0 w.heap.size z∧ZaG W0 (w.heap.size+1) v s∧Zem W0 (w.heap.size+1+1) x y∧Bl w W0:=by
 obtain⟨Wa,Wb,ha,hb,b1,b2,hA⟩:=Zfq w z v s;have aa:=Zab Wb (.cells #[.float .f64 x,.float .f64 y] 48);have b3:=Zlz Wb x y;(have sb:Wb.heap.size=w.heap.size+1+1:=by rw [← hb,Zae,← ha,Zae]);rw [sb] at b3;exact⟨Wa,Wb,_,ha,hb,rfl,b1.keep aa,b2.keep aa,b3,Zac hA aa⟩
structure Lx17 (w0 w:World) (z:Bz) (v:Vw) (s:Sl) (x y:Nat):Prop where
  l:Lw17 w0 w z v s
  a2:Zem w (w0.heap.size+1+1) x y
theorem Lx17.keep {w':World}{s:Sl}{x y:Nat}(h:Lx17 w0 w z v s x y)(hb:Bl w w'):Lx17 w0 w' z v s x y:=⟨h.l.keep hb,h.a2.keep hb⟩
theorem Zqn (HS:Zgf True)(w:World)(z:Bz)(h:BIn w z)(v:Vw)(s:Sl)(hv:InI w s v.act)(lo hi:Nat)(bu:lo<18446744073709551616)(bt:hi<18446744073709551616) :
    Calls prog 4 #[z.val,vwV v s,.agg #[.float .f64 lo,.float .f64 hi]] w fun e w'=>e=.returned (.bool true)∧Bl w w':=by
  obtain⟨Wa,Wb,W0,ha,hb,hc,ci,cn,ch,hA⟩:=ZiX w z v s lo hi;have cc:=Zh ha;have cd:=Zh hb;have ce:=Zh hc;have am:=Zh ci;have bp:=Zh cn;have bw:=Zh ch;have HA:=Zh hA;have bh:=Zh (ZkA W0 z (h.keep hA));have cb:=Zh (hv.keep hA);have HH:=Zh HS;have aq:=Zh (fun W=>ZjW HS W);have cu:s.len≤9223372036854775807:=hv.big;clear h hv HS ha hb hc ci cn ch hA;obtain⟨sa,sn,sc⟩:=s;obtain⟨vs,vn,vt⟩:=v;have k0:=am.o.c0;have k1:=am.o.c1;have k2:=am.o.c2;have k3:=am.o.c3;have k4:=am.o.c4;have k5:=am.o.c5;unfold Bz.val at bh;unfold vwV Bz.val;simp only [Sl.val] at *;go_enter func4,ntmps4;go_wp2_with fail;rw [cc.o,cd.o,ce.o];clear cc cd ce;refine bh.o.mono ?_;rintro e w1 ⟨hl | ⟨ap,be,hl⟩,af⟩
  · subst hl;have bk:=Zh (Zac HA.o af);clear af bh;go_wp2_with fail;refine(aq.o _).mono ?_;rintro e w2 ⟨rfl,ah⟩;have HF:=Zh (Zac bk.o ah);clear ah;go_wp2;go_ret;exact⟨rfl,HF.o⟩
  · subst hl;clear bh k0 k1 k2 k3 k4 k5;by_cases cm:sn≤100
    · (have i1:¬(100:Int)<(sn:Int):=by omega);have ad:Hi (Lx17 w w1 z ⟨vs,vn,vt⟩ ⟨sa,sn,sc⟩ lo hi):=⟨⟨am.o.keep af,bp.o.keep af,ap.keep af,(cb.o.gi (by show sn≤_;omega)).below af (Nat.le_refl _),Zac HA.o af⟩,bw.o.keep af⟩;clear ap af am bp cb HA bw;have k0:=ad.o.l.bs.c0;have k1:=ad.o.l.bs.c1;have k2:=ad.o.l.bs.c2;have k3:=ad.o.l.bs.c3;have k4:=ad.o.l.bs.c4;have k5:=ad.o.l.bs.c5;have g0:=ad.o.l.vw.c0;have g1:=ad.o.l.vw.c1;have g2:=ad.o.l.vw.c2;simp only [Sl.val] at k0 k1 k2 k3 k4 k5 g0 g1 g2;have d0:=ad.o.a2.c0;have d1:=ad.o.a2.c1;by_cases hm:MayBs z.b∧MayV ⟨vs,vn,vt⟩
      · obtain⟨ai,bv⟩:=hm;have aj:=Zh (HH.o.scan trivial w1 z ⟨vs,vn,vt⟩ ⟨sa,sn,sc⟩ lo hi ad.o.l.bin be ad.o.l.gi (by show sn≤200;omega) bu bt ai bv);have bn:Hi (∀W,Bin W z→Calls prog 11 #[z.val] W fun e w'=>e=.returned (.bool true)∧Bl W w'):=fun W hb=>(Zfc W z hb).mono (fun e w' h=>⟨ZoX ai h.1,h.2⟩);have ak:Hi (∀W,Gi (fun _=>True) W ⟨sa,sn,sc⟩ vt→Calls prog 12 #[vwV ⟨vs,vn,vt⟩ ⟨sa,sn,sc⟩] W fun e w'=>e=.returned (.bool true)∧Bl W w'):=fun W hg=>by
         have:=ZhJ W ⟨sa,sn,sc⟩ ⟨vs,vn,vt⟩ hg;rwa [decide_eq_true bv] at this
        have au:Hi (∀W,Bin W z→Gi (fun _=>True) W ⟨sa,sn,sc⟩ vt→Calls prog 17 #[z.val,vwV ⟨vs,vn,vt⟩ ⟨sa,sn,sc⟩,.float .f64 lo,.float .f64 hi] W (Zb2 W (scanB (uns z.ux) (lfs z.lb) ⟨vs,vn,vt⟩ lo hi))):=fun W hb hg=>Zlg W z hb ai.l ⟨vs,vn,vt⟩ ⟨sa,sn,sc⟩ hg lo hi bu bt;have bx:Hi ((scanB (uns z.ux) (lfs z.lb) ⟨vs,vn,vt⟩ lo hi).1.length≤1000000):=ZmV ai.l lo hi;obtain⟨o,ho⟩:∃o,o=scanB (uns z.ux) (lfs z.lb) ⟨vs,vn,vt⟩ lo hi:=⟨_,rfl⟩;simp only [← ho] at aj au bx;unfold vwV Bz.val at aj au;unfold vwV at ak;simp only [Sl.val] at aj au ak;unfold Bz.val at bn;clear ai bv ho;go_wp2_with fail;refine aj.o.mono ?_;rintro e w2 ⟨ah,⟨oa,on,oc⟩,⟨qa,qn,qc⟩,X,rfl,cl,co,cq⟩;have ca:=Zh cl;have cg:=Zh cq;have cf:=Zh co;simp only [Sl.val];clear cl cq co aj;have aa:=Zh (ad.o.keep ah);clear ah ad k0 k1 k2 k3 k4 k5 g0 g1 g2 d0 d1;have k0:=aa.o.l.bs.c0;have k1:=aa.o.l.bs.c1;have k2:=aa.o.l.bs.c2;have k3:=aa.o.l.bs.c3;have k4:=aa.o.l.bs.c4;have k5:=aa.o.l.bs.c5;have g0:=aa.o.l.vw.c0;have g1:=aa.o.l.vw.c1;have g2:=aa.o.l.vw.c2;simp only [Sl.val] at k0 k1 k2 k3 k4 k5 g0 g1 g2;have d0:=aa.o.a2.c0;have d1:=aa.o.a2.c1;have ac:=Zh (bn.o w2 aa.o.l.bin);go_wp2_with fail;refine ac.o.mono ?_;rintro e w3 ⟨rfl,ao⟩;have aw:=Zh (ca.o.keep ao);have ay:=Zh (cg.o.below ao (Nat.le_refl _));have ab:=Zh (aa.o.keep ao);clear ao aa k0 k1 k2 k3 k4 k5 g0 g1 g2 d0 d1 ca cg ac bn;have k0:=ab.o.l.bs.c0;have k1:=ab.o.l.bs.c1;have k2:=ab.o.l.bs.c2;have k3:=ab.o.l.bs.c3;have k4:=ab.o.l.bs.c4;have k5:=ab.o.l.bs.c5;have g0:=ab.o.l.vw.c0;have g1:=ab.o.l.vw.c1;have g2:=ab.o.l.vw.c2;simp only [Sl.val] at k0 k1 k2 k3 k4 k5 g0 g1 g2;have d0:=ab.o.a2.c0;have d1:=ab.o.a2.c1;have ag:=Zh (ak.o w3 ab.o.l.gi);go_wp2_with fail;refine ag.o.mono ?_;rintro e w4 ⟨rfl,bi⟩;have ax:=Zh (aw.o.keep bi);have az:=Zh (ay.o.below bi (Nat.le_refl _));have ae:=Zh (ab.o.keep bi);clear bi ab k0 k1 k2 k3 k4 k5 g0 g1 g2 d0 d1 aw ay ag ak;have k0:=ae.o.l.bs.c0;have k1:=ae.o.l.bs.c1;have k2:=ae.o.l.bs.c2;have k3:=ae.o.l.bs.c3;have k4:=ae.o.l.bs.c4;have k5:=ae.o.l.bs.c5;have g0:=ae.o.l.vw.c0;have g1:=ae.o.l.vw.c1;have g2:=ae.o.l.vw.c2;simp only [Sl.val] at k0 k1 k2 k3 k4 k5 g0 g1 g2;have d0:=ae.o.a2.c0;have d1:=ae.o.a2.c1;have av:=Zh (au.o w4 ae.o.l.bin ae.o.l.gi);go_wp2_with fail;refine av.o.mono ?_;rintro e w5 ⟨bj,⟨ra,rn,rc⟩,⟨pa,pn,pc⟩,Y,rfl,bf,cp,bg⟩;have an:=Zh (ax.o.keep bj);have bq:=Zh (az.o.below bj (Nat.le_refl _));have bo:=Zh (Zlf w5 ⟨oa,on,oc⟩ ⟨ra,rn,rc⟩ X Y an.o bf (by rw [cf.o,cp]) (by rw [← an.o.rz.len,← ZaR,cf.o];exact bx.o));have ct:=Zh bg;have bz:Hi (∀W,Bl w5 W→Calls prog 15 #[.slice qa qn qc,.slice pa pn pc] W fun e w'=>e=.returned (.bool true)∧Bl W w'):=fun W hb=>by
         have:=Zru W ⟨qa,qn,qc⟩ ⟨pa,pn,pc⟩ o.2.1 o.2.1 (bq.o.below hb (Nat.le_refl _)) (ct.o.below hb (Nat.le_refl _));rwa [decide_eq_true rfl] at this
        obtain⟨eo,cj⟩:∃eo,eo=o.2.2:=⟨_,rfl⟩;rw [← cj];simp only [Sl.val] at bo ⊢;clear bf cp bg av au cj ax az an;have cr:=Zh (ae.o.keep bj);clear bj ae k0 k1 k2 k3 k4 k5 g0 g1 g2 d0 d1;go_wp2_with fail;refine bo.o.mono ?_;rintro e w9 ⟨rfl,br⟩;have cs:=Zh (cr.o.keep br);have ar:=Zh (bz.o w9 br);clear br bo bz;go_wp2_with fail;refine ar.o.mono ?_;rintro e w10 ⟨rfl,ba⟩;have bl:=Zh (cs.o.keep ba);clear ba ar;go_wp2_with fail;refine(aq.o _).mono ?_;rintro e w11 ⟨rfl,bb⟩;have HF:=Zh (Zac bl.o.l.below bb);clear bb;go_wp2;go_ret;exact⟨rfl,HF.o⟩
      · have aj:=Zh (HH.o.scanN trivial w1 z ⟨vs,vn,vt⟩ ⟨sa,sn,sc⟩ lo hi ad.o.l.bin be ad.o.l.gi (by show sn≤200;omega) bu bt hm);have ak:Hi (∀W,Gi (fun _=>True) W ⟨sa,sn,sc⟩ vt→Calls prog 12 #[vwV ⟨vs,vn,vt⟩ ⟨sa,sn,sc⟩] W fun e w'=>e=.returned (.bool (decide (MayV ⟨vs,vn,vt⟩)))∧Bl W w'):=fun W hg=>ZhJ W ⟨sa,sn,sc⟩ ⟨vs,vn,vt⟩ hg;unfold vwV Bz.val at aj;unfold vwV at ak;simp only [Sl.val] at aj ak;go_wp2_with fail;refine aj.o.mono ?_;rintro e w2 ⟨⟨qa,pa,qc,pc,rfl⟩,ah⟩;clear aj;have aa:=Zh (ad.o.keep ah);clear ah ad k0 k1 k2 k3 k4 k5 g0 g1 g2 d0 d1;have k0:=aa.o.l.bs.c0;have k1:=aa.o.l.bs.c1;have k2:=aa.o.l.bs.c2;have k3:=aa.o.l.bs.c3;have k4:=aa.o.l.bs.c4;have k5:=aa.o.l.bs.c5;have g0:=aa.o.l.vw.c0;have g1:=aa.o.l.vw.c1;have g2:=aa.o.l.vw.c2;simp only [Sl.val] at k0 k1 k2 k3 k4 k5 g0 g1 g2;have d0:=aa.o.a2.c0;have d1:=aa.o.a2.c1;by_cases ai:MayBs z.b
        · have ck:¬MayV ⟨vs,vn,vt⟩:=fun e=>hm ⟨ai,e⟩;have ac:Hi (Calls prog 11 #[z.val] w2 fun e w'=>e=.returned (.bool true)∧Bl w2 w'):=(Zfc w2 z aa.o.l.bin).mono (fun e w' h=>⟨ZoX ai h.1,h.2⟩);rw [decide_eq_false ck] at ak;unfold Bz.val at ac;clear ai ck hm;go_wp2_with fail;refine ac.o.mono ?_;rintro e w3 ⟨rfl,ao⟩;have ab:=Zh (aa.o.keep ao);clear ao aa k0 k1 k2 k3 k4 k5 g0 g1 g2 d0 d1 ac;have k0:=ab.o.l.bs.c0;have k1:=ab.o.l.bs.c1;have k2:=ab.o.l.bs.c2;have k3:=ab.o.l.bs.c3;have k4:=ab.o.l.bs.c4;have k5:=ab.o.l.bs.c5;have g0:=ab.o.l.vw.c0;have g1:=ab.o.l.vw.c1;have g2:=ab.o.l.vw.c2;simp only [Sl.val] at k0 k1 k2 k3 k4 k5 g0 g1 g2;have d0:=ab.o.a2.c0;have d1:=ab.o.a2.c1;have ag:=Zh (ak.o w3 ab.o.l.gi);go_wp2_with fail;refine ag.o.mono ?_;rintro e w6 ⟨rfl,bc⟩;have bm:=Zh (ab.o.keep bc);clear bc ab k0 k1 k2 k3 k4 k5 g0 g1 g2 d0 d1 ag;go_wp2_with fail;refine(aq.o _).mono ?_;rintro e w8 ⟨rfl,bd⟩;have HF:=Zh (Zac bm.o.l.below bd);clear bd;go_wp2;go_ret;exact⟨rfl,HF.o⟩
        · have ac:Hi (Calls prog 11 #[z.val] w2 fun e w'=>e=.returned (.bool false)∧Bl w2 w'):=(Zfc w2 z aa.o.l.bin).mono (fun e w' h=>⟨ZpK ai h.1,h.2⟩);unfold Bz.val at ac;clear ai hm;go_wp2_with fail;refine ac.o.mono ?_;rintro e w6 ⟨rfl,bc⟩;have bm:=Zh (aa.o.keep bc);clear bc aa k0 k1 k2 k3 k4 k5 g0 g1 g2 d0 d1 ac;go_wp2_with fail;refine(aq.o _).mono ?_;rintro e w8 ⟨rfl,bd⟩;have HF:=Zh (Zac bm.o.l.below bd);clear bd;go_wp2;go_ret;exact⟨rfl,HF.o⟩
    · (have i1:(100:Int)<(sn:Int):=by omega);have bk:=Zh (Zac HA.o af);have al:=bp.o.keep af;have g0:=al.c0;have g1:=al.c1;have g2:=al.c2;simp only [Sl.val] at g0 g1 g2;clear af ap al;go_wp2_with fail;refine(aq.o _).mono ?_;rintro e w2 ⟨rfl,ah⟩;have HF:=Zh (Zac bk.o ah);clear ah;go_wp2;go_ret;exact⟨rfl,HF.o⟩
theorem ZgA (h:nxB u r≠none):(1≤r.cell∧r.cell≤(u.length:Int))∧(atU u r.cell).no=r.no:=by
 have h2:(getU u r.cell r.no).2=true:=by
  cases hh:(getU u r.cell r.no).2 with
  | true=>rfl
  | false=>exact absurd (ZgB hh) h
 unfold getU at h2;split at h2
 · cases h2
 · rename_i hn;have h0:(atU u r.cell).emp=false:=by
    cases hh:(atU u r.cell).emp with
    | false=>rfl
    | true=>exact absurd (.inl hh) hn
   have hc:=Zgi h0;refine⟨⟨by omega,by omega⟩,?_⟩;by_cases e:(atU u r.cell).no=r.no
   · exact e
   · exact absurd (.inr e) hn
theorem Zmy {q:Rw}(hr:nxB u r≠none)(hq:nxB u q≠none)(he:(r.cell-1).toNat=(q.cell-1).toNat):nxB u r=nxB u q:=by
 obtain⟨h1,h2⟩:=ZgA hr;obtain⟨h3,h4⟩:=ZgA hq;(have e1:r.cell=q.cell:=by omega);(have e2:r.no=q.no:=by rw [← h2,← h4,e1]);unfold nxB;rw [e1,e2]
section
variable {α : Type}
def Vn.whoc (V:Vn α) (l:List α):List Int:=l.flatMap fun r=>(V.look 400 r).2.1.take 400
theorem Vn.whoc_take (V:Vn α){l:List α}(h:i<l.length):V.whoc (l.take (i+1))=V.whoc (l.take i) ++ (V.look 400 l[i]).2.1.take 400:=by
 unfold Vn.whoc;rw [List.take_succ_eq_append_getElem h,List.flatMap_append];simp
theorem Vn.whoc_le (V:Vn α)(l:List α):(V.whoc l).length≤400*l.length:=by
 induction l with
 | nil=>simp [Vn.whoc]
 | cons r l ih =>
  (have h2:V.whoc (r :: l)=(V.look 400 r).2.1.take 400 ++ V.whoc l:=by simp [Vn.whoc]);rw [h2,List.length_append,List.length_cons,List.length_take];omega
end
theorem ZoD (h:u.length≤378)(v:Vw)(L:List Rw):allN ((vnB u v).whoc L)=allN ((vnB u v).whos L):=by
 refine Zl1 (Zgh _) (fun x=>?_);rw [Zes];show x∈L.flatMap _↔x∈L.flatMap _;rw [List.mem_flatMap,List.mem_flatMap];have e:∀r,x∈((vnB u v).look 400 r).2.1↔x∈((vnB u v).look 400 r).2.1.take 400:=fun r =>
  (vnB u v).look_again (fun q=>(q.cell-1).toNat) 378 (fun r q hr hq he=>Zmy hr hq he) (fun q hq=>by have:=(ZgA hq).1;omega) (by decide) r x
 constructor
 · rintro ⟨r,hr,hm⟩;exact⟨r,hr,(e r).2 hm⟩
 · rintro ⟨r,hr,hm⟩;exact⟨r,hr,(e r).1 hm⟩
def orN:List Int→Int
  | []=>0
  | x :: l=>if x=0 then orN l else x
theorem ZoZ:∀(t:List Int)(i:Nat),(∀j,j<i→t.getD j 0=0)→i<t.length→t.getD i 0≠0→orN t=t.getD i 0
 | [],i,_,h,_=>absurd h (Nat.not_lt_zero i)
 | x :: l,0,_,_,hn=>by
  have hx:¬x=0:=hn
  show (if x=0 then orN l else x)=x
  rw [if_neg hx]
 | x :: l,i+1,h0,hl,hn=>by
  have hx:x=0:=h0 0 (Nat.succ_pos i)
  have e:=ZoZ l i (fun j hj=>h0 (j+1) (by omega)) (by simpa using hl) hn
  show (if x=0 then orN l else x)=l.getD i 0
  rw [if_pos hx,e]
theorem ZjE:∀(t:List Int),(∀j,j<t.length→t.getD j 0=0)→orN t=0
 | [],_=>rfl
 | x :: l,h=>by
  have hx:x=0:=h 0 (by simp)
  show (if x=0 then orN l else x)=0
  rw [if_pos hx,ZjE l (fun j hj=>h (j+1) (by simpa using hj))]
theorem Zon (p q r s:Bool):orN [chk p,chk q,chk r,chk s]=chk (p && q && r && s):=by
 cases p <;> cases q <;> cases r <;> cases s <;> rfl
theorem Zpa (w:World)(b off len:Nat)(t:List Int)(hl:t.length=len)(h4:len≤1000)(hc:∀i,i<len→w.cell? ⟨b,off+i,none⟩=some (.int .i64 (t.getD i 0))) :
    Calls prog 29 #[.slice (some ⟨b,off,none⟩) len len] w fun e w'=>e=.returned (.int .i64 (orN t))∧w'=w:=by
  have HC:=Zh hc;have HL:=Zh hl;clear hc hl;go_enter func29,ntmps29;go_wp2_with fail;go_loopw [8] (fun iv wr=>wr=w∧∃i:Nat,i≤len∧iv=.int .i64 (i:Nat)∧Hi (∀j,j<i→t.getD j 0=0)) (fun iv _=>len-(intOf iv).toNat)
  case atStart=>exact ⟨rfl,0,Nat.zero_le _,rfl,fun _ h=>absurd h (Nat.not_lt_zero _)⟩
  case round =>
   obtain⟨rfl,i,hi,rfl,hz⟩:=hrel;rcases Nat.lt_or_ge i len with aa | ab
   · (have i1:(i:Int)<(len:Int):=by omega);have c0:=HC.o i aa;obtain⟨x,hx⟩:∃x,x=t.getD i 0:=⟨_,rfl⟩;rw [← hx] at c0;have HX:=Zh hx;clear hx;by_cases h0:x=0
     · have HN:Hi (∀j,j<i+1→t.getD j 0=0):=fun j hj=>by
        by_cases e:j=i
        · rw [e,← HX.o,h0]
        · exact hz.o j (by omega)
       clear hz HX;subst h0;go_wp2;go_roundw;exact ⟨trivial,i+1,by omega,by go_num,HN⟩;simp only [intOf];omega
     · have HE:Hi (orN t=x):=by
        show _=_;rw [HX.o];exact ZoZ t i hz.o (by rw [HL.o];exact aa) (by rw [← HX.o];exact h0)
       clear hz HX;go_wp2;go_ret;exact⟨by rw [HE.o];rfl,rfl⟩
   · (have i1:¬(i:Int)<(len:Int):=by omega);have HE:Hi (orN t=0):=ZjE t (fun j hj=>hz.o j (by rw [HL.o] at hj;omega));clear hz;go_wp2;go_ret;exact⟨by rw [HE.o];rfl,rfl⟩
theorem ZqU (w:World)(a b:Int):(Instr.buildSlice 112 2 #[(0,.int .i64 a),(1,.int .i64 b)]).run prog w=.ok (.slice (some ⟨w.heap.size,0,none⟩) 2 2) (w.alloc (.cells #[.int .i64 a,.int .i64 b] 40)):=by
 simp [go_sem,Instr.buildSlice]
theorem Zsb (w:World)(a b c d:Int):(Instr.buildSlice 112 4 #[(0,.int .i64 a),(1,.int .i64 b),(2,.int .i64 c),(3,.int .i64 d)]).run prog w=.ok (.slice (some ⟨w.heap.size,0,none⟩) 4 4) (w.alloc (.cells #[.int .i64 a,.int .i64 b,.int .i64 c,.int .i64 d] 40)):=by
 simp [go_sem,Instr.buildSlice]
theorem ZgD (w:World)(a b:Int):Calls prog 29 #[.slice (some ⟨w.heap.size,0,none⟩) 2 2] (w.alloc (.cells #[.int .i64 a,.int .i64 b] 40)) fun e w'=>e=.returned (.int .i64 (orN [a,b]))∧Bl w w':=
 (Zpa _ w.heap.size 0 2 [a,b] rfl (by decide) (fun i hi=>by
  have hk:=heap_alloc_new w (.cells #[.int .i64 a,.int .i64 b] 40)
  match i,hi with
  | 0,_=>exact (show World.cell? _ ⟨w.heap.size,0,none⟩=some (.int .i64 a) from by rw [cell_of_row _ _ _ _ _ _ hk];rfl)
  | 1,_=>exact (show World.cell? _ ⟨w.heap.size,1,none⟩=some (.int .i64 b) from by rw [cell_of_row _ _ _ _ _ _ hk];rfl))).mono fun e w' h=>⟨h.1,by rw [h.2];exact Zab w _⟩
theorem ZpQ (w:World)(a b c d:Int):Calls prog 29 #[.slice (some ⟨w.heap.size,0,none⟩) 4 4] (w.alloc (.cells #[.int .i64 a,.int .i64 b,.int .i64 c,.int .i64 d] 40)) fun e w'=>e=.returned (.int .i64 (orN [a,b,c,d]))∧Bl w w':=
 (Zpa _ w.heap.size 0 4 [a,b,c,d] rfl (by decide) (fun i hi=>by
  have hk:=heap_alloc_new w (.cells #[.int .i64 a,.int .i64 b,.int .i64 c,.int .i64 d] 40)
  match i,hi with
  | 0,_=>exact (show World.cell? _ ⟨w.heap.size,0,none⟩=some (.int .i64 a) from by rw [cell_of_row _ _ _ _ _ _ hk];rfl)
  | 1,_=>exact (show World.cell? _ ⟨w.heap.size,1,none⟩=some (.int .i64 b) from by rw [cell_of_row _ _ _ _ _ _ hk];rfl)
  | 2,_=>exact (show World.cell? _ ⟨w.heap.size,2,none⟩=some (.int .i64 c) from by rw [cell_of_row _ _ _ _ _ _ hk];rfl)
  | 3,_=>exact (show World.cell? _ ⟨w.heap.size,3,none⟩=some (.int .i64 d) from by rw [cell_of_row _ _ _ _ _ _ hk];rfl))).mono fun e w' h=>⟨h.1,by rw [h.2];exact Zab w _⟩
theorem Zm5 (n:Nat)(la:Option Addr)(lc:Nat)(y:Ux)(b:Nat)(w:World)(hb:w.cell? ⟨b,5,none⟩=some (.slice la n lc)) :
    Calls prog 80 #[y.val,.pointer (some ⟨b,0,none⟩)] w fun e w'=>e=.returned (.bool (decide ((n:Int)≤y.u.page)))∧Bl w w':=by
  unfold Ux.val Un.val;have hA:=Zab w (.cells #[.int .i64 y.u.tx,.int .i64 y.u.no,.int .i64 y.u.prev,.int .i64 y.u.kind,.int .i64 y.u.page,.int .i64 y.u.slot,.float .f64 y.u.row.key,.bool y.u.row.dead,.slice y.a y.n y.c,.int .i64 y.u.row.wr,.int .i64 y.u.row.cell,.int .i64 y.u.row.no] 65);have hc:=(hA.cell (p:=⟨b,5,none⟩) (World.block_lt_of_cell? w _ hb)).trans hb;have HA:=Zh hA;clear hA hb;go_enter func80,ntmps80;go_wp2;go_ret;exact⟨rfl,HA.o⟩
theorem ZrV (w:World)(va:Option Addr)(vl vc:Nat)(l:List Ux)(h:Us w va vl l)(aj:vl≤1000000)(b n:Nat)(la:Option Addr)(lc:Nat)(hb:w.cell? ⟨b,5,none⟩=some (.slice la n lc)) :
    Calls prog 118 #[.slice va vl vc,.func (.func 80) #[] #[.pointer (some ⟨b,0,none⟩)]] w fun e w'=>e=.returned (.int .i64 (ixU ((uns l).findIdx? (fun y:Un=>decide ((n:Int)≤y.page)))))∧Bl w w':=by
  have HE:=Zh h;have hl:l.length=vl:=h.len;have HC:=Zh hb;have H0:=Zh (Below.refl w.heap.size w);clear h hb;have HL:=Zh hl;clear hl;go_enter func118,ntmps118;go_wp2_with fail;go_loopw [8] (fun iv wr=>∃i:Nat,i≤vl∧iv=.int .i64 (i:Nat)∧Hi (∀j,j<i→(fun y:Un=>decide ((n:Int)≤y.page)) (l.getD j Ux.zero).u=false)∧Hi (Bl w wr)) (fun iv _=>vl-(intOf iv).toNat)
  case atStart=>exact ⟨0,Nat.zero_le _,rfl,fun j hj=>absurd hj (Nat.not_lt_zero _),H0⟩
  case round =>
   obtain⟨i,hi,rfl,aa,ac⟩:=hrel;rcases Nat.lt_or_ge i vl with ah | ak
   · (have i1:(i:Int)<(vl:Int):=by omega);have hr:=HE.o.keep ac.o (Nat.le_refl _);obtain⟨b1,off,rfl,ag⟩:=hr.at' i ah;have ad:=hr.cols _ (hr.mem ah);obtain⟨y,hy⟩:∃y,y=l.getD i Ux.zero:=⟨_,rfl⟩;rw [← hy] at ag ad;have ai:=Zh (Zbm b1 (off+i*12) y wr ag);have HY:=Zh hy;have ae:Hi (Calls prog 80 #[y.val,.pointer (some ⟨b,0,none⟩)] wr fun e w'=>e=.returned (.bool ((fun y:Un=>decide ((n:Int)≤y.page)) y.u))∧Bl wr w'):=Zm5 n la lc y b wr ((ac.o.cell (World.block_lt_of_cell? w _ HC.o)).trans HC.o);clear ag hy ad hr;cases hon:((fun y:Un=>decide ((n:Int)≤y.page)) y.u:Bool) with
     | true =>
      rw [hon] at ae;have HF:Hi ((uns l).findIdx? (fun y:Un=>decide ((n:Int)≤y.page))=some i):=Zp0 (by rw [Zcd,HL.o];exact ah) (by rw [Zbz,← HY.o];exact hon) (fun j hj=>by rw [Zbz];exact aa.o j hj);clear aa HY hon;go_wp2_with (refine Zah _ rfl 65 (.tmp 14) rfl (.pointer (some ⟨b1,off+i*12,none⟩)) y.val rfl ai.o ?_);refine ae.o.mono ?_;rintro e w1 ⟨rfl,ab⟩;have af:=Zh (Zac ac.o ab);clear ab;go_wp2;go_ret;exact⟨by rw [HF.o];rfl,af.o⟩
     | false =>
      rw [hon] at ae;have HN:Hi (∀j,j<i+1→(fun y:Un=>decide ((n:Int)≤y.page)) (l.getD j Ux.zero).u=false):=by
       intro j hj;by_cases e:j=i
       · rw [e,← HY.o];exact hon
       · exact aa.o j (by omega)
      clear aa HY hon;go_wp2_with (refine Zah _ rfl 65 (.tmp 14) rfl (.pointer (some ⟨b1,off+i*12,none⟩)) y.val rfl ai.o ?_);refine ae.o.mono ?_;rintro e w1 ⟨rfl,ab⟩;have af:=Zh (Zac ac.o ab);clear ab;go_wp2;go_roundw;exact ⟨i+1,by omega,by go_num,HN,af⟩;simp only [intOf];omega
   · (have i1:¬(i:Int)<(vl:Int):=by omega);have HF:Hi ((uns l).findIdx? (fun y:Un=>decide ((n:Int)≤y.page))=none):=Zp1 (fun j hj=>by rw [Zbz];exact aa.o j (by rw [Zcd,HL.o] at hj;omega));clear aa;go_wp2;go_ret;exact⟨by rw [HF.o];rfl,ac.o⟩
theorem Zq7 (w:World)(va:Option Addr)(vl vc:Nat)(l:List Ux)(h:Us w va vl l)(ac:vl≤1000000)(b n:Nat)(la:Option Addr)(lc:Nat)(hb:w.cell? ⟨b,5,none⟩=some (.slice la n lc)) :
    Calls prog 79 #[.slice va vl vc,.func (.func 80) #[] #[.pointer (some ⟨b,0,none⟩)]] w fun e w'=>e=.returned (.bool ((uns l).findIdx? (fun y:Un=>decide ((n:Int)≤y.page))).isSome)∧Bl w w':=by
  have HX:=Zh (ZrV w va vl vc l h ac b n la lc hb);have hg:=Zp8 (fun y:Un=>decide ((n:Int)≤y.page)) (uns l);obtain⟨z,hz⟩:∃z,z=ixU ((uns l).findIdx? (fun y:Un=>decide ((n:Int)≤y.page))):=⟨_,rfl⟩;rw [← hz] at hg HX;rw [← hg];clear h hb hg hz;by_cases hp:0≤z
  · have HR:Hi (decide (0≤z)=true):=decide_eq_true hp;go_enter func79,ntmps79;go_wp2_with fail;refine HX.o.mono ?_;rintro e w1 ⟨rfl,aa⟩;have ab:=Zh aa;clear aa;go_wp2;go_ret;exact⟨by rw [HR.o];rfl,ab.o⟩
  · have HR:Hi (decide (0≤z)=false):=decide_eq_false hp;go_enter func79,ntmps79;go_wp2_with fail;refine HX.o.mono ?_;rintro e w1 ⟨rfl,aa⟩;have ab:=Zh aa;clear aa;go_wp2;go_ret;exact⟨by rw [HR.o];rfl,ab.o⟩
theorem ZkU (w:World)(z:Bz)(h:Bin w z) :
    Calls prog 36 #[z.val] w fun e w'=>e=.returned (.int .i64 (chk (!((uns z.ux).findIdx? (fun y:Un=>decide ((z.ls.len:Int)≤y.page))).isSome)))∧Bl w w':=by
  have hA:=Zab w (.cells #[.int .i64 z.t.nx,.int .i64 z.t.no,.int .i64 z.t.cm,.slice z.es.a z.es.len z.es.cap,.slice z.cs.a z.cs.len z.cs.cap,.slice z.ls.a z.ls.len z.ls.cap] 28);have hb:=ZaU w z;have HX:=Zh (Zq7 _ z.cs.a z.cs.len z.cs.cap z.ux (h.keep hA).cs (by have:=h.cb;omega) w.heap.size z.ls.len z.ls.a z.ls.cap hb.c5);have HA:=Zh hA;have c4:=hb.c4;clear h hA hb;generalize ((uns z.ux).findIdx? (fun y:Un=>decide ((z.ls.len:Int)≤y.page))).isSome=m at *;unfold Bz.val;go_enter func36,ntmps36;go_wp2_with fail;refine HX.o.mono ?_;rintro e w1 ⟨rfl,ab⟩;have aa:=Zh (Zac HA.o ab);clear ab HX;cases m with
  | true =>
   go_wp2;go_ret;exact⟨rfl,aa.o⟩
  | false =>
   go_wp2;go_ret;exact⟨rfl,aa.o⟩
theorem Zm3 (u:List Un)(n:Nat):(u.findIdx? (fun y:Un=>decide ((n:Int)≤y.page))).isSome=false↔∀i,i<u.length→(u.getD i zeroU).page<(n:Int):=by
 rw [List.findIdx?_isSome,List.any_eq_false];constructor
 · intro h i hi;have h1:=h (u.getD i zeroU) (by rw [List.getD_eq_getElem?_getD,List.getElem?_eq_getElem hi];exact List.getElem_mem hi);simp only [decide_eq_true_eq] at h1;omega
 · intro h y hy;obtain⟨i,hi,rfl⟩:=List.getElem_of_mem hy;have h1:=h i hi;rw [List.getD_eq_getElem?_getD,List.getElem?_eq_getElem hi] at h1;simp only [Option.getD_some,decide_eq_true_eq] at h1 ⊢;omega
theorem Zdh (n:Int)(b:Bool)(w:World)(hb:b=decide (1≤n∧n≤2147483647)):Calls prog 71 #[.int .i64 n] w fun e w'=>e=.returned (.bool b)∧w'=w:=by
 by_cases h1:1≤n
 · by_cases h2:n≤2147483647
   · have h:b=true:=hb.trans (decide_eq_true ⟨h1,h2⟩);clear hb;subst h;go_enter func71,ntmps71;go_wp2;go_ret;exact⟨rfl,rfl⟩
   · have h:b=false:=hb.trans (decide_eq_false (fun k=>h2 k.2));clear hb;subst h;go_enter func71,ntmps71;go_wp2;go_ret;exact⟨rfl,rfl⟩
 · have h:b=false:=hb.trans (decide_eq_false (fun k=>h1 k.1));clear hb;subst h;go_enter func71,ntmps71;go_wp2;go_ret;exact⟨rfl,rfl⟩
def Stand (t:Tbl) (x:En):Prop:=(x.st=0∧x=En.zero)∨((x.st=1∨x.st=2)∧(1≤x.tx∧x.tx<t.nx)∧(0≤x.last∧x.last≤65535)∧(x.st=1→x.com=0)∧(x.st=2→1≤x.com∧x.com≤t.cm))
instance (t:Tbl) (x:En):Decidable (Stand t x):=by unfold Stand;infer_instance
def clashB (x y:En):Bool:=(x.tx != 0 && x.tx == y.tx) || (x.com != 0 && x.com == y.com)
theorem ZlJ (t:Tbl)(i:Nat):EntOk t i↔Stand t (t.en i)∧∀k,k<i→clashB (t.en i) (t.en k)=false:=by
 constructor
 · intro h;have hs:=h.st;constructor
   · by_cases h0:(t.en i).st=0
     · exact .inl ⟨h0,h.free h0⟩
     · exact .inr ⟨by omega,h.tx h0,h.last h0,h.act,h.done⟩
   · intro k hk;by_cases h0:(t.en i).st=0
     · rw [h.free h0];rfl
     · have h1:=h.one h0 k hk;have h2:=h.tx h0;have h3:(t.en i).com=0∨0<(t.en i).com:=by
        by_cases h1:(t.en i).st=1
        · exact .inl (h.act h1)
        · have:=h.done (by omega);exact .inr (by omega)
       unfold clashB;rw [show ((t.en i).tx == (t.en k).tx)=false from beq_eq_false_iff_ne.2 (fun e=>h1.1 e.symm),Bool.and_false,Bool.false_or];rcases h3 with h3 | h3
       · rw [h3];rfl
       · rw [show ((t.en i).com == (t.en k).com)=false from beq_eq_false_iff_ne.2 (fun e=>h1.2 h3 e.symm),Bool.and_false]
 · rintro ⟨h,hc⟩;rcases h with ⟨h0,he⟩ | ⟨hs,ad,ac,aa,ab⟩
   · have z0:En.zero.st=0:=rfl;constructor <;> rw [he]
     · decide
     · exact fun _=>rfl
     · exact fun h=>absurd z0 h
     · exact fun h=>absurd z0 h
     · exact fun _=>rfl
     · exact fun h=>by cases h
     · exact fun h=>absurd z0 h
   · refine⟨by omega,fun h=>by omega,fun _=>ad,fun _=>ac,aa,ab,fun _ k hk=>?_⟩;have h1:=hc k hk;unfold clashB at h1;simp only [Bool.or_eq_false_iff,Bool.and_eq_false_iff,bne_eq_false_iff_eq,beq_eq_false_iff_ne] at h1;refine⟨fun e=>?_,fun h0 e=>?_⟩
     · rcases h1.1 with k1 | k1
       · omega
       · exact k1 e.symm
     · rcases h1.2 with k1 | k1
       · omega
       · exact k1 e.symm
theorem Zn1 (w:World)(t:Tbl)(v:Sl)(x:En):Bl w ((w.alloc (.cells #[.int .i64 t.nx,.int .i64 t.no,.int .i64 t.cm,.slice v.a v.len v.cap] 24)).alloc (.cells #[.int .i64 x.tx,.int .i64 x.st,.int .i64 x.last,.int .i64 x.com] 127)):=Zac (Zab _ _) (Zab _ _)
theorem Zn0 (w:World)(x y:En):Bl w ((w.alloc (.cells #[.int .i64 x.tx,.int .i64 x.st,.int .i64 x.last,.int .i64 x.com] 127)).alloc (.cells #[.int .i64 y.tx,.int .i64 y.st,.int .i64 y.last,.int .i64 y.com] 127)):=Zac (Zab _ _) (Zab _ _)
theorem Zo5 (t:Tbl)(v:Sl)(xt xs xl xc:Int)(b:Bool)(w:World)(hb:b=decide (Stand t ⟨xt,xs,xl,xc⟩)) :
    Calls prog 72 #[.agg #[.int .i64 t.nx,.int .i64 t.no,.int .i64 t.cm,.slice v.a v.len v.cap],.agg #[.int .i64 xt,.int .i64 xs,.int .i64 xl,.int .i64 xc]] w fun e w'=>e=.returned (.bool b)∧Bl w w':=by
  have HW:=Zn1 w t v ⟨xt,xs,xl,xc⟩;simp only at HW;replace HW:=Zh HW;by_cases h0:xs=0
  · by_cases h1:xt=0
    · by_cases h2:xl=0
      · by_cases h3:xc=0
        · have h:b=true:=hb.trans (decide_eq_true (.inl ⟨h0,by rw [h0,h1,h2,h3];rfl⟩));clear hb;subst h;subst h0;subst h1;subst h2;subst h3;go_enter func72,ntmps72;go_wp2;go_ret;exact⟨by first | rfl | simp [*],HW.o⟩
        · have h:b=false:=hb.trans (decide_eq_false (fun k=>k.elim (fun k=>h3 (congrArg En.com k.2)) (fun k=>by have:=k.1;simp only at this;omega)));clear hb;subst h;subst h0;subst h1;subst h2;go_enter func72,ntmps72;go_wp2;go_ret;exact⟨by first | rfl | simp [*],HW.o⟩
      · have h:b=false:=hb.trans (decide_eq_false (fun k=>k.elim (fun k=>h2 (congrArg En.last k.2)) (fun k=>by have:=k.1;simp only at this;omega)));clear hb;subst h;subst h0;subst h1;go_enter func72,ntmps72;go_wp2;go_ret;exact⟨by first | rfl | simp [*],HW.o⟩
    · have h:b=false:=hb.trans (decide_eq_false (fun k=>k.elim (fun k=>h1 (congrArg En.tx k.2)) (fun k=>by have:=k.1;simp only at this;omega)));clear hb;subst h;subst h0;go_enter func72,ntmps72;go_wp2;go_ret;exact⟨by first | rfl | simp [*],HW.o⟩
  by_cases v0:xt<1
  · have h:b=false:=hb.trans (decide_eq_false (fun k=>k.elim (fun k=>h0 k.1) (fun k=>by have:=k.2.1;simp only at this;omega)));clear hb;subst h;go_enter func72,ntmps72;go_wp2;go_ret;exact⟨by first | rfl | simp [*],HW.o⟩
  by_cases v1:t.nx≤xt
  · have h:b=false:=hb.trans (decide_eq_false (fun k=>k.elim (fun k=>h0 k.1) (fun k=>by have:=k.2.1;simp only at this;omega)));clear hb;subst h;go_enter func72,ntmps72;go_wp2;go_ret;exact⟨by first | rfl | simp [*],HW.o⟩
  by_cases v2:xl<0
  · have h:b=false:=hb.trans (decide_eq_false (fun k=>k.elim (fun k=>h0 k.1) (fun k=>by have:=k.2.2.1;simp only at this;omega)));clear hb;subst h;go_enter func72,ntmps72;go_wp2;go_ret;exact⟨by first | rfl | simp [*],HW.o⟩
  by_cases v3:65535<xl
  · have h:b=false:=hb.trans (decide_eq_false (fun k=>k.elim (fun k=>h0 k.1) (fun k=>by have:=k.2.2.1;simp only at this;omega)));clear hb;subst h;go_enter func72,ntmps72;go_wp2;go_ret;exact⟨by first | rfl | simp [*],HW.o⟩
  by_cases s1:xs=1
  · by_cases c0:xc=0
    · have h:b=true:=hb.trans (decide_eq_true (.inr ⟨.inl s1,by simp only;omega,by simp only;omega,fun _=>c0,fun k=>by simp only at k;omega⟩));clear hb;subst h;subst s1;subst c0;go_enter func72,ntmps72;go_wp2;go_ret;exact⟨by first | rfl | simp [*],HW.o⟩
    · have h:b=false:=hb.trans (decide_eq_false (fun k=>k.elim (fun k=>h0 k.1) (fun k=>c0 (k.2.2.2.1 s1))));clear hb;subst h;subst s1;go_enter func72,ntmps72;go_wp2;go_ret;exact⟨by first | rfl | simp [*],HW.o⟩
  by_cases s2:xs=2
  · by_cases c0:1≤xc
    · by_cases c1:xc≤t.cm
      · have h:b=true:=hb.trans (decide_eq_true (.inr ⟨.inr s2,by simp only;omega,by simp only;omega,fun k=>by simp only at k;omega,fun _=>⟨c0,c1⟩⟩));clear hb;subst h;subst s2;go_enter func72,ntmps72;go_wp2;go_ret;exact⟨by first | rfl | simp [*],HW.o⟩
      · have h:b=false:=hb.trans (decide_eq_false (fun k=>k.elim (fun k=>h0 k.1) (fun k=>c1 (k.2.2.2.2 s2).2)));clear hb;subst h;subst s2;go_enter func72,ntmps72;go_wp2;go_ret;exact⟨by first | rfl | simp [*],HW.o⟩
    · have h:b=false:=hb.trans (decide_eq_false (fun k=>k.elim (fun k=>h0 k.1) (fun k=>c0 (k.2.2.2.2 s2).1)));clear hb;subst h;subst s2;go_enter func72,ntmps72;go_wp2;go_ret;exact⟨by first | rfl | simp [*],HW.o⟩
  have h:b=false:=hb.trans (decide_eq_false (fun k=>k.elim (fun k=>h0 k.1) (fun k=>by have:=k.1;simp only at this;omega)));clear hb;subst h;go_enter func72,ntmps72;go_wp2;go_ret;exact⟨by first | rfl | simp [*],HW.o⟩
theorem Zga (t:Tbl)(v:Sl)(x:En)(w:World) :
    Calls prog 72 #[t.val v,x.val] w fun e w'=>e=.returned (.bool (decide (Stand t x)))∧Bl w w':=Zo5 t v x.tx x.st x.last x.com _ w rfl
theorem Zn6 (xt xs xl xc yt ys yl yc:Int)(b:Bool)(w:World)(hb:b=((xt != 0 && xt == yt) || (xc != 0 && xc == yc))) :
    Calls prog 75 #[.agg #[.int .i64 xt,.int .i64 xs,.int .i64 xl,.int .i64 xc],.agg #[.int .i64 yt,.int .i64 ys,.int .i64 yl,.int .i64 yc]] w fun e w'=>e=.returned (.bool b)∧Bl w w':=by
  have HW:=Zn0 w ⟨xt,xs,xl,xc⟩ ⟨yt,ys,yl,yc⟩;simp only at HW;replace HW:=Zh HW;by_cases a0:xt=0
  · by_cases b0:xc=0
    · have h:b=false:=hb.trans (by simp [a0,b0]);clear hb;subst h;subst a0;subst b0;go_enter func75,ntmps75;go_wp2;go_ret;exact⟨by first | rfl | simp [*],HW.o⟩
    by_cases b1:xc=yc
    · have h:b=true:=hb.trans (by subst b1;simp [b0]);clear hb;subst h;subst a0;subst b1;go_enter func75,ntmps75;go_wp2;go_ret;exact⟨by first | rfl | simp [*],HW.o⟩
    have h:b=false:=hb.trans (by simp [a0,b1]);clear hb;subst h;subst a0;go_enter func75,ntmps75;go_wp2;go_ret;exact⟨by first | rfl | simp [*],HW.o⟩
  by_cases a1:xt=yt
  · have h:b=true:=hb.trans (by subst a1;simp [a0]);clear hb;subst h;subst a1;go_enter func75,ntmps75;go_wp2;go_ret;exact⟨by first | rfl | simp [*],HW.o⟩
  by_cases b0:xc=0
  · have h:b=false:=hb.trans (by simp [a1,b0]);clear hb;subst h;subst b0;go_enter func75,ntmps75;go_wp2;go_ret;exact⟨by first | rfl | simp [*],HW.o⟩
  by_cases b1:xc=yc
  · have h:b=true:=hb.trans (by subst b1;simp [b0]);clear hb;subst h;subst b1;go_enter func75,ntmps75;go_wp2;go_ret;exact⟨by first | rfl | simp [*],HW.o⟩
  have h:b=false:=hb.trans (by simp [a1,b1]);clear hb;subst h;go_enter func75,ntmps75;go_wp2;go_ret;exact⟨by first | rfl | simp [*],HW.o⟩
theorem Zke (x y:En)(w:World) :
    Calls prog 75 #[x.val,y.val] w fun e w'=>e=.returned (.bool (clashB x y))∧Bl w w':=Zn6 x.tx x.st x.last x.com y.tx y.st y.last y.com _ w rfl
theorem Zkb (x y:En)(b:Nat)(w:World)(hb:EnAt w b 0 x) :
    Calls prog 74 #[.agg #[.int .i64 y.tx,.int .i64 y.st,.int .i64 y.last,.int .i64 y.com],.pointer (some ⟨b,0,none⟩)] w fun e w'=>e=.returned (.bool (clashB x y))∧Bl w w':=by
  have hA:=Zab w (.cells #[.int .i64 y.tx,.int .i64 y.st,.int .i64 y.last,.int .i64 y.com] 127);have HC:=Zh (Zke x y (w.alloc (.cells #[.int .i64 y.tx,.int .i64 y.st,.int .i64 y.last,.int .i64 y.com] 127)));have ac:=Zh (Ziz b 0 x _ (hb.keep hA (Nat.le_refl _)));have ad:=Zh (Ziz w.heap.size 0 y _ (Zc7.new w y).at);have HA:=Zh hA;clear hA hb;go_enter func74,ntmps74;go_wp2_with (first | refine Zah _ rfl 127 (.tmp 1) rfl (.pointer (some ⟨b,0,none⟩)) x.val rfl ac.o ?_ | refine Zah _ rfl 127 (.tmp 2) rfl (.pointer (some ⟨w.heap.size,0,none⟩)) y.val rfl ad.o ?_);refine HC.o.mono ?_;rintro e w1 ⟨rfl,aa⟩;have ab:=Zh (Zac HA.o aa);clear aa;go_wp2;go_ret;exact⟨rfl,ab.o⟩
theorem ZnT (w:World)(v:Sl)(l:List En)(h:Es w v l)(b:Nat)(x:En)(hb:EnAt w b 0 x) :
    Calls prog 114 #[.slice v.a v.len v.cap,.func (.func 74) #[] #[.pointer (some ⟨b,0,none⟩)]] w fun e w'=>e=.returned (.int .i64 (ixN (l.findIdx? (fun y=>clashB x y))))∧Bl w w':=by
  have HE:=Zh h;have hl:l.length=v.len:=h.len;have ag:=h.big;have HC:=Zh hb;have H0:=Zh (Below.refl w.heap.size w);clear h hb;obtain⟨va,vl,vc⟩:=v;simp only at hl ag;have HL:=Zh hl;clear hl;simp only;go_enter func114,ntmps114;go_wp2_with fail;go_loopw [8] (fun iv wr=>∃i:Nat,i≤vl∧iv=.int .i64 (i:Nat)∧Hi (∀j,j<i→(fun y=>clashB x y) (l.getD j En.zero)=false)∧Hi (Bl w wr)) (fun iv _=>vl-(intOf iv).toNat)
  case atStart=>exact ⟨0,Nat.zero_le _,rfl,fun j hj=>absurd hj (Nat.not_lt_zero _),H0⟩
  case round =>
   obtain⟨i,hi,rfl,ab,ad⟩:=hrel;rcases Nat.lt_or_ge i vl with ah | ai
   · (have i1:(i:Int)<(vl:Int):=by omega);obtain⟨b1,off,ha,aa⟩:=(HE.o.keep ad.o (Nat.le_refl _)).at' i ah;replace ha:va=some ⟨b1,off,none⟩:=ha;subst ha;obtain⟨y,hy⟩:∃y,y=l.getD i En.zero:=⟨_,rfl⟩;rw [← hy] at aa;have c0:=aa.c0;have c1:=aa.c1;have c2:=aa.c2;have c3:=aa.c3;have HY:=Zh hy;have ae:=Zh (Zkb x y b wr (HC.o.keep ad.o (Nat.le_refl _)));clear aa hy;cases hon:(clashB x y:Bool) with
     | true =>
      rw [hon] at ae;have HF:Hi (l.findIdx? (fun y=>clashB x y)=some i):=ZqL (by rw [HL.o];exact ah) (by rw [← HY.o];exact hon) ab.o;clear ab HY hon;go_wp2_with fail;refine ae.o.mono ?_;rintro e w1 ⟨rfl,ac⟩;have af:=Zh (Zac ad.o ac);clear ac;go_wp2;go_ret;exact⟨by rw [HF.o];rfl,af.o⟩
     | false =>
      rw [hon] at ae;have HN:Hi (∀j,j<i+1→(fun y=>clashB x y) (l.getD j En.zero)=false):=by
       intro j hj;by_cases e:j=i
       · rw [e,← HY.o];exact hon
       · exact ab.o j (by omega)
      clear ab HY hon;go_wp2_with fail;refine ae.o.mono ?_;rintro e w1 ⟨rfl,ac⟩;have af:=Zh (Zac ad.o ac);clear ac;go_wp2;go_roundw;exact ⟨i+1,by omega,by go_num,HN,af⟩;simp only [intOf];omega
   · (have i1:¬(i:Int)<(vl:Int):=by omega);have HF:Hi (l.findIdx? (fun y=>clashB x y)=none):=ZqM (fun j hj=>ab.o j (by rw [HL.o] at hj;omega));clear ab;go_wp2;go_ret;exact⟨by rw [HF.o];rfl,ad.o⟩
theorem Zp7 (p:En→Bool)(l:List En):decide (0≤ixN (l.findIdx? p))=l.any p:=by
 cases h:l.findIdx? p with
 | none =>
  have:=List.findIdx?_eq_none_iff.1 h;rw [List.any_eq_false.2 (fun x hx=>by rw [this x hx];decide)];rfl
 | some i =>
  obtain⟨hi,h1,_⟩:=List.findIdx?_eq_some_iff_getElem.1 h;rw [List.any_eq_true.2 ⟨_,List.getElem_mem hi,h1⟩];exact decide_eq_true (Int.natCast_nonneg _)
theorem ZgY (w:World)(v:Sl)(l:List En)(h:Es w v l)(b:Nat)(x:En)(hb:EnAt w b 0 x) :
    Calls prog 73 #[.slice v.a v.len v.cap,.func (.func 74) #[] #[.pointer (some ⟨b,0,none⟩)]] w fun e w'=>e=.returned (.bool (l.any (clashB x)))∧Bl w w':=by
  have HX:=Zh (ZnT w v l h b x hb);have hg:=Zp7 (clashB x) l;obtain⟨z,hz⟩:∃z,z=ixN (l.findIdx? (clashB x)):=⟨_,rfl⟩;rw [← hz] at hg;(replace HX:Hi (Calls prog 114 #[.slice v.a v.len v.cap,.func (.func 74) #[] #[.pointer (some ⟨b,0,none⟩)]] w fun e w'=>e=.returned (.int .i64 z)∧Bl w w'):=by rw [hz];exact HX);rw [← hg];clear h hb hg hz;by_cases hp:0≤z
  · have HR:Hi (decide (0≤z)=true):=decide_eq_true hp;go_enter func73,ntmps73;go_wp2_with fail;refine HX.o.mono ?_;rintro e w1 ⟨rfl,aa⟩;have ab:=Zh aa;clear aa;go_wp2;go_ret;exact⟨by rw [HR.o];rfl,ab.o⟩
  · have HR:Hi (decide (0≤z)=false):=decide_eq_false hp;go_enter func73,ntmps73;go_wp2_with fail;refine HX.o.mono ?_;rintro e w1 ⟨rfl,aa⟩;have ab:=Zh aa;clear aa;go_wp2;go_ret;exact⟨by rw [HR.o];rfl,ab.o⟩
section
variable {ops : Array Oper} {rest : List Oper} {o : Oper} {a : Act} {Q : Exit → Act → World → Prop}
theorem Zd0 (w:World)(ab:o.guard=none)(t:TypeId)(x:Operand)(lo hi:Option Operand)(ho:o.op=.slice t x lo hi none)(v:Value)(aa:(Instr.sliceAt t (a.eval x) (lo.map a.eval) (hi.map a.eval) none).run prog w=.ok v w)(hK:wpList prog ops Q rest (a.put o.dst v) w):wpList prog ops Q (o :: rest) a w:=by
 refine Zc5 w ab v w ?_ hK;have e:execOp a.eval o=(do pure (.value (← Instr.sliceAt t (a.eval x) (lo.map a.eval) (hi.map a.eval) none))):=by
  unfold execOp;rw [ho];rfl
 rw [e];simp [aa]
end
theorem szEn (w:World):(sizeOf 127).run prog w=.ok 4 w:=by
 obtain⟨i,hi,ab,aa,ac⟩:=info_parts ZoU;simp [sizeOf,typeInfo,hi,aa]
theorem Zq9:prog.elem 22=127:=by kernel_rfl
theorem ZiO (b o len cap k:Nat)(hk:k≤cap)(h0:0<cap)(w:World):(Instr.sliceAt 22 (.slice (some ⟨b,o,none⟩) len cap) none (some (.int .i64 (k:Int))) none).run prog w=.ok (.slice (some ⟨b,o,none⟩) k cap) w:=by
 (have aa:prog.underlying 22=some (.slice (prog.elem 22)):=by kernel_rfl);rw [run_sliceAt_slice w 22 _ _ _ _ aa,run_slice_h w 22 (some ⟨b,o,none⟩) len cap aa .i64 (k:Nat) (by omega) (by omega),Zq9,szEn];(have:¬cap=0:=by omega);simp [Result.andThen,sliced,this,Addr.add_lit]
theorem Es.upto {a:Option Addr}{n c:Nat}{l:List En}(h:Es w ⟨a,n,c⟩ l)(i:Nat)(hi:i≤n):Es w ⟨a,i,c⟩ (l.take i):=by
 have hl:l.length=n:=h.len;have h1:n≤c:=h.le;have h2:n≤9223372036854775807:=h.big;refine⟨by rw [List.length_take];show min i l.length=i;omega,h.nil,(by show i≤c;omega),(by show i≤_;omega),fun j hj=>?_⟩;have hj':j<i:=hj;obtain⟨b,off,ha,aa⟩:=h.at' j (by show j<n;omega);refine⟨b,off,ha,?_⟩;rw [show (l.take i).getD j En.zero=l.getD j En.zero by simp [List.getD,hj']];exact aa
theorem Znw {t:Tbl}{x:En}(hi:i≤t.es.length):(t.es.take i).any (clashB x)=false↔∀k,k<i→clashB x (t.en k)=false:=by
 rw [List.any_eq_false];constructor
 · intro h k hk;(have aa:k<t.es.length:=by omega);have hm:t.en k∈t.es.take i:=by
    unfold Tbl.en;rw [Zhe aa];exact List.mem_take_iff_getElem.2 ⟨k,by omega,rfl⟩
   have:=h _ hm;simpa using this
 · intro h y hy;obtain⟨k,hk,e⟩:=List.mem_take_iff_getElem.1 hy;(have aa:k<t.es.length:=by omega);have:=h k (by omega);unfold Tbl.en at this;rw [Zhe aa,e] at this;rw [this];decide
theorem Zn5 (t:Tbl)(v:Sl)(c:Int)(w:World)(h:Es w v t.es)(hc:c=if mayB t=true then 0 else 1) :
    Calls prog 33 #[t.val v] w fun e w'=>e=.returned (.int .i64 c)∧Bl w w':=by
  (have ac:¬t.May→c=1:=fun k=>by rw [hc,ZbW k];rfl);(have ab:t.May→c=0:=fun k=>by rw [hc,Zg6 k];rfl);clear hc;have hb:=ZgO w t v;have HW:=Zh hb;have HT:=Zh (ZaN.new w t v);have HE:=Zh (h.keep hb (Nat.le_refl _));have hl:t.es.length=v.len:=h.len;have ay:=h.big;clear h hb;obtain⟨va,vl,vc⟩:=v;simp only at hl ay;have HL:=Zh hl;unfold Tbl.val;by_cases z0:1≤t.nx∧t.nx≤2147483647
  case neg =>
   have hc:=ac (fun k=>z0 k.nx);subst hc;have HN:=Zh (fun W=>Zdh t.nx false W (decide_eq_false z0).symm);clear hl HT HE HL ac ab z0;go_enter func33,ntmps33;go_wp2_with fail;refine(HN.o _).mono ?_;rintro e w1 ⟨rfl,rfl⟩;go_wp2;go_ret;exact⟨rfl,HW.o⟩
  have HN:=Zh (fun W=>Zdh t.nx true W (decide_eq_true z0).symm);by_cases z1:1≤t.no∧t.no≤2147483647
  case neg =>
   have hc:=ac (fun k=>z1 k.no);subst hc;have af:=Zh (fun W=>Zdh t.no false W (decide_eq_false z1).symm);clear hl HT HE HL ac ab z0 z1;go_enter func33,ntmps33;go_wp2_with fail;refine(HN.o _).mono ?_;rintro e w1 ⟨rfl,rfl⟩;go_wp2_with fail;refine(af.o _).mono ?_;rintro e w1 ⟨rfl,rfl⟩;go_wp2;go_ret;exact⟨rfl,HW.o⟩
  have af:=Zh (fun W=>Zdh t.no true W (decide_eq_true z1).symm);by_cases z4:t.cm<0
  · have hc:=ac (fun k=>by have:=k.cm;omega);subst hc;clear hl HT HE HL ac ab z0 z1;go_enter func33,ntmps33;go_wp2_with fail;refine(HN.o _).mono ?_;rintro e w1 ⟨rfl,rfl⟩;go_wp2_with fail;refine(af.o _).mono ?_;rintro e w1 ⟨rfl,rfl⟩;go_wp2;go_ret;exact⟨rfl,HW.o⟩
  by_cases z5:2147483647<t.cm
  · have hc:=ac (fun k=>by have:=k.cm;omega);subst hc;clear hl HT HE HL ac ab z0 z1;go_enter func33,ntmps33;go_wp2_with fail;refine(HN.o _).mono ?_;rintro e w1 ⟨rfl,rfl⟩;go_wp2_with fail;refine(af.o _).mono ?_;rintro e w1 ⟨rfl,rfl⟩;go_wp2;go_ret;exact⟨rfl,HW.o⟩
  by_cases z6:vl=12
  case neg =>
   have hc:=ac (fun k=>z6 (by rw [← hl];exact k.len));subst hc;(have q6:((vl:Int) != 12)=true:=by simp;omega);(have q7:¬(vl:Int)=12:=by omega);clear hl HT HE HL ac ab z0 z1 z6;go_enter func33,ntmps33;go_wp2_with fail;refine(HN.o _).mono ?_;rintro e w1 ⟨rfl,rfl⟩;go_wp2_with fail;refine(af.o _).mono ?_;rintro e w1 ⟨rfl,rfl⟩;go_wp2;go_ret;exact⟨rfl,HW.o⟩
  subst z6;have aq:Hi ((1≤t.nx∧t.nx≤2147483647)∧(1≤t.no∧t.no≤2147483647)∧(0≤t.cm∧t.cm≤2147483647)):=⟨z0,z1,by omega,by omega⟩;have bd:=Zh ac;have aw:=Zh ab;have bi:12≤vc:=HE.o.le;clear ac ab z0 z1;go_enter func33,ntmps33;go_wp2_with fail;refine(HN.o _).mono ?_;rintro e w1 ⟨rfl,rfl⟩;go_wp2_with fail;refine(af.o _).mono ?_;rintro e w1 ⟨rfl,rfl⟩;go_wp2_with fail;generalize w.alloc (.cells #[.int .i64 t.nx,.int .i64 t.no,.int .i64 t.cm,.slice va 12 vc] 24)=W at *;clear hl HN af;have H0:=Zh (Below.refl W.heap.size W);go_loopw [32] (fun iv wr=>∃i:Nat,i≤12∧iv=.int .i64 (i:Nat)∧Hi (∀j,j<i→EntOk t j)∧Hi (Bl W wr)) (fun iv _=>12-(intOf iv).toNat)
  case atStart=>exact ⟨0,Nat.zero_le _,rfl,fun j hj=>absurd hj (Nat.not_lt_zero _),H0⟩
  case round =>
   obtain⟨i,hi,rfl,ai,an⟩:=hrel;rename World=>wo;have bg:=HT.o.keep an.o;rcases Nat.lt_or_ge i 12 with ba | bl
   · (have i1:(i:Int)<12:=by omega);have ax:=HE.o.keep an.o (Nat.le_refl _);obtain⟨b,off,ha,bf⟩:=ax.at' i ba;replace ha:va=some ⟨b,off,none⟩:=ha;subst ha;obtain⟨x,hx⟩:∃x,x=t.en i:=⟨_,rfl⟩;(have ad:EnAt wo b (off+i*4) x:=by rw [hx];exact bf);have c0:=ad.c0;have c1:=ad.c1;have c2:=ad.c2;have c3:=ad.c3;have am:=Zab wo (.cells #[.int .i64 x.tx,.int .i64 x.st,.int .i64 x.last,.int .i64 x.com] 127);have ap:=Zh (Zac an.o am);have az:=bg.keep am;have av:=Zh (Zc7.new wo x);have bb:=Zh ((ax.keep am (Nat.le_refl _)).upto i (by omega));(have bj:Hi ((wo.alloc (.cells #[.int .i64 x.tx,.int .i64 x.st,.int .i64 x.last,.int .i64 x.com] 127)).heap.size=wo.heap.size+1):=by show _=_;simp);have ag:Hi (EntOk t i↔Stand t x∧(t.es.take i).any (clashB x)=false):=by
      show _↔_;rw [ZlJ,hx,Znw (by rw [HL.o];omega)]
     have be:=Zh (fun W=>ZiO b off 12 vc i (by omega) (by omega) W);clear ax bf ad hx am bg;generalize bk:wo.alloc (.cells #[.int .i64 x.tx,.int .i64 x.st,.int .i64 x.last,.int .i64 x.com] 127)=W4 at *;have ar:=Zh (ZpF w.heap.size t _ W4 az);have au:=Zh (Ziz wo.heap.size 0 x W4 av.o.at);have bc:=Zh az;have bm:∀(fn:Fn) (first cap:Array Value) (w:World),(Instr.makeFunc fn first cap).run prog w=.ok (.func fn first cap) w:=fun _ _ _ _=>rfl;clear az;by_cases hs:Stand t x
     case neg =>
      have hc:=bd.o (fun m=>hs (ag.o.1 (m.ok i ba)).1);subst hc;have ah:=Zh (Zga t ⟨some ⟨b,off,none⟩,12,vc⟩ x W4);rw [decide_eq_false hs] at ah;clear hs ai ag;go_wp2_with (first | refine Zah _ rfl 24 (.tmp 1) rfl (.pointer (some ⟨w.heap.size,0,none⟩)) (t.val ⟨some ⟨b,off,none⟩,12,vc⟩) rfl ar.o ?_ | refine Zah _ rfl 127 (.tmp 4) rfl (.pointer (some ⟨wo.heap.size,0,none⟩)) x.val rfl au.o ?_);refine ah.o.mono ?_;rintro e w5 ⟨rfl,aa⟩;have aj:=Zh (Zac ap.o aa);clear aa;go_wp2;go_ret;exact⟨rfl,Zac HW.o aj.o⟩
     have ah:=Zh (Zga t ⟨some ⟨b,off,none⟩,12,vc⟩ x W4);rw [decide_eq_true hs] at ah;cases hcl:(t.es.take i).any (clashB x) with
     | true =>
      have hc:=bd.o (fun m=>by have:=(ag.o.1 (m.ok i ba)).2;rw [hcl] at this;cases this);subst hc;have ak:Hi (∀w5,Bl W4 w5→Calls prog 73 #[.slice (some ⟨b,off,none⟩) i vc,.func (.func 74) #[] #[.pointer (some ⟨wo.heap.size,0,none⟩)]] w5 fun e w'=>e=.returned (.bool true)∧Bl w5 w'):=fun w5 aa=>by
       have:=ZgY w5 ⟨some ⟨b,off,none⟩,i,vc⟩ (t.es.take i) (bb.o.keep aa (Nat.le_refl _)) wo.heap.size x (av.o.at.keep aa (Nat.le_refl _));rw [hcl] at this;exact this
      clear hs ai ag hcl;go_wp2_with (first | refine Zah _ rfl 24 (.tmp 1) rfl (.pointer (some ⟨w.heap.size,0,none⟩)) (t.val ⟨some ⟨b,off,none⟩,12,vc⟩) rfl ar.o ?_ | refine Zah _ rfl 127 (.tmp 4) rfl (.pointer (some ⟨wo.heap.size,0,none⟩)) x.val rfl au.o ?_);refine ah.o.mono ?_;rintro e w5 ⟨rfl,aa⟩;have aj:=Zh (Zac ap.o aa);have ae:=Zh (ak.o w5 aa);have d3:=(bc.o.keep aa).c3;clear aa ak;go_wp2_with (refine Zd0 _ rfl 22 (.tmp 42) none (some (.tmp 43)) rfl (.slice (some ⟨b,off,none⟩) i vc) (be.o _) ?_);refine ae.o.mono ?_;rintro e w6 ⟨rfl,al⟩;have ao:=Zh (Zac aj.o al);clear al;go_wp2;go_ret;exact⟨rfl,Zac HW.o ao.o⟩
     | false =>
      have bh:Hi (∀j,j<i+1→EntOk t j):=by
       intro j hj;by_cases e:j=i
       · subst e;exact ag.o.2 ⟨hs,hcl⟩
       · exact ai.o j (by omega)
      have ak:Hi (∀w5,Bl W4 w5→Calls prog 73 #[.slice (some ⟨b,off,none⟩) i vc,.func (.func 74) #[] #[.pointer (some ⟨wo.heap.size,0,none⟩)]] w5 fun e w'=>e=.returned (.bool false)∧Bl w5 w'):=fun w5 aa=>by
       have:=ZgY w5 ⟨some ⟨b,off,none⟩,i,vc⟩ (t.es.take i) (bb.o.keep aa (Nat.le_refl _)) wo.heap.size x (av.o.at.keep aa (Nat.le_refl _));rw [hcl] at this;exact this
      clear hs ai ag hcl;go_wp2_with (first | refine Zah _ rfl 24 (.tmp 1) rfl (.pointer (some ⟨w.heap.size,0,none⟩)) (t.val ⟨some ⟨b,off,none⟩,12,vc⟩) rfl ar.o ?_ | refine Zah _ rfl 127 (.tmp 4) rfl (.pointer (some ⟨wo.heap.size,0,none⟩)) x.val rfl au.o ?_);refine ah.o.mono ?_;rintro e w5 ⟨rfl,aa⟩;have aj:=Zh (Zac ap.o aa);have ae:=Zh (ak.o w5 aa);have d3:=(bc.o.keep aa).c3;clear aa ak;go_wp2_with (refine Zd0 _ rfl 22 (.tmp 42) none (some (.tmp 43)) rfl (.slice (some ⟨b,off,none⟩) i vc) (be.o _) ?_);refine ae.o.mono ?_;rintro e w6 ⟨rfl,al⟩;have ao:=Zh (Zac aj.o al);clear al;go_wp2;go_roundw;exact ⟨i+1,by omega,by go_num,bh,ao⟩;simp only [intOf];omega
   · (have i1:¬(i:Int)<12:=by omega);have hc:=aw.o ⟨aq.o.1,aq.o.2.1,aq.o.2.2,HL.o,fun j hj=>ai.o j (by omega)⟩;subst hc;clear ai;go_wp2;go_ret;exact⟨rfl,Zac HW.o an.o⟩
theorem ZnZ (w:World)(x:Nat):Calls prog 169 #[.int .u8 (x:Int)] w fun e w'=>e=.returned (.bool (!(x == 0)))∧w'=w:=by
 by_cases h:x=0
 · subst h;go_enter func169,ntmps169;go_wp2;go_ret;exact⟨rfl,rfl⟩
 · (have i1:¬(x:Int)=0:=by omega);(have i2:(x == 0)=false:=by simp [h]);rw [i2];go_enter func169,ntmps169;go_wp2;go_ret;exact⟨by simp [h],rfl⟩
theorem ZlZ (w:World)(a:Option Addr)(len cap:Nat)(xs:List Nat)(h:Bs w a len xs)(ad:len≤1000000) :
    Calls prog 184 #[.slice a len cap,.func (.func 169) #[] #[]] w fun e w'=>(∃z,e=.returned (.int .i64 z)∧decide (0≤z) = !(nul xs))∧w'=w:=by
  have HG:=Zh h;have HL:=Zh h.1;clear h;go_enter func184,ntmps184;go_wp2_with fail;go_loopw [8] (fun iv wr=>wr=w∧∃i:Nat,i≤len∧iv=.int .i64 (i:Nat)∧Hi (∀j,j<i→xs.getD j 0=0)) (fun iv _=>len-(intOf iv).toNat)
  case atStart=>exact ⟨rfl,0,Nat.zero_le _,rfl,fun _ h=>absurd h (Nat.not_lt_zero _)⟩
  case round =>
   obtain⟨rfl,i,hi,rfl,aa⟩:=hrel;rcases Nat.lt_or_ge i len with ac | ae
   · (have i1:(i:Int)<(len:Int):=by omega);obtain⟨bb,oo,ha,c0⟩:=HG.o.2.2 i ac;subst ha;obtain⟨x,hx⟩:∃x,x=xs.getD i 0:=⟨_,rfl⟩;rw [← hx] at c0;have HX:=Zh hx;have ab:=Zh (ZnZ wr x);clear hx;by_cases h0:x=0
     · rw [h0] at ab c0;have HE:Hi (∀j,j<i+1→xs.getD j 0=0):=by
        intro j hj;by_cases e:j=i
        · rw [e,← HX.o];exact h0
        · exact aa.o j (by omega)
       clear aa HX h0;go_wp2_with fail;refine ab.o.mono ?_;rintro e w1 ⟨rfl,hw⟩;obtain rfl:=hw.symm;go_wp2;go_roundw;exact ⟨trivial,i+1,by omega,by go_num,HE⟩;simp only [intOf];omega
     · (have hb:(!(x == 0))=true:=by simp [h0]);rw [hb] at ab;have HE:Hi (decide (0≤(i:Int)) = !(nul xs)):=by
        show _=_;rw [Zrk (i:=i) (by rw [HL.o];exact ac) (by rw [← HX.o];exact h0)];simp
       clear aa HX h0 hb;go_wp2_with fail;refine ab.o.mono ?_;rintro e w1 ⟨rfl,hw⟩;obtain rfl:=hw.symm;go_wp2;go_ret;exact⟨⟨_,rfl,HE.o⟩,rfl⟩
   · (have i1:¬(i:Int)<(len:Int):=by omega);have HE:Hi (decide (0≤(-1:Int)) = !(nul xs)):=by
      show _=_;rw [ZpM (fun j hj=>aa.o j (by rw [HL.o] at hj;omega))];rfl
     clear aa;go_wp2;go_ret;exact⟨⟨_,rfl,HE.o⟩,rfl⟩
theorem Zkg (w:World)(a:Option Addr)(len cap:Nat)(xs:List Nat)(h:Bs w a len xs)(aa:len≤1000000) :
    Calls prog 168 #[.slice a len cap,.func (.func 169) #[] #[]] w fun e w'=>e=.returned (.bool (!(nul xs)))∧w'=w:=by
  have HX:=Zh (ZlZ w a len cap xs h aa);clear h;generalize nul xs=n at *;go_enter func168,ntmps168;go_wp2_with fail;refine HX.o.mono ?_;rintro e w1 ⟨⟨z,rfl,hz⟩,hw⟩;obtain rfl:=hw.symm;have HZ:=Zh hz;clear HX hz;go_wp2;go_ret;exact⟨by rw [← HZ.o];rfl,rfl⟩
def Zq1 (f:Lf) (e:Ending):Prop:=(MayL f∧e=.returned (.bool false))∨(¬MayL f∧e=.returned (.bool true))
theorem ZkG {D:Nat→Prop}(w:World)(u v:Sl)(t:List Int)(l:List Sb)(hi:Gi D w u t)(hg:Gb D w v l) :
    Calls prog 104 #[lfV u v] w fun e w'=>Zq1 ⟨t,bss l⟩ e∧Bl w w':=by
  have hA:=Zab w (.cells #[u.val,v.val] 101);have hk:=ZaB w u.val v.val;have c0:=hk.c0;have c1:=hk.c1;have HC:=Zh (Zkd _ u v t l (hi.below hA (Nat.le_refl _)) (hg.below hA (Nat.le_refl _)));have HA:=Zh hA;clear hi hg hA hk;obtain⟨a,len,cap⟩:=v;obtain⟨ua,ul,uc⟩:=u;unfold lfV Sl.val at *;simp only at *;go_enter func104,ntmps104;go_wp2_with fail;refine HC.o.mono ?_;rintro e w1 ⟨aa,hb⟩;have HB:=Zh (Zac HA.o hb);clear hb HC HA;rcases aa with ⟨hm,rfl⟩ | ⟨hm,rfl⟩
  · have HM:=Zh hm;clear hm;go_wp2;go_ret;exact⟨.inl ⟨HM.o,rfl⟩,HB.o⟩
  · have HM:=Zh hm;clear hm;go_wp2;go_ret;exact⟨.inr ⟨HM.o,rfl⟩,HB.o⟩
def IxNl (l:List Lf) (e:Ending):Prop:=((∀f∈l,MayL f)∧e=.returned (.int .i64 (-1)))∨((¬ ∀f∈l,MayL f)∧∃i:Nat,e=.returned (.int .i64 (i:Nat)))
theorem Zma (w:World)(s:Sl)(L:List Lb)(h:Gl (fun _=>True) w s L) :
    Calls prog 137 #[s.val,.func (.func 104) #[] #[]] w fun e w'=>IxNl (lfs L) e∧Bl w w':=by
  obtain⟨a,len,cap⟩:=s;have HE:=Zh h;have hl:L.length=len:=h.len;have al:len≤900:=h.big;have H0:=Zh (Below.refl w.heap.size w);clear h;have HL:=Zh hl;clear hl;unfold Sl.val;simp only;go_enter func137,ntmps137;go_wp2_with fail;go_loopw [8] (fun iv wr=>∃i:Nat,i≤len∧iv=.int .i64 (i:Nat)∧Hi (∀j,j<i→MayL (lf (lfs L) j))∧Hi (Bl w wr)) (fun iv _=>len-(intOf iv).toNat)
  case atStart=>exact ⟨0,Nat.zero_le _,rfl,fun j hj=>absurd hj (Nat.not_lt_zero _),H0⟩
  case round =>
   obtain⟨i,hi,rfl,aa,ae⟩:=hrel;rcases Nat.lt_or_ge i len with ak | an
   · (have i1:(i:Int)<(len:Int):=by omega);have hr:=HE.o.below ae.o (Nat.le_refl _);have ab:i<(Sl.mk a len cap).len:=ak;obtain⟨b1,off,ha,c0,c1⟩:=hr.cell i ab;replace ha:a=some ⟨b1,off,none⟩:=ha;subst ha;have ad:=hr.at ab;have af:=ZfH L i;obtain⟨x,hx⟩:∃x,x=L.getD i Lb.zero:=⟨_,rfl⟩;rw [← hx] at c0 c1 ad af;have ah:=Zh (ZkG wr x.u x.v x.t x.l ad.1 ad.2);have ai:=Zh (ZdI (b:=b1) (o:=off+i*2) c0 c1);have ac:Hi (lf (lfs L) i=⟨x.t,bss x.l⟩):=af;clear c0 c1 ad hr hx af;go_wp2_with (refine Zah _ rfl 101 (.tmp 14) rfl (.pointer (some ⟨b1,off+i*2,none⟩)) (lfV x.u x.v) rfl ai.o ?_);refine ah.o.mono ?_;rintro e w1 ⟨am,aj⟩;have ag:=Zh (Zac ae.o aj);clear aj ah ai;rcases am with ⟨hm,rfl⟩ | ⟨hm,rfl⟩
     · have HN:Hi (∀j,j<i+1→MayL (lf (lfs L) j)):=by
        intro j hj;by_cases e:j=i
        · rw [e,ac.o];exact hm
        · exact aa.o j (by omega)
       clear hm aa ac;go_wp2;go_roundw;exact ⟨i+1,by omega,by go_num,HN,ag⟩;simp only [intOf];omega
     · have HF:Hi (¬ ∀f∈lfs L,MayL f):=fun hh=>hm (by rw [← ac.o];exact hh _ (ZcA (by rw [Zbh,HL.o];exact ak)));clear hm aa ac;go_wp2;go_ret;exact⟨.inr ⟨HF.o,i,rfl⟩,ag.o⟩
   · (have i1:¬(i:Int)<(len:Int):=by omega);have HF:Hi (∀f∈lfs L,MayL f):=by
      intro f hf;obtain⟨j,hj,rfl⟩:=List.getElem_of_mem hf;have:=aa.o j (by rw [Zbh,HL.o] at hj;omega);rwa [Zed hj] at this
     clear aa;go_wp2;go_ret;exact⟨.inl ⟨HF.o,rfl⟩,ae.o⟩
theorem Zkh (w:World)(s:Sl)(L:List Lb)(h:Gl (fun _=>True) w s L) :
    Calls prog 103 #[s.val,.func (.func 104) #[] #[]] w fun e w'=>(((∀f∈lfs L,MayL f)∧e=.returned (.bool false))∨((¬ ∀f∈lfs L,MayL f)∧e=.returned (.bool true)))∧Bl w w':=by
  have HX:=Zh (Zma w s L h);clear h;unfold Sl.val at *;go_enter func103,ntmps103;go_wp2_with fail;refine HX.o.mono ?_;rintro e w1 ⟨hx,hb⟩;have HB:=Zh hb;clear hb HX;rcases hx with ⟨hm,rfl⟩ | ⟨hm,i,rfl⟩
  · have HM:=Zh hm;clear hm;go_wp2;go_ret;exact⟨.inl ⟨HM.o,rfl⟩,HB.o⟩
  · have HM:=Zh hm;(have aa:(0:Int)≤(i:Int):=by omega);clear hm;go_wp2;go_ret;exact⟨.inr ⟨HM.o,rfl⟩,HB.o⟩
theorem Zrj (h:nul xs=true):xs=List.replicate xs.length 0:=by
 rw [List.eq_replicate_iff];refine⟨rfl,fun x hx=>?_⟩;unfold nul at h;have:=List.all_eq_true.1 h x hx;simpa using this
theorem ZkJ (n:Nat):nul (List.replicate n 0)=true:=by
 unfold nul;rw [List.all_eq_true];intro x hx;rw [(List.mem_replicate.1 hx).2];rfl
theorem Zpo (hn:nul (xs.drop (20+8*xs.getD 19 0))=false):decH xs=none:=by
 cases hd:decH xs with
 | none=>rfl
 | some r =>
  obtain⟨h1,h2,h3,h4⟩:=ZeI hd;have hm:=Zeu h3;have aa:=ZlW hm;rw [h4] at aa;have hl:=Zcg r;have:xs.drop (20+8*xs.getD 19 0)=List.replicate (52-r.bytes.length) 0:=by
   rw [aa,← h4,← hl];unfold hpB;rw [List.drop_left]
  rw [this,ZkJ] at hn;cases hn
theorem Zq8 (hx:Bytes xs)(h1:xs.length=52)(h4:xs.getD 19 0≤4)(hn:nul (xs.drop (20+8*xs.getD 19 0))=true)(h:decB (xs.take (20+8*xs.getD 19 0))=some r):decH xs=some r:=by
 refine Zjt h1 h4 h ?_;have hc:=Zhd (fun x hh=>hx x (List.mem_of_mem_take hh)) h;have hz:=Zrj hn;unfold hpB;rw [hc,List.length_take,Nat.min_eq_left (by omega)];rw [List.length_drop,h1] at hz;rw [← hz,List.take_append_drop]
theorem ZmN (a:Option Addr)(len cap:Nat)(xs:List Nat)(w:World)(h:Came w a len cap xs)(hl:len≠52) :
    Calls prog 140 #[.slice a len cap] w (Zbd xs w):=by
  have aa:∀(w:World) (a:Addr) (m:Mode) (x:Nat),(store a (.float .f64 x) m).run prog w=stored prog w a (.float .f64 x) m:=fun w a m x=>run_store prog w a _ m rfl;have HZ:=Zh (Zai w zeroR (.slice none 0 0));have HW:=Zh (Zab w (.cells #[.float .f64 0,.bool false,.slice none 0 0,.int .i64 0,.int .i64 0,.int .i64 0] 39));have HN:=Zh (Zha (xs:=xs) (by rw [h.bs.1];exact hl));(have i1:¬(len:Int)=52:=by omega);have i2:((len:Int) == 52)=false:=beq_eq_false_iff_ne.2 i1;clear h;go_enter func140,ntmps140;go_wp2;refine bodyPost_ret (Zbj rfl HZ.o _ _ rfl rfl ⟨_,_,_,rfl⟩) rfl ?_;exact Zbd.no HN.o HW.o
theorem Zlb (a:Option Addr)(cap:Nat)(xs:List Nat)(w:World)(h:Came w a 52 cap xs)(h4:4<xs.getD 19 0) :
    Calls prog 140 #[.slice a 52 cap] w (Zbd xs w):=by
  have aa:∀(w:World) (a:Addr) (m:Mode) (x:Nat),(store a (.float .f64 x) m).run prog w=stored prog w a (.float .f64 x) m:=fun w a m x=>run_store prog w a _ m rfl;have HZ:=Zh (Zai w zeroR (.slice none 0 0));have HW:=Zh (Zab w (.cells #[.float .f64 0,.bool false,.slice none 0 0,.int .i64 0,.int .i64 0,.int .i64 0] 39));have HN:=Zh (Zhb (xs:=xs) h4);have hb:xs.getD 19 0<256:=by
   have hl:=h.bs.1;have:=h.bs.2.1 (xs.getD 19 0) (by simp [List.getD,show 19<xs.length by omega]);omega
  obtain⟨b,off,rfl,c19⟩:=(h.bs.keep HW.o (Nat.le_refl _)).2.2 19 (by omega);generalize xs.getD 19 0=n at *;(have i2:(52:Int)<20+8*(n:Int):=by omega);(have ab:IntKind.i64.wrap (8*(n:Int))=8*(n:Int):=by rw [IntKind.wrap_i64];omega);(have ac:IntKind.i64.wrap (20+8*(n:Int))=20+8*(n:Int):=by rw [IntKind.wrap_i64];omega);(have ad:IntKind.i64.wrap (n:Int)=(n:Int):=by rw [IntKind.wrap_i64];omega);clear h;go_enter func140,ntmps140;go_wp2;refine bodyPost_ret (Zbj rfl HZ.o _ _ rfl rfl ⟨_,_,_,rfl⟩) rfl ?_;exact Zbd.no HN.o HW.o
theorem Zlc (a:Option Addr)(cap:Nat)(xs:List Nat)(w:World)(h:Came w a 52 cap xs)(h4:xs.getD 19 0≤4) :
    Calls prog 140 #[.slice a 52 cap] w (Zbd xs w):=by
  have bk:∀(w:World) (a:Addr) (m:Mode) (x:Nat),(store a (.float .f64 x) m).run prog w=stored prog w a (.float .f64 x) m:=fun w a m x=>run_store prog w a _ m rfl;have HZ:=Zh (Zai w zeroR (.slice none 0 0));have HW:=Zh (Zab w (.cells #[.float .f64 0,.bool false,.slice none 0 0,.int .i64 0,.int .i64 0,.int .i64 0] 39));have bg:Hi (xs.length=52):=h.bs.1;have bf:=Zh h.bs.2.1;have HC:=Zh h;have am:=Zh (ZlH (xs:=xs));have ao:=Zh (Zpo (xs:=xs));have ag:Hi (nul (xs.drop (20+8*xs.getD 19 0))=true→∀r,decB (xs.take (20+8*xs.getD 19 0))=some r→decH xs=some r):=fun hn r hr=>Zq8 bf.o bg.o h4 hn hr;have au:=h.bs.keep HW.o (Nat.le_refl _);have ad:=au.from (cap:=cap) (k:=20+8*xs.getD 19 0) (by omega) h.le;have af:=Zh (Zkg _ _ _ (cap-(20+8*xs.getD 19 0)) _ ad (by omega));obtain⟨b,off,rfl,c19⟩:=au.2.2 19 (by omega);have HT:=Zh ((HC.o.keep HW.o (Nat.le_refl _)).top (k:=20+8*xs.getD 19 0) (by omega));clear au ad;generalize xs.getD 19 0=n at *;(have i2:¬(52:Int)<20+8*(n:Int):=by omega);(have av:fromA (some ⟨b,off,none⟩) cap 0=some ⟨b,off,none⟩:=by unfold fromA;have:=HC.o.le;rw [if_neg (by omega)];rfl);rw [av] at HT;have HD:=Zh (Zkj (some ⟨b,off,none⟩) (20+8*n) cap (xs.take (20+8*n)) _ HT.o (by omega));have bh:52≤cap:=HC.o.le;have bl:∀w:World,(Instr.sliceAt 107 (.slice (some ⟨b,off,none⟩) 52 cap) none (some (.int .i64 (20+8*(n:Int)))) none).run prog w=.ok (.slice (some ⟨b,off,none⟩) (20+8*n) cap) w:=by
   intro w;have:=ZfZ (some ⟨b,off,none⟩) 52 cap (20+8*n) (by omega) w;rw [av,show ((20+8*n:Nat):Int)=20+8*(n:Int) by omega] at this;exact this
  obtain⟨fa,ax⟩:∃fa,fa=fromA (some ⟨b,off,none⟩) cap (20+8*n):=⟨_,rfl⟩;obtain⟨fl,ay⟩:∃fl,fl=52-(20+8*n):=⟨_,rfl⟩;obtain⟨fc,aw⟩:∃fc,fc=cap-(20+8*n):=⟨_,rfl⟩;have bi:∀w:World,(Instr.sliceAt 107 (.slice (some ⟨b,off,none⟩) 52 cap) (some (.int .i64 (20+8*(n:Int)))) none none).run prog w=.ok (.slice fa fl fc) w:=by
   intro w;have:=Zc3 (some ⟨b,off,none⟩) 52 cap (20+8*n) (by omega) w;rw [← ax,← ay,← aw,show ((20+8*n:Nat):Int)=20+8*(n:Int) by omega] at this;exact this
  rw [← ax,← ay,← aw] at af;(have bm:IntKind.i64.wrap (8*(n:Int))=8*(n:Int):=by rw [IntKind.wrap_i64];omega);(have bn:IntKind.i64.wrap (20+8*(n:Int))=20+8*(n:Int):=by rw [IntKind.wrap_i64];omega);(have bo:IntKind.i64.wrap (n:Int)=(n:Int):=by rw [IntKind.wrap_i64];omega);clear h av HT ax ay aw;cases hnu:nul (xs.drop (20+8*n)) with
  | false =>
   rw [hnu] at af;have HN:=Zh (ao.o hnu);clear hnu ao ag am HD;go_enter func140,ntmps140;go_wp2_with fail;refine af.o.mono ?_;rintro e w1 ⟨rfl,hw⟩;obtain rfl:=hw.symm;go_wp2;refine bodyPost_ret (Zbj rfl HZ.o _ _ rfl rfl ⟨_,_,_,rfl⟩) rfl ?_;exact Zbd.no HN.o HW.o
  | true =>
   rw [hnu] at af;have ac:=Zh (ag.o hnu);clear hnu ao ag;go_enter func140,ntmps140;go_wp2_with fail;refine af.o.mono ?_;rintro e w1 ⟨rfl,hw⟩;obtain rfl:=hw.symm;go_wp2_with fail;refine HD.o.mono ?_;intro e w1 hr;have bb:=Zh (Zac HW.o hr.1);have bc:=Zh (HZ.o.keep hr.1);cases hd:decB (xs.take (20+8*n)) with
   | none =>
    have HN:=Zh (am.o hd);have az:=hr.2.1 hd;subst az;have al:=Zh (Zab w1 (.cells #[.float .f64 zeroR.key,.bool zeroR.dead,.slice none 0 0,.int .i64 zeroR.wr,.int .i64 zeroR.cell,.int .i64 zeroR.no] 39));clear hr hd am ac HD c19 af;unfold Zd1;have ae:Hi (Bl w (w1.alloc (.cells #[.float .f64 zeroR.key,.bool zeroR.dead,.slice none 0 0,.int .i64 zeroR.wr,.int .i64 zeroR.cell,.int .i64 zeroR.no] 39))):=Zac bb.o al.o;have aa:=Zh (bc.o.keep al.o);unfold zeroR at ae aa al;simp only at ae aa al;have ab:=Zh (Zai w1 zeroR (.slice none 0 0));unfold zeroR at ab;simp only at ab;generalize ai:w1.alloc (.cells #[.float .f64 0,.bool false,.slice none 0 0,.int .i64 0,.int .i64 0,.int .i64 0] 39)=WX at ae aa ab;have aq:=Zh ai;clear ai;have z0:=aa.o.c0;have z1:=aa.o.c1;have z2:=aa.o.c2;have z3:=aa.o.c3;have z4:=aa.o.c4;have z5:=aa.o.c5;have f0:=aa.o.fz;have x0:=ab.o.c0;have x1:=ab.o.c1;have x2:=ab.o.c2;have x3:=ab.o.c3;have x4:=ab.o.c4;have x5:=ab.o.c5;simp only at z0 z1 z3 z4 z5 x0 x1 x3 x4 x5;go_upto_region 7 with fail;rw [aq.o];go_wp2_with fail;show bodyPost prog f140 _ Exit.ret _ (setRw WX w.heap.size zeroR (.slice none 0 0));refine Zcb rfl aa.o zeroR (.slice none 0 0) (.bool false) ⟨_,_,_,rfl⟩ (by rfl) (by rfl) (by rfl) ?_;exact Zbd.no HN.o (Zal ae.o (Nat.le_refl _) _ _)
   | some r =>
    obtain⟨be,ra,rl,rc,az,bd,ak⟩:=hr.2.2 r hd;subst az;have HY:=Zh (ac.o r hd);have ah:=Zh be;have an:=Zab w1 (.cells #[.float .f64 r.key,.bool r.dead,.slice ra rl rc,.int .i64 r.wr,.int .i64 r.cell,.int .i64 r.no] 39);have ae:=Zh (Zac bb.o an);have aa:=Zh (bc.o.keep an);have ab:=Zh (Zai w1 r (.slice ra rl rc));have ap:=Zh ((ak.lower (b':=w.heap.size) HW.o.size).keep an (Nat.le_refl _));have aj:=Zeu hd;have bj:=(Rw.may_parts aj).2.1;have ba:rl=r.xs.length:=(bd.len).symm;(have ar:Hi (r.xs.length≤100):=by show _≤_;omega);unfold Rw.val;generalize ai:w1.alloc (.cells #[.float .f64 r.key,.bool r.dead,.slice ra rl rc,.int .i64 r.wr,.int .i64 r.cell,.int .i64 r.no] 39)=WX at ae aa ab ap;have aq:=Zh ai;clear ai hr hd am ac HD c19 af be bd ak an aj bj ba;have z0:=aa.o.c0;have z1:=aa.o.c1;have z2:=aa.o.c2;have z3:=aa.o.c3;have z4:=aa.o.c4;have z5:=aa.o.c5;have f0:=aa.o.fz;simp only [zeroR] at z0 z1 z3 z4 z5;have x0:=ab.o.c0;have x1:=ab.o.c1;have x2:=ab.o.c2;have x3:=ab.o.c3;have x4:=ab.o.c4;have x5:=ab.o.c5;go_upto_region 7 with fail;rw [aq.o];go_wp2_with fail;show bodyPost prog f140 _ Exit.ret _ (setRw WX w.heap.size r (.slice ra rl rc));refine Zcb rfl aa.o r (.slice ra rl rc) (.bool true) ⟨_,_,_,rfl⟩ (by rfl) (by rfl) (by rfl) ?_;refine⟨Zal ae.o (Nat.le_refl _) _ _,(fun h=>by rw [HY.o] at h;cases h),fun q h=>?_⟩;rw [HY.o] at h;simp only [Option.some.injEq] at h;subst h;exact⟨ah.o,ra,rl,rc,rfl,(ap.o.setRw aa.o _ _).fsAt ah.o.xs (by have:=ar.o;omega),ap.o.setRw aa.o _ _⟩
theorem ZmM (a:Option Addr)(len cap:Nat)(xs:List Nat)(w:World)(h:Came w a len cap xs) :
    Calls prog 140 #[.slice a len cap] w (Zbd xs w):=by
  by_cases hl:len=52
  · subst hl;rcases Nat.lt_or_ge 4 (xs.getD 19 0) with h4 | h4
    · exact Zlb a cap xs w h h4
    · exact Zlc a cap xs w h h4
  · exact ZmN a len cap xs w h hl
open Go.RowKit Go.Sort
def uE (x:Int):Value:=.int .u64 x
structure Sq (w0:World) (blk off m:Nat) (W:World) (d:Array Int):Prop where
  size:d.size=m
  holds:Holds uE W blk off d
  frm:Frm (fun k=>k=blk) w0 W
theorem Sq.cell (h:Sq w0 blk off m W d)(t:Nat)(ht:t<m):W.cell? ⟨blk,off+t,none⟩=some (.int .u64 d[t]!):=(h.holds t (by rw [h.size];exact ht)).1
theorem Sq.fz (h:Sq w0 blk off m W d)(t:Nat)(ht:t<m):W.frozen? ⟨blk,off+t,none⟩=false:=(h.holds t (by rw [h.size];exact ht)).2
theorem Sq.drewN (h:Sq w0 blk off m W d)(q:Nat):Sq w0 blk off m (W.drewN q) d:=
 ⟨h.size,h.holds,⟨h.frm.os,h.frm.tape,h.frm.output,h.frm.size,h.frm.block⟩⟩
theorem Sq.drew1 (h:Sq w0 blk off m W d):Sq w0 blk off m W.drew d:=h.drewN 1
theorem Sq.lt (h:Sq w0 blk off m W d)(hm:0<m):blk<W.heap.size:=World.block_lt_of_cell? W _ (h.cell 0 hm)
theorem Sq.below {W':World}(h:Sq w0 blk off m W d)(hb:Bl W W'):Sq w0 blk off m W' d:=by
 refine⟨h.size,fun t ht=>?_,h.frm.trans (G:=fun _=>False) (Frm.ofBelow hb) (fun _ _ h=>h.elim)⟩;have hl:blk<W.heap.size:=World.block_lt_of_cell? W _ (h.holds t ht).1;refine⟨(hb.cell (p:=⟨blk,off+t,none⟩) hl).trans (h.holds t ht).1,?_⟩;rw [← (h.holds t ht).2];simp only [World.frozen?,hb.block blk hl]
theorem Sq.swap (h:Sq w0 blk off m W d)(q i j:Nat)(hi:i<m)(hj:j<m):Sq w0 blk off m (((W.drewN q).setCell ⟨blk,off+i,none⟩ (.int .u64 d[j]!)).setCell ⟨blk,off+j,none⟩ (.int .u64 d[i]!)) (swp d i j):=by
 have hd:=h.drewN q;generalize W.drewN q=V at hd;have hs:=hd.size;have e:(V.setCell ⟨blk,off+i,none⟩ (.int .u64 d[j]!)).setCell ⟨blk,off+j,none⟩ (.int .u64 d[i]!)=putRow uE V blk off (swp d i j):=by
  have:=putRow_swp uE V blk off d i j (by omega) (by omega);rw [putRow_self uE V blk off d hd.holds] at this;exact this
 refine⟨by rw [size_swp];exact hs,?_,(hd.frm.setCell rfl _).setCell rfl _⟩;rw [e];exact holds_putRow uE V blk off d _ hd.holds (by rw [size_swp])
theorem Zag (x y:Int)(w:World):Calls prog 195 #[.int .u64 x,.int .u64 y] w fun e w'=>e=.returned (.bool (ltInt x y))∧w'=w:=by
 have hN:∀(z:Int) (w:World),Calls prog 206 #[.int .u64 z] w fun e w'=>e=.returned (.bool false)∧w'=w:=by
  intro z w;go_enter func206,ntmps206;go_wp2;go_ret;exact⟨by simp,rfl⟩
 go_enter func195,ntmps195;go_wp2_with (go_at_call 206;refine (hN _ _).mono ?_;rintro e w' ⟨rfl,rfl⟩);go_ret;exact⟨rfl,rfl⟩
theorem Zmd (w0 W:World)(blk off m cap a b:Nat)(d:Array Int)(h:Sq w0 blk off m W d)(ag:a≤b)(hb:b≤m)(hm:m<1000000) :
    Calls prog 189 #[.slice (some ⟨blk,off,none⟩) m cap,.int .i64 (a:Nat),.int .i64 (b:Nat)] W fun e W'=>e=.returned (.tuple #[])∧Sq w0 blk off m W' (insertionSort ltInt d a b):=by
  have HS:=Zh h;clear h;go_enter func189,ntmps189;go_wp2_with fail;go_loopw [6] (fun vi wr=>∃(i:Nat) (dk:Array Int),vi=.int .i64 (i:Nat)∧a<i∧i≤b+1∧Hi (Sq w0 blk off m wr dk)∧Hi (insOuter ltInt a b i dk=insOuter ltInt a b (a+1) d)) (fun vi _=>b+1-(intOf vi).toNat)
  case atStart=>exact ⟨a+1,d,by go_num,by omega,by omega,HS,rfl⟩
  case round =>
   obtain⟨i,dk,rfl,ah,am,ad,hO⟩:=hrel;rcases Nat.lt_or_ge i b with af | al
   · (have j1:(i:Int)<(b:Int):=by omega);go_wp2_with fail;go_loopw [7] (fun vj wr2=>∃(j:Nat) (dj:Array Int),vj=.int .i64 (j:Nat)∧a≤j∧j≤i∧Hi (Sq w0 blk off m wr2 dj)∧Hi (insInner ltInt a j dj=insInner ltInt a i dk)) (fun vj _=>(intOf vj).toNat)
     case atStart=>exact ⟨i,dk,rfl,by omega,Nat.le_refl _,ad,rfl⟩
     case round =>
      rename World=>wr2;obtain⟨j,dj,rfl,ai,an,aa,hI⟩:=hrel;have OUT:(j≤a∨ltInt dj[j]! dj[j-1]! = false)→Hi (insOuter ltInt a b (i+1) dj=insOuter ltInt a b (a+1) d):=fun hs=>by
       show _=_;rw [← hO.o,insOuter_go _ _ _ _ _ af,← hI.o,insInner_stop _ _ _ _ hs]
      by_cases ae:a<j
      · obtain⟨G,hG⟩:∃G:Nat→Int,∀t,G t=dj[t]!:=⟨fun t=>dj[t]!,fun _=>rfl⟩;(have aj:∀t,t<m→wr2.cell? ⟨blk,off+t,none⟩=some (.int .u64 (G t)):=fun t ht=>by rw [hG];exact aa.o.cell t ht);have ak:∀t,t<m→wr2.frozen? ⟨blk,off+t,none⟩=false:=aa.o.fz;have HG:Hi (∀t,G t=dj[t]!):=hG;(have j2:(a:Int)<(j:Int):=by omega);have ab:=Zh OUT;clear hG OUT;cases hl:ltInt (G j) (G (j-1)) with
        | true =>
         have HL:Hi (insInner ltInt a (j-1) (swp dj j (j-1))=insInner ltInt a i dk):=by
          show _=_;rw [← hI.o,insInner_go ltInt a j dj ae (by rw [← HG.o,← HG.o];exact hl)]
         have HW:∀q,Hi (Sq w0 blk off m (((wr2.drewN q).setCell ⟨blk,off+j,none⟩ (.int .u64 (G (j-1)))).setCell ⟨blk,off+(j-1),none⟩ (.int .u64 (G j))) (swp dj j (j-1))):=fun q=>by
          rw [HG.o,HG.o];exact aa.o.swap q j (j-1) (by omega) (by omega)
         clear hI aa ab;go_wp2_with fail;go_quiet (first | (go_at_call 195;refine Calls.quiet_of_same (Zag _ _ _)));go_wp2_with fail;go_region;(all_goals go_wp2_with fail);go_roundw;exact ⟨j-1,swp dj j (j-1),by congr 1;omega,by omega,by omega,HW (nq+1),HL⟩;simp only [intOf];omega
        | false =>
         have ac:Hi (insOuter ltInt a b (i+1) dj=insOuter ltInt a b (a+1) d):=ab.o (.inr (by rw [← HG.o,← HG.o];exact hl));have HW:∀q,Hi (Sq w0 blk off m (wr2.drewN q) dj):=fun q=>aa.o.drewN q;clear hI aa ab;go_wp2_with fail;go_quiet (first | (go_at_call 195;refine Calls.quiet_of_same (Zag _ _ _)));go_wp2;go_roundw;exact ⟨i+1,dj,by go_num,by omega,by omega,HW nq,ac⟩;simp only [intOf];omega
      · (have j2:¬(a:Int)<(j:Int):=by omega);have ac:=OUT (.inl (by omega));have HW:∀q,Hi (Sq w0 blk off m (wr2.drewN q) dj):=fun q=>aa.o.drewN q;clear OUT hI aa;go_wp2_with fail;go_quiet (first | (go_at_call 195;refine Calls.quiet_of_same (Zag _ _ _)));go_wp2;go_roundw;exact ⟨i+1,dj,by go_num,by omega,by omega,HW nq,ac⟩;simp only [intOf];omega
   · (have j1:¬(i:Int)<(b:Int):=by omega);have HE:Hi (dk=insertionSort ltInt d a b):=by
      show _=_;unfold insertionSort;rw [← hO.o,insOuter_stop _ _ _ _ _ (by omega)]
     go_wp2_with fail;go_end0;exact⟨rfl,by rw [← HE.o];exact ad.o⟩
open Go.RowKit Go.Sort
section
variable {α : Type} [Inhabited α] (lt : α → α → Bool)
theorem ZmZ {d:Array α}(h:hi≤2*root+1):siftDown lt hi first root d=d:=by
 rw [siftDown,dif_pos h]
theorem Zll {d:Array α}(h1:¬hi≤2*root+1)(h2:2*root+2<hi)(hl:lt d[first+2*root+1]! d[first+2*root+2]! = true) :
    siftDown lt hi first root d=if lt d[first+root]! d[first+2*root+2]! = true then siftDown lt hi first (2*root+2) (swp d (first+root) (first+2*root+2)) else d:=by
  have hl':lt d[first+(2*root+1)]! d[first+(2*root+1)+1]! = true:=hl;rw [siftDown,dif_neg h1,if_pos (by rw [hl'];simpa using h2)];have e:first+(2*root+2)=first+2*root+2:=rfl;rw [e];cases h3:lt d[first+root]! d[first+2*root+2]! <;> simp [h2]
theorem ZhS {d:Array α}(h1:¬hi≤2*root+1)(h2:¬2*root+2<hi∨lt d[first+2*root+1]! d[first+2*root+2]! = false) :
    siftDown lt hi first root d=if lt d[first+root]! d[first+2*root+1]! = true then siftDown lt hi first (2*root+1) (swp d (first+root) (first+2*root+1)) else d:=by
  have hc:¬((decide (2*root+1+1<hi) && lt d[first+(2*root+1)]! d[first+(2*root+1)+1]!)=true):=by
   have e:first+(2*root+1)+1=first+2*root+2:=rfl;have e':first+(2*root+1)=first+2*root+1:=rfl;rcases h2 with h | h
   · rw [decide_eq_false (by omega)];simp
   · rw [e,e',h];simp
  rw [siftDown,dif_neg h1,if_neg hc];have e':first+(2*root+1)=first+2*root+1:=rfl;rw [e'];cases h3:lt d[first+root]! d[first+2*root+1]! <;> simp
end
theorem ZfY (w0 W:World)(blk off m cap lo hi first:Nat)(d:Array Int)(h:Sq w0 blk off m W d)(hf:first+hi≤m)(hm:m<1000000)(ak:lo<1000000) :
    Calls prog 203 #[.slice (some ⟨blk,off,none⟩) m cap,.int .i64 (lo:Nat),.int .i64 (hi:Nat),.int .i64 (first:Nat)] W fun e W'=>e=.returned (.tuple #[])∧Sq w0 blk off m W' (siftDown ltInt hi first lo d):=by
  have HS:=Zh h;clear h;go_enter func203,ntmps203;go_wp2_with fail;go_loopw [8] (fun vi wr=>∃(r:Nat) (dk:Array Int),vi=.int .i64 (r:Nat)∧r<1000000∧Hi (Sq w0 blk off m wr dk)∧Hi (siftDown ltInt hi first r dk=siftDown ltInt hi first lo d)) (fun vi _=>hi-(intOf vi).toNat)
  case atStart=>exact ⟨lo,d,rfl,ak,HS,rfl⟩
  case round =>
   obtain⟨r,dk,rfl,hr,ai,hO⟩:=hrel;by_cases ag:hi≤2*r+1
   · have HE:Hi (dk=siftDown ltInt hi first lo d):=by
      show _=_;rw [← hO.o,ZmZ _ ag]
     go_wp2_with fail;go_end0;exact⟨rfl,by rw [← HE.o];exact ai.o⟩
   · obtain⟨G,hG⟩:∃G:Nat→Int,∀t,G t=dk[t]!:=⟨fun t=>dk[t]!,fun _=>rfl⟩;(have ae:∀t,t<m→wr.cell? ⟨blk,off+t,none⟩=some (.int .u64 (G t)):=fun t ht=>by rw [hG];exact ai.o.cell t ht);have af:∀t,t<m→wr.frozen? ⟨blk,off+t,none⟩=false:=ai.o.fz;have HG:Hi (∀t,G t=dk[t]!):=hG;have ad:=ai;clear hG;(have i1:first+r<m:=by omega);(have i2:first+2*r+1<m:=by omega);(have n2:¬((hi:Int)≤2*(r:Int)+1):=by omega);by_cases h2:2*r+2<hi
     · (have i3:first+2*r+2<m:=by omega);(have j2:(2*(r:Int)+1+1)<(hi:Int):=by omega);cases hl:ltInt (G (first+2*r+1)) (G (first+2*r+2)) with
       | true =>
        have hx:=Zll ltInt (d:=dk) (first:=first) ag h2 (by rw [← HG.o,← HG.o];exact hl);rw [hO.o,← HG.o,← HG.o] at hx;cases hk:ltInt (G (first+r)) (G (first+2*r+2)) with
        | true =>
         rw [hk,if_pos rfl] at hx;have HX:=Zh hx;clear hx hO ai;go_wp2_with fail;go_quiet (first | (go_at_call 195;refine Calls.quiet_of_same (Zag _ _ _)));go_wp2_with fail;have ac:Sq w0 blk off m (wr.drewN nq) dk:=ad.o.drewN nq;have aa:∀t,t<m→(wr.drewN nq).cell? ⟨blk,off+t,none⟩=some (.int .u64 (G t)):=ae;have ab:∀t,t<m→(wr.drewN nq).frozen? ⟨blk,off+t,none⟩=false:=af;clear ad ae af;generalize wr.drewN nq=wr2 at ac aa ab ⊢;clear nq;have ad:=Zh ac;have ae:=aa;have af:=ab;clear ac aa ab;go_quiet (first | (go_at_call 195;refine Calls.quiet_of_same (Zag _ _ _)));go_wp2_with fail;have aj:Hi (∀q,Sq w0 blk off m (((wr2.drewN q).setCell ⟨blk,off+(first+r),none⟩ (.int .u64 (G (first+2*r+2)))).setCell ⟨blk,off+(first+2*r+2),none⟩ (.int .u64 (G (first+r)))) (swp dk (first+r) (first+2*r+2))):=fun q=>by
          rw [HG.o,HG.o];exact ad.o.swap q _ _ i1 (by omega)
         clear ad HG;go_region;(all_goals go_wp2_with fail);go_roundw;exact ⟨2*r+2,_,by go_num,by omega,aj.o _,Zh HX.o.symm⟩;simp only [intOf];omega
        | false =>
         rw [hk,if_neg (by decide)] at hx;have HX:=Zh hx;clear hx hO ai HG;go_wp2_with fail;go_quiet (first | (go_at_call 195;refine Calls.quiet_of_same (Zag _ _ _)));go_wp2_with fail;have ac:Sq w0 blk off m (wr.drewN nq) dk:=ad.o.drewN nq;have aa:∀t,t<m→(wr.drewN nq).cell? ⟨blk,off+t,none⟩=some (.int .u64 (G t)):=ae;have ab:∀t,t<m→(wr.drewN nq).frozen? ⟨blk,off+t,none⟩=false:=af;clear ad ae af;generalize wr.drewN nq=wr2 at ac aa ab ⊢;clear nq;have ad:=Zh ac;have ae:=aa;have af:=ab;clear ac aa ab;go_quiet (first | (go_at_call 195;refine Calls.quiet_of_same (Zag _ _ _)));go_wp2_with fail;have ah:Hi (∀q,Sq w0 blk off m (wr2.drewN q) dk):=ad.o.drewN;(try simp only [Exit.inBlock,Exit.then]);refine bodyPost_ret (results_none rfl _ _ _) rfl ?_;exact⟨rfl,by rw [HX.o];exact ah.o _⟩
       | false =>
        have hx:=ZhS ltInt (d:=dk) (first:=first) ag (.inr (by rw [← HG.o,← HG.o];exact hl));rw [hO.o,← HG.o,← HG.o] at hx;cases hk:ltInt (G (first+r)) (G (first+2*r+1)) with
        | true =>
         rw [hk,if_pos rfl] at hx;have HX:=Zh hx;clear hx hO ai;go_wp2_with fail;go_quiet (first | (go_at_call 195;refine Calls.quiet_of_same (Zag _ _ _)));go_wp2_with fail;have ac:Sq w0 blk off m (wr.drewN nq) dk:=ad.o.drewN nq;have aa:∀t,t<m→(wr.drewN nq).cell? ⟨blk,off+t,none⟩=some (.int .u64 (G t)):=ae;have ab:∀t,t<m→(wr.drewN nq).frozen? ⟨blk,off+t,none⟩=false:=af;clear ad ae af;generalize wr.drewN nq=wr2 at ac aa ab ⊢;clear nq;have ad:=Zh ac;have ae:=aa;have af:=ab;clear ac aa ab;go_quiet (first | (go_at_call 195;refine Calls.quiet_of_same (Zag _ _ _)));go_wp2_with fail;have aj:Hi (∀q,Sq w0 blk off m (((wr2.drewN q).setCell ⟨blk,off+(first+r),none⟩ (.int .u64 (G (first+2*r+1)))).setCell ⟨blk,off+(first+2*r+1),none⟩ (.int .u64 (G (first+r)))) (swp dk (first+r) (first+2*r+1))):=fun q=>by
          rw [HG.o,HG.o];exact ad.o.swap q _ _ i1 (by omega)
         clear ad HG;go_region;(all_goals go_wp2_with fail);go_roundw;exact ⟨2*r+1,_,by go_num,by omega,aj.o _,Zh HX.o.symm⟩;simp only [intOf];omega
        | false =>
         rw [hk,if_neg (by decide)] at hx;have HX:=Zh hx;clear hx hO ai HG;go_wp2_with fail;go_quiet (first | (go_at_call 195;refine Calls.quiet_of_same (Zag _ _ _)));go_wp2_with fail;have ac:Sq w0 blk off m (wr.drewN nq) dk:=ad.o.drewN nq;have aa:∀t,t<m→(wr.drewN nq).cell? ⟨blk,off+t,none⟩=some (.int .u64 (G t)):=ae;have ab:∀t,t<m→(wr.drewN nq).frozen? ⟨blk,off+t,none⟩=false:=af;clear ad ae af;generalize wr.drewN nq=wr2 at ac aa ab ⊢;clear nq;have ad:=Zh ac;have ae:=aa;have af:=ab;clear ac aa ab;go_quiet (first | (go_at_call 195;refine Calls.quiet_of_same (Zag _ _ _)));go_wp2_with fail;have ah:Hi (∀q,Sq w0 blk off m (wr2.drewN q) dk):=ad.o.drewN;(try simp only [Exit.inBlock,Exit.then]);refine bodyPost_ret (results_none rfl _ _ _) rfl ?_;exact⟨rfl,by rw [HX.o];exact ah.o _⟩
     · have j2:decide ((2*(r:Int)+1+1)<(hi:Int))=false:=decide_eq_false (by omega);have hx:=ZhS ltInt (d:=dk) (first:=first) ag (.inl h2);rw [hO.o,← HG.o,← HG.o] at hx;cases hk:ltInt (G (first+r)) (G (first+2*r+1)) with
       | true =>
        rw [hk,if_pos rfl] at hx;have HX:=Zh hx;clear hx hO ai;go_wp2_with fail;go_quiet (first | (go_at_call 195;refine Calls.quiet_of_same (Zag _ _ _)));go_wp2_with fail;have ac:Sq w0 blk off m (wr.drewN nq) dk:=ad.o.drewN nq;have aa:∀t,t<m→(wr.drewN nq).cell? ⟨blk,off+t,none⟩=some (.int .u64 (G t)):=ae;have ab:∀t,t<m→(wr.drewN nq).frozen? ⟨blk,off+t,none⟩=false:=af;clear ad ae af;generalize wr.drewN nq=wr2 at ac aa ab ⊢;clear nq;have ad:=Zh ac;have ae:=aa;have af:=ab;clear ac aa ab;go_quiet (first | (go_at_call 195;refine Calls.quiet_of_same (Zag _ _ _)));go_wp2_with fail;have aj:Hi (∀q,Sq w0 blk off m (((wr2.drewN q).setCell ⟨blk,off+(first+r),none⟩ (.int .u64 (G (first+2*r+1)))).setCell ⟨blk,off+(first+2*r+1),none⟩ (.int .u64 (G (first+r)))) (swp dk (first+r) (first+2*r+1))):=fun q=>by
         rw [HG.o,HG.o];exact ad.o.swap q _ _ i1 (by omega)
        clear ad HG;go_region;(all_goals go_wp2_with fail);go_roundw;exact ⟨2*r+1,_,by go_num,by omega,aj.o _,Zh HX.o.symm⟩;simp only [intOf];omega
       | false =>
        rw [hk,if_neg (by decide)] at hx;have HX:=Zh hx;clear hx hO ai HG;go_wp2_with fail;go_quiet (first | (go_at_call 195;refine Calls.quiet_of_same (Zag _ _ _)));go_wp2_with fail;have ac:Sq w0 blk off m (wr.drewN nq) dk:=ad.o.drewN nq;have aa:∀t,t<m→(wr.drewN nq).cell? ⟨blk,off+t,none⟩=some (.int .u64 (G t)):=ae;have ab:∀t,t<m→(wr.drewN nq).frozen? ⟨blk,off+t,none⟩=false:=af;clear ad ae af;generalize wr.drewN nq=wr2 at ac aa ab ⊢;clear nq;have ad:=Zh ac;have ae:=aa;have af:=ab;clear ac aa ab;go_quiet (first | (go_at_call 195;refine Calls.quiet_of_same (Zag _ _ _)));go_wp2_with fail;have ah:Hi (∀q,Sq w0 blk off m (wr2.drewN q) dk):=ad.o.drewN;(try simp only [Exit.inBlock,Exit.then]);refine bodyPost_ret (results_none rfl _ _ _) rfl ?_;exact⟨rfl,by rw [HX.o];exact ah.o _⟩
theorem Zkx (w0 W:World)(blk off m cap a b:Nat)(d:Array Int)(h:Sq w0 blk off m W d)(aj:a<b)(hb:b≤m)(hm:m<1000000) :
    Calls prog 190 #[.slice (some ⟨blk,off,none⟩) m cap,.int .i64 (a:Nat),.int .i64 (b:Nat)] W fun e W'=>e=.returned (.tuple #[])∧Sq w0 blk off m W' (heapSort ltInt d a b):=by
  have HS:=Zh h;clear h;obtain⟨n,hn⟩:∃n:Nat,b=a+n:=⟨b-a,by omega⟩;(have ao:1≤n:=by omega);(have ap:a+n≤m:=by omega);have ab:Hi (∀(V:World) (dk:Array Int) (lo hi:Nat),Sq w0 blk off m V dk→hi≤n→lo<1000000→Calls prog 203 #[.slice (some ⟨blk,off,none⟩) m cap,.int .i64 (lo:Nat),.int .i64 (hi:Nat),.int .i64 (a:Nat)] V fun e W'=>e=.returned (.tuple #[])∧Sq w0 blk off m W' (siftDown ltInt hi a lo dk)):=fun V dk lo hi hq hh hl=>ZfY w0 V blk off m cap lo hi a dk hq (by omega) hm hl;have ad:Hi (heapSort ltInt d a b=heapPop ltInt a n (heapBuild ltInt n a ((n-1) / 2+1) d)):=by
   show _=_;unfold heapSort;rw [hn,show a+n-a=n by omega]
  (have q1:((b:Int)-(a:Int))=(n:Int):=by omega);obtain⟨p,hp⟩:∃p:Nat,p=(n-1) / 2:=⟨_,rfl⟩;(have aq:p<1000000:=by omega);have HP:=Zh hp;rw [← hp] at ad;clear hn hp;go_enter func190,ntmps190;go_wp2_with fail;go_loopw [9] (fun vi wr=>∃(k:Nat) (z:Int) (dk:Array Int),vi=.int .i64 z∧Hi (z=(k:Int)-1)∧k≤p+1∧Hi (Sq w0 blk off m wr dk)∧Hi (heapBuild ltInt n a k dk=heapBuild ltInt n a (p+1) d)) (fun vi _=>(intOf vi+1).toNat)
  case atStart=>exact ⟨p+1,_,d,rfl,(show Hi _ from by show _=_;have:=HP.o;omega),Nat.le_refl _,HS,rfl⟩
  case round =>
   obtain⟨k,z,dk,rfl,hz,hk,ai,hO⟩:=hrel;cases k with
   | succ k =>
    (obtain rfl:z=(k:Int):=by have:=hz.o;omega);have aa:=Zh (ab.o wr dk k n ai.o (Nat.le_refl _) (by omega));have HO:Hi (heapBuild ltInt n a k (siftDown ltInt n a k dk)=heapBuild ltInt n a (p+1) d):=hO;clear hz hO ai;go_wp2_with fail;refine aa.o.mono ?_;rintro e w2 ⟨rfl,ac⟩;have ag:=Zh ac;clear ac aa;go_wp2;go_roundw;exact ⟨k,(k:Int)-1,_,rfl,(show Hi _ from rfl),by omega,ag,HO⟩;simp only [intOf];omega
   | zero =>
    (obtain rfl:z = -1:=by have:=hz.o;omega);have HB:Hi (dk=heapBuild ltInt n a (p+1) d):=hO;clear hz hO ab HP;have ab:Hi (∀(V:World) (dk:Array Int) (lo hi:Nat),Sq w0 blk off m V dk→hi≤n→lo<1000000→Calls prog 203 #[.slice (some ⟨blk,off,none⟩) m cap,.int .i64 (lo:Nat),.int .i64 (hi:Nat),.int .i64 (a:Nat)] V fun e W'=>e=.returned (.tuple #[])∧Sq w0 blk off m W' (siftDown ltInt hi a lo dk)):=fun V dk lo hi hq hh hl=>ZfY w0 V blk off m cap lo hi a dk hq (by omega) hm hl;rw [← HB.o] at ad;have al:=ai.o.size;go_wp2_with fail;rename World=>w1;go_loopw [10] (fun vi wr=>∃(k:Nat) (z:Int) (dj:Array Int),vi=.int .i64 z∧Hi (z=(k:Int)-1)∧k≤n∧Hi (Sq w0 blk off m wr dj)∧Hi (heapPop ltInt a k dj=heapPop ltInt a n dk)) (fun vi _=>(intOf vi+1).toNat)
    case atStart=>exact ⟨n,(n:Int)-1,dk,rfl,(show Hi _ from rfl),Nat.le_refl _,ai,rfl⟩
    case round =>
     obtain⟨k,z,dj,rfl,hz,hk,af,hO⟩:=hrel;cases k with
     | succ k =>
      (obtain rfl:z=(k:Int):=by have:=hz.o;omega);have HO:Hi (heapPop ltInt a k (siftDown ltInt k a 0 (swp dj a (a+k)))=heapPop ltInt a n dk):=hO;obtain⟨G,hG⟩:∃G:Nat→Int,∀t,G t=dj[t]!:=⟨fun t=>dj[t]!,fun _=>rfl⟩;(have ak:∀t,t<m→wr.cell? ⟨blk,off+t,none⟩=some (.int .u64 (G t)):=fun t ht=>by rw [hG];exact af.o.cell t ht);have am:∀t,t<m→wr.frozen? ⟨blk,off+t,none⟩=false:=af.o.fz;have HG:Hi (∀t,G t=dj[t]!):=hG;have ah:=af;clear hG;(have i1:a<m:=by omega);(have i2:a+k<m:=by omega);by_cases an:0<k
      · have ae:=Zh ((ah.o.swap 0 a (a+k) i1 i2).drew1);rw [← HG.o,← HG.o] at ae;have aa:=ab.o _ _ 0 k ae.o (by omega) (by decide);have HC:Hi (Calls prog 203 #[.slice (some ⟨blk,off,none⟩) m cap,.int .i64 0,.int .i64 (k:Nat),.int .i64 (a:Nat)] (((wr.setCell ⟨blk,off+a,none⟩ (.int .u64 (G (a+k)))).setCell ⟨blk,off+(a+k),none⟩ (.int .u64 (G a))).drew) fun e W'=>e=.returned (.tuple #[])∧Sq w0 blk off m W' (siftDown ltInt k a 0 (swp dj a (a+k)))):=aa;clear hz hO af HG ah ae aa;go_wp2_with fail;go_region;(all_goals go_wp2_with fail);refine HC.o.mono ?_;rintro e w2 ⟨rfl,ac⟩;have ag:=Zh ac;clear ac HC;go_wp2;go_roundw;exact ⟨k,(k:Int)-1,_,rfl,(show Hi _ from rfl),by omega,ag,HO⟩;simp only [intOf];omega
      · (obtain rfl:k=0:=by omega);have ae:=Zh ((ah.o.swap 0 a a i1 i1).drew1);rw [← HG.o] at ae;have aa:=ab.o _ _ 0 0 ae.o (by omega) (by decide);have HC:Hi (Calls prog 203 #[.slice (some ⟨blk,off,none⟩) m cap,.int .i64 0,.int .i64 0,.int .i64 (a:Nat)] (((wr.setCell ⟨blk,off+a,none⟩ (.int .u64 (G a))).setCell ⟨blk,off+a,none⟩ (.int .u64 (G a))).drew) fun e W'=>e=.returned (.tuple #[])∧Sq w0 blk off m W' (siftDown ltInt 0 a 0 (swp dj a (a+0)))):=aa;clear hz hO af HG ah ae aa;go_wp2_with fail;go_region;(all_goals go_wp2_with fail);refine HC.o.mono ?_;rintro e w2 ⟨rfl,ac⟩;have ag:=Zh ac;clear ac HC;go_wp2;go_roundw;exact ⟨0,-1,_,rfl,(show Hi _ from rfl),by omega,ag,HO⟩;simp only [intOf];omega
     | zero =>
      (obtain rfl:z = -1:=by have:=hz.o;omega);have HE:Hi (dj=heapSort ltInt d a b):=by
       show _=_;rw [ad.o,← hO.o];rfl
      clear hz hO;go_wp2_with fail;go_end0;exact⟨rfl,by rw [← HE.o];exact af.o⟩
end Go.Proofs.YtiecfcjlhldhdaaGreat
