/-
  Lemmas.
-/
import Derived.Test.YtiecfcjlhldhdaaGreatKoao
import Derived.Test.YtiecfcjlhldhdaaGreatKoak
import Derived.Test.YtiecfcjlhldhdaaGreatKoap
import Derived.Test.YtiecfcjlhldhdaaGreatKoam
import Derived.Test.YtiecfcjlhldhdaaGreatKoal
namespace Go.Proofs.YtiecfcjlhldhdaaGreat
open Go.RowKit Go.Proofs.Tryz
set_option linter.unusedVariables false
set_option linter.unusedSimpArgs false
set_option maxRecDepth 100000
set_option maxHeartbeats 4000000
variable {w w0 wr w':World}{q vs:Sl}{p i:Nat}{y x:Rx}{b:Bool}{e:Int}{z:Bz}{v:Vw}{x0:Rw}{pre t:List Int}{A:Act}
theorem Zqn:∀args w,(callFunc 33 args).run prog w=.ok (.enter 33 args) w:=Pl.qj func33
theorem Zqo:∀args w,(callFunc 34 args).run prog w=.ok (.enter 34 args) w:=Pl.qj func34
theorem Zqp:∀args w,(callFunc 35 args).run prog w=.ok (.enter 35 args) w:=Pl.qj func35
theorem Zqq:∀args w,(callFunc 36 args).run prog w=.ok (.enter 36 args) w:=Pl.qj func36
theorem ZoB:∀args w,(callFunc 29 args).run prog w=.ok (.enter 29 args) w:=Pl.qj func29
theorem Zqd (w:World)(g:Nat)(z:Bz)(a b c m:Int)(hg:BsBlk w g z)(hT:∀W,Bl w W→Calls prog 33 #[z.t.val z.es] W fun e w'=>e=.returned (.int .i64 a)∧Bl W w')(hU:∀W,Bl w W→Calls prog 34 #[.slice z.cs.a z.cs.len z.cs.cap] W fun e w'=>e=.returned (.int .i64 b)∧Bl W w')(hL:∀W,Bl w W→Calls prog 35 #[.slice z.ls.a z.ls.len z.ls.cap] W fun e w'=>e=.returned (.int .i64 c)∧Bl W w')(hP:∀W,Bl w W→Calls prog 36 #[z.val] W fun e w'=>e=.returned (.int .i64 m)∧Bl W w')
    {Q:Exit→Act→World→Prop}(an:A.tmps.size=16)(am:A.defers=[])(s1:A.tmps.getD 1 undef=.pointer (some ⟨g,0,none⟩))
    (hend:∀(u:Nat→Value) w',Bl w w'→Q .normal ((Pl.pu A u [3,4,6,7,9,10,12,5,8,11,13,14,15]).put (some 2) (.int .i64 (orN [a,b,c,m]))) w') :
    Pl.rg prog 1 f10 Q A w:=by
  have aa:Bl w w.drew:=Zaa w;have hA:=Pl.At.same (v:=.pointer (some ⟨g,0,none⟩)) (d:=1) (Pl.At.here an am) s1;refine Pl.qb (S:=fun w'=>Bl w w') hA aa ?_;rw [show (Pl.fd 1 f10).size=14 by kernel_rfl];refine Pl.q0 0 3 (.pointer (some ⟨g,0,none⟩)) (Pl.q1) (Pl.q5 28 (.tmp 1) 0 (Zr3 g)) aa ?_;refine Pl.q0 1 4 (z.t.val z.es) (Pl.q1) (Pl.q3 24 (.tmp 3) (fun w' hS=>ZnS (hg.keep hS))) aa ?_;refine Pl.q0 3 6 (.pointer (some ⟨g,4,none⟩)) (Pl.q1) (Pl.q5 28 (.tmp 1) 1 (ZoX g)) aa ?_;refine Pl.q0 4 7 (.slice z.cs.a z.cs.len z.cs.cap) (Pl.q1) (Pl.q3 25 (.tmp 6) (fun w' hS=>ldCs (hg.keep hS).c4)) aa ?_;refine Pl.q0 6 9 (.pointer (some ⟨g,5,none⟩)) (Pl.q1) (Pl.q5 28 (.tmp 1) 2 (ZoY g)) aa ?_;refine Pl.q0 7 10 (.slice z.ls.a z.ls.len z.ls.cap) (Pl.q1) (Pl.q3 26 (.tmp 9) (fun w' hS=>ldLs (hg.keep hS).c5)) aa ?_;refine Pl.q0 9 12 (z.val) (Pl.q1) (Pl.q3 28 (.tmp 1) (fun w' hS=>ZlX (hg.keep hS))) aa ?_;refine Pl.qd 2 5 33 [(.tmp 4)] #[24] (Pl.q1) Zqn (Calls.mono (hT _ aa) ?_);rintro e w2 ⟨rfl,aj⟩;have ae:Bl w w2:=Zad aa aj;refine⟨.int .i64 a,rfl,ae,?_⟩;refine Pl.qd 5 8 34 [(.tmp 7)] #[25] (Pl.q1) Zqo (Calls.mono (hU _ ae) ?_);rintro e w5 ⟨rfl,ak⟩;have af:Bl w w5:=Zad ae ak;refine⟨.int .i64 b,rfl,af,?_⟩;refine Pl.qd 8 11 35 [(.tmp 10)] #[26] (Pl.q1) Zqp (Calls.mono (hL _ af) ?_);rintro e w8 ⟨rfl,al⟩;have ag:Bl w w8:=Zad af al;refine⟨.int .i64 c,rfl,ag,?_⟩;refine Pl.qd 10 13 36 [(.tmp 12)] #[28] (Pl.q1) Zqq (Calls.mono (hP _ ag) ?_);rintro e w10 ⟨rfl,ah⟩;have ab:Bl w w10:=Zad ag ah;refine⟨.int .i64 m,rfl,ab,?_⟩;have ad:Bl w (w10.alloc (.cells #[.int .i64 a,.int .i64 b,.int .i64 c,.int .i64 m] 40)):=Zad ab (Zab w10 _);refine Pl.qm 11 14 (.slice (some ⟨w10.heap.size,0,none⟩) 4 4) (w10.alloc (.cells #[.int .i64 a,.int .i64 b,.int .i64 c,.int .i64 m] 40)) (Pl.q1) (Pl.bsV 11 112 4 [(0,.tmp 5),(1,.tmp 8),(2,.tmp 11),(3,.tmp 13)] _ _ (by kernel_rfl) (by decide) (ZrO w10 a b c m)) ad ?_;refine Pl.qd 12 15 29 [(.tmp 14)] #[112] (Pl.q1) ZoB (Calls.mono (Zp4 w10 a b c m) ?_);rintro e w12 ⟨rfl,ai⟩;have ac:Bl w w12:=Zad ab ai;refine⟨.int .i64 (orN [a,b,c,m]),rfl,ac,?_⟩;refine Pl.q0 13 2 (.int .i64 (orN [a,b,c,m])) (Pl.q1) (Pl.qe (.tmp 15)) ac ?_;refine Pl.q7 (fun A' hA'=>?_);exact Pl.en hA' hA [3,4,6,7,9,10,12,5,8,11,13,14,15,2] (hend hA'.fn _ ac)
theorem Zdg (w:World)(z:Bz)(h:Bin w z):Calls prog 10 #[z.val] w fun e w'=>Zib z.b e∧Bl w w':=by
 have hA:=Zab w (.cells #[.int .i64 z.t.nx,.int .i64 z.t.no,.int .i64 z.t.cm,.slice z.es.a z.es.len z.es.cap,.slice z.cs.a z.cs.len z.cs.cap,.slice z.ls.a z.ls.len z.ls.cap] 28);have ab:=ZaD w z;obtain⟨W0,hW⟩:∃W,w.alloc (.cells #[.int .i64 z.t.nx,.int .i64 z.t.no,.int .i64 z.t.cm,.slice z.es.a z.es.len z.es.cap,.slice z.cs.a z.cs.len z.cs.cap,.slice z.ls.a z.ls.len z.ls.cap] 28)=W:=⟨_,rfl⟩;rw [hW] at hA ab;have ad:=Zh hW;have ah:=Zh ab;have HA:=Zh hA;have HH:=Zh (h.keep hA);obtain⟨hl,ac⟩:∃c:Bool,c=true↔MayH (lfs z.lb):=by
  by_cases hm:MayH (lfs z.lb)
  · exact⟨true,fun _=>hm,fun _=>rfl⟩
  · exact⟨false,fun e=>(by cases e),fun e=>absurd e hm⟩
 have HT:Hi (∀W,Bl W0 W→Calls prog 33 #[z.t.val z.es] W fun e w'=>e=.returned (.int .i64 (chk (mayB z.t)))∧Bl W w'):=fun W hb=>Znu z.t z.es (chk (mayB z.t)) W (HH.o.keep hb).es (by cases mayB z.t <;> rfl);have HU:Hi (∀W,Bl W0 W→Calls prog 34 #[.slice z.cs.a z.cs.len z.cs.cap] W fun e w'=>e=.returned (.int .i64 (chk (MayU (uns z.ux))))∧Bl W w'):=fun W hb=>ZfI z.cs.a z.cs.len z.cs.cap z.ux W (HH.o.keep hb).cs (by have:=h.cb;omega);have HL:Hi (∀W,Bl W0 W→Calls prog 35 #[.slice z.ls.a z.ls.len z.ls.cap] W fun e w'=>e=.returned (.int .i64 (chk hl))∧Bl W w'):=fun W hb=>(Zkn W z.ls z.lb (HH.o.keep hb).ls).mono fun e w' k=>by
  refine⟨?_,k.2⟩;rcases k.1 with ⟨k1,k2⟩ | ⟨k1,k2⟩
  · rw [k2,ac.2 k1];rfl
  · cases hl with
    | false=>exact k2
    | true=>exact absurd (ac.1 rfl) k1
 have HP:Hi (∀W,Bl W0 W→Calls prog 36 #[z.val] W fun e w'=>e=.returned (.int .i64 (chk (!((uns z.ux).findIdx? (fun y:Un=>decide ((z.ls.len:Int)≤y.page))).isSome)))∧Bl W w'):=fun W hb=>ZkN W z (HH.o.keep hb);have HR:Hi (Zib z.b (.returned (.int .i64 (orN [chk (mayB z.t),chk (MayU (uns z.ux)),chk hl,chk (!((uns z.ux).findIdx? (fun y:Un=>decide ((z.ls.len:Int)≤y.page))).isSome)])))):=by
  (have ae:(lfs z.lb).length=z.ls.len:=by rw [lfs,List.length_map];exact h.ls.len);have hp:=Zmn (uns z.ux) z.ls.len;rw [Zoc];show (MayBs z.b∧_)∨(¬MayBs z.b∧_);have aa:(mayB z.t && MayU (uns z.ux) && hl && !((uns z.ux).findIdx? (fun y:Un=>decide ((z.ls.len:Int)≤y.page))).isSome)=true↔MayBs z.b:=by
   simp only [Bool.and_eq_true,Bool.not_eq_true',ac,hp];constructor
   · rintro ⟨⟨⟨h1,h2⟩,h3⟩,h4⟩;exact⟨fun i hi=>by show _<(((lfs z.lb).length:Nat):Int);rw [ae];exact h4 i hi,Ze6.1 h1,h2,h3⟩
   · intro k;refine⟨⟨⟨Ze6.2 k.t,k.u⟩,k.l⟩,fun i hi=>?_⟩;have h4:_<(((lfs z.lb).length:Nat):Int):=k.pg i hi;rw [ae] at h4;exact h4
  generalize (mayB z.t && MayU (uns z.ux) && hl && !((uns z.ux).findIdx? (fun y:Un=>decide ((z.ls.len:Int)≤y.page))).isSome)=m at *;cases m with
  | true=>exact .inl ⟨aa.1 rfl,rfl⟩
  | false=>exact .inr ⟨fun k=>Bool.noConfusion (aa.2 k),rfl⟩
 clear h hW ab hA;unfold Bz.val;go_enter func10,ntmps10;go_wp2_with fail;rw [ad.o];clear ad;refine Pl.q9 (ops:=Pl.fd 1 f10) ?_;refine Zqd W0 w.heap.size z _ _ _ _ ah.o HT.o HU.o HL.o HP.o (by rfl) rfl (by rfl) ?_;intro u1 w1 af;simp only [Pl.pu,List.foldl,Act.put,List.setIfInBounds_toArray,List.set];have ag:=Zh (Zad HA.o af);clear af HT HU HL HP HH;go_wp2;go_ret;exact⟨HR.o,ag.o⟩
theorem Zkt {D:Nat→Prop}(w:World)(s:Sl)(t:List Int)(h:Gi D w s t)(x:Int) :
    Calls prog 144 #[s.val,.int .i64 x] w fun e w'=>∃k:Int,e=.returned (.int .i64 k)∧decide (0≤k)=t.contains x∧Bl w w':=by
  obtain⟨a,len,cap⟩:=s;have H:=Zh h;have HL:Hi (t.length=len):=h.len;have ad:len≤1000000:=h.big;have H0:=Zh (Below.refl w.heap.size w);obtain⟨r,hr⟩:∃r,r=t.contains x:=⟨_,rfl⟩;rw [← hr];have HR:=Zh hr;clear h hr;unfold Sl.val;simp only;go_enter func144,ntmps144;go_wp2_with fail;go_loopw [8] (fun iv wr=>wr=w∧∃i:Nat,i≤len∧iv=.int .i64 (i:Nat)∧Hi (∀j,j<i→t.getD j 0≠x)) (fun iv _=>len-(intOf iv).toNat)
  case atStart=>exact ⟨rfl,0,Nat.zero_le _,rfl,fun j hj=>absurd hj (Nat.not_lt_zero _)⟩
  case round =>
   obtain⟨rfl,i,hi,rfl,aa⟩:=hrel;rcases Nat.lt_or_ge i len with ab | ae
   · (have i1:(i:Int)<(len:Int):=by omega);obtain⟨bb,oo,ha,c0⟩:=H.o.cell i ab;replace ha:a=some ⟨bb,oo,none⟩:=ha;subst ha;obtain⟨y,hy⟩:∃y,y=t.getD i 0:=⟨_,rfl⟩;rw [← hy] at c0;by_cases ac:x=y
     · have HE:Hi (r=true):=HR.o.trans (Zhe (i:=i) (by rw [HL.o];exact ab) (by rw [← hy,ac]));clear hy aa;go_wp2;go_ret;exact⟨_,rfl,by rw [HE.o];simp,H0.o⟩
     · have HN:Hi (∀j,j<i+1→t.getD j 0≠x):=by
        intro j hj;by_cases e:j=i
        · rw [e,← hy];exact fun e2=>ac e2.symm
        · exact aa.o j (by omega)
       clear hy aa;go_wp2;go_roundw;exact ⟨trivial,i+1,by omega,by go_num,HN⟩;simp only [intOf];omega
   · (have i1:¬(i:Int)<(len:Int):=by omega);have HE:Hi (r=false):=HR.o.trans (Zin (fun j hj=>aa.o j (by rw [HL.o] at hj;omega)));clear aa;go_wp2;go_ret;exact⟨_,rfl,by rw [HE.o];rfl,H0.o⟩
theorem Zgz {D:Nat→Prop}(w:World)(s:Sl)(t:List Int)(h:Gi D w s t)(x:Int) :
    Calls prog 111 #[s.val,.int .i64 x] w fun e w'=>e=.returned (.bool (t.contains x))∧Bl w w':=by
  have HI:=Zh (Zkt w s t h x);obtain⟨r,hr⟩:∃r,r=t.contains x:=⟨_,rfl⟩;rw [← hr] at HI ⊢;obtain⟨a,len,cap⟩:=s;clear h hr;unfold Sl.val at *;simp only at *;go_enter func111,ntmps111;go_wp2_with fail;refine HI.o.mono ?_;rintro e w1 ⟨k,rfl,hk,hb⟩;have HB:=Zh hb;have HK:=Zh hk;clear hb hk HI;go_wp2;go_ret;exact⟨by rw [← HK.o];rfl,HB.o⟩
def errV (ok:Bool):Int:=if ok then 0 else 1
theorem Zep (w:World)(n:Int) :
    Calls prog 65 #[.int .i64 n] w fun e w'=>e=.returned (.bool (decide (0≤n∧n≤2147483647)))∧w'=w:=by
  go_enter func65,ntmps65;by_cases h0:0≤n
  · by_cases h1:n≤2147483647
    · rw [decide_eq_true (show 0≤n∧n≤2147483647 from ⟨h0,h1⟩)];go_wp2;go_ret;exact⟨rfl,rfl⟩
    · rw [decide_eq_false (show ¬(0≤n∧n≤2147483647) from fun h=>h1 h.2)];go_wp2;go_ret;exact⟨rfl,rfl⟩
  · rw [decide_eq_false (show ¬(0≤n∧n≤2147483647) from fun h=>h0 h.1)];go_wp2;go_ret;exact⟨rfl,rfl⟩
def lastV (t:List Int) (i:Nat):Int:=if i=0 then 0 else t.getD (i-1) 0
theorem Zk0 (t:List Int)(i:Nat):lastV t (i+1)=t.getD i 0:=by simp [lastV]
theorem Zeh (w:World)(s:Sl)(v:Vw)(h:Gi (fun _=>True) w s v.act)(hs:s.len≤200) :
    Calls prog 30 #[vwV v s] w fun e w'=>e=.returned (.int .i64 (errV (decide (MayV v))))∧Bl w w':=by
  obtain⟨a,len,cap⟩:=s;obtain⟨vs,vn,t⟩:=v;have hA:=Zab w (.cells #[.int .i64 vs,.int .i64 vn,.slice a len cap] 31);have H:=Zh (h.below hA (Nat.le_refl _));have HL:Hi (t.length=len):=h.len;have al:len≤1000000:=h.big;have HA:=Zh hA;obtain⟨r,hr⟩:∃r,r=errV (decide (MayV ⟨vs,vn,t⟩)):=⟨_,rfl⟩;rw [← hr];have HR:=Zh hr;(have HN:Hi (¬MayV ⟨vs,vn,t⟩→r=1):=fun hm=>by rw [hr,decide_eq_false hm];rfl);(have HY:Hi (MayV ⟨vs,vn,t⟩→r=0):=fun hm=>by rw [hr,decide_eq_true hm];rfl);clear h hA hr hs;unfold vwV Sl.val;simp only at H ⊢;go_enter func30,ntmps30;have aa:=Zh (fun W=>Zep W vs);have ac:=Zh (fun W=>Zep W vn);by_cases hc:(0≤vs∧vs≤2147483647)∧(0≤vn∧vn≤2147483647)∧len≤64
  · obtain⟨p1,p3,p5⟩:=hc;(have q5:¬(64:Int)<(len:Int):=by omega);rw [decide_eq_true p1] at aa;rw [decide_eq_true p3] at ac;go_wp2_with fail;refine(aa.o _).mono ?_;rintro e w1 ⟨rfl,rfl⟩;go_wp2_with fail;refine(ac.o _).mono ?_;rintro e w1 ⟨rfl,rfl⟩;go_wp2_with fail;clear aa ac;go_loopw [3,25] (fun lv iv wr=>wr=w.alloc (.cells #[.int .i64 vs,.int .i64 vn,.slice a len cap] 31)∧∃i:Nat,i≤len∧iv=.int .i64 (i:Nat)∧lv=.int .i64 (lastV t i)∧Hi (0≤lastV t i)∧Hi (∀j,j<i→(1≤t.getD j 0∧t.getD j 0<vn∧t.getD j 0≠vs)∧(0<j→t.getD (j-1) 0<t.getD j 0))) (fun _ iv _=>len-(intOf iv).toNat)
    case atStart=>exact ⟨rfl,0,Nat.zero_le _,rfl,rfl,Int.le_refl _,fun j hj=>absurd hj (Nat.not_lt_zero _)⟩
    case round =>
     obtain⟨rfl,i,hi,rfl,rfl,ae,ab⟩:=hrel;rcases Nat.lt_or_ge i len with ag | am
     · (have i1:(i:Int)<(len:Int):=by omega);obtain⟨bb,oo,ha,c0⟩:=H.o.cell i ag;replace ha:a=some ⟨bb,oo,none⟩:=ha;subst ha;have af:=Zk0 t i;obtain⟨y,hy⟩:∃y,y=t.getD i 0:=⟨_,rfl⟩;rw [← hy] at c0 af;have ah:=Zh af;obtain⟨l,hl⟩:∃l,l=lastV t i:=⟨_,rfl⟩;rw [← hl] at ae ⊢;have ad:=Zh hy;have ai:=Zh hl;clear af hy hl;by_cases hg:l<y∧y<vn∧y≠vs
       · obtain⟨g1,g2,g3⟩:=hg;(have q6:¬y≤l:=by omega);(have q7:¬y ≥ vn:=by omega);have q8:(y == vs)=false:=beq_eq_false_iff_ne.2 g3;have ak:Hi (∀j,j<i+1→(1≤t.getD j 0∧t.getD j 0<vn∧t.getD j 0≠vs)∧(0<j→t.getD (j-1) 0<t.getD j 0)):=by
          intro j hj;by_cases e:j=i
          · subst e;have:=ae.o;refine⟨⟨by rw [← ad.o];omega,by rw [← ad.o];exact g2,by rw [← ad.o];exact g3⟩,fun h0=>?_⟩;have h9:=ai.o;unfold lastV at h9;rw [if_neg (by omega)] at h9;rw [← h9,← ad.o];exact g1
          · exact ab.o j (by omega)
         (have aj:Hi (0≤lastV t (i+1)):=by show 0≤_;rw [ah.o];have:=ae.o;omega);clear ab ae g3;go_wp2;go_roundw;exact ⟨trivial,i+1,by omega,by go_num,by rw [ah.o],aj,ak⟩;simp only [intOf];omega
       · have HQ:Hi (r=1):=HN.o (fun m=>by
          have m1:=m.2.2.2.1 i (by show i<t.length;rw [HL.o];exact ag);have m2:=m.2.2.2.2 i (by show i<t.length;rw [HL.o];exact ag);simp only [← ad.o] at m1 m2;refine hg ⟨?_,m1.2.1,m1.2.2⟩;have h9:=ai.o;unfold lastV at h9;split at h9
          · omega
          · have:=m2 (by omega);omega)
         by_cases e1:y≤l
         · clear hg ab;go_wp2;go_ret;exact⟨by rw [HQ.o];rfl,HA.o⟩
         · by_cases e2:y ≥ vn
           · clear hg ab;go_wp2;go_ret;exact⟨by rw [HQ.o];rfl,HA.o⟩
           · have e3:(y == vs)=true:=by
              (have:y=vs:=by omega);rw [this];exact beq_self_eq_true _
             clear hg ab;go_wp2;go_ret;exact⟨by rw [HQ.o];rfl,HA.o⟩
     · (have i1:¬(i:Int)<(len:Int):=by omega);have HQ:Hi (r=0):=HY.o (by
        show (0≤vs∧vs≤2147483647)∧(0≤vn∧vn≤2147483647)∧t.length≤64∧(∀i,i<t.length→1≤t.getD i 0∧t.getD i 0<vn∧t.getD i 0≠vs)∧∀i,i<t.length→0<i→t.getD (i-1) 0<t.getD i 0;have hl:=HL.o;exact⟨p1,p3,by omega,fun j hj=>(ab.o j (by omega)).1,fun j hj h0=>(ab.o j (by omega)).2 h0⟩)
       clear ab;go_wp2;go_ret;exact⟨by rw [HQ.o];rfl,HA.o⟩
  · have HQ:Hi (r=1):=HN.o (fun m=>hc ⟨m.1,m.2.1,by have:=HL.o;have:t.length≤64:=m.2.2.1;omega⟩);by_cases p1:0≤vs∧vs≤2147483647
    · rw [decide_eq_true p1] at aa;by_cases p3:0≤vn∧vn≤2147483647
      · (have q5:(64:Int)<(len:Int):=by omega);rw [decide_eq_true p3] at ac;clear hc;go_wp2_with fail;refine(aa.o _).mono ?_;rintro e w1 ⟨rfl,rfl⟩;go_wp2_with fail;refine(ac.o _).mono ?_;rintro e w1 ⟨rfl,rfl⟩;go_wp2;go_ret;exact⟨by rw [HQ.o];rfl,HA.o⟩
      · rw [decide_eq_false p3] at ac;clear hc;go_wp2_with fail;refine(aa.o _).mono ?_;rintro e w1 ⟨rfl,rfl⟩;go_wp2_with fail;refine(ac.o _).mono ?_;rintro e w1 ⟨rfl,rfl⟩;go_wp2;go_ret;exact⟨by rw [HQ.o];rfl,HA.o⟩
    · rw [decide_eq_false p1] at aa;clear hc;go_wp2_with fail;refine(aa.o _).mono ?_;rintro e w1 ⟨rfl,rfl⟩;go_wp2;go_ret;exact⟨by rw [HQ.o];rfl,HA.o⟩
theorem Zni (w:World)(s:Sl)(v:Vw)(h:Gi (fun _=>True) w s v.act)(hs:s.len≤200)(x:Int) :
    Calls prog 69 #[vwV v s,.int .i64 x] w fun e w'=>e=.returned (.bool (seesA v x))∧Bl w w':=by
  obtain⟨vs,vn,t⟩:=v;have hA:=Zab w (.cells #[.int .i64 vs,.int .i64 vn,s.val] 31);have HG:=Zh (h.below hA (Nat.le_refl _));have HC:=Zh (Zeh _ s ⟨vs,vn,t⟩ HG.o hs);have HK:=Zh (Zd9 w ⟨vs,vn,t⟩ s);have HA:=Zh hA;have HI:=Zh (fun (W:World) (hb:Below (w.alloc (.cells #[.int .i64 vs,.int .i64 vn,s.val] 31)).heap.size (w.alloc (.cells #[.int .i64 vs,.int .i64 vn,s.val] 31)) W)=>Zgz W s t (HG.o.below hb (Nat.le_refl _)) x);obtain⟨r,hr⟩:∃r,r=seesA ⟨vs,vn,t⟩ x:=⟨_,rfl⟩;rw [← hr];obtain⟨m,hm⟩:∃m,m=decide (MayV ⟨vs,vn,t⟩):=⟨_,rfl⟩;rw [← hm] at HC;obtain⟨c,hc⟩:∃c,c=t.contains x:=⟨_,rfl⟩;rw [← hc] at HI;(have HR:Hi (r=(m && ((x == 0) || ((decide (0<x) && (x == vs)) || (decide (0<x) && (decide (x<vn) && !c)))))):=by show _=_;rw [hr,hm,hc];rfl);obtain⟨a,len,cap⟩:=s;clear h hs hA hr hm hc HG;unfold vwV Sl.val at *;simp only at *;go_enter func69,ntmps69;go_wp2_with fail;generalize w.alloc (.cells #[.int .i64 vs,.int .i64 vn,.slice a len cap] 31)=W0 at *;refine HC.o.mono ?_;rintro e w1 ⟨rfl,hb⟩;have HB:=Zh (Zad HA.o hb);have ab:=Zh (HI.o w1 hb);have hk:=HK.o.keep hb;have c0:=hk.c0;have c1:=hk.c1;have c2:=hk.c2;unfold Sl.val at c2;simp only at c0 c1 c2;clear hb hk HC HI HK;cases m with
  | false =>
   (have HQ:Hi (r=false):=by show _=_;rw [HR.o];rfl);unfold errV;simp only [Bool.false_eq_true,if_false];go_wp2;go_ret;exact⟨by rw [HQ.o];rfl,HB.o⟩
  | true =>
   unfold errV;simp only [if_true];by_cases h0:x<0
   · have HQ:Hi (r=false):=by
      show _=_;rw [HR.o,decide_eq_false (by omega:¬0<x),beq_eq_false_iff_ne.2 (by omega:x≠0)];rfl
     go_wp2;go_ret;exact⟨by rw [HQ.o];rfl,HB.o⟩
   · by_cases h1:x=0
     · (have HQ:Hi (r=true):=by show _=_;rw [HR.o,h1];rfl);subst h1;go_wp2;go_ret;exact⟨by rw [HQ.o];rfl,HB.o⟩
     · have b1:(x == 0)=false:=beq_eq_false_iff_ne.2 h1;(have hp:0<x:=by omega);by_cases h2:x=vs
       · have HQ:Hi (r=true):=by
          show _=_;rw [HR.o,decide_eq_true hp,← h2];simp
         subst h2;clear HR;go_wp2;go_ret;exact⟨by rw [HQ.o];rfl,HB.o⟩
       · have b2:(x == vs)=false:=beq_eq_false_iff_ne.2 h2;by_cases h3:x<vn
         · have HQ:Hi (r = !c):=by
            show _=_;rw [HR.o,decide_eq_true hp,decide_eq_true h3,b1,b2];simp
           clear HR;go_wp2_with fail;refine ab.o.mono ?_;rintro e w2 ⟨rfl,ac⟩;have aa:=Zh (Zad HB.o ac);clear ac ab;cases c with
           | true =>
            go_wp2;go_ret;exact⟨by rw [HQ.o];rfl,aa.o⟩
           | false =>
            go_wp2;go_ret;exact⟨by rw [HQ.o];rfl,aa.o⟩
         · have HQ:Hi (r=false):=by
            show _=_;rw [HR.o,decide_eq_true hp,decide_eq_false h3,b1,b2];simp
           clear HR;go_wp2;go_ret;exact⟨by rw [HQ.o];rfl,HB.o⟩
def lkV (y:Rx) (b:Bool) (q:Sl) (e:Int):Value:=.agg #[.float .f64 y.r.key,.bool y.r.dead,.slice y.a y.n y.c,.int .i64 y.r.wr,.int .i64 y.r.cell,.int .i64 y.r.no,.bool b,.slice q.a q.len q.cap,.int .i64 e]
def LkBlk (w:World) (p:Nat) (y:Rx) (b:Bool) (q:Sl) (e:Int):Prop:=w.heap[p]? = some (Obj.cells #[.float .f64 y.r.key,.bool y.r.dead,.slice y.a y.n y.c,.int .i64 y.r.wr,.int .i64 y.r.cell,.int .i64 y.r.no,.bool b,.slice q.a q.len q.cap,.int .i64 e] 75 (0,0))
theorem LkBlk.lt (h:LkBlk w p y b q e):p<w.heap.size:=(Array.getElem?_eq_some_iff.1 h).1
theorem LkBlk.keep (h:LkBlk w p y b q e)(hb:Bl w w'):LkBlk w' p y b q e:=(hb.block p h.lt).trans h
theorem LkBlk.frm {F:Nat→Prop}(h:LkBlk w p y b q e)(hf:Frm F w w')(hn:¬F p):LkBlk w' p y b q e:=(hf.block p h.lt hn).trans h
theorem LkBlk.fz (h:LkBlk w p y b q e)(o:Nat):w.frozen? ⟨p,o,none⟩=false:=frozen_of_row w p _ _ 75 h
theorem Zh2 (w:World)(y:Rx)(b:Bool)(q:Sl)(e:Int):LkBlk (w.alloc (.cells #[.float .f64 y.r.key,.bool y.r.dead,.slice y.a y.n y.c,.int .i64 y.r.wr,.int .i64 y.r.cell,.int .i64 y.r.no,.bool b,.slice q.a q.len q.cap,.int .i64 e] 75)) w.heap.size y b q e:=heap_alloc_new w _
theorem LkBlk.c0 (h:LkBlk w p y b q e):w.cell? ⟨p,0,none⟩=some (.float .f64 y.r.key):=by unfold LkBlk at h;simp [World.cell?,h]
theorem LkBlk.c1 (h:LkBlk w p y b q e):w.cell? ⟨p,1,none⟩=some (.bool y.r.dead):=by unfold LkBlk at h;simp [World.cell?,h]
theorem LkBlk.c2 (h:LkBlk w p y b q e):w.cell? ⟨p,2,none⟩=some (.slice y.a y.n y.c):=by unfold LkBlk at h;simp [World.cell?,h]
theorem LkBlk.c3 (h:LkBlk w p y b q e):w.cell? ⟨p,3,none⟩=some (.int .i64 y.r.wr):=by unfold LkBlk at h;simp [World.cell?,h]
theorem LkBlk.c4 (h:LkBlk w p y b q e):w.cell? ⟨p,4,none⟩=some (.int .i64 y.r.cell):=by unfold LkBlk at h;simp [World.cell?,h]
theorem LkBlk.c5 (h:LkBlk w p y b q e):w.cell? ⟨p,5,none⟩=some (.int .i64 y.r.no):=by unfold LkBlk at h;simp [World.cell?,h]
theorem LkBlk.c6 (h:LkBlk w p y b q e):w.cell? ⟨p,6,none⟩=some (.bool b):=by unfold LkBlk at h;simp [World.cell?,h]
theorem LkBlk.c7 (h:LkBlk w p y b q e):w.cell? ⟨p,7,none⟩=some (.slice q.a q.len q.cap):=by unfold LkBlk at h;simp [World.cell?,h]
theorem LkBlk.c8 (h:LkBlk w p y b q e):w.cell? ⟨p,8,none⟩=some (.int .i64 e):=by unfold LkBlk at h;simp [World.cell?,h]
def setLk (w:World) (p:Nat) (y:Rx) (b:Bool) (q:Sl) (e:Int):World:=(((((((((w.setCell ⟨p,0,none⟩ (.float .f64 y.r.key)).setCell ⟨p,1,none⟩ (.bool y.r.dead)).setCell ⟨p,2,none⟩ (.slice y.a y.n y.c)).setCell ⟨p,3,none⟩ (.int .i64 y.r.wr)).setCell ⟨p,4,none⟩ (.int .i64 y.r.cell)).setCell ⟨p,5,none⟩ (.int .i64 y.r.no)).setCell ⟨p,6,none⟩ (.bool b)).setCell ⟨p,7,none⟩ (.slice q.a q.len q.cap)).setCell ⟨p,8,none⟩ (.int .i64 e))
theorem ZhP (w:World)(p:Nat)(y:Rx)(b:Bool)(q:Sl)(e:Int):Frm (fun k=>k=p) w (setLk w p y b q e):=((((((((((Frm.refl (fun k=>k=p) w).setCell (p:=⟨p,0,none⟩) rfl _).setCell (p:=⟨p,1,none⟩) rfl _).setCell (p:=⟨p,2,none⟩) rfl _).setCell (p:=⟨p,3,none⟩) rfl _).setCell (p:=⟨p,4,none⟩) rfl _).setCell (p:=⟨p,5,none⟩) rfl _).setCell (p:=⟨p,6,none⟩) rfl _).setCell (p:=⟨p,7,none⟩) rfl _).setCell (p:=⟨p,8,none⟩) rfl _)
theorem ZhO {y0:Rx}{b0:Bool}{q0:Sl}{e0:Int}(h:LkBlk w p y0 b0 q0 e0)(y:Rx)(b:Bool)(q:Sl)(e:Int):LkBlk (setLk w p y b q e) p y b q e:=by
 have h1:=heap_setCell_same w p 0 _ 75 (.float .f64 y.r.key) h;have h2:=heap_setCell_same _ p 1 _ 75 (.bool y.r.dead) h1;have h3:=heap_setCell_same _ p 2 _ 75 (.slice y.a y.n y.c) h2;have h4:=heap_setCell_same _ p 3 _ 75 (.int .i64 y.r.wr) h3;have h5:=heap_setCell_same _ p 4 _ 75 (.int .i64 y.r.cell) h4;have h6:=heap_setCell_same _ p 5 _ 75 (.int .i64 y.r.no) h5;have h7:=heap_setCell_same _ p 6 _ 75 (.bool b) h6;have h8:=heap_setCell_same _ p 7 _ 75 (.slice q.a q.len q.cap) h7;have h9:=heap_setCell_same _ p 8 _ 75 (.int .i64 e) h8;unfold LkBlk setLk;rw [h9];simp
theorem Zrq (w:World)(p:Nat){y0:Rx}{b0:Bool}{q0:Sl}{e0:Int}(k:LkBlk w p y0 b0 q0 e0)(y:Rx)(b:Bool)(q:Sl)(e:Int):(Instr.storeAt 75 (.pointer (some ⟨p,0,none⟩)) (lkV y b q e)).run prog w=.ok () (setLk w p y b q e):=by
 have aa:∀(w:World) (a:Addr) (m:Mode) (x:Nat),(store a (.float .f64 x) m).run prog w=stored prog w a (.float .f64 x) m:=fun w a m x=>run_store prog w a _ m rfl;have c0:=k.c0;have c1:=k.c1;have c2:=k.c2;have c3:=k.c3;have c4:=k.c4;have c5:=k.c5;have c6:=k.c6;have c7:=k.c7;have c8:=k.c8;have f0:=k.fz;simp [go_sem,Instr.storeAt,stored,aa,c0,c1,c2,c3,c4,c5,c6,c7,c8,f0,lkV,setLk]
theorem Zqb (w:World)(y:Rx)(b:Bool)(q:Sl)(e:Int):∃W,(Instr.storeAt 75 (.pointer (some ⟨w.heap.size,0,none⟩)) (lkV y b q e)).run prog (w.alloc (.cells #[.float .f64 0,.bool false,.slice none 0 0,.int .i64 0,.int .i64 0,.int .i64 0,.bool false,.slice none 0 0,.int .i64 0] 75))=.ok () W∧LkBlk W w.heap.size y b q e∧Bl w W:=by
 have hz:LkBlk (w.alloc (.cells #[.float .f64 0,.bool false,.slice none 0 0,.int .i64 0,.int .i64 0,.int .i64 0,.bool false,.slice none 0 0,.int .i64 0] 75)) w.heap.size Rx.zero false Sl.nil 0:=Zh2 w Rx.zero false Sl.nil 0;have hA:=Zab w (.cells #[.float .f64 0,.bool false,.slice none 0 0,.int .i64 0,.int .i64 0,.int .i64 0,.bool false,.slice none 0 0,.int .i64 0] 75);exact⟨_,Zrq _ _ hz y b q e,ZhO hz y b q e,hA.trans ((ZhP _ _ y b q e).below hA.size (fun k hk=>by rw [hk];exact Nat.le_refl _))⟩
theorem ZbH {fn:Func}{x:Nat}(hr:fn.results=#[.cell x 75]){W:World}{g:Nat}(h:LkBlk W g y b q e)(tmps:Array Value)(tx:tmps.getD x undef=.pointer (some ⟨g,0,none⟩)) :
    (results fn tmps).run prog W=.ok (lkV y b q e) W:=by
  have c0:=h.c0;have c1:=h.c1;have c2:=h.c2;have c3:=h.c3;have c4:=h.c4;have c5:=h.c5;have c6:=h.c6;have c7:=h.c7;have c8:=h.c8;(have tx2:tmps[x]?.getD undef=.pointer (some ⟨g,0,none⟩):=by simpa using tx);simp [results,hr,tx2,go_sem,c0,c1,c2,c3,c4,c5,c6,c7,c8,lkV]
def Zjb (w0 w:World) (o:Option Rw × List Int × Int) (e:Ending) (w':World):Prop:=Bl w w'∧∃(y:Rx) (q:Sl),e=.returned (lkV y o.1.isSome q o.2.2)∧y.r=o.1.getD zeroR∧ColR w0 w' y∧y.r.fits∧Gi (fun k=>w.heap.size≤k) w' q o.2.1
structure LkI (w0 w wr:World) (z:Bz) (v:Vw) (vs:Sl) (x0:Rw) (i:Nat) (q:Sl) (x:Rx) (pre:List Int):Prop where
  vw:VwBlk wr w.heap.size v vs
  row:RwBlk wr (w.heap.size+1) x.r (.slice x.a x.n x.c)
  res:LkBlk wr (w.heap.size+1+1) Rx.zero false Sl.nil 0
  col:ColR w0 wr x
  fit:x.r.fits
  nq:Nq w wr q pre
  len:pre.length=i
  look:(vnB (uns z.ux) v).look 400 x0=(((vnB (uns z.ux) v).look (400-i) x.r).1,pre ++ ((vnB (uns z.ux) v).look (400-i) x.r).2.1,((vnB (uns z.ux) v).look (400-i) x.r).2.2)
theorem LkI.keep (h:LkI w0 w wr z v vs x0 i q x pre)(hb:Bl wr w'):LkI w0 w w' z v vs x0 i q x pre:=
 ⟨h.vw.keep hb,h.row.keep hb,h.res.keep hb,h.col.keep hb,h.fit,h.nq.keep hb,h.len,h.look⟩
structure LkJ (w0 w wr:World) (z:Bz) (v:Vw) (vs:Sl) (x0:Rw) (i:Nat) (q:Sl) (x:Rx) (pre:List Int):Prop where
  vw:VwBlk wr w.heap.size v vs
  row:RwBlk wr (w.heap.size+1) x.r (.slice x.a x.n x.c)
  res:LkBlk wr (w.heap.size+1+1) Rx.zero false Sl.nil 0
  nq:Nq w wr q (pre ++ [x.r.wr])
  len:pre.length=i
  look:(vnB (uns z.ux) v).look 400 x0=(((vnB (uns z.ux) v).look (400-i) x.r).1,pre ++ ((vnB (uns z.ux) v).look (400-i) x.r).2.1,((vnB (uns z.ux) v).look (400-i) x.r).2.2)
theorem LkJ.keep (h:LkJ w0 w wr z v vs x0 i q x pre)(hb:Bl wr w'):LkJ w0 w w' z v vs x0 i q x pre:=
 ⟨h.vw.keep hb,h.row.keep hb,h.res.keep hb,h.nq.keep hb,h.len,h.look⟩
theorem LkI.app (h:LkI w0 w wr z v vs x0 i q x pre)(hi:i≤400)(hw:w0.heap.size≤w.heap.size) :
    ∃q' W,(∀ty,(Builtin.append_ #[29,29] ty #[q.val,.slice (some ⟨wr.heap.size,0,none⟩) 1 1]).run prog (wr.alloc (.cells #[.int .i64 x.r.wr] 3))=.ok q'.val W)∧LkJ w0 w W z v vs x0 i q' x pre∧Bl w W:=by
  have hb:=Zab wr (.cells #[.int .i64 x.r.wr] 3);have k:=h.keep hb;(have hl:q.len=i:=by rw [← OwnN.len h.nq.own];exact h.len);obtain⟨q',W,ab,ac,aa,ad⟩:=k.nq.app ((Zqx wr x.r.wr).src) (by show q.len+1≤_;omega);have hB:Bl w W:=ac.below;refine⟨q',W,ab,⟨k.vw.frm aa (k.nq.not k.vw (by decide)),?_,k.res.frm aa (k.nq.not k.res (by decide)),ac,h.len,h.look⟩,hB⟩;exact(aa.block _ (Array.getElem?_eq_some_iff.1 k.row).1 (k.nq.not k.row (by decide))).trans k.row
theorem LkJ.row_ (h:LkJ w0 w wr z v vs x0 i q x pre)(hw:w0.heap.size≤w.heap.size)(hi:i<400)(y:Rx)(hc:ColR w0 wr y)(hf:y.r.fits)(hs:seesV v x.r.wr=false)(hn:nxB (uns z.ux) x.r=some (some y.r)) :
    ∃W,(Instr.storeAt 39 (.pointer (some ⟨w.heap.size+1,0,none⟩)) (y.r.val (.slice y.a y.n y.c))).run prog wr=.ok () W∧LkI w0 w W z v vs x0 (i+1) q y (pre ++ [x.r.wr]):=by
  have aa:=Zbi wr (w.heap.size+1) y.r (.slice y.a y.n y.c);have hB:Bl w (setRw wr (w.heap.size+1) y.r (.slice y.a y.n y.c)):=h.nq.below.trans (aa.below h.nq.below.size (fun k hk=>by rw [hk];omega));refine⟨_,Zfy wr (w.heap.size+1) _ _ h.row y.r y.a y.n y.c,⟨h.vw.frm aa (by omega),ZaH h.row _ _,h.res.frm aa (by omega),?_,hf,⟨Own.frmT h.nq.own h.row (by decide) aa,h.nq.home,hB⟩,by rw [List.length_append,h.len];rfl,?_⟩⟩
  · exact hc.frm aa (fun k hk=>by rw [hk];exact ⟨by omega,_,_,h.row,by decide⟩)
  · rw [h.look,show 400-i=(400-(i+1))+1 by omega,(vnB (uns z.ux) v).look_next (400-(i+1)) (r:=x.r) (q:=y.r) hs hn];show (_,pre ++ (x.r.wr :: _),_)=(_,(pre ++ [x.r.wr]) ++ _,_);rw [List.append_assoc];rfl
theorem Zc4 (hq:Nq w wr q t)(aa:LkBlk wr (w.heap.size+1+1) Rx.zero false Sl.nil 0)(hw:w0.heap.size≤w.heap.size)(hl:q.len≤1000000)(y:Rx)(hc:ColR w0 wr y)(hf:y.r.fits){o:Option Rw × List Int × Int}(h1:y.r=o.1.getD zeroR)(h2:o.2.1=t)(b:Bool)(hb:o.1.isSome=b)(e:Int)(he:o.2.2=e) :
    ∃W,(Instr.storeAt 75 (.pointer (some ⟨w.heap.size+1+1,0,none⟩)) (lkV y b q e)).run prog wr=.ok () W∧LkBlk W (w.heap.size+1+1) y b q e∧Zjb w0 w o (.returned (lkV y b q e)) W:=by
  have ab:=ZhP wr (w.heap.size+1+1) y b q e;have hB:Bl w (setLk wr (w.heap.size+1+1) y b q e):=hq.below.trans (ab.below hq.below.size (fun k hk=>by rw [hk];omega));subst hb he;refine⟨_,Zrq wr (w.heap.size+1+1) aa y _ q _,ZhO aa _ _ _ _,hB,y,q,rfl,h1,?_,hf,?_⟩
  · exact hc.frm ab (fun k hk=>by rw [hk];exact ⟨by omega,_,_,aa,by decide⟩)
  · rw [h2];exact OwnN.gi (Own.frmT hq.own aa (by decide) ab) hq.home hl
def lenV:Value→Nat
  | .slice _ n _=>n
  | _=>0
theorem Nq.nil0 (h:Bl w0 w):Nq w0 w Sl.nil []:=⟨Own.nil _ _ _,(fun k hk=>by cases hk),h⟩
theorem Zio {α:Type}{a:Option α}{c:Int}(h:t.length≤400):Vn.cut (a,t,c)=(a,t,c):=by
 show (a,t.take 400,c)=_;rw [List.take_of_length_le h]
theorem Znz {α:Type}{a:Option α}{x c:Int}(h:t.length=400):Vn.cut (a,t ++ [x],c)=(a,t,c):=by
 show (a,(t ++ [x]).take 400,c)=_;rw [List.take_left' h]
theorem Zk6 (w0 w:World)(hw:Bl w0 w)(z:Bz)(v:Vw)(s:Sl)(x:Rx)(hx:ColR w0 w x)(hf:x.r.fits) :
    ∃Wa Wb W0,w.alloc (.cells #[.int .i64 v.self,.int .i64 v.next,s.val] 31)=Wa∧Wa.alloc (.cells #[.float .f64 x.r.key,.bool x.r.dead,.slice x.a x.n x.c,.int .i64 x.r.wr,.int .i64 x.r.cell,.int .i64 x.r.no] 39)=Wb∧Wb.alloc (.cells #[.float .f64 0,.bool false,.slice none 0 0,.int .i64 0,.int .i64 0,.int .i64 0,.bool false,.slice none 0 0,.int .i64 0] 75)=W0∧Wa.heap.size=w.heap.size+1∧Wb.heap.size=w.heap.size+1+1∧LkI w0 w W0 z v s x.r 0 Sl.nil x []:=by
  have ac:=Zab w (.cells #[.int .i64 v.self,.int .i64 v.next,s.val] 31);have b1:=Zd9 w v s;obtain⟨Wa,ha⟩:∃W,w.alloc (.cells #[.int .i64 v.self,.int .i64 v.next,s.val] 31)=W:=⟨_,rfl⟩;(have sa:Wa.heap.size=w.heap.size+1:=by rw [← ha];exact Zaf _ _);rw [ha] at ac b1;have ab:=Zab Wa (.cells #[.float .f64 x.r.key,.bool x.r.dead,.slice x.a x.n x.c,.int .i64 x.r.wr,.int .i64 x.r.cell,.int .i64 x.r.no] 39);have b2:=Zai Wa x.r (.slice x.a x.n x.c);obtain⟨Wb,hb⟩:∃W,Wa.alloc (.cells #[.float .f64 x.r.key,.bool x.r.dead,.slice x.a x.n x.c,.int .i64 x.r.wr,.int .i64 x.r.cell,.int .i64 x.r.no] 39)=W:=⟨_,rfl⟩;(have sb:Wb.heap.size=w.heap.size+1+1:=by rw [← hb,Zaf,sa]);rw [hb] at ab b2;rw [sa] at b2;have aa:=Zab Wb (.cells #[.float .f64 0,.bool false,.slice none 0 0,.int .i64 0,.int .i64 0,.int .i64 0,.bool false,.slice none 0 0,.int .i64 0] 75);have b3:LkBlk (Wb.alloc (.cells #[.float .f64 0,.bool false,.slice none 0 0,.int .i64 0,.int .i64 0,.int .i64 0,.bool false,.slice none 0 0,.int .i64 0] 75)) Wb.heap.size Rx.zero false Sl.nil 0:=Zh2 Wb Rx.zero false Sl.nil 0;obtain⟨W0,hc⟩:∃W,Wb.alloc (.cells #[.float .f64 0,.bool false,.slice none 0 0,.int .i64 0,.int .i64 0,.int .i64 0,.bool false,.slice none 0 0,.int .i64 0] 75)=W:=⟨_,rfl⟩;rw [hc] at aa b3;rw [sb] at b3;have hA:=Zad ac (Zad ab aa);exact⟨Wa,Wb,W0,ha,hb,hc,sa,sb,b1.keep (Zad ab aa),b2.keep aa,b3,hx.keep hA,hf,Nq.nil0 hA,rfl,Zk7 _ _⟩
theorem Znf (w0 w:World)(hw:Bl w0 w)(z:Bz)(h:Bin w0 z)(bm:MayU (uns z.ux)=true)(v:Vw)(s:Sl)(hv:Gi (fun _=>True) w s v.act)(bq:s.len≤200)(bn:MayV v)(x:Rx)(hx:ColR w0 w x)(hf:x.r.fits) :
    Calls prog 32 #[.slice z.cs.a z.cs.len z.cs.cap,vwV v s,x.val] w (Zjb w0 w (Vn.cut ((vnB (uns z.ux) v).look 400 x.r))):=by
  obtain⟨Wa,Wb,W0,ha,hb,hc,sa,sb,bj⟩:=Zk6 w0 w hw z v s x hx hf;have ba:=Zh bj;have HH:=Zh h;have HV:=Zh hv;have HW:=Zh hw;have bu:=Zh bm;have bv:=Zh bn;have an:w0.heap.size≤w.heap.size:=hw.size;have HA:=Zh ha;have HB:=Zh hb;have HC:=Zh hc;obtain⟨x0,bt⟩:∃x0,x0=x.r:=⟨_,rfl⟩;rw [← bt] at ba ⊢;have bb:Hi (z.cs.len≤1000):=h.cb;obtain⟨o,ho⟩:∃o,o=Vn.cut ((vnB (uns z.ux) v).look 400 x0):=⟨_,rfl⟩;rw [← ho];have HO:=Zh ho;clear bj h hv hw hx hf bt ho ha hb hc bm bn;obtain⟨⟨xk,xd,xs,xw,xc,xn⟩,xa,xl,xcp⟩:=x;obtain⟨vs,vn,vt⟩:=v;obtain⟨sa',sn,sc⟩:=s;unfold vwV Rx.val Rw.val;simp only [Sl.val] at *;go_enter func32,ntmps32;go_wp2_with fail;simp only [sa,sb] at *;rw [HA.o,HB.o,HC.o];clear HA HB HC sa sb;go_loopw [7] (fun sv wr=>∃(i:Nat) (q:Sl) (x:Rx) (pre:List Int),i≤400∧sv=q.val∧q.len=i∧Hi (LkI w0 w wr z ⟨vs,vn,vt⟩ ⟨sa',sn,sc⟩ x0 i q x pre)) (fun sv _=>401-lenV sv)
  case atStart=>exact ⟨0,Sl.nil,_,_,Nat.zero_le _,rfl,rfl,ba⟩
  case round =>
   clear ba;obtain⟨i,⟨qa,qn,qc⟩,⟨⟨k0,k1,k2,k3,k4,k5⟩,ya,yl,yc⟩,pre,hi,rfl,bp,ah⟩:=hrel;simp only at bp;subst bp;simp only [Sl.val];have g0:=ah.o.vw.c0;have g1:=ah.o.vw.c1;have g2:=ah.o.vw.c2;have r0:=ah.o.row.c0;have r1:=ah.o.row.c1;have r2:=ah.o.row.c2;have r3:=ah.o.row.c3;have r4:=ah.o.row.c4;have r5:=ah.o.row.c5;simp only [Sl.val] at g0 g1 g2 r0 r1 r2 r3 r4 r5;have ap:=Zh (Zni wr ⟨sa',sn,sc⟩ ⟨vs,vn,vt⟩ (HV.o.below ah.o.nq.below (Nat.le_refl _)) (by show sn≤200;omega) k3);(have br:seesA ⟨vs,vn,vt⟩ k3=seesV ⟨vs,vn,vt⟩ k3:=by unfold seesA;rw [decide_eq_true bv.o,Bool.true_and]);rw [br] at ap;unfold vwV at ap;simp only [Sl.val] at ap;clear br;go_wp2_with fail;refine ap.o.mono ?_;rintro e w1 ⟨rfl,bk⟩;have H1:=Zh (ah.o.keep bk);clear bk ap ah g0 g1 g2 r0 r1 r2 r3 r4 r5;have r0:=H1.o.row.c0;have r1:=H1.o.row.c1;have r2:=H1.o.row.c2;have r3:=H1.o.row.c3;have r4:=H1.o.row.c4;have r5:=H1.o.row.c5;simp only [Sl.val] at r0 r1 r2 r3 r4 r5;(have bf:qn≤1000000:=by omega);have aw:Hi (pre.length=qn):=H1.o.len;obtain⟨m,hm⟩:∃m,m=seesV ⟨vs,vn,vt⟩ k3:=⟨_,rfl⟩;rw [← hm];have HM:=Zh hm;clear hm;cases m with
   | true =>
    have ac:Hi (o=((if k1=true then none else some ⟨k0,k1,k2,k3,k4,k5⟩),pre,0)):=by
     show o=_;rw [HO.o,H1.o.look,(vnB (uns z.ux) ⟨vs,vn,vt⟩).look_seen (400-qn) (r:=⟨k0,k1,k2,k3,k4,k5⟩) HM.o.symm,List.append_nil];exact Zio (by rw [aw.o];exact hi)
    cases k1 with
    | true =>
     clear HM;obtain⟨W,af,aa,ab⟩:=Zc4 (o:=o) H1.o.nq H1.o.res an bf Rx.zero (ColR.zero _ _) Zbp (by rw [ac.o];rfl) (by rw [ac.o]) false (by rw [ac.o];rfl) 0 (by rw [ac.o]);have ae:=Zh af;have ai:=Zh aa;have ag:=Zh ab;clear af aa ab ac;simp only [lkV,Rx.zero,zeroR] at ae ag;go_wp2_with (first | refine Zac _ rfl rfl 75 (.tmp 6) (.tmp 46) rfl (.pointer (some ⟨w.heap.size+1+1,0,none⟩)) (.agg #[.float .f64 0,.bool false,.slice none 0 0,.int .i64 0,.int .i64 0,.int .i64 0,.bool false,.slice qa qn qc,.int .i64 0]) rfl rfl W ae.o ?_);refine bodyPost_ret (ZbH rfl ai.o _ rfl) rfl ?_;exact ag.o
    | false =>
     clear HM;obtain⟨W,af,aa,ab⟩:=Zc4 (o:=o) H1.o.nq H1.o.res an bf ⟨⟨k0,false,k2,k3,k4,k5⟩,ya,yl,yc⟩ H1.o.col H1.o.fit (by rw [ac.o];rfl) (by rw [ac.o]) true (by rw [ac.o];rfl) 0 (by rw [ac.o]);have ae:=Zh af;have ai:=Zh aa;have ag:=Zh ab;clear af aa ab ac;simp only [lkV,Rx.zero,zeroR] at ae ag;go_wp2_with (first | refine Zac _ rfl rfl 75 (.tmp 6) (.tmp 49) rfl (.pointer (some ⟨w.heap.size+1+1,0,none⟩)) (.agg #[.float .f64 k0,.bool false,.slice ya yl yc,.int .i64 k3,.int .i64 k4,.int .i64 k5,.bool true,.slice qa qn qc,.int .i64 0]) rfl rfl W ae.o ?_);refine bodyPost_ret (ZbH rfl ai.o _ rfl) rfl ?_;exact ag.o
   | false =>
    have ak:Hi ((vnB (uns z.ux) ⟨vs,vn,vt⟩).see ⟨k0,k1,k2,k3,k4,k5⟩=false):=HM.o.symm;by_cases aj:qn=400
    · (have i4:((qn:Int) == 400)=true:=by rw [aj];rfl);have ac:Hi (o=(none,pre,13)):=by
       show o=_;rw [HO.o,H1.o.look,aj,show 400-400=0 from rfl,(vnB (uns z.ux) ⟨vs,vn,vt⟩).look_end ak.o];exact Znz (by rw [aw.o,aj])
      clear HM ak aj;obtain⟨W,af,aa,ab⟩:=Zc4 (o:=o) H1.o.nq H1.o.res an bf Rx.zero (ColR.zero _ _) Zbp (by rw [ac.o];rfl) (by rw [ac.o]) false (by rw [ac.o];rfl) 13 (by rw [ac.o]);have ae:=Zh af;have ai:=Zh aa;have ag:=Zh ab;clear af aa ab ac;simp only [lkV,Rx.zero,zeroR] at ae ag;go_wp2_with (first | refine Zac _ rfl rfl 75 (.tmp 6) (.tmp 19) rfl (.pointer (some ⟨w.heap.size+1+1,0,none⟩)) (.agg #[.float .f64 0,.bool false,.slice none 0 0,.int .i64 0,.int .i64 0,.int .i64 0,.bool false,.slice qa qn qc,.int .i64 13]) rfl rfl W ae.o ?_);refine bodyPost_ret (ZbH rfl ai.o _ rfl) rfl ?_;exact ag.o
    have i4:((qn:Int) == 400)=false:=beq_eq_false_iff_ne.2 (by omega);obtain⟨⟨q2a,q2n,q2c⟩,W2,au,ax,bi⟩:=H1.o.app hi an;have ar:q2n=qn+1:=by
     have h9:=OwnN.len ax.nq.own;have bz:=ax.len;rw [List.length_append] at h9;have ca:pre.length+1=q2n:=h9;omega
    have ao:=Zh ar;(have bo:q2n≤1000000:=by omega);clear ar;have al:=Zh au;have H2:=Zh ax;simp only [Sl.val] at al;clear au ax;have bh:=Zh bi;clear bi;have s4:=H2.o.row.c4;have s5:=H2.o.row.c5;simp only [Sl.val] at s4 s5;have az:=Zh (ZnB z.cs.a z.cs.len z.cs.cap z.ux W2 (HH.o.keep (Zad HW.o bh.o)).cs (by have:=bb.o;omega) k4 k5);rw [if_pos bu.o] at az;go_wp2_with (first | refine Zgk _ rfl 29 (.tmp 20) (.tmp 23) rfl (.slice qa qn qc) (.slice (some ⟨w1.heap.size,0,none⟩) 1 1) rfl rfl _ W2 al.o ?_);refine az.o.mono ?_;rintro e w3 ⟨xu,rfl,bg,aq,bl⟩;obtain⟨W4,av,ad,bd⟩:=Zje w3 xu;have H4:=Zh ((H2.o.keep bl).keep bd);have ay:=Zh (((aq w0).keep bd).colR);have am:=Zh av;have bc:=Zh bg;have u3:=ad.c3;have u6:=ad.c6;have u7:=ad.c7;have u8:=ad.c8;have u9:=ad.c9;have u10:=ad.c10;have u11:=ad.c11;(have bx:Hi (xu.u.row.fits):=by show _;rw [bg];exact (Zl8 HH.o.cs.fits k4 k5).row);clear bl bd aq av bg ad az al H2 bh s4 s5 r0 r1 r2 r3 r4 r5;obtain⟨g,hg⟩:∃g,g=(getU (uns z.ux) k4 k5).2:=⟨_,rfl⟩;rw [← hg];have HG:=Zh hg;clear hg H1;(have be:qn<400:=by omega);cases g with
    | false =>
     have ac:Hi (o=(none,pre ++ [k3],13)):=by
      show o=_;rw [HO.o,H4.o.look,(vnB (uns z.ux) ⟨vs,vn,vt⟩).look_old (400-qn) ak.o (show nxB (uns z.ux) ⟨k0,k1,k2,k3,k4,k5⟩=none from ZgI HG.o.symm)];exact Zio (by rw [List.length_append,aw.o];exact be)
     clear HM ak HG;obtain⟨W,af,aa,ab⟩:=Zc4 (o:=o) H4.o.nq H4.o.res an bo Rx.zero (ColR.zero _ _) Zbp (by rw [ac.o];rfl) (by rw [ac.o]) false (by rw [ac.o];rfl) 13 (by rw [ac.o]);have ae:=Zh af;have ai:=Zh aa;have ag:=Zh ab;clear af aa ab ac;simp only [lkV,Rx.zero,zeroR] at ae ag;go_wp2_with (first | refine Zac _ rfl rfl 65 (.tmp 8) (.tmp 30) rfl (.pointer (some ⟨w3.heap.size,0,none⟩)) xu.val rfl rfl W4 am.o ?_ | refine Zac _ rfl rfl 75 (.tmp 6) (.tmp 35) rfl (.pointer (some ⟨w.heap.size+1+1,0,none⟩)) (.agg #[.float .f64 0,.bool false,.slice none 0 0,.int .i64 0,.int .i64 0,.int .i64 0,.bool false,.slice q2a q2n q2c,.int .i64 13]) rfl rfl W ae.o ?_);refine bodyPost_ret (ZbH rfl ai.o _ rfl) rfl ?_;exact ag.o
    | true =>
     by_cases hk:xu.u.kind=1
     · have ac:Hi (o=(none,pre ++ [k3],0)):=by
        show o=_;rw [HO.o,H4.o.look,show 400-qn=(400-(qn+1))+1 by omega,(vnB (uns z.ux) ⟨vs,vn,vt⟩).look_new (400-(qn+1)) ak.o (show nxB (uns z.ux) ⟨k0,k1,k2,k3,k4,k5⟩=some none from Zi7 HG.o.symm (by show (getU (uns z.ux) k4 k5).1.kind=1;rw [← bc.o,hk]))];exact Zio (by rw [List.length_append,aw.o];exact be)
       clear HM ak HG;rw [hk] at u3;obtain⟨W,af,aa,ab⟩:=Zc4 (o:=o) H4.o.nq H4.o.res an bo Rx.zero (ColR.zero _ _) Zbp (by rw [ac.o];rfl) (by rw [ac.o]) false (by rw [ac.o];rfl) 0 (by rw [ac.o]);have ae:=Zh af;have ai:=Zh aa;have ag:=Zh ab;clear af aa ab ac;simp only [lkV,Rx.zero,zeroR] at ae ag;go_wp2_with (first | refine Zac _ rfl rfl 65 (.tmp 8) (.tmp 30) rfl (.pointer (some ⟨w3.heap.size,0,none⟩)) xu.val rfl rfl W4 am.o ?_ | refine Zac _ rfl rfl 75 (.tmp 6) (.tmp 40) rfl (.pointer (some ⟨w.heap.size+1+1,0,none⟩)) (.agg #[.float .f64 0,.bool false,.slice none 0 0,.int .i64 0,.int .i64 0,.int .i64 0,.bool false,.slice q2a q2n q2c,.int .i64 0]) rfl rfl W ae.o ?_);refine bodyPost_ret (ZbH rfl ai.o _ rfl) rfl ?_;exact ag.o
     · have cc:(xu.u.kind == 1)=false:=beq_eq_false_iff_ne.2 hk;obtain⟨W,af,bs⟩:=H4.o.row_ an be ⟨xu.u.row,xu.a,xu.n,xu.c⟩ ay.o bx.o HM.o.symm (by
        have:=Zj4 (u:=uns z.ux) (r:=⟨k0,k1,k2,k3,k4,k5⟩) HG.o.symm (by show ¬(getU (uns z.ux) k4 k5).1.kind=1;rw [← bc.o];exact hk);rw [this];show some (some (getU (uns z.ux) k4 k5).1.row)=_;rw [← bc.o])
       have ae:=Zh af;have bw:=Zh bs;clear af bs HM ak HG hk;simp only [Rw.val] at ae;go_wp2_with (first | refine Zac _ rfl rfl 65 (.tmp 8) (.tmp 30) rfl (.pointer (some ⟨w3.heap.size,0,none⟩)) xu.val rfl rfl W4 am.o ?_ | refine Zac _ rfl rfl 39 (.tmp 5) (.tmp 42) rfl (.pointer (some ⟨w.heap.size+1,0,none⟩)) (.agg #[.float .f64 xu.u.row.key,.bool xu.u.row.dead,.slice xu.a xu.n xu.c,.int .i64 xu.u.row.wr,.int .i64 xu.u.row.cell,.int .i64 xu.u.row.no]) rfl rfl W ae.o ?_);go_roundw
       case rel=>exact ⟨qn+1,⟨q2a,q2n,q2c⟩,_,_,by omega,rfl,ao.o,bw⟩
       case measure=>simp only [lenV];have:=ao.o;omega
theorem Zj8 (c d:Bool):orN [chk c,errV d]=errV (c && d):=by cases c <;> cases d <;> rfl
theorem Zr5 (p:Nat)(w:World):(Instr.fieldAt 75 (.pointer (some ⟨p,0,none⟩)) 0).run prog w=.ok (.pointer (some ⟨p,0,none⟩)) w:=by simp [go_sem,Instr.fieldAt]
theorem Zr6 (p:Nat)(w:World):(Instr.fieldAt 75 (.pointer (some ⟨p,0,none⟩)) 1).run prog w=.ok (.pointer (some ⟨p,6,none⟩)) w:=by simp [go_sem,Instr.fieldAt]
theorem Zr7 (p:Nat)(w:World):(Instr.fieldAt 75 (.pointer (some ⟨p,0,none⟩)) 2).run prog w=.ok (.pointer (some ⟨p,7,none⟩)) w:=by simp [go_sem,Instr.fieldAt]
theorem Zr8 (p:Nat)(w:World):(Instr.fieldAt 75 (.pointer (some ⟨p,0,none⟩)) 3).run prog w=.ok (.pointer (some ⟨p,8,none⟩)) w:=by simp [go_sem,Instr.fieldAt]
theorem ZrL (h:LkBlk w p y b q e):(Instr.loadAt 39 (.pointer (some ⟨p,0,none⟩))).run prog w=.ok (y.r.val (.slice y.a y.n y.c)) w:=by
 have c0:=h.c0;have c1:=h.c1;have c2:=h.c2;have c3:=h.c3;have c4:=h.c4;have c5:=h.c5;simp [go_sem,c0,c1,c2,c3,c4,c5,Rw.val]
theorem ZrI (h:LkBlk w p y b q e):(Instr.loadAt 4 (.pointer (some ⟨p,6,none⟩))).run prog w=.ok (.bool b) w:=by
 have c6:=h.c6;simp [go_sem,c6]
theorem ZrK (h:LkBlk w p y b q e):(Instr.loadAt 29 (.pointer (some ⟨p,7,none⟩))).run prog w=.ok (.slice q.a q.len q.cap) w:=by
 have c7:=h.c7;simp [go_sem,c7]
theorem ZrJ (h:LkBlk w p y b q e):(Instr.loadAt 40 (.pointer (some ⟨p,8,none⟩))).run prog w=.ok (.int .i64 e) w:=by
 have c8:=h.c8;simp [go_sem,c8]
theorem Zql:∀args w,(callFunc 10 args).run prog w=.ok (.enter 10 args) w:=Pl.qj func10
theorem Zqm:∀args w,(callFunc 30 args).run prog w=.ok (.enter 30 args) w:=Pl.qj func30
theorem Zre (w:World)(g k:Nat)(z:Bz)(v:Vw)(s:Sl)(a b:Int)(hg:BsBlk w g z)(hk:VwBlk w k v s)(hC:∀W,Bl w W→Calls prog 10 #[z.val] W fun e w'=>e=.returned (.int .i64 a)∧Bl W w')(hV:∀W,Bl w W→Calls prog 30 #[vwV v s] W fun e w'=>e=.returned (.int .i64 b)∧Bl W w')
    {Q:Exit→Act→World→Prop}(aj:A.tmps.size=49)(ai:A.defers=[])(s3:A.tmps.getD 3 undef=.pointer (some ⟨g,0,none⟩))(s4:A.tmps.getD 4 undef=.pointer (some ⟨k,0,none⟩))
    (hend:∀(u:Nat→Value) w',Bl w w'→Q .normal ((Pl.pu A u [15,17,16,18,19,20]).put (some 10) (.int .i64 (orN [a,b]))) w') :
    Pl.rg prog 1 f9 Q A w:=by
  have aa:Bl w w.drew:=Zaa w;have hA:=Pl.At.same (v:=.pointer (some ⟨k,0,none⟩)) (d:=4) (Pl.At.same (v:=.pointer (some ⟨g,0,none⟩)) (d:=3) (Pl.At.here aj ai) s3) s4;refine Pl.qb (S:=fun w'=>Bl w w') hA aa ?_;rw [show (Pl.fd 1 f9).size=7 by kernel_rfl];refine Pl.q0 0 15 (z.val) (Pl.q1) (Pl.q3 28 (.tmp 3) (fun w' hS=>ZlX (hg.keep hS))) aa ?_;refine Pl.q0 2 17 (vwV v s) (Pl.q1) (Pl.q3 31 (.tmp 4) (fun w' hS=>ZrM (hk.keep hS))) aa ?_;refine Pl.qd 1 16 10 [(.tmp 15)] #[28] (Pl.q1) Zql (Calls.mono (hC _ aa) ?_);rintro e w1 ⟨rfl,af⟩;have ab:Bl w w1:=Zad aa af;refine⟨.int .i64 a,rfl,ab,?_⟩;refine Pl.qd 3 18 30 [(.tmp 17)] #[31] (Pl.q1) Zqm (Calls.mono (hV _ ab) ?_);rintro e w3 ⟨rfl,ag⟩;have ac:Bl w w3:=Zad ab ag;refine⟨.int .i64 b,rfl,ac,?_⟩;have ae:Bl w (w3.alloc (.cells #[.int .i64 a,.int .i64 b] 40)):=Zad ac (Zab w3 _);refine Pl.qm 4 19 (.slice (some ⟨w3.heap.size,0,none⟩) 2 2) (w3.alloc (.cells #[.int .i64 a,.int .i64 b] 40)) (Pl.q1) (Pl.bsV 4 112 2 [(0,.tmp 16),(1,.tmp 18)] _ _ (by kernel_rfl) (by decide) (ZrN w3 a b)) ae ?_;refine Pl.qd 5 20 29 [(.tmp 19)] #[112] (Pl.q1) ZoB (Calls.mono (Zp3 w3 a b) ?_);rintro e w5 ⟨rfl,ah⟩;have ad:Bl w w5:=Zad ac ah;refine⟨.int .i64 (orN [a,b]),rfl,ad,?_⟩;refine Pl.q0 6 10 (.int .i64 (orN [a,b])) (Pl.q1) (Pl.qe (.tmp 20)) ad ?_;refine Pl.q7 (fun A' hA'=>?_);exact Pl.en hA' hA [15,17,16,18,19,20,10] (hend hA'.fn _ ad)
theorem ZrY (w:World)(g p:Nat)(y:Rx)(b:Bool)(q:Sl)(e:Int)(r0:Rw)(c0:Value)(hg:LkBlk w g y b q e)(hp:RwBlk w p r0 c0)(ad:¬g=p)
    {Q:Exit→Act→World→Prop}(ag:A.tmps.size=49)(af:A.defers=[])(s6:A.tmps.getD 6 undef=.pointer (some ⟨p,0,none⟩))(s14:A.tmps.getD 14 undef=.pointer (some ⟨g,0,none⟩))
    (hend:∀(u:Nat→Value) w',RwBlk w' p y.r (.slice y.a y.n y.c)→Frm (fun k=>k=p) w w'→Q .normal ((((Pl.pu A u [41,42,43,44,45,46,47,48]).put (some 7) (.bool b)).put (some 8) (.slice q.a q.len q.cap)).put (some 9) (.int .i64 e)) w') :
    Pl.rg prog 8 f9 Q A w:=by
  have aa:Frm (fun k=>k=p) w w.drew:=(Frm.refl _ w).drew;have hA:=Pl.At.same (v:=.pointer (some ⟨g,0,none⟩)) (d:=14) (Pl.At.same (v:=.pointer (some ⟨p,0,none⟩)) (d:=6) (Pl.At.here ag af) s6) s14;refine Pl.qb (S:=fun w'=>Frm (fun k=>k=p) w w') hA aa ?_;rw [show (Pl.fd 8 f9).size=12 by kernel_rfl];refine Pl.q0 0 41 (.pointer (some ⟨g,0,none⟩)) (Pl.q1) (Pl.q5 75 (.tmp 14) 0 (Zr5 g)) aa ?_;refine Pl.q0 1 42 (y.r.val (.slice y.a y.n y.c)) (Pl.q1) (Pl.q3 39 (.tmp 41) (fun w' hS=>ZrL (hg.frm hS ad))) aa ?_;refine Pl.q0 2 43 (.pointer (some ⟨g,6,none⟩)) (Pl.q1) (Pl.q5 75 (.tmp 14) 1 (Zr6 g)) aa ?_;refine Pl.q0 3 44 (.bool b) (Pl.q1) (Pl.q3 4 (.tmp 43) (fun w' hS=>ZrI (hg.frm hS ad))) aa ?_;refine Pl.q0 4 45 (.pointer (some ⟨g,7,none⟩)) (Pl.q1) (Pl.q5 75 (.tmp 14) 2 (Zr7 g)) aa ?_;refine Pl.q0 5 46 (.slice q.a q.len q.cap) (Pl.q1) (Pl.q3 29 (.tmp 45) (fun w' hS=>ZrK (hg.frm hS ad))) aa ?_;refine Pl.q0 6 47 (.pointer (some ⟨g,8,none⟩)) (Pl.q1) (Pl.q5 75 (.tmp 14) 3 (Zr8 g)) aa ?_;refine Pl.q0 7 48 (.int .i64 e) (Pl.q1) (Pl.q3 40 (.tmp 47) (fun w' hS=>ZrJ (hg.frm hS ad))) aa ?_;have ab:Frm (fun k=>k=p) w (setRw w.drew p y.r (.slice y.a y.n y.c)):=((Frm.refl (fun k=>k=p) w).drew).trans (Zbi w.drew p y.r (.slice y.a y.n y.c)) (fun _ _ h=>h);have ac:RwBlk w.drew p r0 c0:=hp;have ae:RwBlk (setRw w.drew p y.r (.slice y.a y.n y.c)) p y.r (.slice y.a y.n y.c):=ZaH ac y.r (.slice y.a y.n y.c);refine Pl.qg 8 (setRw w.drew p y.r (.slice y.a y.n y.c)) (Pl.q1) (Pl.qh 39 (.tmp 6) (.tmp 42) (Zfy w.drew p _ _ ac y.r y.a y.n y.c)) ab ?_;refine Pl.q0 9 7 (.bool b) (Pl.q1) (Pl.qe (.tmp 44)) ab ?_;refine Pl.q0 10 8 (.slice q.a q.len q.cap) (Pl.q1) (Pl.qe (.tmp 46)) ab ?_;refine Pl.q0 11 9 (.int .i64 e) (Pl.q1) (Pl.qe (.tmp 48)) ab ?_;refine Pl.q7 (fun A' hA'=>?_);exact Pl.en hA' hA [41,42,43,44,45,46,47,48,7,8,9] (hend hA'.fn _ ae ab)
theorem Zjb.told {w1 w2 W:World}{o:Option Rw × List Int × Int}(aa:Frm (fun k=>k=p) w2 W)(ab:RwBlk w2 p zeroR (.slice none 0 0))(hB:Bl w w2)(hp:w.heap.size≤p)(ac:p<w1.heap.size)(hw:w0.heap.size≤w.heap.size)(hc:ColR w0 w2 y)(hr:y.r=o.1.getD zeroR)(hq:Gi (fun k=>w1.heap.size≤k) w2 q o.2.1):Zew w0 w o (.returned (.tuple #[y.val,.bool o.1.isSome,q.val,.int .i64 o.2.2])) W:=
 ⟨hB.trans (aa.below hB.size (fun k hk=>by rw [hk];exact hp)),y,q,rfl,hr,hc.frm aa (fun k hk=>by rw [hk];exact ⟨by omega,_,_,ab,by decide⟩),(hq.keep (Kept.frm aa (fun k h1 e=>by omega))).wide (fun _ _=>trivial)⟩
theorem Znh (w0 w:World)(hw:Bl w0 w)(z:Bz)(h:Bin w0 z)(v:Vw)(s:Sl)(hv:Gi (fun _=>True) w s v.act)(ae:s.len≤200)(key:Nat)(ad:key<18446744073709551616)(hm:¬(MayBs z.b∧MayV v)) :
    Calls prog 9 #[z.val,vwV v s,.float .f64 key] w fun e w'=>(∃(a:Option Addr) (c:Nat),e=.returned (.tuple #[Zc5,.bool false,.slice a 0 c,.int .i64 1]))∧Bl w w':=by
  obtain⟨Wa,Wb,W0,ha,hb,hd,ax,bb,az,hA,ba⟩:=ZfS w z v s;have ar:=Zh ha;have au:=Zh hb;have aw:=Zh hd;have ah:=Zh ax;have ak:=Zh bb;have aq:=Zh az;have HA:=Zh hA;have be:=Zh ba;have HW:=Zh hw;have HH:=Zh h;have HV:=Zh hv;have bd:=Zh ad;have bh:w0.heap.size≤w.heap.size:=hw.size;obtain⟨cb,af⟩:∃c:Bool,c=true↔MayBs z.b:=by
   by_cases hm:MayBs z.b
   · exact⟨true,fun _=>hm,fun _=>rfl⟩
   · exact⟨false,fun e=>(by cases e),fun e=>absurd e hm⟩
  have ai:Hi (∀W,Bl W0 W→Calls prog 10 #[z.val] W fun e w'=>e=.returned (.int .i64 (chk cb))∧Bl W w'):=fun W hW=>(Zdg W z (h.keep (hw.trans ((Zad hA hW).mono bh)))).mono fun e w' k=>by
   refine⟨?_,k.2⟩;rcases k.1 with ⟨k1,k2⟩ | ⟨k1,k2⟩
   · rw [k2,af.2 k1];rfl
   · cases cb with
     | false=>exact k2
     | true=>exact absurd (af.1 rfl) k1
  have aj:Hi (∀W,Bl W0 W→Calls prog 30 #[vwV v s] W fun e w'=>e=.returned (.int .i64 (errV (decide (MayV v))))∧Bl W w'):=fun W hW=>Zeh W s v (hv.below (Zad hA hW) (Nat.le_refl _)) ae;obtain⟨av,al⟩:∃a,a=chk cb:=⟨_,rfl⟩;obtain⟨bv,am⟩:∃b,b=errV (decide (MayV v)):=⟨_,rfl⟩;(have ag:orN [av,bv]=errV (cb && decide (MayV v)):=by rw [al,am,Zj8]);rw [← al] at ai;rw [← am] at aj;clear al am;have hz:(cb && decide (MayV v))=false:=by
   rw [Bool.eq_false_iff];intro e;rw [Bool.and_eq_true] at e;exact hm ⟨af.1 e.1,of_decide_eq_true e.2⟩
  (replace ag:orN [av,bv]=1:=by rw [ag,hz];rfl);clear hz hm;clear h hv hw ha hb hd ax bb az hA ba ad af;unfold vwV Bz.val;go_enter func9,ntmps9;go_wp2_with fail;rw [ar.o,au.o,aw.o];clear ar au aw;refine Pl.q9 (ops:=Pl.fd 1 f9) ?_;refine Zre W0 w.heap.size (w.heap.size+1) z v s av bv ah.o ak.o ai.o aj.o (by rfl) rfl (by rfl) (by rfl) ?_;intro u1 w1 aa;simp only [Pl.pu,List.foldl,Act.put,List.setIfInBounds_toArray,List.set];rw [ag];have an:=Zh (Zad HA.o aa);have bc:=Zh (ah.o.keep aa);have bf:=Zh (ak.o.keep aa);have ab:=Zh (aq.o.keep aa);(have bg:w.heap.size+1+1+1≤w1.heap.size:=by have h1:=aa.size;have h2:=be.o;omega);clear aa ai aj ah ak aq ag;obtain⟨sa,sn,sc⟩:=s;obtain⟨vs,vn,vt⟩:=v;(try simp only [Sl.val] at *);have ay:=Zbi w1 (w.heap.size+1+1) zeroR (.slice none 0 0);have ac:=Zh (Zfy w1 (w.heap.size+1+1) _ _ ab.o zeroR none 0 0);have ap:=Zh (ZaH ab.o zeroR (.slice none 0 0));have ao:Hi (Bl w (setRw w1 (w.heap.size+1+1) zeroR (.slice none 0 0))):=an.o.trans (ay.below an.o.size (fun k hk=>by rw [hk];omega));clear ay;simp only [zeroR,Rw.val] at ac ap ao;go_wp2_with (first | refine Zac _ rfl rfl 39 (.tmp 6) (.tmp 23) rfl (.pointer (some ⟨w.heap.size+1+1,0,none⟩)) (.agg #[.float .f64 0,.bool false,.slice none 0 0,.int .i64 0,.int .i64 0,.int .i64 0]) rfl rfl _ ac.o ?_);refine bodyPost_ret (Zee rfl ap.o _ _ _ _ rfl rfl rfl rfl) rfl ?_;exact⟨⟨none,0,rfl⟩,ao.o⟩
theorem Zng (w0 w:World)(hw:Bl w0 w)(z:Bz)(h:Bin w0 z)(v:Vw)(s:Sl)(hv:Gi (fun _=>True) w s v.act)(be:s.len≤200)(key:Nat)(bc:key<18446744073709551616)(ca:MayBs z.b)(cc:MayV v) :
    Calls prog 9 #[z.val,vwV v s,.float .f64 key] w (Zew w0 w (Vn.cut (readB (uns z.ux) (lfs z.lb) v key))):=by
  obtain⟨Wa,Wb,W0,ha,hb,hd,co,cs,cq,hA,cr⟩:=ZfS w z v s;have ck:=Zh ha;have cl:=Zh hb;have cm:=Zh hd;have bn:=Zh co;have bu:=Zh cs;have cj:=Zh cq;have HA:=Zh hA;have cz:=Zh cr;have HW:=Zh hw;have HH:=Zh h;have HV:=Zh hv;have bq:=Zh bc;have ct:w0.heap.size≤w.heap.size:=hw.size;obtain⟨cb,bk⟩:∃c:Bool,c=true↔MayBs z.b:=by
   by_cases hm:MayBs z.b
   · exact⟨true,fun _=>hm,fun _=>rfl⟩
   · exact⟨false,fun e=>(by cases e),fun e=>absurd e hm⟩
  have bo:Hi (∀W,Bl W0 W→Calls prog 10 #[z.val] W fun e w'=>e=.returned (.int .i64 (chk cb))∧Bl W w'):=fun W hW=>(Zdg W z (h.keep (hw.trans ((Zad hA hW).mono ct)))).mono fun e w' k=>by
   refine⟨?_,k.2⟩;rcases k.1 with ⟨k1,k2⟩ | ⟨k1,k2⟩
   · rw [k2,bk.2 k1];rfl
   · cases cb with
     | false=>exact k2
     | true=>exact absurd (bk.1 rfl) k1
  have bt:Hi (∀W,Bl W0 W→Calls prog 30 #[vwV v s] W fun e w'=>e=.returned (.int .i64 (errV (decide (MayV v))))∧Bl W w'):=fun W hW=>Zeh W s v (hv.below (Zad hA hW) (Nat.le_refl _)) be;obtain⟨av,bx⟩:∃a,a=chk cb:=⟨_,rfl⟩;obtain⟨bv,bz⟩:∃b,b=errV (decide (MayV v)):=⟨_,rfl⟩;(have bl:orN [av,bv]=errV (cb && decide (MayV v)):=by rw [bx,bz,Zj8]);rw [← bx] at bo;rw [← bz] at bt;clear bx bz;obtain⟨o,ho⟩:∃o,o=Vn.cut (readB (uns z.ux) (lfs z.lb) v key):=⟨_,rfl⟩;rw [← ho];have HO:=Zh ho;(replace bl:orN [av,bv]=0:=by rw [bl,bk.2 ca,decide_eq_true cc];rfl);have ci:=Zh ca;have cy:=Zh cc;clear ho ca cc;clear h hv hw ha hb hd co cs cq hA cr bc bk;unfold vwV Bz.val;go_enter func9,ntmps9;go_wp2_with fail;rw [ck.o,cl.o,cm.o];clear ck cl cm;refine Pl.q9 (ops:=Pl.fd 1 f9) ?_;refine Zre W0 w.heap.size (w.heap.size+1) z v s av bv bn.o bu.o bo.o bt.o (by rfl) rfl (by rfl) (by rfl) ?_;intro u1 w1 an;simp only [Pl.pu,List.foldl,Act.put,List.setIfInBounds_toArray,List.set];rw [bl];have cg:=Zh (Zad HA.o an);have aj:=Zh (bn.o.keep an);have ax:=Zh (bu.o.keep an);have ap:=Zh (cj.o.keep an);(have bg:w.heap.size+1+1+1≤w1.heap.size:=by have h1:=an.size;have h2:=cz.o;omega);clear an bo bt bn bu cj bl;obtain⟨sa,sn,sc⟩:=s;obtain⟨vs,vn,vt⟩:=v;(try simp only [Sl.val] at *);have z5:=aj.o.c5;have bp:=Zh (ZlE w1 z.ls z.lb key (((HH.o.keep HW.o).keep cg.o).ls) bq.o ci.o.l);unfold Sl.val at bp;(try simp only [Sl.val] at z5);go_wp2_with fail;refine bp.o.mono ?_;rintro e w3 ⟨ao,hn,hs⟩;have ch:=Zh (Zad cg.o ao);have ak:=aj.o.keep ao;have al:=ax.o.keep ao;have ag:=ap.o.keep ao;have cd:w.heap.size+1+1+1≤w3.heap.size:=Nat.le_trans bg ao.size;clear ao bp z5 aj ax ap bg;cases hfd:findH (lfs z.lb) key with
  | none =>
   obtain rfl:=hn hfd;have am:Hi (o=(none,[],0)):=HO.o.trans (by rw [ZfR hfd];rfl);obtain⟨Wx,W4,ac,ad,ai,cf,aa,_⟩:=Ze2 w3 Rx.zero (0,0);have ab:=ag.keep aa;have bw:=Zad ch.o aa;have bb:=Zbi W4 (w.heap.size+1+1) zeroR (.slice none 0 0);have au:=Zh (Zfy W4 (w.heap.size+1+1) _ _ ab zeroR none 0 0);have bh:=Zh (ZaH ab zeroR (.slice none 0 0));have bi:Hi (Zew w0 w o (.returned (.tuple #[zeroR.val (.slice none 0 0),.bool false,.slice none 0 0,.int .i64 0])) (setRw W4 (w.heap.size+1+1) zeroR (.slice none 0 0))):=by
    refine⟨bw.trans (bb.below bw.size (fun k hk=>by rw [hk];omega)),Rx.zero,Sl.nil,by rw [am.o];rfl,by rw [am.o];rfl,ColR.zero _ _,?_⟩;rw [am.o];exact Gi.none _
   have ae:=Zh ac;have af:=Zh ad;clear hn hs ak al ag ac ad ai cf aa ab bw bb am hfd;unfold Zc5 btV;simp only [Rx.zero,zeroR,Rw.val] at ae af au bh bi;go_wp2_with (first | refine Zac _ rfl rfl 39 (.tmp 11) (.tmp 30) rfl (.pointer (some ⟨w3.heap.size,0,none⟩)) (.agg #[.float .f64 0,.bool false,.slice none 0 0,.int .i64 0,.int .i64 0,.int .i64 0]) rfl rfl Wx ae.o ?_ | refine Zac _ rfl rfl 67 (.tmp 12) (.tmp 31) rfl (.pointer (some ⟨w3.heap.size+1,0,none⟩)) (.agg #[.int .i64 0,.int .i64 0]) rfl rfl W4 af.o ?_ | refine Zac _ rfl rfl 39 (.tmp 6) (.tmp 35) rfl (.pointer (some ⟨w.heap.size+1+1,0,none⟩)) (.agg #[.float .f64 0,.bool false,.slice none 0 0,.int .i64 0,.int .i64 0,.int .i64 0]) rfl rfl _ au.o ?_);refine bodyPost_ret (Zee rfl bh.o _ _ _ _ rfl rfl rfl rfl) rfl ?_;exact bi.o
  | some g =>
   obtain⟨ba,x,ce,rfl,cp⟩:=hs g hfd;have am:Hi (o=Vn.cut ((vnB (uns z.ux) ⟨vs,vn,vt⟩).look 400 x.r)):=HO.o.trans (by rw [ZbK hfd,ce]);obtain⟨Wx,W4,ac,ad,ai,cf,aa,_⟩:=Ze2 w3 x ((g.i:Int),(g.k:Int));have bs:=Zh (ag.keep aa);have bm:=Zh (Zad ch.o aa);have az:=ak.keep aa;have ah:=al.keep aa;have z4:=az.c4;have g0:=ah.c0;have g1:=ah.c1;have g2:=ah.c2;have r0:=ai.c0;have r1:=ai.c1;have r2:=ai.c2;have r3:=ai.c3;have r4:=ai.c4;have r5:=ai.c5;(try simp only [Sl.val] at g0 g1 g2);have de:w.heap.size+1+1+1≤W4.heap.size:=Nat.le_trans cd aa.size;have ar:=Zh (Znf w0 W4 (Zad HW.o bm.o) z HH.o ci.o.u ⟨vs,vn,vt⟩ ⟨sa,sn,sc⟩ (HV.o.below bm.o (Nat.le_refl _)) (by show sn≤200;omega) cy.o x ((cp.keep aa).colR w0) (by rw [ce];exact ba));unfold vwV Rx.val Rw.val at ar;(try simp only [Sl.val] at ar);rw [← am.o] at ar;have ae:=Zh ac;have af:=Zh ad;clear hn hs ak al ag ac ad ai cf aa az ah hfd cp ce ba;unfold Rx.val Rw.val btV;simp only;go_wp2_with (first | refine Zac _ rfl rfl 39 (.tmp 11) (.tmp 30) rfl (.pointer (some ⟨w3.heap.size,0,none⟩)) (.agg #[.float .f64 x.r.key,.bool x.r.dead,.slice x.a x.n x.c,.int .i64 x.r.wr,.int .i64 x.r.cell,.int .i64 x.r.no]) rfl rfl Wx ae.o ?_ | refine Zac _ rfl rfl 67 (.tmp 12) (.tmp 31) rfl (.pointer (some ⟨w3.heap.size+1,0,none⟩)) (.agg #[.int .i64 (g.i:Int),.int .i64 (g.k:Int)]) rfl rfl W4 af.o ?_);refine ar.o.mono ?_;rintro e w5 ⟨bj,y,⟨qa,qn,qc⟩,rfl,cw,cu,df,cv⟩;obtain⟨W6,bf,bd,ay⟩:=Zqb w5 y o.1.isSome ⟨qa,qn,qc⟩ o.2.2;have cx:=Zh (Zad bm.o (Zad bj ay));have aq:=Zh ((bs.o.keep bj).keep ay);have br:=Zh bd;have aw:=Zh bf;have da:=Zh (cu.keep ay);have db:=Zh (cv.below ay (Nat.le_refl _));have dc:=Zh cw;(have dd:¬w5.heap.size=w.heap.size+1+1:=by have:=bj.size;omega);clear bj ay cw cu df cv bf bd z4 g0 g1 g2 r0 r1 r2 r3 r4 r5 ar;simp only [lkV] at aw;unfold lkV;simp only;go_wp2_with (first | refine Zac _ rfl rfl 75 (.tmp 14) (.tmp 40) rfl (.pointer (some ⟨w5.heap.size,0,none⟩)) (.agg #[.float .f64 y.r.key,.bool y.r.dead,.slice y.a y.n y.c,.int .i64 y.r.wr,.int .i64 y.r.cell,.int .i64 y.r.no,.bool o.1.isSome,.slice qa qn qc,.int .i64 o.2.2]) rfl rfl W6 aw.o ?_);refine Pl.q9 (ops:=Pl.fd 8 f9) ?_;refine ZrY W6 w5.heap.size (w.heap.size+1+1) y o.1.isSome ⟨qa,qn,qc⟩ o.2.2 _ _ br.o aq.o dd (by rfl) rfl (by rfl) (by rfl) ?_;intro u8 w8 cn bb;simp only [Pl.pu,List.foldl,Act.put,List.setIfInBounds_toArray,List.set];have bh:=Zh cn;have bi:=Zh (Zjb.told (w1:=W4) bb aq.o cx.o (by omega) (by omega) ct da.o dc.o db.o);clear cn bb;go_wp2;refine bodyPost_ret (Zee rfl bh.o _ _ _ _ rfl rfl rfl rfl) rfl ?_;exact bi.o
theorem Znj:Zgn False:=
 ⟨Zdg,fun w0 w z v s key hw h hv hs hk hb hm=>Zng w0 w hw z h v s hv hs key hk hb hm,
  fun w z v s key h hv hs hk hm=>Znh w w (Below.refl _ _) z h v s hv hs key hk hm,fun h=>h.elim,fun h=>h.elim⟩
end Go.Proofs.YtiecfcjlhldhdaaGreat
