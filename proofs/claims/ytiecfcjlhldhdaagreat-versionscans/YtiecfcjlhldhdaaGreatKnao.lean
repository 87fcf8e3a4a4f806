/-
  Lemmas.
-/
import Derived.Test.YtiecfcjlhldhdaaGreatKnan
import Derived.Deep.CutBlock
import Derived.Sort.LotB
import Derived.Sort.LotC
import Derived.Sort.WalkA6
import Derived.Shelf.SlSortCmp.WholeK
import Derived.Shelf.SlSortCmp.NoneTotal
import Derived.Shelf.SlicesE.Compact
import Derived.Test.YtiecfcjlhldhdaaGreatRows
import Derived.Sort.LotD1
import Derived.Sort.Walk7
import Derived.Test.YtiecfcjlhldhdaaGreatKnaa
import Derived.Test.YtiecfcjlhldhdaaGreatKnam
namespace Go.Proofs.YtiecfcjlhldhdaaGreat
open Go.RowKit Go.Proofs.Tryz
set_option linter.unusedVariables false
set_option linter.unusedSimpArgs false
set_option maxRecDepth 100000
set_option maxHeartbeats 4000000
variable {w W w0:World}{s j i b bA bR:Nat}{K:IntKind}{ty:TypeId}{z:Int}
open Go.RowKit Go.Sort
section
variable {α : Type} [Inhabited α]
theorem Zqx {p:α→Bool}{d:Array α}(h:i≤j)(hp:p d[i]! = true):scanUp p d j (i+1)=scanUp p d j i:=by
 conv=>rhs;rw [scanUp]
 rw [if_pos (by simp [h,hp])]
theorem ZdS {p:α→Bool}{d:Array α}(h:¬i≤j∨p d[i]! = false):scanUp p d j i=i:=by
 rw [scanUp,if_neg];rcases h with h | h <;> simp [h]
theorem Zir {p:α→Bool}{d:Array α}(h0:1≤j)(h:i≤j)(hp:p d[j]! = true):scanDown p d i (j-1)=scanDown p d i j:=by
 obtain⟨k,rfl⟩:∃k,j=k+1:=⟨j-1,by omega⟩
 conv=>rhs;rw [scanDown]
 rw [if_pos (by simp [h,hp])];rfl
theorem ZbA {p:α→Bool}{d:Array α}(h:¬i≤j∨p d[j]! = false):scanDown p d i j=j:=by
 cases j with
 | zero=>rw [scanDown]
 | succ k =>
  rw [scanDown,if_neg];rcases h with h | h <;> simp [h]
theorem scans {p q:α→Bool}(hq:∀x,q x = !p x)(d:Array α)(h0:0<i)(aa:i≤j+1):i≤scanUp p d j i∧scanUp p d j i≤j+1∧scanDown q d (scanUp p d j i) j≤j∧scanUp p d j i≤scanDown q d (scanUp p d j i) j+1∧(scanUp p d j i≤scanDown q d (scanUp p d j i) j→scanUp p d j i<scanDown q d (scanUp p d j i) j):=by
 obtain⟨h1,h2,h3,h4,_,_,h5⟩:=round_facts p q hq d (i-1) (j+1) i j (by omega) aa (fun t a b=>by omega) (fun t a b=>by omega);exact⟨h1,h2,h3,h4,fun h=>(h5 (by omega)).2.2⟩
end
theorem ZkR (w0 W:World)(blk off m cap a b pivot:Nat)(d:Array Int)(h:Sq w0 blk off m W d)(bf:a≤pivot)(bg:pivot<b)(hb:b≤m)(hm:m<1000000) :
    Calls prog 197 #[.slice (some ⟨blk,off,none⟩) m cap,.int .i64 (a:Nat),.int .i64 (b:Nat),.int .i64 (pivot:Nat)] W fun e W'=>(∃ap:Bool,e=.returned (.tuple #[.int .i64 ((partition ltInt d a b pivot).1:Nat),.bool ap]))∧Sq w0 blk off m W' (partition ltInt d a b pivot).2.2:=by
  rw [partition_fst,partition_arr];obtain⟨d1,aw⟩:∃d1,d1=swp d a pivot:=⟨_,rfl⟩;rw [← aw];obtain⟨R,hR⟩:∃R,R=partLoop ltInt a (a+1) (b-1) d1:=⟨_,rfl⟩;rw [← hR];have ar:=Zh aw;have HR:=Zh hR;have HS:=Zh h;clear h aw hR;go_enter func197,ntmps197;go_upto_region 1 with fail;go_cut [] from 12 (fun wx=>Hi (Sq w0 blk off m wx d1))
  case first =>
   obtain⟨G,hG⟩:∃G:Nat→Int,∀t,G t=d[t]!:=⟨fun t=>d[t]!,fun _=>rfl⟩;(have ah:∀t,t<m→W.cell? ⟨blk,off+t,none⟩=some (.int .u64 (G t)):=fun t ht=>by rw [hG];exact HS.o.cell t ht);have ai:∀t,t<m→W.frozen? ⟨blk,off+t,none⟩=false:=HS.o.fz;have HG:Hi (∀t,G t=d[t]!):=hG;have aa:=HS;clear hG;(have i1:a<m:=by omega);(have i2:pivot<m:=by omega);by_cases ba:a<pivot
   · have HX:=Zh (aa.o.swap 0 a pivot i1 i2).drew1;rw [← HG.o,← HG.o,← ar.o] at HX;clear aa HS HG;go_region;(all_goals go_wp2_with fail);go_meet
     case rel=>exact HX
   · (obtain rfl:pivot=a:=by omega);have HX:=Zh (aa.o.swap 0 pivot pivot i1 i1).drew1;rw [← HG.o,← ar.o] at HX;clear aa HS HG;go_region;(all_goals go_wp2_with fail);go_meet
     case rel=>exact HX
  case rest =>
   have ac:=hcut;clear hcut ar HS;go_upto_region 2 with fail;go_cut [10,11] from 12 (fun iv jv wx=>∃i0 j0:Nat,iv=.int .i64 (i0:Nat)∧jv=.int .i64 (j0:Nat)∧Hi (i0=a+1)∧Hi (j0+1=b)∧Hi (Sq w0 blk off m wx d1))
   case first =>
    go_wp2_with fail;go_meet
    case rel=>exact ⟨a+1,b-1,(by first | rfl | go_num | (congr 1;omega)),(by first | rfl | go_num | (congr 1;omega)),rfl,(show Hi _ from by show _=_;omega),ac⟩
   case rest =>
    clear ac;obtain⟨i0,j0,rfl,rfl,ao,aq,ac⟩:=hcut;have an:Hi (R=partLoop ltInt a i0 j0 d1):=by
     show _=_;rw [HR.o,ao.o,show b-1=j0 by have:=aq.o;omega]
    (have k1:a<i0:=by have:=ao.o;omega);(have k2:i0≤j0+1:=by have:=ao.o;have:=aq.o;omega);(have k3:j0<b:=by have:=aq.o;omega);(have k4:a≤j0:=by omega);clear HR ao aq;go_upto_block 0 with fail;go_cut [10] from 30 (fun iv wx=>∃I:Nat,iv=.int .i64 (I:Nat)∧Hi (I=scanUp (fun x=>ltInt x d1[a]!) d1 j0 i0)∧Hi (Sq w0 blk off m wx d1))
    case first =>
     go_wp2_with fail;go_loopw [10] (fun vi wr_=>∃iu:Nat,vi=.int .i64 (iu:Nat)∧i0≤iu∧iu≤j0+1∧Hi (Sq w0 blk off m wr_ d1)∧Hi (scanUp (fun x=>ltInt x d1[a]!) d1 j0 iu=scanUp (fun x=>ltInt x d1[a]!) d1 j0 i0)) (fun vi _=>j0+1-(intOf vi).toNat)
     case atStart=>exact ⟨i0,rfl,Nat.le_refl _,by omega,ac,rfl⟩
     case round =>
      rename World=>wr_;obtain⟨iu,rfl,au,av,ab,hO⟩:=hrel;by_cases hc:iu≤j0
      · (have ak:(iu:Int)≤(j0:Int):=by omega);obtain⟨G,hG⟩:∃G:Nat→Int,∀t,G t=d1[t]!:=⟨fun t=>d1[t]!,fun _=>rfl⟩;(have ah:∀t,t<m→wr_.cell? ⟨blk,off+t,none⟩=some (.int .u64 (G t)):=fun t ht=>by rw [hG];exact ab.o.cell t ht);have ai:∀t,t<m→wr_.frozen? ⟨blk,off+t,none⟩=false:=ab.o.fz;have HG:Hi (∀t,G t=d1[t]!):=hG;have aa:=ab;clear hG;(have i1:iu<m:=by omega);(have i2:a<m:=by omega);have HD:Hi (∀q,Sq w0 blk off m (wr_.drewN q) d1):=aa.o.drewN;clear aa ab;cases hl:ltInt (G iu) (G a) with
        | true =>
         (have aj:Hi (scanUp (fun x=>ltInt x d1[a]!) d1 j0 (iu+1)=scanUp (fun x=>ltInt x d1[a]!) d1 j0 i0):=by show _=_;rw [Zqx hc (by simp only [← HG.o];simp [hl])];exact hO.o);clear hO HG;go_wp2_with fail;go_quiet (first | (go_at_call 195;refine Calls.quiet_of_same (Zag _ _ _)));go_wp2;go_roundw;exact ⟨iu+1,by go_num,by omega,by omega,HD.o _,aj⟩;simp only [intOf];omega
        | false =>
         (have HE:Hi (iu=scanUp (fun x=>ltInt x d1[a]!) d1 j0 i0):=by show _=_;rw [← hO.o,ZdS (.inr (by simp only [← HG.o];simp [hl]))]);clear hO HG;go_wp2_with fail;go_quiet (first | (go_at_call 195;refine Calls.quiet_of_same (Zag _ _ _)));go_wp2_with fail;go_meet
         case rel=>exact ⟨iu,rfl,HE,HD.o _⟩
      · have ak:decide ((iu:Int)≤(j0:Int))=false:=decide_eq_false (by omega);(have HE:Hi (iu=scanUp (fun x=>ltInt x d1[a]!) d1 j0 i0):=by show _=_;rw [← hO.o,ZdS (.inl hc)]);have HD:Hi (∀q,Sq w0 blk off m (wr_.drewN q) d1):=ab.o.drewN;clear hO ab;go_wp2_with fail;go_quiet (first | (go_at_call 195;refine Calls.quiet_of_same (Zag _ _ _)));go_wp2_with fail;go_meet
        case rel=>exact ⟨iu,rfl,HE,HD.o _⟩
    case rest =>
     clear ac;obtain⟨I,rfl,HI,ac⟩:=hcut;have ag:=scans (p:=fun x=>ltInt x d1[a]!) (q:=fun x=>!ltInt x d1[a]!) (fun x=>rfl) d1 (i:=i0) (j:=j0) (by omega) k2;have al:=partLoop_eq ltInt a i0 j0 d1;rw [← HI.o] at ag al;have af:=Zh ag;have ae:=Zh al;have k5:=ag.1;have k6:=ag.2.1;clear ag al;go_upto_block 2 with fail;go_cut [11] from 44 (fun jv wx=>∃J:Nat,jv=.int .i64 (J:Nat)∧Hi (J=scanDown (fun x=>!ltInt x d1[a]!) d1 I j0)∧Hi (Sq w0 blk off m wx d1))
     case first =>
      go_wp2_with fail;go_loopw [11] (fun vi wr_=>∃jd:Nat,vi=.int .i64 (jd:Nat)∧I≤jd+1∧jd≤j0∧Hi (Sq w0 blk off m wr_ d1)∧Hi (scanDown (fun x=>!ltInt x d1[a]!) d1 I jd=scanDown (fun x=>!ltInt x d1[a]!) d1 I j0)) (fun vi _=>(intOf vi).toNat)
      case atStart=>exact ⟨j0,rfl,by omega,Nat.le_refl _,ac,rfl⟩
      case round =>
       rename World=>wr_;obtain⟨jd,rfl,au,av,ab,hO⟩:=hrel;by_cases hc:I≤jd
       · (have ak:(I:Int)≤(jd:Int):=by omega);obtain⟨G,hG⟩:∃G:Nat→Int,∀t,G t=d1[t]!:=⟨fun t=>d1[t]!,fun _=>rfl⟩;(have ah:∀t,t<m→wr_.cell? ⟨blk,off+t,none⟩=some (.int .u64 (G t)):=fun t ht=>by rw [hG];exact ab.o.cell t ht);have ai:∀t,t<m→wr_.frozen? ⟨blk,off+t,none⟩=false:=ab.o.fz;have HG:Hi (∀t,G t=d1[t]!):=hG;have aa:=ab;clear hG;(have i1:jd<m:=by omega);(have i2:a<m:=by omega);have HD:Hi (∀q,Sq w0 blk off m (wr_.drewN q) d1):=aa.o.drewN;clear aa ab;cases hl:ltInt (G jd) (G a) with
         | false =>
          (have aj:Hi (scanDown (fun x=>!ltInt x d1[a]!) d1 I (jd-1)=scanDown (fun x=>!ltInt x d1[a]!) d1 I j0):=by show _=_;rw [Zir (by omega) hc (by simp only [← HG.o];simp [hl])];exact hO.o);clear hO HG;go_wp2_with fail;go_quiet (first | (go_at_call 195;refine Calls.quiet_of_same (Zag _ _ _)));go_wp2;go_roundw;exact ⟨jd-1,by congr 1;omega,by omega,by omega,HD.o _,aj⟩;simp only [intOf];omega
         | true =>
          (have HE:Hi (jd=scanDown (fun x=>!ltInt x d1[a]!) d1 I j0):=by show _=_;rw [← hO.o,ZbA (.inr (by simp only [← HG.o];simp [hl]))]);clear hO HG;go_wp2_with fail;go_quiet (first | (go_at_call 195;refine Calls.quiet_of_same (Zag _ _ _)));go_wp2_with fail;go_meet
          case rel=>exact ⟨jd,rfl,HE,HD.o _⟩
       · have ak:decide ((I:Int)≤(jd:Int))=false:=decide_eq_false (by omega);(have HE:Hi (jd=scanDown (fun x=>!ltInt x d1[a]!) d1 I j0):=by show _=_;rw [← hO.o,ZbA (.inl hc)]);have HD:Hi (∀q,Sq w0 blk off m (wr_.drewN q) d1):=ab.o.drewN;clear hO ab;go_wp2_with fail;go_quiet (first | (go_at_call 195;refine Calls.quiet_of_same (Zag _ _ _)));go_wp2_with fail;go_meet
         case rel=>exact ⟨jd,rfl,HE,HD.o _⟩
     case rest =>
      clear ac;obtain⟨J,rfl,HJ,ac⟩:=hcut;rw [← HJ.o] at af ae;have k7:=af.o.2.2.1;have k8:=af.o.2.2.2.1;have k9:=af.o.2.2.2.2;clear af;by_cases az:J<I
      · have HV:Hi (R=(J,d1)):=by
         show _=_;rw [an.o,ae.o,if_pos az]
        (have bc:(J:Int)<(I:Int):=by omega);(have k10:a≤J:=by omega);clear ae an k9;go_upto_region 8 with fail;go_cut [] from 66 (fun wx=>Hi (Sq w0 blk off m wx (swp d1 J a)))
        case first =>
         rename World=>wz;obtain⟨G,hG⟩:∃G:Nat→Int,∀t,G t=d1[t]!:=⟨fun t=>d1[t]!,fun _=>rfl⟩;(have ah:∀t,t<m→wz.cell? ⟨blk,off+t,none⟩=some (.int .u64 (G t)):=fun t ht=>by rw [hG];exact ac.o.cell t ht);have ai:∀t,t<m→wz.frozen? ⟨blk,off+t,none⟩=false:=ac.o.fz;have HG:Hi (∀t,G t=d1[t]!):=hG;have aa:=ac;clear hG;(have i1:J<m:=by omega);(have i2:a<m:=by omega);by_cases ba:a<J
         · have HX:=Zh (aa.o.swap 0 J a i1 i2).drew1;rw [← HG.o,← HG.o] at HX;clear aa ac HG;go_region;(all_goals go_wp2_with fail);go_meet
           case rel=>exact HX
         · (obtain rfl:J=a:=by omega);have HX:=Zh (aa.o.swap 0 J J i1 i1).drew1;rw [← HG.o] at HX;clear aa ac HG;go_region;(all_goals go_wp2_with fail);go_meet
           case rel=>exact HX
        case rest =>
         have bd:=hcut;clear ac;go_wp2;go_ret2;rw [HV.o];exact⟨⟨true,rfl⟩,bd.o⟩
      · (have bc:¬(J:Int)<(I:Int):=by omega);have HV:Hi (partLoop ltInt a (I+1) (J-1) (swp d1 I J)=R):=by
         show _=_;rw [an.o,ae.o,if_neg az]
        have k10:=k9 (by omega);obtain⟨G,hG⟩:∃G:Nat→Int,∀t,G t=d1[t]!:=⟨fun t=>d1[t]!,fun _=>rfl⟩;(have ah:∀t,t<m→wc.cell? ⟨blk,off+t,none⟩=some (.int .u64 (G t)):=fun t ht=>by rw [hG];exact ac.o.cell t ht);have ai:∀t,t<m→wc.frozen? ⟨blk,off+t,none⟩=false:=ac.o.fz;have HG:Hi (∀t,G t=d1[t]!):=hG;have aa:=ac;clear hG;(have i1:I<m:=by omega);(have i2:J<m:=by omega);have HX:=Zh (aa.o.swap 0 I J i1 i2).drew1;rw [← HG.o,← HG.o] at HX;clear aa ac HG ae an k9;go_upto_region 10 with fail;go_region;(all_goals go_wp2_with fail);go_loopw [10,11] (fun vi vj wr=>∃(i j:Nat) (dk:Array Int),vi=.int .i64 (i:Nat)∧vj=.int .i64 (j:Nat)∧a<i∧i≤j+1∧j<b∧Hi (Sq w0 blk off m wr dk)∧Hi (partLoop ltInt a i j dk=R)) (fun vi vj _=>(intOf vj).toNat+1-(intOf vi).toNat)
        case atStart=>exact ⟨I+1,J-1,_,by go_num,by congr 1;omega,by omega,by omega,by omega,HX,HV⟩
        case round =>
         clear HX HV ah ai;obtain⟨i,j,dk,rfl,rfl,m1,m2,m3,ad,hO⟩:=hrel;(have m4:a≤j:=by omega);go_upto_block 6 with fail;go_cut [10] from 99 to 152 (fun iv wx=>∃I:Nat,iv=.int .i64 (I:Nat)∧Hi (I=scanUp (fun x=>ltInt x dk[a]!) dk j i)∧Hi (Sq w0 blk off m wx dk))
         case first =>
          go_wp2_with fail;go_loopw [10] (fun vi wr_=>∃iu:Nat,vi=.int .i64 (iu:Nat)∧i≤iu∧iu≤j+1∧Hi (Sq w0 blk off m wr_ dk)∧Hi (scanUp (fun x=>ltInt x dk[a]!) dk j iu=scanUp (fun x=>ltInt x dk[a]!) dk j i)) (fun vi _=>j+1-(intOf vi).toNat)
          case atStart=>exact ⟨i,rfl,Nat.le_refl _,by omega,ad,rfl⟩
          case round =>
           rename World=>wr_;obtain⟨iu,rfl,au,av,ab,hO⟩:=hrel;by_cases hc:iu≤j
           · (have ak:(iu:Int)≤(j:Int):=by omega);obtain⟨G,hG⟩:∃G:Nat→Int,∀t,G t=dk[t]!:=⟨fun t=>dk[t]!,fun _=>rfl⟩;(have ah:∀t,t<m→wr_.cell? ⟨blk,off+t,none⟩=some (.int .u64 (G t)):=fun t ht=>by rw [hG];exact ab.o.cell t ht);have ai:∀t,t<m→wr_.frozen? ⟨blk,off+t,none⟩=false:=ab.o.fz;have HG:Hi (∀t,G t=dk[t]!):=hG;have aa:=ab;clear hG;(have i1:iu<m:=by omega);(have i2:a<m:=by omega);have HD:Hi (∀q,Sq w0 blk off m (wr_.drewN q) dk):=aa.o.drewN;clear aa ab;cases hl:ltInt (G iu) (G a) with
             | true =>
              (have aj:Hi (scanUp (fun x=>ltInt x dk[a]!) dk j (iu+1)=scanUp (fun x=>ltInt x dk[a]!) dk j i):=by show _=_;rw [Zqx hc (by simp only [← HG.o];simp [hl])];exact hO.o);clear hO HG;go_wp2_with fail;go_quiet (first | (go_at_call 195;refine Calls.quiet_of_same (Zag _ _ _)));go_wp2;go_roundw;exact ⟨iu+1,by go_num,by omega,by omega,HD.o _,aj⟩;simp only [intOf];omega
             | false =>
              (have HE:Hi (iu=scanUp (fun x=>ltInt x dk[a]!) dk j i):=by show _=_;rw [← hO.o,ZdS (.inr (by simp only [← HG.o];simp [hl]))]);clear hO HG;go_wp2_with fail;go_quiet (first | (go_at_call 195;refine Calls.quiet_of_same (Zag _ _ _)));go_wp2_with fail;go_meet
              case rel=>exact ⟨iu,rfl,HE,HD.o _⟩
           · have ak:decide ((iu:Int)≤(j:Int))=false:=decide_eq_false (by omega);(have HE:Hi (iu=scanUp (fun x=>ltInt x dk[a]!) dk j i):=by show _=_;rw [← hO.o,ZdS (.inl hc)]);have HD:Hi (∀q,Sq w0 blk off m (wr_.drewN q) dk):=ab.o.drewN;clear hO ab;go_wp2_with fail;go_quiet (first | (go_at_call 195;refine Calls.quiet_of_same (Zag _ _ _)));go_wp2_with fail;go_meet
             case rel=>exact ⟨iu,rfl,HE,HD.o _⟩
         case rest =>
          clear ad;obtain⟨I2,rfl,ay,ad⟩:=hcut;have ag:=scans (p:=fun x=>ltInt x dk[a]!) (q:=fun x=>!ltInt x dk[a]!) (fun x=>rfl) dk (i:=i) (j:=j) (by omega) m2;have al:=partLoop_eq ltInt a i j dk;rw [hO.o,← ay.o] at al;rw [← ay.o] at ag;have af:=Zh ag;have ae:=Zh al;have m5:=ag.1;have m6:=ag.2.1;clear ag al hO;go_upto_block 8 with fail;go_cut [11] from 99 to 152 (fun jv wx=>∃J:Nat,jv=.int .i64 (J:Nat)∧Hi (J=scanDown (fun x=>!ltInt x dk[a]!) dk I2 j)∧Hi (Sq w0 blk off m wx dk))
          case first =>
           go_wp2_with fail;go_loopw [11] (fun vi wr_=>∃jd:Nat,vi=.int .i64 (jd:Nat)∧I2≤jd+1∧jd≤j∧Hi (Sq w0 blk off m wr_ dk)∧Hi (scanDown (fun x=>!ltInt x dk[a]!) dk I2 jd=scanDown (fun x=>!ltInt x dk[a]!) dk I2 j)) (fun vi _=>(intOf vi).toNat)
           case atStart=>exact ⟨j,rfl,by omega,Nat.le_refl _,ad,rfl⟩
           case round =>
            rename World=>wr_;obtain⟨jd,rfl,au,av,ab,hO⟩:=hrel;by_cases hc:I2≤jd
            · (have ak:(I2:Int)≤(jd:Int):=by omega);obtain⟨G,hG⟩:∃G:Nat→Int,∀t,G t=dk[t]!:=⟨fun t=>dk[t]!,fun _=>rfl⟩;(have ah:∀t,t<m→wr_.cell? ⟨blk,off+t,none⟩=some (.int .u64 (G t)):=fun t ht=>by rw [hG];exact ab.o.cell t ht);have ai:∀t,t<m→wr_.frozen? ⟨blk,off+t,none⟩=false:=ab.o.fz;have HG:Hi (∀t,G t=dk[t]!):=hG;have aa:=ab;clear hG;(have i1:jd<m:=by omega);(have i2:a<m:=by omega);have HD:Hi (∀q,Sq w0 blk off m (wr_.drewN q) dk):=aa.o.drewN;clear aa ab;cases hl:ltInt (G jd) (G a) with
              | false =>
               (have aj:Hi (scanDown (fun x=>!ltInt x dk[a]!) dk I2 (jd-1)=scanDown (fun x=>!ltInt x dk[a]!) dk I2 j):=by show _=_;rw [Zir (by omega) hc (by simp only [← HG.o];simp [hl])];exact hO.o);clear hO HG;go_wp2_with fail;go_quiet (first | (go_at_call 195;refine Calls.quiet_of_same (Zag _ _ _)));go_wp2;go_roundw;exact ⟨jd-1,by congr 1;omega,by omega,by omega,HD.o _,aj⟩;simp only [intOf];omega
              | true =>
               (have HE:Hi (jd=scanDown (fun x=>!ltInt x dk[a]!) dk I2 j):=by show _=_;rw [← hO.o,ZbA (.inr (by simp only [← HG.o];simp [hl]))]);clear hO HG;go_wp2_with fail;go_quiet (first | (go_at_call 195;refine Calls.quiet_of_same (Zag _ _ _)));go_wp2_with fail;go_meet
               case rel=>exact ⟨jd,rfl,HE,HD.o _⟩
            · have ak:decide ((I2:Int)≤(jd:Int))=false:=decide_eq_false (by omega);(have HE:Hi (jd=scanDown (fun x=>!ltInt x dk[a]!) dk I2 j):=by show _=_;rw [← hO.o,ZbA (.inl hc)]);have HD:Hi (∀q,Sq w0 blk off m (wr_.drewN q) dk):=ab.o.drewN;clear hO ab;go_wp2_with fail;go_quiet (first | (go_at_call 195;refine Calls.quiet_of_same (Zag _ _ _)));go_wp2_with fail;go_meet
              case rel=>exact ⟨jd,rfl,HE,HD.o _⟩
          case rest =>
           clear ad;obtain⟨J2,rfl,bb,ad⟩:=hcut;rw [← bb.o] at af ae;have m7:=af.o.2.2.1;have m8:=af.o.2.2.2.1;have m9:=af.o.2.2.2.2;clear af;by_cases am:J2<I2
           · have HV:Hi (R=(J2,dk)):=by
              show _=_;rw [ae.o,if_pos am]
             (have ax:(J2:Int)<(I2:Int):=by omega);(have k10:a≤J2:=by omega);clear ae m9;go_upto_region 21 with fail;go_upto_region 21 with fail;go_cut [] from 153 (fun wx=>Hi (Sq w0 blk off m wx (swp dk J2 a)))
             case first =>
              rename World=>wz;obtain⟨G,hG⟩:∃G:Nat→Int,∀t,G t=dk[t]!:=⟨fun t=>dk[t]!,fun _=>rfl⟩;(have ah:∀t,t<m→wz.cell? ⟨blk,off+t,none⟩=some (.int .u64 (G t)):=fun t ht=>by rw [hG];exact ad.o.cell t ht);have ai:∀t,t<m→wz.frozen? ⟨blk,off+t,none⟩=false:=ad.o.fz;have HG:Hi (∀t,G t=dk[t]!):=hG;have aa:=ad;clear hG;(have i1:J2<m:=by omega);(have i2:a<m:=by omega);by_cases ba:a<J2
              · have HX:=Zh (aa.o.swap 0 J2 a i1 i2).drew1;rw [← HG.o,← HG.o] at HX;clear aa ad HG;go_region;(all_goals go_wp2_with fail);go_meet
                case rel=>exact HX
              · (obtain rfl:J2=a:=by omega);have HX:=Zh (aa.o.swap 0 J2 J2 i1 i1).drew1;rw [← HG.o] at HX;clear aa ad HG;go_region;(all_goals go_wp2_with fail);go_meet
                case rel=>exact HX
             case rest =>
              have be:=hcut;clear ad;go_wp2;go_ret2;rw [HV.o];exact⟨⟨false,rfl⟩,be.o⟩
           · (have ax:¬(J2:Int)<(I2:Int):=by omega);have HV:Hi (partLoop ltInt a (I2+1) (J2-1) (swp dk I2 J2)=R):=by
              show _=_;rw [ae.o,if_neg am]
             have m10:=m9 (by omega);obtain⟨G,hG⟩:∃G:Nat→Int,∀t,G t=dk[t]!:=⟨fun t=>dk[t]!,fun _=>rfl⟩;(have ah:∀t,t<m→wc.cell? ⟨blk,off+t,none⟩=some (.int .u64 (G t)):=fun t ht=>by rw [hG];exact ad.o.cell t ht);have ai:∀t,t<m→wc.frozen? ⟨blk,off+t,none⟩=false:=ad.o.fz;have HG:Hi (∀t,G t=dk[t]!):=hG;have aa:=ad;clear hG;(have i1:I2<m:=by omega);(have i2:J2<m:=by omega);have HX:=Zh (aa.o.swap 0 I2 J2 i1 i2).drew1;rw [← HG.o,← HG.o] at HX;clear aa ad HG ae m9;go_upto_region 18 with fail;go_region;(all_goals go_wp2_with fail);go_roundw;exact ⟨I2+1,J2-1,_,by go_num,by congr 1;omega,by omega,by omega,by omega,HX,HV⟩;simp only [intOf];omega
theorem ZhD (w0 W:World)(blk off m cap a b pivot:Nat)(d:Array Int)(h:Sq w0 blk off m W d)(aw:a≤pivot)(ay:pivot<b)(hb:b≤m)(hm:m<1000000) :
    Calls prog 196 #[.slice (some ⟨blk,off,none⟩) m cap,.int .i64 (a:Nat),.int .i64 (b:Nat),.int .i64 (pivot:Nat)] W fun e W'=>e=.returned (.int .i64 ((partitionEqual ltInt d a b pivot).1:Nat))∧Sq w0 blk off m W' (partitionEqual ltInt d a b pivot).2:=by
  unfold partitionEqual;obtain⟨d1,al⟩:∃d1,d1=swp d a pivot:=⟨_,rfl⟩;rw [← al];obtain⟨R,hR⟩:∃R,R=partEqLoop ltInt a (a+1) (b-1) d1:=⟨_,rfl⟩;rw [← hR];have ah:=Zh al;have HR:=Zh hR;have HS:=Zh h;clear h al hR;go_enter func196,ntmps196;go_upto_region 1 with fail;go_cut [] from 11 (fun wx=>Hi (Sq w0 blk off m wx d1))
  case first =>
   obtain⟨G,hG⟩:∃G:Nat→Int,∀t,G t=d[t]!:=⟨fun t=>d[t]!,fun _=>rfl⟩;(have aj:∀t,t<m→W.cell? ⟨blk,off+t,none⟩=some (.int .u64 (G t)):=fun t ht=>by rw [hG];exact HS.o.cell t ht);have an:∀t,t<m→W.frozen? ⟨blk,off+t,none⟩=false:=HS.o.fz;have HG:Hi (∀t,G t=d[t]!):=hG;have aa:=HS;clear hG;(have i1:a<m:=by omega);(have i2:pivot<m:=by omega);by_cases ax:a<pivot
   · have HX:=Zh (aa.o.swap 0 a pivot i1 i2).drew1;rw [← HG.o,← HG.o,← ah.o] at HX;clear aa HS HG;go_region;(all_goals go_wp2_with fail);go_meet
     case rel=>exact HX
   · (obtain rfl:pivot=a:=by omega);have HX:=Zh (aa.o.swap 0 pivot pivot i1 i1).drew1;rw [← HG.o,← ah.o] at HX;clear aa HS HG;go_region;(all_goals go_wp2_with fail);go_meet
     case rel=>exact HX
  case rest =>
   have aq:=hcut;clear hcut ah HS;go_wp2_with fail;go_loopw [9,10] (fun vi vj wr=>∃(i j:Nat) (dk:Array Int),vi=.int .i64 (i:Nat)∧vj=.int .i64 (j:Nat)∧a<i∧i≤j+1∧j<b∧Hi (Sq w0 blk off m wr dk)∧Hi (partEqLoop ltInt a i j dk=R)) (fun vi vj _=>(intOf vj).toNat+1-(intOf vi).toNat)
   case atStart=>exact ⟨a+1,b-1,d1,by go_num,by congr 1;omega,by omega,by omega,by omega,aq,Zh HR.o.symm⟩
   case round =>
    clear aq HR;obtain⟨i,j,dk,rfl,rfl,m1,m2,m3,ac,hO⟩:=hrel;(have m4:a≤j:=by omega);go_upto_block 2 with fail;go_cut [9] from 29 to 82 (fun iv wx=>∃I:Nat,iv=.int .i64 (I:Nat)∧Hi (I=scanUp (fun x=>!ltInt dk[a]! x) dk j i)∧Hi (Sq w0 blk off m wx dk))
    case first =>
     go_wp2_with fail;go_loopw [9] (fun vi wr_=>∃iu:Nat,vi=.int .i64 (iu:Nat)∧i≤iu∧iu≤j+1∧Hi (Sq w0 blk off m wr_ dk)∧Hi (scanUp (fun x=>!ltInt dk[a]! x) dk j iu=scanUp (fun x=>!ltInt dk[a]! x) dk j i)) (fun vi _=>j+1-(intOf vi).toNat)
     case atStart=>exact ⟨i,rfl,Nat.le_refl _,by omega,ac,rfl⟩
     case round =>
      rename World=>wr_;obtain⟨iu,rfl,au,av,ab,hO⟩:=hrel;by_cases hc:iu≤j
      · (have ak:(iu:Int)≤(j:Int):=by omega);obtain⟨G,hG⟩:∃G:Nat→Int,∀t,G t=dk[t]!:=⟨fun t=>dk[t]!,fun _=>rfl⟩;(have aj:∀t,t<m→wr_.cell? ⟨blk,off+t,none⟩=some (.int .u64 (G t)):=fun t ht=>by rw [hG];exact ab.o.cell t ht);have an:∀t,t<m→wr_.frozen? ⟨blk,off+t,none⟩=false:=ab.o.fz;have HG:Hi (∀t,G t=dk[t]!):=hG;have aa:=ab;clear hG;(have i1:iu<m:=by omega);(have i2:a<m:=by omega);have HD:Hi (∀q,Sq w0 blk off m (wr_.drewN q) dk):=aa.o.drewN;clear aa ab;cases hl:ltInt (G a) (G iu) with
        | false =>
         (have ai:Hi (scanUp (fun x=>!ltInt dk[a]! x) dk j (iu+1)=scanUp (fun x=>!ltInt dk[a]! x) dk j i):=by show _=_;rw [Zqx hc (by simp only [← HG.o];simp [hl])];exact hO.o);clear hO HG;go_wp2_with fail;go_quiet (first | (go_at_call 195;refine Calls.quiet_of_same (Zag _ _ _)));go_wp2;go_roundw;exact ⟨iu+1,by go_num,by omega,by omega,HD.o _,ai⟩;simp only [intOf];omega
        | true =>
         (have HE:Hi (iu=scanUp (fun x=>!ltInt dk[a]! x) dk j i):=by show _=_;rw [← hO.o,ZdS (.inr (by simp only [← HG.o];simp [hl]))]);clear hO HG;go_wp2_with fail;go_quiet (first | (go_at_call 195;refine Calls.quiet_of_same (Zag _ _ _)));go_wp2_with fail;go_meet
         case rel=>exact ⟨iu,rfl,HE,HD.o _⟩
      · have ak:decide ((iu:Int)≤(j:Int))=false:=decide_eq_false (by omega);(have HE:Hi (iu=scanUp (fun x=>!ltInt dk[a]! x) dk j i):=by show _=_;rw [← hO.o,ZdS (.inl hc)]);have HD:Hi (∀q,Sq w0 blk off m (wr_.drewN q) dk):=ab.o.drewN;clear hO ab;go_wp2_with fail;go_quiet (first | (go_at_call 195;refine Calls.quiet_of_same (Zag _ _ _)));go_wp2_with fail;go_meet
        case rel=>exact ⟨iu,rfl,HE,HD.o _⟩
    case rest =>
     clear ac;obtain⟨I2,rfl,ap,ac⟩:=hcut;have ag:=scans (p:=fun x=>!ltInt dk[a]! x) (q:=fun x=>ltInt dk[a]! x) (fun x=>by simp) dk (i:=i) (j:=j) (by omega) m2;have am:=partEqLoop_eq ltInt a i j dk;rw [hO.o,← ap.o] at am;rw [← ap.o] at ag;have ae:=Zh ag;have ad:=Zh am;have m5:=ag.1;have m6:=ag.2.1;clear ag am hO;go_upto_block 4 with fail;go_cut [10] from 29 to 82 (fun jv wx=>∃J:Nat,jv=.int .i64 (J:Nat)∧Hi (J=scanDown (fun x=>ltInt dk[a]! x) dk I2 j)∧Hi (Sq w0 blk off m wx dk))
     case first =>
      go_wp2_with fail;go_loopw [10] (fun vi wr_=>∃jd:Nat,vi=.int .i64 (jd:Nat)∧I2≤jd+1∧jd≤j∧Hi (Sq w0 blk off m wr_ dk)∧Hi (scanDown (fun x=>ltInt dk[a]! x) dk I2 jd=scanDown (fun x=>ltInt dk[a]! x) dk I2 j)) (fun vi _=>(intOf vi).toNat)
      case atStart=>exact ⟨j,rfl,by omega,Nat.le_refl _,ac,rfl⟩
      case round =>
       rename World=>wr_;obtain⟨jd,rfl,au,av,ab,hO⟩:=hrel;by_cases hc:I2≤jd
       · (have ak:(I2:Int)≤(jd:Int):=by omega);obtain⟨G,hG⟩:∃G:Nat→Int,∀t,G t=dk[t]!:=⟨fun t=>dk[t]!,fun _=>rfl⟩;(have aj:∀t,t<m→wr_.cell? ⟨blk,off+t,none⟩=some (.int .u64 (G t)):=fun t ht=>by rw [hG];exact ab.o.cell t ht);have an:∀t,t<m→wr_.frozen? ⟨blk,off+t,none⟩=false:=ab.o.fz;have HG:Hi (∀t,G t=dk[t]!):=hG;have aa:=ab;clear hG;(have i1:jd<m:=by omega);(have i2:a<m:=by omega);have HD:Hi (∀q,Sq w0 blk off m (wr_.drewN q) dk):=aa.o.drewN;clear aa ab;cases hl:ltInt (G a) (G jd) with
         | true =>
          (have ai:Hi (scanDown (fun x=>ltInt dk[a]! x) dk I2 (jd-1)=scanDown (fun x=>ltInt dk[a]! x) dk I2 j):=by show _=_;rw [Zir (by omega) hc (by simp only [← HG.o];simp [hl])];exact hO.o);clear hO HG;go_wp2_with fail;go_quiet (first | (go_at_call 195;refine Calls.quiet_of_same (Zag _ _ _)));go_wp2;go_roundw;exact ⟨jd-1,by congr 1;omega,by omega,by omega,HD.o _,ai⟩;simp only [intOf];omega
         | false =>
          (have HE:Hi (jd=scanDown (fun x=>ltInt dk[a]! x) dk I2 j):=by show _=_;rw [← hO.o,ZbA (.inr (by simp only [← HG.o];simp [hl]))]);clear hO HG;go_wp2_with fail;go_quiet (first | (go_at_call 195;refine Calls.quiet_of_same (Zag _ _ _)));go_wp2_with fail;go_meet
          case rel=>exact ⟨jd,rfl,HE,HD.o _⟩
       · have ak:decide ((I2:Int)≤(jd:Int))=false:=decide_eq_false (by omega);(have HE:Hi (jd=scanDown (fun x=>ltInt dk[a]! x) dk I2 j):=by show _=_;rw [← hO.o,ZbA (.inl hc)]);have HD:Hi (∀q,Sq w0 blk off m (wr_.drewN q) dk):=ab.o.drewN;clear hO ab;go_wp2_with fail;go_quiet (first | (go_at_call 195;refine Calls.quiet_of_same (Zag _ _ _)));go_wp2_with fail;go_meet
         case rel=>exact ⟨jd,rfl,HE,HD.o _⟩
     case rest =>
      clear ac;obtain⟨J2,rfl,ar,ac⟩:=hcut;rw [← ar.o] at ae ad;have m7:=ae.o.2.2.1;have m8:=ae.o.2.2.2.1;have m9:=ae.o.2.2.2.2;clear ae;by_cases af:J2<I2
      · have HV:Hi (R=(I2,dk)):=by
         show _=_;rw [ad.o,if_pos af]
        (have ao:(J2:Int)<(I2:Int):=by omega);clear ad m9;go_wp2;go_ret;rw [HV.o];exact⟨rfl,ac.o⟩
      · (have ao:¬(J2:Int)<(I2:Int):=by omega);have HV:Hi (partEqLoop ltInt a (I2+1) (J2-1) (swp dk I2 J2)=R):=by
         show _=_;rw [ad.o,if_neg af]
        have m10:=m9 (by omega);obtain⟨G,hG⟩:∃G:Nat→Int,∀t,G t=dk[t]!:=⟨fun t=>dk[t]!,fun _=>rfl⟩;(have aj:∀t,t<m→wc.cell? ⟨blk,off+t,none⟩=some (.int .u64 (G t)):=fun t ht=>by rw [hG];exact ac.o.cell t ht);have an:∀t,t<m→wc.frozen? ⟨blk,off+t,none⟩=false:=ac.o.fz;have HG:Hi (∀t,G t=dk[t]!):=hG;have aa:=ac;clear hG;(have i1:I2<m:=by omega);(have i2:J2<m:=by omega);have HX:=Zh (aa.o.swap 0 I2 J2 i1 i2).drew1;rw [← HG.o,← HG.o] at HX;clear aa ac HG ad m9;go_upto_region 8 with fail;go_region;(all_goals go_wp2_with fail);go_roundw;exact ⟨I2+1,J2-1,_,by go_num,by congr 1;omega,by omega,by omega,by omega,HX,HV⟩;simp only [intOf];omega
theorem ZmF (w0 W:World)(blk off m cap a b:Nat)(d:Array Int)(h:Sq w0 blk off m W d)(ad:a<b)(hb:b≤m)(hm:m<1000000) :
    Calls prog 193 #[.slice (some ⟨blk,off,none⟩) m cap,.int .i64 (a:Nat),.int .i64 (b:Nat)] W fun e W'=>e=.returned (.tuple #[])∧Sq w0 blk off m W' (reverseRange d a b):=by
  have HS:=Zh h;clear h;unfold reverseRange;go_enter func193,ntmps193;go_wp2_with fail;go_loopw [6,7] (fun vi vj wr=>∃(i j:Nat) (dk:Array Int),vi=.int .i64 (i:Nat)∧vj=.int .i64 (j:Nat)∧j<b∧Hi (Sq w0 blk off m wr dk)∧Hi (reverseLoop i j dk=reverseLoop a (b-1) d)) (fun vi vj _=>(intOf vj).toNat-(intOf vi).toNat)
  case atStart=>exact ⟨a,b-1,d,rfl,by congr 1;omega,by omega,HS,rfl⟩
  case round =>
   obtain⟨i,j,dk,rfl,rfl,m1,aa,hO⟩:=hrel;by_cases ac:i<j
   · (have hz:(i:Int)<(j:Int):=by omega);have HV:Hi (reverseLoop (i+1) (j-1) (swp dk i j)=reverseLoop a (b-1) d):=by
      show _=_;rw [← hO.o]
      conv=>rhs;rw [reverseLoop]
      rw [if_pos ac]
     obtain⟨G,hG⟩:∃G:Nat→Int,∀t,G t=dk[t]!:=⟨fun t=>dk[t]!,fun _=>rfl⟩;(have ae:∀t,t<m→wr.cell? ⟨blk,off+t,none⟩=some (.int .u64 (G t)):=fun t ht=>by rw [hG];exact aa.o.cell t ht);have af:∀t,t<m→wr.frozen? ⟨blk,off+t,none⟩=false:=aa.o.fz;have HG:Hi (∀t,G t=dk[t]!):=hG;have ab:=aa;clear hG;(have i1:i<m:=by omega);(have i2:j<m:=by omega);have HX:=Zh (ab.o.swap 0 i j i1 i2).drew1;rw [← HG.o,← HG.o] at HX;clear ab aa HG hO;go_wp2_with fail;go_region;(all_goals go_wp2_with fail);go_roundw;exact ⟨i+1,j-1,_,by go_num,by congr 1;omega,by omega,HX,HV⟩;simp only [intOf];omega
   · (have hz:¬(i:Int)<(j:Int):=by omega);have HV:Hi (dk=reverseLoop a (b-1) d):=by
      show _=_;rw [← hO.o,reverseLoop,if_neg ac]
     go_wp2_with fail;go_end0;exact⟨rfl,by rw [← HV.o];exact aa.o⟩
open Go.RowKit Go.Sort
theorem ZkT (w0 W:World)(blk off m cap a b:Nat)(d:Array Int)(h:Sq w0 blk off m W d)(bb:a<b)(hb:b≤m)(hm:m<1000000) :
    Calls prog 194 #[.slice (some ⟨blk,off,none⟩) m cap,.int .i64 (a:Nat),.int .i64 (b:Nat)] W fun e W'=>e=.returned (.bool (partialInsertionSort ltInt d a b).2)∧Sq w0 blk off m W' (partialInsertionSort ltInt d a b).1:=by
  obtain⟨P,hP⟩:∃P,P=partialInsertionSort ltInt d a b:=⟨_,rfl⟩;rw [← hP];(have HP:Hi (partialIns ltInt a b (5-0) (a+1) d=P):=by show _=_;rw [hP];rfl);have HS:=Zh h;clear h hP;go_enter func194,ntmps194;go_wp2_with fail;go_loopw [7,8] (fun vi vs wr=>∃(i s:Nat) (dk:Array Int),vi=.int .i64 (i:Nat)∧vs=.int .i64 (s:Nat)∧s≤5∧a<i∧i≤b∧Hi (Sq w0 blk off m wr dk)∧Hi (partialIns ltInt a b (5-s) i dk=P)) (fun _ vs _=>5-(intOf vs).toNat)
  case atStart=>exact ⟨a+1,0,d,by go_num,rfl,by omega,by omega,by omega,HS,HP⟩
  case round =>
   clear HS HP;obtain⟨i,s,dk,rfl,rfl,bg,bc,ax,am,hO⟩:=hrel;by_cases hs:s<5
   · (have ba:(s:Int)<5:=by omega);go_upto_block 2 with fail;go_cut [7] from 13 to 132 (fun iv wx=>∃k:Nat,iv=.int .i64 (k:Nat)∧i≤k∧k≤b∧Hi (scanSorted ltInt dk b i=k)∧Hi (Sq w0 blk off m wx dk))
     case first =>
      go_wp2_with fail;go_loopw [7] (fun vi wr_=>∃t:Nat,vi=.int .i64 (t:Nat)∧i≤t∧t≤b∧Hi (Sq w0 blk off m wr_ dk)∧Hi (scanSorted ltInt dk b t=scanSorted ltInt dk b i)) (fun vi _=>b-(intOf vi).toNat)
      case atStart=>exact ⟨i,rfl,Nat.le_refl _,ax,am,rfl⟩
      case round =>
       rename World=>wr_;obtain⟨t,rfl,aq,au,aa,hT⟩:=hrel;by_cases hc:t<b
       · (have aw:(t:Int)<(b:Int):=by omega);obtain⟨G,hG⟩:∃G:Nat→Int,∀t,G t=dk[t]!:=⟨fun t=>dk[t]!,fun _=>rfl⟩;(have ai:∀t,t<m→wr_.cell? ⟨blk,off+t,none⟩=some (.int .u64 (G t)):=fun t ht=>by rw [hG];exact aa.o.cell t ht);have ak:∀t,t<m→wr_.frozen? ⟨blk,off+t,none⟩=false:=aa.o.fz;have HG:Hi (∀t,G t=dk[t]!):=hG;have ab:=aa;clear hG;have HD:Hi (∀q,Sq w0 blk off m (wr_.drewN q) dk):=ab.o.drewN;(have i1:t<m:=by omega);(have i2:t-1<m:=by omega);(have i3:1≤t:=by omega);clear ab aa;cases hl:ltInt (G t) (G (t-1)) with
         | false =>
          (have ae:Hi (scanSorted ltInt dk b (t+1)=scanSorted ltInt dk b i):=by show _=_;rw [← hT.o,← scanSorted_go ltInt dk b t hc (by rw [← HG.o,← HG.o];exact hl)]);clear hT HG;go_wp2_with fail;go_quiet (first | (go_at_call 195;refine Calls.quiet_of_same (Zag _ _ _)));go_wp2;go_roundw;exact ⟨t+1,by go_num,by omega,by omega,HD.o _,ae⟩;simp only [intOf];omega
         | true =>
          (have HE:Hi (scanSorted ltInt dk b i=t):=by show _=_;rw [← hT.o,scanSorted_stop ltInt dk b t (.inr (by rw [← HG.o,← HG.o];exact hl))]);clear hT HG;go_wp2_with fail;go_quiet (first | (go_at_call 195;refine Calls.quiet_of_same (Zag _ _ _)));go_wp2_with fail;go_meet
          case rel=>exact ⟨t,rfl,aq,au,HE,HD.o _⟩
       · have aw:decide ((t:Int)<(b:Int))=false:=decide_eq_false (by omega);(have HE:Hi (scanSorted ltInt dk b i=t):=by show _=_;rw [← hT.o,scanSorted_stop ltInt dk b t (.inl hc)]);have HD:Hi (∀q,Sq w0 blk off m (wr_.drewN q) dk):=aa.o.drewN;clear hT aa;go_wp2_with fail;go_quiet (first | (go_at_call 195;refine Calls.quiet_of_same (Zag _ _ _)));go_wp2_with fail;go_meet
         case rel=>exact ⟨t,rfl,aq,au,HE,HD.o _⟩
     case rest =>
      clear am;obtain⟨k,rfl,bd,bf,HK,ad⟩:=hcut;by_cases ac:k=b
      · have HV:Hi (P=(dk,true)):=by
         show _=_;rw [← hO.o,pi_true ltInt a b s i dk hs (HK.o.trans ac)]
        (have ar:((k:Int) == (b:Int))=true:=by simp [ac]);obtain rfl:=ac;clear hO HK;go_wp2;go_ret;rw [HV.o];exact⟨rfl,ad.o⟩
      · (have ar:¬(k:Int)=(b:Int):=by omega);have az:((k:Int) == (b:Int))=false:=beq_eq_false_iff_ne.2 ar;by_cases ao:b-a<50
        · have HV:Hi (P=(dk,false)):=by
           show _=_;rw [← hO.o,pi_short ltInt a b s i dk hs (by rw [HK.o];exact ac) ao]
          (have av:(b:Int)-(a:Int)<50:=by omega);clear hO HK;go_wp2;go_ret;rw [HV.o];exact⟨rfl,ad.o⟩
        · (have av:¬(b:Int)-(a:Int)<50:=by omega);have HV:=Zh (pi_go ltInt a b s i k dk hs HK.o ac ao);rw [hO.o] at HV;obtain⟨d1,aj⟩:∃d1,d1=swp dk k (k-1):=⟨_,rfl⟩;rw [← aj] at HV;have an:=Zh aj;(have i1:k<m:=by omega);(have i2:k-1<m:=by omega);(have i3:1≤k:=by omega);clear hO HK aj;go_upto_region 11 with fail;go_cut [] from 13 to 132 (fun wx=>Hi (Sq w0 blk off m wx d1))
          case first =>
           rename World=>wz;obtain⟨G,hG⟩:∃G:Nat→Int,∀t,G t=dk[t]!:=⟨fun t=>dk[t]!,fun _=>rfl⟩;(have ai:∀t,t<m→wz.cell? ⟨blk,off+t,none⟩=some (.int .u64 (G t)):=fun t ht=>by rw [hG];exact ad.o.cell t ht);have ak:∀t,t<m→wz.frozen? ⟨blk,off+t,none⟩=false:=ad.o.fz;have HG:Hi (∀t,G t=dk[t]!):=hG;have ab:=ad;clear hG;have HX:=Zh (ab.o.swap 0 k (k-1) i1 i2).drew1;rw [← HG.o,← HG.o,← an.o] at HX;clear ab ad HG;go_region;(all_goals go_wp2_with fail);go_meet
           case rel=>exact HX
          case rest =>
           clear ad an;have af:=hcut;clear hcut;go_upto_if 61 with fail;go_cut [9] from 13 to 132 (fun jv wx=>Hi (Sq w0 blk off m wx (fixDown ltInt a k d1)))
           case first =>
            by_cases h2:k-a ≥ 2
            · (have ah:(2:Int)≤(k:Int)-(a:Int):=by omega);(have HF:Hi (fixDown ltInt a k d1=shiftDown ltInt (k-1) d1):=by show _=_;unfold fixDown;rw [if_pos h2]);go_wp2_with fail;go_loopw [9] (fun vj wr_=>∃(j:Nat) (dj:Array Int),vj=.int .i64 (j:Nat)∧j≤k-1∧Hi (Sq w0 blk off m wr_ dj)∧Hi (shiftDown ltInt j dj=shiftDown ltInt (k-1) d1)) (fun vj _=>(intOf vj).toNat)
              case atStart=>exact ⟨k-1,d1,by congr 1;omega,Nat.le_refl _,af,rfl⟩
              case round =>
               clear af;rename World=>wr_;obtain⟨j,dj,rfl,ay,aa,hT⟩:=hrel;by_cases hj:1≤j
               · (have al:(1:Int)≤(j:Int):=by omega);obtain⟨G,hG⟩:∃G:Nat→Int,∀t,G t=dj[t]!:=⟨fun t=>dj[t]!,fun _=>rfl⟩;(have ai:∀t,t<m→wr_.cell? ⟨blk,off+t,none⟩=some (.int .u64 (G t)):=fun t ht=>by rw [hG];exact aa.o.cell t ht);have ak:∀t,t<m→wr_.frozen? ⟨blk,off+t,none⟩=false:=aa.o.fz;have HG:Hi (∀t,G t=dj[t]!):=hG;have ab:=aa;clear hG;(have l1:j<m:=by omega);(have l2:j-1<m:=by omega);cases hl:ltInt (G j) (G (j-1)) with
                 | true =>
                  (have ae:Hi (shiftDown ltInt (j-1) (swp dj j (j-1))=shiftDown ltInt (k-1) d1):=by show _=_;rw [← hT.o,shiftDown_go ltInt j dj hj (by rw [← HG.o,← HG.o];exact hl)]);have HX:Hi (∀q,Sq w0 blk off m (((wr_.drewN q).setCell ⟨blk,off+j,none⟩ (.int .u64 (G (j-1)))).setCell ⟨blk,off+(j-1),none⟩ (.int .u64 (G j))) (swp dj j (j-1))):=fun q=>by
                   rw [HG.o,HG.o];exact ab.o.swap q j (j-1) l1 l2
                  clear hT HG ab aa;go_wp2_with fail;go_quiet (first | (go_at_call 195;refine Calls.quiet_of_same (Zag _ _ _)));go_wp2_with fail;go_region;(all_goals go_wp2_with fail);go_roundw;exact ⟨j-1,_,by congr 1;omega,by omega,HX.o _,ae⟩;simp only [intOf];omega
                 | false =>
                  (have HE:Hi (fixDown ltInt a k d1=dj):=by show _=_;rw [HF.o,← hT.o,shiftDown_stop ltInt j dj (.inr (by rw [← HG.o,← HG.o];exact hl))]);have HD:Hi (∀q,Sq w0 blk off m (wr_.drewN q) dj):=ab.o.drewN;clear hT HG ab aa;go_wp2_with fail;go_quiet (first | (go_at_call 195;refine Calls.quiet_of_same (Zag _ _ _)));go_wp2_with fail;go_meet
                  case rel=>exact (by show Sq _ _ _ _ _ _;rw [HE.o];exact HD.o _)
               · (have al:¬(1:Int)≤(j:Int):=by omega);(have HE:Hi (fixDown ltInt a k d1=dj):=by show _=_;rw [HF.o,← hT.o,shiftDown_stop ltInt j dj (.inl (by omega))]);clear hT;go_wp2_with fail;go_meet
                 case rel=>exact (by show Sq _ _ _ _ _ _;rw [HE.o];exact aa.o)
            · (have ah:¬(2:Int)≤(k:Int)-(a:Int):=by omega);(have HE:Hi (fixDown ltInt a k d1=d1):=by show _=_;unfold fixDown;rw [if_neg h2]);go_wp2_with fail;go_meet
              case rel=>exact (by show Sq _ _ _ _ _ _;rw [HE.o];exact af.o)
           case rest =>
            clear af;have ag:=hcut;clear hcut;obtain⟨d2,ap⟩:∃d2,d2=fixDown ltInt a k d1:=⟨_,rfl⟩;rw [← ap] at ag HV;clear ap;by_cases h2:b-k ≥ 2
            · (have ah:(2:Int)≤(b:Int)-(k:Int):=by omega);(have HF:Hi (fixUp ltInt b k d2=shiftUp ltInt b (k+1) d2):=by show _=_;unfold fixUp;rw [if_pos h2]);go_wp2_with fail;go_loopw [10] (fun vj wr_=>∃(j:Nat) (dj:Array Int),vj=.int .i64 (j:Nat)∧k+1≤j∧j≤b∧Hi (Sq w0 blk off m wr_ dj)∧Hi (shiftUp ltInt b j dj=shiftUp ltInt b (k+1) d2)) (fun vj _=>b-(intOf vj).toNat)
              case atStart=>exact ⟨k+1,d2,by go_num,Nat.le_refl _,by omega,ag,rfl⟩
              case round =>
               clear ag;rename World=>wr_;obtain⟨j,dj,rfl,ay,be,aa,hT⟩:=hrel;by_cases hj:j<b
               · (have al:(j:Int)<(b:Int):=by omega);obtain⟨G,hG⟩:∃G:Nat→Int,∀t,G t=dj[t]!:=⟨fun t=>dj[t]!,fun _=>rfl⟩;(have ai:∀t,t<m→wr_.cell? ⟨blk,off+t,none⟩=some (.int .u64 (G t)):=fun t ht=>by rw [hG];exact aa.o.cell t ht);have ak:∀t,t<m→wr_.frozen? ⟨blk,off+t,none⟩=false:=aa.o.fz;have HG:Hi (∀t,G t=dj[t]!):=hG;have ab:=aa;clear hG;(have l1:j<m:=by omega);(have l2:j-1<m:=by omega);(have l3:1≤j:=by omega);cases hl:ltInt (G j) (G (j-1)) with
                 | true =>
                  (have ae:Hi (shiftUp ltInt b (j+1) (swp dj j (j-1))=shiftUp ltInt b (k+1) d2):=by show _=_;rw [← hT.o,shiftUp_go ltInt b j dj hj (by rw [← HG.o,← HG.o];exact hl)]);have HX:Hi (∀q,Sq w0 blk off m (((wr_.drewN q).setCell ⟨blk,off+j,none⟩ (.int .u64 (G (j-1)))).setCell ⟨blk,off+(j-1),none⟩ (.int .u64 (G j))) (swp dj j (j-1))):=fun q=>by
                   rw [HG.o,HG.o];exact ab.o.swap q j (j-1) l1 l2
                  clear hT HG ab aa;go_wp2_with fail;go_quiet (first | (go_at_call 195;refine Calls.quiet_of_same (Zag _ _ _)));go_wp2_with fail;go_region;(all_goals go_wp2_with fail);go_roundw;exact ⟨j+1,_,by go_num,by omega,by omega,HX.o _,ae⟩;simp only [intOf];omega
                 | false =>
                  (have HE:Hi (fixUp ltInt b k d2=dj):=by show _=_;rw [HF.o,← hT.o,shiftUp_stop ltInt b j dj (.inr (by rw [← HG.o,← HG.o];exact hl))]);have HD:Hi (∀q,Sq w0 blk off m (wr_.drewN q) dj):=ab.o.drewN;clear hT HG ab aa;go_wp2_with fail;go_quiet (first | (go_at_call 195;refine Calls.quiet_of_same (Zag _ _ _)));go_wp2;go_roundw;exact ⟨k,s+1,_,rfl,by go_num,by omega,by omega,by omega,Zh (HD.o _),(show Hi _ from by show _=_;rw [HV.o,HE.o])⟩;simp only [intOf];omega
               · (have al:¬(j:Int)<(b:Int):=by omega);(have HE:Hi (fixUp ltInt b k d2=dj):=by show _=_;rw [HF.o,← hT.o,shiftUp_stop ltInt b j dj (.inl hj)]);clear hT;go_wp2;go_roundw;exact ⟨k,s+1,_,rfl,by go_num,by omega,by omega,by omega,Zh (aa.o),(show Hi _ from by show _=_;rw [HV.o,HE.o])⟩;simp only [intOf];omega
            · (have ah:¬(2:Int)≤(b:Int)-(k:Int):=by omega);(have HE:Hi (fixUp ltInt b k d2=d2):=by show _=_;unfold fixUp;rw [if_neg h2]);go_wp2;go_roundw;exact ⟨k,s+1,_,rfl,by go_num,by omega,by omega,by omega,Zh (ag.o),(show Hi _ from by show _=_;rw [HV.o,HE.o])⟩;simp only [intOf];omega
   · (have ba:¬(s:Int)<5:=by omega);(obtain rfl:s=5:=by omega);(have HV:Hi (P=(dk,false)):=by show _=_;rw [← hO.o];rfl);clear hO;go_wp2;go_ret;rw [HV.o];exact⟨rfl,am.o⟩
open Go.Shelf
def Zbc:Go.Shelf.Ren:=⟨fun | 6=>88 | 15=>92 | 14=>122 | 28=>132 | 29=>133 | 20=>148 | 21=>149 | 22=>150 | 23=>151 | 24=>152 | 25=>153 | 26=>154 | 27=>155 | 46=>179 | 47=>157 | 48=>158 | 49=>180 | 50=>181 | 57=>199 | n=>n,fun | 22=>49 | 24=>39 | 25=>139 | 3=>3 | 39=>142 | 0=>0 | 53=>178 | 55=>88 | 4=>4 | 46=>170 | 45=>169 | 50=>175 | 5=>5 | 9=>9 | 66=>200 | 70=>204 | 76=>222 | 77=>223 | n=>n,fun | n=>n⟩
theorem Zln:Go.Proofs.SlLaysF0.n6 prog Zbc:={
 mixed:=by kernel_rfl
 f6:=⟨f88.name,by decide,func88.trans (congrArg some (by kernel_rfl))⟩
 f14:=⟨f122.name,by decide,func122.trans (congrArg some (by kernel_rfl))⟩
 f15:=func92.trans (congrArg some (by kernel_rfl))
 f20:=⟨f148.name,by decide,func148.trans (congrArg some (by kernel_rfl))⟩
 f21:=⟨f149.name,by decide,func149.trans (congrArg some (by kernel_rfl))⟩
 f22:=⟨f150.name,by decide,func150.trans (congrArg some (by kernel_rfl))⟩
 f23:=⟨f151.name,by decide,func151.trans (congrArg some (by kernel_rfl))⟩
 f24:=⟨f152.name,by decide,func152.trans (congrArg some (by kernel_rfl))⟩
 f25:=⟨f153.name,by decide,func153.trans (congrArg some (by kernel_rfl))⟩
 f26:=⟨f154.name,by decide,func154.trans (congrArg some (by kernel_rfl))⟩
 f27:=⟨f155.name,by decide,func155.trans (congrArg some (by kernel_rfl))⟩
 f28:=func132.trans (congrArg some (by kernel_rfl))
 f29:=func133.trans (congrArg some (by kernel_rfl))
 f46:=⟨f179.name,by decide,func179.trans (congrArg some (by kernel_rfl))⟩
 f47:=func157.trans (congrArg some (by kernel_rfl))
 f48:=func158.trans (congrArg some (by kernel_rfl))
 f49:=⟨f180.name,by decide,func180.trans (congrArg some (by kernel_rfl))⟩
 f50:=⟨f181.name,by decide,func181.trans (congrArg some (by kernel_rfl))⟩
 f57:=⟨f199.name,by decide,func199.trans (congrArg some (by kernel_rfl))⟩
 t0:=underlying0
 a0:=isAgg0
 z0:=sizeOf0
 v0:=zeroValue0
 t3:=underlying3
 a3:=isAgg3
 z3:=sizeOf3
 v3:=zeroValue3
 t4:=underlying4
 a4:=isAgg4
 z4:=sizeOf4
 v4:=zeroValue4
 t5:=underlying5
 a5:=isAgg5
 z5:=sizeOf5
 v5:=zeroValue5
 t9:=underlying9
 a9:=isAgg9
 z9:=sizeOf9
 v9:=zeroValue9
 t22:=underlying49
 a22:=isAgg49
 z22:=sizeOf49
 v22:=zeroValue49
 t25:=underlying139
 a25:=isAgg139
 z25:=sizeOf139
 v25:=zeroValue139
 t39:=underlying142
 a39:=isAgg142
 z39:=sizeOf142
 v39:=zeroValue142
 t45:=underlying169
 a45:=isAgg169
 z45:=sizeOf169
 v45:=zeroValue169
 t46:=underlying170
 a46:=isAgg170
 z46:=sizeOf170
 v46:=zeroValue170
 t50:=underlying175
 a50:=isAgg175
 z50:=sizeOf175
 v50:=zeroValue175
 t53:=underlying178
 a53:=isAgg178
 z53:=sizeOf178
 v53:=zeroValue178
 t55:=underlying88
 a55:=isAgg88
 z55:=sizeOf88
 v55:=zeroValue88
 t66:=underlying200
 a66:=isAgg200
 z66:=sizeOf200
 v66:=zeroValue200
 t70:=underlying204
 a70:=isAgg204
 z70:=sizeOf204
 v70:=zeroValue204
 t76:=underlying222
 a76:=isAgg222
 z76:=sizeOf222
 v76:=zeroValue222
 t77:=underlying223
 a77:=isAgg223
 z77:=sizeOf223
 v77:=zeroValue223 }
def ZgV:Go.Shelf.Ren:=⟨fun | 43=>143 | n=>n,fun | 22=>154 | 23=>88 | 3=>3 | 4=>4 | 0=>0 | n=>n,fun | n=>n⟩
theorem Zjp:Go.Proofs.SlLaysE.n43 prog ZgV:={
 mixed:=by kernel_rfl
 f43:=⟨f143.name,by decide,func143.trans (congrArg some (by kernel_rfl))⟩
 t0:=underlying0
 a0:=isAgg0
 z0:=sizeOf0
 v0:=zeroValue0
 t3:=underlying3
 a3:=isAgg3
 z3:=sizeOf3
 v3:=zeroValue3
 t4:=underlying4
 a4:=isAgg4
 z4:=sizeOf4
 v4:=zeroValue4
 t22:=underlying154
 a22:=isAgg154
 z22:=sizeOf154
 v22:=zeroValue154
 a23:=isAgg88
 z23:=sizeOf88 }
open Go.RowKit Go.Sort
theorem Sq.other {blk off m:Nat}{d:Array Int}(h:Sq w0 blk off m W d)(hs:s≠blk)(h0:w0.heap.size≤s)(v:Value):Sq w0 blk off m (W.setCell ⟨s,0,none⟩ v) d:=by
 have hb:∀k,k≠s→(W.setCell ⟨s,0,none⟩ v).heap[k]? = W.heap[k]?:=fun k hk=>by
  simp only [World.setCell];rw [Array.getElem?_modify,if_neg (fun e=>hk e.symm)]
 refine⟨h.size,fun t ht=>⟨?_,?_⟩,?_⟩
 · rw [← (h.holds t ht).1];simp only [World.cell?,hb blk (fun e=>hs e.symm)]
 · rw [← (h.holds t ht).2];simp only [World.frozen?,hb blk (fun e=>hs e.symm)]
 · exact(h.frm.mono (G:=fun k=>k=blk∨k=s) (fun i _ e=>.inl e)).setCell (.inr rfl) v |>.mono (fun i hi e=>by
    rcases e with e | e
    · exact e
    · omega)
def Bn (K:IntKind) (ty:TypeId) (W:World) (s:Nat) (z:Int):Prop:=W.heap[s]? = some (.cells #[.int K z] ty (0,0))
theorem Bn.cell (h:Bn K ty W s z):W.cell? ⟨s,0,none⟩=some (.int K z):=by
 rw [cell_of_row _ _ _ _ _ _ h];rfl
theorem Bn.fz (h:Bn K ty W s z):W.frozen? ⟨s,0,none⟩=false:=frozen_of_row W s 0 _ ty h
theorem Bn.set (h:Bn K ty W s z)(y:Int):Bn K ty (W.setCell ⟨s,0,none⟩ (.int K y)) s y:=by
 unfold Bn at *;simp only [World.setCell];rw [Array.getElem?_modify,if_pos rfl,h];rfl
theorem Bn.far (h:Bn K ty W s z){p:Addr}(hp:p.block≠s)(v:Value):Bn K ty (W.setCell p v) s z:=by
 unfold Bn at *;rw [← h];simp only [World.setCell];rw [Array.getElem?_modify,if_neg hp]
theorem Bn.drewN (h:Bn K ty W s z)(q:Nat):Bn K ty (W.drewN q) s z:=h
def O2 (w0:World) (blk off m s:Nat) (d:Array Int) (x y:Nat) (e:Ending) (W:World):Prop:=
  (∃p q:Nat,e=.returned (.tuple #[.int .i64 (p:Nat),.int .i64 (q:Nat)])∧((p=x∧q=y)∨(p=y∧q=x)))∧Sq w0 blk off m W d∧∃z,Bn .i64 3 W s z
theorem Zm1 (w0 W:World)(blk off m cap s x y:Nat)(d:Array Int)(h:Sq w0 blk off m W d)(z:Int)(hz:Bn .i64 3 W s z)(hs:s≠blk)(h0:w0.heap.size≤s)(hx:x<m)(hy:y<m)(hm:m<1000000) :
    Calls prog 212 #[.slice (some ⟨blk,off,none⟩) m cap,.int .i64 (x:Nat),.int .i64 (y:Nat),.pointer (some ⟨s,0,none⟩)] W (O2 w0 blk off m s d x y):=by
  have HS:=Zh h;have HZ:=Zh hz;clear h hz;obtain⟨G,hG⟩:∃G:Nat→Int,∀t,G t=d[t]!:=⟨fun t=>d[t]!,fun _=>rfl⟩;(have ad:∀t,t<m→W.cell? ⟨blk,off+t,none⟩=some (.int .u64 (G t)):=fun t ht=>by rw [hG];exact HS.o.cell t ht);have ae:∀t,t<m→W.frozen? ⟨blk,off+t,none⟩=false:=HS.o.fz;have HG:Hi (∀t,G t=d[t]!):=hG;have aa:=HS;clear hG;have HD:Hi (∀q,Sq w0 blk off m (W.drewN q) d):=aa.o.drewN;clear aa HS;have ab:Hi (∀q,Bn .i64 3 (W.drewN q) s z):=HZ.o.drewN;have c0:=HZ.o.cell;have c1:=HZ.o.fz;have HE:Hi (∀q v,Sq w0 blk off m ((W.drewN q).setCell ⟨s,0,none⟩ v) d):=fun q v=>(HD.o q).other hs h0 v;have ac:Hi (∀q y,Bn .i64 3 ((W.drewN q).setCell ⟨s,0,none⟩ (.int .i64 y)) s y):=fun q y=>(ab.o q).set y;go_enter func212,ntmps212;go_wp2_with fail;go_quiet (first | (go_at_call 195;refine Calls.quiet_of_same (Zag _ _ _)));go_wp2_with fail
  · (try simp only [Exit.inBlock,Exit.then]);go_ret2;exact⟨⟨y,x,rfl,.inr ⟨rfl,rfl⟩⟩,HE.o _ _,_,ac.o _ _⟩
  · (try simp only [Exit.inBlock,Exit.then]);go_ret2;exact⟨⟨x,y,rfl,.inl ⟨rfl,rfl⟩⟩,HD.o _,_,ab.o _⟩
def M3 (w0:World) (blk off m s:Nat) (d:Array Int) (x y t:Nat) (e:Ending) (W:World):Prop:=
  (∃p:Nat,e=.returned (.int .i64 (p:Nat))∧(p=x∨p=y∨p=t))∧Sq w0 blk off m W d∧∃z,Bn .i64 3 W s z
theorem Zh6 (w0 W:World)(blk off m cap s x y t:Nat)(d:Array Int)(h:Sq w0 blk off m W d)(z:Int)(hz:Bn .i64 3 W s z)(hs:s≠blk)(h0:w0.heap.size≤s)(hx:x<m)(hy:y<m)(ht:t<m)(hm:m<1000000)(vx vy vt:Int)(ex:vx=(x:Nat))(ey:vy=(y:Nat))(et:vt=(t:Nat)) :
    Calls prog 205 #[.slice (some ⟨blk,off,none⟩) m cap,.int .i64 vx,.int .i64 vy,.int .i64 vt,.pointer (some ⟨s,0,none⟩)] W (M3 w0 blk off m s d x y t):=by
  subst ex ey et;have HC:Hi (∀(V:World) (x y:Nat),Sq w0 blk off m V d→(∃z,Bn .i64 3 V s z)→x<m→y<m→Calls prog 212 #[.slice (some ⟨blk,off,none⟩) m cap,.int .i64 (x:Nat),.int .i64 (y:Nat),.pointer (some ⟨s,0,none⟩)] V (O2 w0 blk off m s d x y)):=fun V x y hq ⟨z,hz⟩ hx hy=>Zm1 w0 V blk off m cap s x y d hq z hz hs h0 hx hy hm;have H1:=Zh (HC.o W x y h ⟨z,hz⟩ hx hy);clear h hz;go_enter func205,ntmps205;go_wp2_with fail;refine H1.o.mono ?_;rintro e w1 ⟨⟨p,q,rfl,ag⟩,ah,ak⟩;have H2:=Zh (HC.o w1 q t ah ak (by omega) ht);have ac:=Zh ag;clear ah ak H1 ag;go_wp2_with fail;refine H2.o.mono ?_;rintro e w2 ⟨⟨p2,q2,rfl,ab⟩,ai,al⟩;(have hp:p<m:=by have:=ac.o;omega);(have af:p2<m:=by have:=ac.o;omega);have H3:=Zh (HC.o w2 p p2 ai al hp af);have aa:=Zh ab;clear ai al H2 ab hp af;go_wp2_with fail;refine H3.o.mono ?_;rintro e w3 ⟨⟨p3,q3,rfl,ae⟩,aj,am⟩;have ad:Hi (M3 w0 blk off m s d x y t (.returned (.int .i64 (q3:Nat))) w3):=⟨⟨q3,rfl,by have:=ac.o;have:=aa.o;omega⟩,aj,am⟩;clear aj am H3 ae ac aa;go_wp2;go_ret;exact ad.o
theorem Zh7 (w0 W:World)(blk off m cap s x:Nat)(d:Array Int)(h:Sq w0 blk off m W d)(z:Int)(hz:Bn .i64 3 W s z)(hs:s≠blk)(h0:w0.heap.size≤s)(h1:1≤x)(hx:x+1<m)(hm:m<1000000)(vx:Int)(ex:vx=(x:Nat)) :
    Calls prog 204 #[.slice (some ⟨blk,off,none⟩) m cap,.int .i64 vx,.pointer (some ⟨s,0,none⟩)] W (M3 w0 blk off m s d (x-1) x (x+1)):=by
  (have ad:1≤vx:=by omega);(have ae:vx<1000000:=by omega);have H1:=Zh (Zh6 w0 W blk off m cap s (x-1) x (x+1) d h z hz hs h0 (by omega) (by omega) hx hm (vx-1) vx (vx+1) (by omega) ex (by omega));clear h hz ex;go_enter func204,ntmps204;go_wp2_with fail;refine H1.o.mono ?_;rintro e w1 ⟨⟨p,rfl,hp⟩,ab,ac⟩;have aa:Hi (M3 w0 blk off m s d (x-1) x (x+1) (.returned (.int .i64 (p:Nat))) w1):=⟨⟨p,rfl,hp⟩,ab,ac⟩;clear hp ab ac H1;go_wp2;go_ret;exact aa.o
def CpS (w0:World) (blk off m a b:Nat) (d:Array Int) (e:Ending) (W:World):Prop:=
  (∃(p:Nat) (h:Int),e=.returned (.tuple #[.int .i64 (p:Nat),.int .i64 h])∧a≤p∧p<b∧(h=0∨h=1∨h=2))∧Sq w0 blk off m W d
theorem ZiC (w0 W:World)(blk off m cap a b:Nat)(d:Array Int)(h:Sq w0 blk off m W d)(bk:a+12<b)(hb:b≤m)(hm:m<1000000) :
    Calls prog 192 #[.slice (some ⟨blk,off,none⟩) m cap,.int .i64 (a:Nat),.int .i64 (b:Nat)] W (CpS w0 blk off m a b d):=by
  obtain⟨n,hn⟩:∃n:Nat,n=b-a:=⟨_,rfl⟩;obtain⟨p,hp⟩:∃p:Nat,p=n / 4:=⟨_,rfl⟩;(have q1:(b:Int)-(a:Int)=(n:Int):=by omega);(have q2:(n:Int) / 4=(p:Int):=by omega);(have bh:12<n:=by omega);(have k1:a+p*3<b:=by omega);(have k2:3≤p:=by omega);(have k3:a+p*3+1<b:=by omega);have bg:=h.lt (by omega);(have hs:W.heap.size≠blk:=by omega);have h0:w0.heap.size≤W.heap.size:=h.frm.size;have HB:=Zab W (.cells #[.int .i64 0] 3);have bb:=h.below HB;have al:Bn .i64 3 (W.alloc (.cells #[.int .i64 0] 3)) W.heap.size 0:=heap_alloc_new W _;obtain⟨s,af⟩:∃s,s=W.heap.size:=⟨_,rfl⟩;rw [← af] at hs h0 al;have ab:Hi (∀(V:World) (vx:Int) (x:Nat),Sq w0 blk off m V d→(∃z,Bn .i64 3 V s z)→vx=(x:Nat)→1≤x→x+1<m→Calls prog 204 #[.slice (some ⟨blk,off,none⟩) m cap,.int .i64 vx,.pointer (some ⟨s,0,none⟩)] V (M3 w0 blk off m s d (x-1) x (x+1))):=fun V vx x hq ⟨z,hz⟩ e h1 h2=>Zh7 w0 V blk off m cap s x d hq z hz hs h0 h1 h2 hm vx e;have ad:Hi (∀(V:World) (vx vy vt:Int) (x y t:Nat),Sq w0 blk off m V d→(∃z,Bn .i64 3 V s z)→vx=(x:Nat)→vy=(y:Nat)→vt=(t:Nat)→x<m→y<m→t<m→Calls prog 205 #[.slice (some ⟨blk,off,none⟩) m cap,.int .i64 vx,.int .i64 vy,.int .i64 vt,.pointer (some ⟨s,0,none⟩)] V (M3 w0 blk off m s d x y t)):=fun V vx vy vt x y t hq ⟨z,hz⟩ e1 e2 e3 h1 h2 h3=>Zh6 w0 V blk off m cap s x y t d hq z hz hs h0 h1 h2 h3 hm vx vy vt e1 e2 e3;have aa:=Zh bb;have ah:=Zh al;(have bj:(8:Int)≤(n:Int):=by omega);clear h hn hp HB bb al bg;by_cases bi:50≤n
  · (have bf:(50:Int)≤(n:Int):=by omega);(have k4:12≤p:=by omega);go_enter func192,ntmps192;go_wp2_with fail;generalize W.alloc (.cells #[.int .i64 0] 3)=W1 at *;rw [← af];clear af;refine(ab.o _ _ (a+p) aa.o ⟨_,ah.o⟩ (by omega) (by omega) (by omega)).mono ?_;rintro e w1 ⟨⟨r1,rfl,av⟩,ay,bc⟩;have ai:=Zh av;have an:=Zh ay;have aq:=Zh bc;clear av ay bc aa ah;go_wp2_with fail;refine(ab.o _ _ (a+p*2) an.o aq.o (by omega) (by omega) (by omega)).mono ?_;rintro e w2 ⟨⟨r2,rfl,aw⟩,az,bd⟩;have aj:=Zh aw;have ao:=Zh az;have ar:=Zh bd;clear aw az bd an aq;go_wp2_with fail;refine(ab.o _ _ (a+p*3) ao.o ar.o (by omega) (by omega) (by omega)).mono ?_;rintro e w3 ⟨⟨r3,rfl,ax⟩,ba,be⟩;have ak:=Zh ax;have ap:=Zh ba;have au:=Zh be;clear ax ba be ao ar;go_wp2_with fail;refine(ad.o _ _ _ _ r1 r2 r3 ap.o au.o rfl rfl rfl (by have:=ai.o;omega) (by have:=aj.o;omega) (by have:=ak.o;omega)).mono ?_;rintro e w4 ⟨⟨r4,rfl,am⟩,ae,⟨z4,ag⟩⟩;have ac:Hi (∀hh:Int,(hh=0∨hh=1∨hh=2)→CpS w0 blk off m a b d (.returned (.tuple #[.int .i64 (r4:Nat),.int .i64 hh])) w4):=fun hh hc=>⟨⟨r4,hh,rfl,by have:=ai.o;have:=aj.o;have:=ak.o;omega,by have:=ai.o;have:=aj.o;have:=ak.o;omega,hc⟩,ae⟩;have cz:=ag.cell;clear ae ag am ai aj ak ap au;go_wp2_with fail;(all_goals (try simp only [Exit.inBlock,Exit.then]));(all_goals go_ret2);all_goals exact ac.o _ (by decide)
  · (have bf:¬(50:Int)≤(n:Int):=by omega);go_enter func192,ntmps192;go_wp2_with fail;generalize W.alloc (.cells #[.int .i64 0] 3)=W1 at *;rw [← af];clear af;refine(ad.o _ _ _ _ (a+p) (a+p*2) (a+p*3) aa.o ⟨_,ah.o⟩ (by omega) (by omega) (by omega) (by omega) (by omega) (by omega)).mono ?_;rintro e w4 ⟨⟨r4,rfl,am⟩,ae,⟨z4,ag⟩⟩;have ac:Hi (∀hh:Int,(hh=0∨hh=1∨hh=2)→CpS w0 blk off m a b d (.returned (.tuple #[.int .i64 (r4:Nat),.int .i64 hh])) w4):=fun hh hc=>⟨⟨r4,hh,rfl,by omega,by omega,hc⟩,ae⟩;have cz:=ag.cell;clear ae ag am aa ah;go_wp2_with fail;(all_goals (try simp only [Exit.inBlock,Exit.then]));(all_goals go_ret2);all_goals exact ac.o _ (by decide)
open Go.RowKit Go.Sort
def BpS (w0:World) (blk off m a b:Nat) (d:Array Int) (e:Ending) (W:World):Prop:=e=.returned (.tuple #[])∧∃d',PermIn a b d d'∧Sq w0 blk off m W d'
theorem Zri (s:Nat)(V:World)(z:Nat)(hz:z<18446744073709551616)(h:Bn .u64 200 V s z):Calls prog 158 #[.pointer (some ⟨s,0,none⟩)] V fun e w'=>∃Y:Nat,Y<18446744073709551616∧e=.returned (.int .u64 (Y:Nat))∧w'=(V.setCell ⟨s,0,none⟩ (.int .u64 (Y:Nat))).drewN 3:=by
 have hc:=Go.Proofs.AnyF.xorshift_Next (P:=prog) (ρ:=Zbc) { Zln with } s 0 z hz V h.cell h.fz;change Calls prog 158 _ _ _ at hc;exact hc.mono fun e w' ⟨h1,h2⟩=>⟨_,xorNextN_lt z hz,h1,h2⟩
theorem Zil (w0 W:World)(blk off m cap a b:Nat)(d:Array Int)(h:Sq w0 blk off m W d)(be:a+12<b)(hb:b≤m)(hm:m<1000000) :
    Calls prog 191 #[.slice (some ⟨blk,off,none⟩) m cap,.int .i64 (a:Nat),.int .i64 (b:Nat)] W (BpS w0 blk off m a b d):=by
  obtain⟨n,hn⟩:∃n:Nat,n=b-a:=⟨_,rfl⟩;obtain⟨p,hp⟩:∃p:Nat,p=n / 4:=⟨_,rfl⟩;obtain⟨M,hM⟩:∃M:Nat,M=1 <<< bitsLen n:=⟨_,rfl⟩;(have bc:1≤M:=by rw [hM,Nat.one_shiftLeft];exact Nat.two_pow_pos _);(have bd:M≤2*n:=by rw [hM,Nat.one_shiftLeft];exact two_pow_bitsLen_le (by omega));have ax:Hi (∀w,Calls prog 157 #[.int .i64 (n:Nat)] w fun e w'=>e=.returned (.int .u64 (M:Nat))∧w'=w):=by
   intro w;have hc:=Go.Proofs.AnyF.nextPowerOfTwo (P:=prog) (ρ:=Zbc) { Zln with } n (by omega) w;change Calls prog 157 _ _ _ at hc;rw [hM];exact hc
  (have q1:(b:Int)-(a:Int)=(n:Int):=by omega);(have q2:(n:Int) / 4=(p:Int):=by omega);(have bk:a+n=b:=by omega);(have k1:a+p*3<b:=by omega);(have k2:3≤p:=by omega);(have k3:n<1000000:=by omega);have ay:=h.lt (by omega);(have hs:W.heap.size≠blk:=by omega);have h0:w0.heap.size≤W.heap.size:=h.frm.size;have HB:=Zab W (.cells #[.int .u64 (n:Nat)] 200);have aw:=h.below HB;have aa:Bn .u64 200 (W.alloc (.cells #[.int .u64 (n:Nat)] 200)) W.heap.size (n:Nat):=heap_alloc_new W _;obtain⟨s,ap⟩:∃s,s=W.heap.size:=⟨_,rfl⟩;rw [← ap] at hs h0 aa;have ac:=Zh aw;have ar:=Zh aa;have ba:=h.size;(have bb:(8:Int)≤(n:Int):=by omega);clear h hn hp HB aw aa ay hM;go_enter func191,ntmps191;go_wp2_with fail;generalize W.alloc (.cells #[.int .u64 (n:Nat)] 200)=W1 at *;rw [← ap];clear ap;refine(ax.o _).mono ?_;rintro e w1 ⟨rfl,hw⟩;obtain rfl:=hw.symm;go_wp2_with fail;go_loopw [9] (fun vi wr=>∃(i:Nat) (dk:Array Int) (z:Nat),vi=.int .i64 (i:Nat)∧a+p*2-1≤i∧i≤a+p*2+2∧Hi (PermIn a b d dk)∧Hi (Sq w0 blk off m wr dk)∧Hi (z<18446744073709551616)∧Hi (Bn .u64 200 wr s (z:Nat))) (fun vi _=>a+p*2+2-(intOf vi).toNat)
  case atStart=>exact ⟨a+p*2-1,d,n,by congr 1;omega,Nat.le_refl _,by omega,permIn_refl _ _ _,ac,(show Hi _ from by show _<_;omega),ar⟩
  case round =>
   clear ac ar;obtain⟨i,dk,z,rfl,bh,bi,ae,ah,hz,aa⟩:=hrel;by_cases bj:i≤a+p*2+1
   · (have az:(i:Int)≤(a:Int)+(p:Int)*2+1:=by omega);have au:=Zh (Zri s wr z hz.o aa.o);go_wp2_with fail;refine au.o.mono ?_;rintro e w2 ⟨Y,hY,rfl,aq⟩;obtain⟨O,hO⟩:∃O:Nat,O=Y &&& (M-1):=⟨_,rfl⟩;(have lO:O≤M-1:=by rw [hO];exact Nat.and_le_right);have eAnd:bits .and .u64 (Y:Int) ((M:Int)-1)=(O:Int):=by
      rw [show ((M:Int)-1)=((M-1:Nat):Int) by omega,bits_and_u64_nat _ _ hY (by omega),hO]
     (have an:Hi (Sq w0 blk off m w2 dk):=by show Sq _ _ _ _ _ _;rw [aq];exact (ah.o.other hs h0 _).drewN 3);(have ai:Hi (Bn .u64 200 w2 s (Y:Nat)):=by show Bn _ _ _ _ _;rw [aq];exact (aa.o.set _).drewN 3);have HY:=Zh hY;clear aq hO hY au ah aa hz;go_upto_if 43 with fail;go_cut [10] from 26 to 64 (fun ov wx=>∃o:Nat,ov=.int .i64 (o:Nat)∧o<n∧Hi (Sq w0 blk off m wx dk)∧Hi (Bn .u64 200 wx s (Y:Nat)))
     case first =>
      by_cases bl:n≤O
      · (have ao:(n:Int)≤(O:Int):=by omega);go_wp2_with fail;go_meet
        case rel=>exact ⟨O-n,by congr 1;omega,by omega,an,ai⟩
      · (have ao:¬(n:Int)≤(O:Int):=by omega);go_wp2_with fail;go_meet
        case rel=>exact ⟨O,rfl,by omega,an,ai⟩
     case rest =>
      clear an ai eAnd;obtain⟨o,rfl,ho,af,ag⟩:=hcut;obtain⟨G,hG⟩:∃G:Nat→Int,∀t,G t=dk[t]!:=⟨fun t=>dk[t]!,fun _=>rfl⟩;(have bf:∀t,t<m→wc.cell? ⟨blk,off+t,none⟩=some (.int .u64 (G t)):=fun t ht=>by rw [hG];exact af.o.cell t ht);have bg:∀t,t<m→wc.frozen? ⟨blk,off+t,none⟩=false:=af.o.fz;have HG:Hi (∀t,G t=dk[t]!):=hG;have ab:=af;clear hG;(have i1:i<m:=by omega);(have i2:a+o<m:=by omega);have al:Hi (PermIn a b d (swp dk i (a+o))):=permIn_trans _ _ _ _ _ ae.o (swp_permIn dk a b i (a+o) (by omega) (by omega) (by omega) (by omega) (by rw [ab.o.size];exact hb));by_cases av:i=a+o
      · have HX:=Zh ((ab.o.swap 0 i i i1 i1).drew1);rw [← HG.o] at HX;(have am:Hi (PermIn a b d (swp dk i i)):=by show PermIn _ _ _ _;have:=al.o;rwa [← av] at this);have ad:=(ag.o.far (p:=⟨blk,off+i,none⟩) (fun e=>hs e.symm) (.int .u64 (G i))).far (p:=⟨blk,off+i,none⟩) (fun e=>hs e.symm) (.int .u64 (G i));have aj:=Zh (ad.drewN 1);(have bm:(a:Int)+(o:Int)=(i:Int):=by omega);clear ab af HG al ae ag ad av;go_wp2_with fail;go_region;(all_goals go_wp2_with fail);go_roundw;exact ⟨i+1,_,Y,by go_num,by omega,by omega,am,HX,HY,aj⟩;simp only [intOf];omega
      · have HX:=Zh ((ab.o.swap 0 i (a+o) i1 i2).drew1);rw [← HG.o,← HG.o] at HX;have ad:=(ag.o.far (p:=⟨blk,off+i,none⟩) (fun e=>hs e.symm) (.int .u64 (G (a+o)))).far (p:=⟨blk,off+(a+o),none⟩) (fun e=>hs e.symm) (.int .u64 (G i));have aj:=Zh (ad.drewN 1);clear ab af HG ae ag ad;go_wp2_with fail;go_region;(all_goals go_wp2_with fail);go_roundw;exact ⟨i+1,_,Y,by go_num,by omega,by omega,al,HX,HY,aj⟩;simp only [intOf];omega
   · (have az:¬(i:Int)≤(a:Int)+(p:Int)*2+1:=by omega);have ak:Hi (BpS w0 blk off m a b d (.returned (.tuple #[])) wr):=⟨rfl,dk,ae.o,ah.o⟩;clear ae ah hz aa;go_wp2_with fail;go_end0;exact ak.o
open Go.RowKit Go.Sort
def SoS (w0:World) (blk off m a b:Nat) (d:Array Int) (e:Ending) (W:World):Prop:=e=.returned (.tuple #[])∧∃d',PermIn a b d d'∧SortedIn ltInt a b d'∧Sq w0 blk off m W d'
def FinQ (a b:Nat) (d:Array Int) (p q:Nat) (dk:Array Int):Prop:=∀d',PermIn p q dk d'→SortedIn ltInt p q d'→PermIn a b d d'∧SortedIn ltInt a b d'
theorem Zm4 (w0:World)(blk off m cap:Nat)(hm:m<1000000):∀(k:Nat)(W:World)(a b limit:Nat)(d:Array Int),b-a≤k→Sq w0 blk off m W d→a≤b→b≤m→limit<1000000→Go.Sort.Below ltInt a b d →
    Calls prog 172 #[.slice (some ⟨blk,off,none⟩) m cap,.int .i64 (a:Nat),.int .i64 (b:Nat),.int .i64 (limit:Nat)] W (SoS w0 blk off m a b d):=by
  intro k
  induction k using Nat.strongRecOn with
  | _ k ih =>
  intro W a b limit d hk h cl cm bu av;have HS:=Zh h;have IH:Hi (∀(V:World) (x y l:Nat) (dk:Array Int),y-x<k→Sq w0 blk off m V dk→x≤y→y≤m→l<1000000→Go.Sort.Below ltInt x y dk→Calls prog 172 #[.slice (some ⟨blk,off,none⟩) m cap,.int .i64 (x:Nat),.int .i64 (y:Nat),.int .i64 (l:Nat)] V (SoS w0 blk off m x y dk)):=fun V x y l dk h1 h2 h3 h4 h5 h6=>ih (y-x) h1 V x y l dk (Nat.le_refl _) h2 h3 h4 h5 h6;have bz:=Zh av;clear h av ih;go_enter func172,ntmps172;go_wp2_with fail;go_loopw [1,2,3,8,9] (fun v1 v2 v3 v8 v9 wr=>∃(p q l:Nat) (wb wp:Bool) (dk:Array Int),v1=.int .i64 (p:Nat)∧v2=.int .i64 (q:Nat)∧v3=.int .i64 (l:Nat)∧v8=.bool wb∧v9=.bool wp∧p≤q∧q≤m∧q-p≤k∧l<1000000∧Hi (Sq w0 blk off m wr dk)∧Hi (Go.Sort.Below ltInt p q dk)∧Hi (FinQ a b d p q dk)) (fun v1 v2 _ _ _ _=>(intOf v2).toNat-(intOf v1).toNat)
  case atStart=>exact ⟨a,b,limit,true,true,d,rfl,rfl,rfl,rfl,rfl,cl,cm,hk,bu,HS,bz,fun d' h1 h2=>⟨h1,h2⟩⟩
  case round =>
   clear HS bz;obtain⟨p,q,l,wb,wp,dk,rfl,rfl,rfl,rfl,rfl,bd,aa,da,ct,aj,an,ac⟩:=hrel;obtain⟨n,hn⟩:∃n:Nat,p+n=q:=⟨q-p,by omega⟩;(have q1:(q:Int)-(p:Int)=(n:Int):=by omega);by_cases cw:n≤12
   · (have bq:(n:Int)≤12:=by omega);have HC:=Zh (Zmd w0 wr blk off m cap p q dk aj.o bd aa hm);have hI:=insertionSort_holds (lt:=ltInt) swo_ltInt dk p q bd (by rw [aj.o.size];exact aa);have HE:=Zh (ac.o _ hI.1 hI.2);clear ac an hI aj;go_wp2_with fail;refine HC.o.mono ?_;rintro e w1 ⟨rfl,ag⟩;have ar:=Zh ag;clear ag HC;go_wp2_with fail;(try simp only [Exit.inBlock,Exit.then]);refine bodyPost_ret (results_none rfl _ _ _) rfl ?_;exact⟨rfl,_,HE.o.1,HE.o.2,ar.o⟩
   (have bq:¬(n:Int)≤12:=by omega);by_cases cr:l=0
   · obtain rfl:=cr;have HC:=Zh (Zkx w0 wr blk off m cap p q dk aj.o (by omega) aa hm);have hI:=heapSort_holds (lt:=ltInt) swo_ltInt dk p q bd (by rw [aj.o.size];exact aa);have HE:=Zh (ac.o _ hI.1 hI.2);clear ac an hI aj;go_wp2_with fail;refine HC.o.mono ?_;rintro e w1 ⟨rfl,ag⟩;have ar:=Zh ag;clear ag HC;go_wp2_with fail;(try simp only [Exit.inBlock,Exit.then]);refine bodyPost_ret (results_none rfl _ _ _) rfl ?_;exact⟨rfl,_,HE.o.1,HE.o.2,ar.o⟩
   (have bt:¬(l:Int)=0:=by omega);have cs:((l:Int) == 0)=false:=beq_eq_false_iff_ne.2 bt;(have al:p+12<q:=by omega);go_upto_if 35 with fail;go_cut [3] from 19 to 133 (fun lv wx=>∃(l2:Nat) (d1:Array Int),lv=.int .i64 (l2:Nat)∧l2<1000000∧Hi (PermIn p q dk d1)∧Hi (Sq w0 blk off m wx d1))
   case first =>
    cases wb with
    | true =>
     go_wp2_with fail;go_meet
     case rel=>exact ⟨l,dk,rfl,ct,permIn_refl _ _ _,aj⟩
    | false =>
     have HC:=Zh (Zil w0 wr blk off m cap p q dk aj.o al aa hm);go_wp2_with fail;refine HC.o.mono ?_;rintro e w1 ⟨rfl,d1,ao,ag⟩;have ar:=Zh ag;have ch:=Zh ao;clear ag ao HC;go_wp2_with fail;go_meet
     case rel=>exact ⟨l-1,d1,by congr 1;omega,by omega,ch,ar⟩
   case rest =>
    clear aj;obtain⟨l2,d1,rfl,ax,ao,ag⟩:=hcut;have ca:=Zh (ZiC w0 wc blk off m cap p q d1 ag.o al aa hm);clear ag;go_wp2_with fail;refine ca.o.mono ?_;rintro e w2 ⟨⟨c,hh,rfl,cn,co,ce⟩,cf⟩;have au:=Zh cf;have HH:=Zh ce;clear cf ce ca;go_upto_if 50 with fail;go_cut [11,12] from 19 to 133 (fun cv hv wx=>∃(c2:Nat) (h2:Int) (d2:Array Int),cv=.int .i64 (c2:Nat)∧hv=.int .i64 h2∧p≤c2∧c2<q∧Hi (PermIn p q dk d2)∧Hi (Sq w0 blk off m wx d2))
    case first =>
     by_cases cd:hh=2
     · obtain rfl:=cd;have HC:=Zh (ZmF w0 w2 blk off m cap p q d1 au.o (by omega) aa hm);have ci:Hi (PermIn p q dk (reverseRange d1 p q)):=permIn_trans _ _ _ _ _ ao.o (reverseRange_holds d1 p q bd (by rw [au.o.size];exact aa));clear au HH;go_wp2_with fail;refine HC.o.mono ?_;rintro e w3 ⟨rfl,ab⟩;have cj:=Zh ab;clear ab HC;go_wp2_with fail;go_meet
       case rel=>exact ⟨q-1-(c-p),1,_,by congr 1;omega,rfl,by omega,by omega,ci,cj⟩
     · have cq:(hh == 2)=false:=beq_eq_false_iff_ne.2 cd;go_wp2_with fail;go_meet
       case rel=>exact ⟨c,hh,d1,rfl,rfl,cn,co,ao,au⟩
    case rest =>
     clear au ao HH;obtain⟨c2,h2,d2,rfl,rfl,ah,ai,ay,ab⟩:=hcut;go_upto_region 15 with fail;go_cut [68] from 19 to 133 (fun tv wx=>∃t:Bool,tv=.bool t∧Hi (Sq w0 blk off m wx d2))
     case first =>
      by_cases cc:h2=1
      · obtain rfl:=cc;cases wb <;> cases wp;(all_goals go_wp2_with fail);all_goals go_meet
        case rel=>exact ⟨_,rfl,ab⟩
        case rel=>exact ⟨_,rfl,ab⟩
        case rel=>exact ⟨_,rfl,ab⟩
        case rel=>exact ⟨_,rfl,ab⟩
      · have cp:(h2 == 1)=false:=beq_eq_false_iff_ne.2 cc;cases wb <;> cases wp;(all_goals go_wp2_with fail);all_goals go_meet
        case rel=>exact ⟨_,rfl,ab⟩
        case rel=>exact ⟨_,rfl,ab⟩
        case rel=>exact ⟨_,rfl,ab⟩
        case rel=>exact ⟨_,rfl,ab⟩
     case rest =>
     clear ab;obtain⟨t,rfl,ab⟩:=hcut;go_upto_if 68 with fail;go_cut [] from 19 to 133 (fun wx=>∃d3:Array Int,Hi (PermIn p q dk d3)∧Hi (Sq w0 blk off m wx d3))
     case first =>
      cases t with
      | false =>
       go_wp2_with fail;go_meet
       case rel=>exact ⟨d2,ay,ab⟩
      | true =>
       have cb:Go.Sort.Below ltInt p q d2:=an.o.perm (by rw [← ay.o.1,ab.o.size];exact aa) ay.o;have hI:=partialInsertionSort_holds (lt:=ltInt) swo_ltInt d2 p q (by omega) (by rw [ab.o.size];exact aa) cb;have HC:=Zh (ZkT w0 wc blk off m cap p q d2 ab.o (by omega) aa hm);have bj:Hi (PermIn p q dk (partialInsertionSort ltInt d2 p q).1):=permIn_trans _ _ _ _ _ ay.o hI.1;have bi:=Zh hI.2;obtain⟨R,hR⟩:∃R,R=partialInsertionSort ltInt d2 p q:=⟨_,rfl⟩;rw [← hR] at bj bi HC;obtain⟨d3,r⟩:=R;clear hI cb hR;cases r with
       | true =>
        have HE:=Zh (ac.o _ bj.o (bi.o rfl));clear ac an bi;go_wp2_with fail;refine HC.o.mono ?_;rintro e w4 ⟨rfl,ad⟩;have bo:=Zh ad;clear ad HC;go_wp2_with fail;(try simp only [Exit.inBlock,Exit.then]);refine bodyPost_ret (results_none rfl _ _ _) rfl ?_;exact⟨rfl,_,HE.o.1,HE.o.2,bo.o⟩
       | false =>
        go_wp2_with fail;refine HC.o.mono ?_;rintro e w4 ⟨rfl,ad⟩;have bo:=Zh ad;clear ad HC;go_wp2_with fail;go_meet
        case rel=>exact ⟨d3,bj,bo⟩
     case rest =>
      clear ab ay;obtain⟨d3,bc,ad⟩:=hcut;have br:Go.Sort.Below ltInt p q d3:=an.o.perm (by rw [← bc.o.1,ad.o.size];exact aa) bc.o;(have bx:q≤d3.size:=by rw [ad.o.size];exact aa);have ae:Hi (FinQ a b d p q d3):=fun d' x y=>ac.o d' (permIn_trans _ _ _ _ _ bc.o x) y;have bl:=Zh (fun (mid:Nat) (ap:Bool) (d4:Array Int) (hx:partition ltInt d3 p q c2=(mid,ap,d4))=>round_part (lt:=ltInt) swo_ltInt (partition_holds _) ah ai bx br hx);have bk:=Zh (fun (h0:0<p) (bb:ltInt d3[p-1]! d3[c2]! = false) (mid:Nat) (d4:Array Int) (hx:partitionEqual ltInt d3 p q c2=(mid,d4))=>round_eq (lt:=ltInt) swo_ltInt (partitionEqual_holds _) h0 ah ai bx br bb hx);clear ac an bc br bx;go_upto_region 17 with fail;go_cut [87] from 19 to 133 (fun tv wx=>∃t:Bool,tv=.bool t∧Hi (t=true→0<p∧ltInt d3[p-1]! d3[c2]! = false)∧Hi (Sq w0 blk off m wx d3))
      case first =>
       obtain⟨G,hG⟩:∃G:Nat→Int,∀t,G t=d3[t]!:=⟨fun t=>d3[t]!,fun _=>rfl⟩;(have cx:∀t,t<m→wc.cell? ⟨blk,off+t,none⟩=some (.int .u64 (G t)):=fun t ht=>by rw [hG];exact ad.o.cell t ht);have cy:∀t,t<m→wc.frozen? ⟨blk,off+t,none⟩=false:=ad.o.fz;have HG:Hi (∀t,G t=d3[t]!):=hG;have ba:=ad;clear hG;have HD:Hi (∀q,Sq w0 blk off m (wc.drewN q) d3):=ba.o.drewN;(have i2:c2<m:=by omega);by_cases bw:0<p
       · (have cu:(0:Int)<(p:Int):=by omega);(have i1:p-1<m:=by omega);cases hl:ltInt (G (p-1)) (G c2) with
         | false =>
          have HT:Hi (0<p∧ltInt d3[p-1]! d3[c2]! = false):=⟨bw,by rw [← HG.o,← HG.o];exact hl⟩;clear ba HG ad;go_wp2_with fail;go_quiet (first | (go_at_call 195;refine Calls.quiet_of_same (Zag _ _ _)));go_wp2_with fail;go_meet
          case rel=>exact ⟨true,rfl,Zh (fun _=>HT.o),HD.o _⟩
         | true =>
          (have HT:Hi (false=true→0<p∧ltInt d3[p-1]! d3[c2]! = false):=fun e=>by cases e);clear ba HG ad;go_wp2_with fail;go_quiet (first | (go_at_call 195;refine Calls.quiet_of_same (Zag _ _ _)));go_wp2_with fail;go_meet
          case rel=>exact ⟨false,rfl,HT,HD.o _⟩
       · have cu:decide ((0:Int)<(p:Int))=false:=decide_eq_false (by omega);(have HT:Hi (false=true→0<p∧ltInt d3[p-1]! d3[c2]! = false):=fun e=>by cases e);clear ba HG ad;go_wp2_with fail;go_quiet (first | (go_at_call 195;refine Calls.quiet_of_same (Zag _ _ _)));go_wp2_with fail;go_meet
         case rel=>exact ⟨false,rfl,HT,HD.o _⟩
      case rest =>
       clear ad;obtain⟨t2,rfl,bs,be⟩:=hcut;cases t2 with
       | true =>
        obtain⟨bw,bb⟩:=bs.o rfl;have HC:=Zh (ZhD w0 wc blk off m cap p q c2 d3 be.o ah ai aa hm);obtain⟨R,hR⟩:∃R,R=partitionEqual ltInt d3 p q c2:=⟨_,rfl⟩;obtain⟨mid,d4⟩:=R;obtain⟨r1,r2,r3,r4,r5⟩:=bk.o bw bb mid d4 hR.symm;rw [← hR] at HC;have aq:=Zh r4;have cg:Hi (FinQ a b d mid q d4):=fun d' x y=>ae.o d' (r5 d' x y).1 (r5 d' x y).2;clear bs be bk bl ae bb hR r4 r5;go_wp2_with fail;refine HC.o.mono ?_;rintro e w5 ⟨rfl,am⟩;have ck:=Zh am;clear am HC;go_wp2;go_roundw;exact ⟨mid,q,l2,wb,wp,d4,rfl,rfl,rfl,rfl,rfl,r2,aa,by omega,ax,ck,aq,cg⟩;simp only [intOf];omega
       | false =>
        have HC:=Zh (ZkR w0 wc blk off m cap p q c2 d3 be.o ah ai aa hm);obtain⟨R,hR⟩:∃R,R=partition ltInt d3 p q c2:=⟨_,rfl⟩;obtain⟨mid,ap',d4⟩:=R;obtain⟨r1,r2,r3,r4,r5,r6,r7⟩:=bl.o mid ap' d4 hR.symm;rw [← hR] at HC;have aq:=Zh r4;have bf:=Zh r5;have bm:=Zh r6;have bn:=Zh r7;clear bs be bk bl hR r4 r5 r6 r7;go_wp2_with fail;refine HC.o.mono ?_;rintro e w5 ⟨⟨ap,rfl⟩,am⟩;by_cases cz:mid-p<q-mid
        · (have bv:(mid:Int)-(p:Int)<(q:Int)-(mid:Int):=by omega);have HL:=Zh (IH.o w5 p mid l2 d4 (by omega) am r1 (by omega) ax aq.o);clear am HC bn;go_wp2_with fail;refine HL.o.mono ?_;rintro e w6 ⟨rfl,L,aw,af,az⟩;obtain⟨u1,u2⟩:=bm.o L aw af;have bg:=Zh u1;have bh:Hi (FinQ a b d (mid+1) q L):=fun d' x y=>ae.o d' (u2 d' x y).1 (u2 d' x y).2;have bp:=Zh az;clear az aw af u1 u2 HL bm aq bf ae;go_wp2;go_roundw;exact ⟨mid+1,q,l2,_,ap,L,by go_num,rfl,rfl,rfl,rfl,r2,aa,by omega,ax,bp,bg,bh⟩;simp only [intOf];omega
        · (have bv:¬(mid:Int)-(p:Int)<(q:Int)-(mid:Int):=by omega);have ak:=IH.o w5 (mid+1) q l2 d4 (by omega) am r2 aa ax bf.o;have HL:Hi (Calls prog 172 #[.slice (some ⟨blk,off,none⟩) m cap,.int .i64 ((mid:Int)+1),.int .i64 (q:Nat),.int .i64 (l2:Nat)] w5 (SoS w0 blk off m (mid+1) q d4)):=ak;clear am HC bm ak;go_wp2_with fail;refine HL.o.mono ?_;rintro e w6 ⟨rfl,L,aw,af,az⟩;obtain⟨u1,u2⟩:=bn.o L aw af;have bg:=Zh u1;have bh:Hi (FinQ a b d p mid L):=fun d' x y=>ae.o d' (u2 d' x y).1 (u2 d' x y).2;have bp:=Zh az;clear az aw af u1 u2 HL bn aq bf ae;go_wp2;go_roundw;exact ⟨p,mid,l2,_,ap,L,rfl,rfl,rfl,rfl,rfl,r1,by omega,by omega,ax,bp,bg,bh⟩;simp only [intOf];omega
open Go.RowKit Go.Sort Go.Lib
theorem Zlm (w0 W:World)(blk off m cap:Nat)(d:Array Int)(h:Sq w0 blk off m W d)(hm:m<1000000) :
    Calls prog 142 #[.slice (some ⟨blk,off,none⟩) m cap] W (SoS w0 blk off m 0 m d):=by
  have aa:Hi (∀V,Calls prog 92 #[.int .u64 (m:Nat)] V fun e w'=>e=.returned (.int .i64 (Lib.bitLen m:Nat))∧w'=V):=by
   intro V;have hc:=Go.Proofs.Any.bits_Len (SlLaysF0.n15.bits (P:=prog) (ρ:=Zbc) { Zln with }) (m:Int) V (by omega) (by omega);rwa [Int.toNat_natCast] at hc
  have ac:Lib.bitLen m<1000000:=Nat.lt_of_le_of_lt (Lib.bitLen_le m 62 (by omega) (by omega)) (by omega);have HC:=Zh (Zm4 w0 blk off m cap hm m W 0 m (Lib.bitLen m) d (by omega) h (Nat.zero_le _) (Nat.le_refl _) ac (.inl rfl));have ab:Hi (Calls prog 172 #[.slice (some ⟨blk,off,none⟩) m cap,.int .i64 0,.int .i64 (m:Nat),.int .i64 (Lib.bitLen m:Nat)] W (SoS w0 blk off m 0 m d)):=HC;(have wr:IntKind.u64.wrap (m:Int)=m:=by simp [IntKind.wrap,IntKind.bits,IntKind.signed];omega);clear h HC ac;generalize Lib.bitLen m=bl at *;go_enter func142,ntmps142;go_wp2_with fail;refine(aa.o _).mono ?_;rintro e w' ⟨rfl,hw⟩;obtain rfl:=hw.symm;go_wp2_with fail;refine ab.o.mono ?_;rintro e w1 ⟨rfl,ad⟩;have HS:=Zh ad;clear ad ab;go_wp2_with fail;go_end0;exact⟨rfl,HS.o⟩
theorem ZiS (W:World):Calls prog 142 #[.slice none 0 0] W fun e w'=>e=.returned (.tuple #[])∧w'=W:=by
 have aa:Hi (∀V,Calls prog 92 #[.int .u64 0] V fun e w'=>e=.returned (.int .i64 0)∧w'=V):=by
  intro V;have hc:=Go.Proofs.Any.bits_Len (SlLaysF0.n15.bits (P:=prog) (ρ:=Zbc) { Zln with }) 0 V (by omega) (by omega);exact hc
 have hI:Hi (∀V,Calls prog 189 #[.slice none 0 0,.int .i64 0,.int .i64 0] V fun e w'=>e=.returned (.tuple #[])∧w'=V):=by
  intro V;go_enter func189,ntmps189;go_wp2_with fail;refine wp_loop_rounds 1 ?_;rw [rounds_succ];go_wp2_with fail;go_end0;exact⟨rfl,rfl⟩
 have hP:Hi (∀V,Calls prog 172 #[.slice none 0 0,.int .i64 0,.int .i64 0,.int .i64 0] V fun e w'=>e=.returned (.tuple #[])∧w'=V):=by
  intro V;go_enter func172,ntmps172;go_wp2_with fail;refine wp_loop_rounds 1 ?_;rw [rounds_succ];go_wp2_with fail;refine(hI.o _).mono ?_;rintro e w' ⟨rfl,hw⟩;obtain rfl:=hw.symm;go_wp2_with fail;(try simp only [Exit.inBlock,Exit.then]);refine bodyPost_ret (results_none rfl _ _ _) rfl ?_;exact⟨rfl,rfl⟩
 go_enter func142,ntmps142;go_wp2_with fail;refine(aa.o _).mono ?_;rintro e w' ⟨rfl,hw⟩;obtain rfl:=hw.symm;go_wp2_with fail;refine(hP.o _).mono ?_;rintro e w1 ⟨rfl,hw⟩;obtain rfl:=hw.symm;go_wp2_with fail;go_end0;exact⟨rfl,rfl⟩
theorem Zhw (d:List Int)(j:Nat)(h0:0<j)(hj:j<d.length):keeps d.toArray j=true↔d[j]≠d[j-1]'(by omega):=by
 unfold keeps;rw [decide_eq_true_eq,getElem!_pos d.toArray j (by simpa using hj),getElem!_pos d.toArray (j-1) (by simp;omega)];simp only [List.getElem_toArray];constructor
 · rintro (h | h)
   · omega
   · exact h
 · exact .inr
theorem ZfD (D ks:List Int)(hp:D.Perm ks)(ac:∀i j (ad:i<j)(hj:j<D.length),D[i]'(by omega)≤D[j]):decide ((compactUpTo D.toArray D.toArray.size).length<ks.length) = !decide ks.Nodup:=by
 have ab:=hp.length_eq;(have ae:D.toArray.size=ks.length:=by simp [ab]);rw [ae];by_cases aa:∀j,j<ks.length→keeps D.toArray j=true
 · have hn:ks.Nodup:=by
    rw [← hp.nodup_iff];refine List.pairwise_iff_getElem.2 fun i j hi hj ad=>?_;have hk:=(Zhw D j (by omega) hj).1 (aa j (by rw [← ab];exact hj));have h2:=ac (j-1) j (by omega) hj;by_cases e:i=j-1
    · subst e;exact fun h=>hk h.symm
    · have h1:=ac i (j-1) (by omega) (by omega);intro h;omega
   rw [compactUpTo_all _ _ aa];simp [hn]
 · have hn:¬ks.Nodup:=by
    intro hn;apply aa;intro j hj;rcases Nat.eq_zero_or_pos j with rfl | h0
    · exact keeps_lt_one _ 0 (by omega)
    · rw [Zhw D j h0 (by rw [ab];exact hj)];have:=List.pairwise_iff_getElem.1 (hp.nodup_iff.2 hn) (j-1) j (by omega) (by omega) (by omega);exact fun h=>this h.symm
   have hl:(compactUpTo D.toArray ks.length).length<ks.length:=by
    unfold compactUpTo;rw [List.length_map];have:((List.range ks.length).filter (keeps D.toArray)).length<(List.range ks.length).length:=by
     rw [List.length_filter_lt_length_iff_exists];have:∃j,¬(j<ks.length→keeps D.toArray j=true):=Classical.not_forall.1 aa;obtain⟨j,hj⟩:=this;rw [Classical.not_imp] at hj;exact⟨j,List.mem_range.2 hj.1,hj.2⟩
    simpa using this
   rw [decide_eq_true hl,decide_eq_false hn];rfl
theorem ZfE {g off n:Nat}(d:Array Int):Frm (fun k=>k=g) w (putRow uE (Sort.ahead w n) g off d):=by
 refine⟨rfl,rfl,rfl,by simp [putRow,mapBlock,Sort.ahead],fun k _ hk=>?_⟩;simp only [putRow,mapBlock,Sort.ahead,Array.getElem?_modify];rw [if_neg (fun e=>hk e.symm)]
def uVals (ks:List Int):List Value:=ks.map (.int .u64)
theorem Zfr (ks:List Int):(uVals ks).length=ks.length:=by simp [uVals]
theorem Znk (w:World)(s:Sl)(ks:List Int)(h:Own 88 1 w s (uVals ks))(hl:ks.length<1000000) :
    Calls prog 108 #[s.val] w fun e w'=>e=.returned (.bool (!decide ks.Nodup))∧Frm (fun k=>s.blk=some k) w w':=by
  (have af:ks.length=s.len:=by have:=h.1;rw [Zfr,Nat.mul_one] at this;exact this);rcases h.2 with ⟨rfl,h0⟩ | ⟨g,off,cur,ha,hg,aw,au,av,ht⟩
  · have:ks=[]:=by
     have:=congrArg List.length h0;rw [Zfr] at this;exact List.eq_nil_of_length_eq_zero this
    subst this;have HS:=Zh (ZiS w);have HC:Hi (Calls prog 143 #[.slice none 0 0] w fun e w'=>e=.returned (.slice none 0 0)∧w'=w):=by
     clear h hl af h0 HS;go_enter func143,ntmps143;go_wp2;go_ret;exact⟨rfl,rfl⟩
    rw [show (!decide ([]:List Int).Nodup)=false by decide];unfold Sl.nil Sl.val;clear h hl af h0;go_enter func108,ntmps108;go_wp2_with fail;refine HS.o.mono ?_;rintro e w' ⟨rfl,hw⟩;obtain rfl:=hw.symm;go_wp2_with fail;refine HC.o.mono ?_;rintro e w' ⟨rfl,hw⟩;obtain rfl:=hw.symm;go_wp2;go_ret;exact⟨rfl,Frm.refl _ _⟩
  · obtain⟨sa,sn,sc⟩:=s;simp only at ha af aw au av ht;subst ha;(have ax:ks.toArray.size=sn:=by simp [af]);have hH:Holds uE w g off ks.toArray:=by
     intro j hj;(have hj':j<ks.length:=by simpa using hj);refine⟨?_,frozen_of_row w g _ _ _ hg⟩;have ae:=h.cell rfl j (.int .u64 ks[j]) (by simp [uVals,hj']);rw [Addr.add_lit] at ae;rw [ae,getElem!_pos ks.toArray j hj];simp [uE]
    have ao:Hi (Sq w g off sn w ks.toArray):=⟨ax,hH,Frm.refl _ _⟩;have HS:=Zh (Zlm w w g off sn sc ks.toArray ao.o (by omega));have ay:sn≤sc:=au;clear h hg aw au av ht hH;unfold Sl.val Sl.blk;simp only [Option.map_some,Option.some.injEq];by_cases am:ks.Nodup
    · rw [show (!decide ks.Nodup)=false by simp [am]];go_enter func108,ntmps108;go_wp2_with fail;refine HS.o.mono ?_;rintro e w1 ⟨rfl,d',aa,ab,ad⟩;have ap:d'.size=sn:=ad.size;have ak:d'.toList.Perm ks:=by
       have:=aa.2.2;rw [Array.extract_eq_self_of_le (by omega),Array.extract_eq_self_of_le (by omega)] at this;simpa using this
      have ac:=ZfD d'.toList ks ak (fun i j ar hj=>by
       (have hj':j<d'.size:=by simpa using hj);have:=ab i j (Nat.zero_le _) ar (by omega);rw [getElem!_pos d' j hj',getElem!_pos d' i (by omega)] at this;unfold ltInt at this;simp only [decide_eq_false_iff_not,Int.not_lt] at this;simpa using this)
      rw [show (!decide ks.Nodup)=false by simp [am],Array.toArray_toList] at ac;have hc:=Go.Proofs.AnyE.slices_Compact Zjp uE (fun _=>rfl) (EqlAt.intD _ _ .u64) (NeqAt.intD _ _ .u64) 0 zeroValue88 g off sc d' w1 ad.holds (by omega) (by omega);change Calls prog 143 _ _ _ at hc;rw [ap] at hc ac;(have aj:¬(compactUpTo d' sn).length<sn:=by rw [← af];rw [← af] at ac;simpa using ac);have HC:=Zh hc;have ai:=ad.frm;have ag:=Zh ai;generalize compactUpTo d' sn=cu at *;clear hc ac ad ab aa ak ao HS ai;obtain⟨cn,ah⟩:∃cn,cn=cu.length:=⟨_,rfl⟩;rw [← ah] at aj HC;(have aq:¬(cn:Int)<(sn:Int):=by omega);clear ah aj;go_wp2_with fail;refine HC.o.mono ?_;rintro e w2 ⟨rfl,q,al⟩;(have an:Hi (Frm (fun k=>k=g) w w2):=by show Frm _ _ _;rw [al];exact ag.o.trans (ZfE _) (fun _ _ e=>e));clear al HC ag;go_wp2;go_ret;exact⟨by simp;omega,an.o.mono (fun i _ e=>e.symm)⟩
    · rw [show (!decide ks.Nodup)=true by simp [am]];go_enter func108,ntmps108;go_wp2_with fail;refine HS.o.mono ?_;rintro e w1 ⟨rfl,d',aa,ab,ad⟩;have ap:d'.size=sn:=ad.size;have ak:d'.toList.Perm ks:=by
       have:=aa.2.2;rw [Array.extract_eq_self_of_le (by omega),Array.extract_eq_self_of_le (by omega)] at this;simpa using this
      have ac:=ZfD d'.toList ks ak (fun i j ar hj=>by
       (have hj':j<d'.size:=by simpa using hj);have:=ab i j (Nat.zero_le _) ar (by omega);rw [getElem!_pos d' j hj',getElem!_pos d' i (by omega)] at this;unfold ltInt at this;simp only [decide_eq_false_iff_not,Int.not_lt] at this;simpa using this)
      rw [show (!decide ks.Nodup)=true by simp [am],Array.toArray_toList] at ac;have hc:=Go.Proofs.AnyE.slices_Compact Zjp uE (fun _=>rfl) (EqlAt.intD _ _ .u64) (NeqAt.intD _ _ .u64) 0 zeroValue88 g off sc d' w1 ad.holds (by omega) (by omega);change Calls prog 143 _ _ _ at hc;rw [ap] at hc ac;(have aj:(compactUpTo d' sn).length<sn:=by rw [← af];rw [← af] at ac;simpa using ac);have HC:=Zh hc;have ai:=ad.frm;have ag:=Zh ai;generalize compactUpTo d' sn=cu at *;clear hc ac ad ab aa ak ao HS ai;obtain⟨cn,ah⟩:∃cn,cn=cu.length:=⟨_,rfl⟩;rw [← ah] at aj HC;(have aq:(cn:Int)<(sn:Int):=by omega);clear ah aj;go_wp2_with fail;refine HC.o.mono ?_;rintro e w2 ⟨rfl,q,al⟩;(have an:Hi (Frm (fun k=>k=g) w w2):=by show Frm _ _ _;rw [al];exact ag.o.trans (ZfE _) (fun _ _ e=>e));clear al HC ag;go_wp2;go_ret;exact⟨by simp,an.o.mono (fun i _ e=>e.symm)⟩
structure Sx where
  i:Nat
  k:Nat
  x:Rx
def Sx.hr (y:Sx):Hr:=⟨y.x.r,y.i,y.k⟩
def Sx.cells (y:Sx):List Value:=[.int .i64 (y.i:Nat),.int .i64 (y.k:Nat),.float .f64 y.x.r.key,.bool y.x.r.dead,.slice y.x.a y.x.n y.x.c,.int .i64 y.x.r.wr,.int .i64 y.x.r.cell,.int .i64 y.x.r.no]
def Sx.val (y:Sx):Value:=.agg #[.int .i64 (y.i:Nat),.int .i64 (y.k:Nat),.float .f64 y.x.r.key,.bool y.x.r.dead,.slice y.x.a y.x.n y.x.c,.int .i64 y.x.r.wr,.int .i64 y.x.r.cell,.int .i64 y.x.r.no]
def Sx.zero:Sx:=⟨0,0,Rx.zero⟩
def ZaK (l:List Sx):List Value:=l.flatMap Sx.cells
theorem Zcy:∀l:List Sx,(ZaK l).length=l.length*8
 | []=>rfl
 | y :: l=>by
  have e:ZaK (y :: l)=y.cells ++ ZaK l:=rfl
  rw [e,List.length_append,Zcy l,List.length_cons]
  have:y.cells.length=8:=rfl
  omega
theorem Zgo (l m:List Sx):ZaK (l ++ m)=ZaK l ++ ZaK m:=by simp [ZaK]
theorem Zf6 (l:List Sx):∀u∈ZaK l,u.oneCell'=true:=by
 intro u hu;obtain⟨y,_,hy⟩:=List.mem_flatMap.1 hu;simp only [Sx.cells,List.mem_cons,List.not_mem_nil,or_false] at hy;rcases hy with rfl | rfl | rfl | rfl | rfl | rfl | rfl | rfl <;> rfl
theorem Zf5:∀(l:List Sx)(j t:Nat),j<l.length→t<8→(ZaK l)[j*8+t]? = (l.getD j Sx.zero).cells[t]?
 | [],j,t,hj,_=>by simp at hj
 | y :: l,0,t,_,ht=>by
  have e:ZaK (y :: l)=y.cells ++ ZaK l:=rfl
  have hl:y.cells.length=8:=rfl
  rw [e,Nat.zero_mul,Nat.zero_add,List.getElem?_append_left (by omega)]
  rfl
 | y :: l,j+1,t,hj,ht=>by
  have e:ZaK (y :: l)=y.cells ++ ZaK l:=rfl
  have hl:y.cells.length=8:=rfl
  rw [e,List.getElem?_append_right (by omega),hl,show (j+1)*8+t-8=j*8+t by omega]
  exact Zf5 l j t (by simpa using hj) ht
theorem ZqP:(prog.info? 118).map (fun i=>(i.zero,i.size,i.bytes))=some (some (.agg #[.int .i64 0,.int .i64 0,.float .f64 0,.bool false,.slice none 0 0,.int .i64 0,.int .i64 0,.int .i64 0]),8,80):=by kernel_rfl
theorem Zp3:(prog.info? 88).map (fun i=>(i.zero,i.size,i.bytes))=some (some (.int .u64 0),1,8):=by kernel_rfl
def rkS (l:List Sx):List Int:=l.map fun y=>((Fl.rk y.x.r.key:Nat):Int)
structure Stk (w0 w:World) (bA bR:Nat) (S:List Sx):Prop where
  ex:∃sA sR:Sl,w.heap[bA]? = some (.cells #[sA.val] 114 (0,0))∧w.heap[bR]? = some (.cells #[sR.val] 154 (0,0))∧Own 118 8 w sA (ZaK S)∧Own 88 1 w sR (uVals (rkS S))∧(∀k,sA.blk=some k→w0.heap.size≤k)∧(∀k,sR.blk=some k→w0.heap.size≤k)
  newA:w0.heap.size≤bA
  newR:w0.heap.size≤bR
  below:Bl w0 w
  flt:∀y∈S,ColF w y.x
  fits:∀y∈S,y.x.r.fits
theorem Stk.keep {w':World}{S:List Sx}(h:Stk w0 w bA bR S)(hb:Bl w w'):Stk w0 w' bA bR S:=by
 obtain⟨sA,sR,h1,h2,h3,h4,h5,h6⟩:=h.ex;refine⟨⟨sA,sR,(hb.block _ (Array.getElem?_eq_some_iff.1 h1).1).trans h1,(hb.block _ (Array.getElem?_eq_some_iff.1 h2).1).trans h2,Own.frame h3 (fun k hk=>hb.block k (Own.lt h3 hk)),Own.frame h4 (fun k hk=>hb.block k (Own.lt h4 hk)),h5,h6⟩,h.newA,h.newR,h.below.trans (hb.mono h.below.size),fun y hy=>(h.flt y hy).keep hb,h.fits⟩
theorem ZeE (v:Int)(w:World):(Instr.buildSlice 154 1 #[(0,.int .u64 v)]).run prog w=.ok (.slice (some ⟨w.heap.size,0,none⟩) 1 1) (w.alloc (.cells #[.int .u64 v] 88)):=by
 simp [go_sem,Instr.buildSlice]
theorem Zr1 (w:World)(y:Sx):Src prog 8 114 (.slice (some ⟨w.heap.size,0,none⟩) 1 1) 1 (ZaK [y]) (w.alloc (.cells y.cells.toArray 118)):=by
 refine Src.ofSlice _ underlying114 ⟨w.heap.size,0,none⟩ 1 1 (ZaK [y]) rfl (fun j u hj=>?_) (Zf6 _);have hb:(w.alloc (.cells y.cells.toArray 118)).heap[w.heap.size]? = some (.cells y.cells.toArray 118 (0,0)):=heap_alloc_new w _;rw [Addr.add_lit,cell_of_row _ _ _ _ _ _ hb];simpa [ZaK,Sx.cells] using hj
theorem Zqq (w:World)(v:Int):Src prog 1 154 (.slice (some ⟨w.heap.size,0,none⟩) 1 1) 1 (uVals [v]) (w.alloc (.cells #[.int .u64 v] 88)):=by
 refine Src.ofSlice _ underlying154 ⟨w.heap.size,0,none⟩ 1 1 (uVals [v]) rfl (fun j u hj=>?_) (by intro u hu;simp [uVals] at hu;subst hu;rfl);have hb:(w.alloc (.cells #[.int .u64 v] 88)).heap[w.heap.size]? = some (.cells #[.int .u64 v] 88 (0,0)):=heap_alloc_new w _;rw [Addr.add_lit,cell_of_row _ _ _ _ _ _ hb];simpa [uVals] using hj
theorem Zl6 {t:TypeId}{v:Value}(h:w.heap[b]? = some (.cells #[v] t (0,0)))(u:Value):(w.setCell ⟨b,0,none⟩ u).heap[b]? = some (.cells #[u] t (0,0))∧Frm (fun k=>k=b) w (w.setCell ⟨b,0,none⟩ u):=by
 refine⟨?_,Frm.setCell (F:=fun k=>k=b) (Frm.refl _ w) rfl u⟩;simp only [World.setCell];rw [Array.getElem?_modify,if_pos rfl,h];rfl
theorem Zbo {t:TypeId}{v:Value}(h:w.heap[b]? = some (.cells #[v] t (0,0))):w.cell? ⟨b,0,none⟩=some v∧w.frozen? ⟨b,0,none⟩=false:=by
 refine⟨?_,frozen_of_row w b 0 _ t h⟩;rw [cell_of_row _ _ _ _ _ _ h];rfl
theorem Stk.all {S:List Sx}(h:Stk w0 w bA bR S)(y:Sx)(hl:S.length+1≤100000) :
    ∃(sA s':Sl) (W:World),w.heap[bA]? = some (.cells #[sA.val] 114 (0,0))∧(∀ty,(Builtin.append_ #[114,114] ty #[sA.val,.slice (some ⟨w.heap.size,0,none⟩) 1 1]).run prog (w.alloc (.cells y.cells.toArray 118))=.ok s'.val W)∧W.heap[bA]? = some (.cells #[sA.val] 114 (0,0)) ∧
     (∃sR:Sl,(W.setCell ⟨bA,0,none⟩ s'.val).heap[bA]? = some (.cells #[s'.val] 114 (0,0))∧(W.setCell ⟨bA,0,none⟩ s'.val).heap[bR]? = some (.cells #[sR.val] 154 (0,0))∧Own 118 8 (W.setCell ⟨bA,0,none⟩ s'.val) s' (ZaK (S ++ [y]))∧Own 88 1 (W.setCell ⟨bA,0,none⟩ s'.val) sR (uVals (rkS S))∧(∀k,s'.blk=some k→w0.heap.size≤k)∧(∀k,sR.blk=some k→w0.heap.size≤k)) ∧
     Bl w0 (W.setCell ⟨bA,0,none⟩ s'.val)∧(∀k,k<w.heap.size→(∃(C:Array Value) (fr:Nat × Nat),w.heap[k]? = some (Obj.cells C 32 fr)∨w.heap[k]? = some (Obj.cells C 39 fr)∨w.heap[k]? = some (Obj.cells C 67 fr))→(W.setCell ⟨bA,0,none⟩ s'.val).heap[k]? = w.heap[k]?)∧w.heap.size≤W.heap.size:=by
 obtain⟨sA,sR,h1,h2,h3,h4,h5,h6⟩:=h.ex;have hB:=Zab w (.cells y.cells.toArray 118);have h3':Own 118 8 (w.alloc (.cells y.cells.toArray 118)) sA (ZaK S):=Own.frame h3 (fun k hk=>hB.block k (Own.lt h3 hk));(have ak:S.length=sA.len:=by have:=h3.1;rw [Zcy] at this;omega);obtain⟨s',W,ag,ho,ai,ae,ah⟩:=Zaz underlying114 ZqP rfl (by decide) _ sA (ZaK S) h3' (Zf6 S) _ 1 (ZaK [y]) (Zr1 w y) (by omega) 0;have l1:=(Array.getElem?_eq_some_iff.1 h1).1;have l2:=(Array.getElem?_eq_some_iff.1 h2).1;have ad:∀(k:Nat) (C:Array Value) (t:TypeId) (fr:Nat × Nat),w.heap[k]? = some (Obj.cells C t fr)→t≠118→W.heap[k]? = w.heap[k]?:=by
  intro k C t fr hk ht;have af:=(Array.getElem?_eq_some_iff.1 hk).1;refine(ae.block k (Nat.lt_of_lt_of_le af hB.size) (fun e=>?_)).trans (hB.block k af);obtain⟨cur,ab⟩:=Own.kind h3' e;rw [hB.block k af,hk] at ab;simp only [Option.some.injEq,Obj.cells.injEq] at ab;exact ht ab.2.1
 have h1':=(ad bA _ _ _ h1 (by decide)).trans h1;have h2':=(ad bR _ _ _ h2 (by decide)).trans h2;obtain⟨b1,f1⟩:=Zl6 h1' s'.val;have aj:bR≠bA:=by
  intro e;rw [e,h1] at h2;simp only [Option.some.injEq,Obj.cells.injEq] at h2;exact absurd h2.2.1 (by decide)
 have l1W:bA<W.heap.size:=(Array.getElem?_eq_some_iff.1 h1').1;have ac:Bl w0 W:=(Zac h.below hB).trans (ae.below (Zac h.below hB).size (fun k hk=>h5 k hk));have aa:∀k:Nat,(∃(C:Array Value) (t:TypeId) (fr:Nat × Nat),W.heap[k]? = some (Obj.cells C t fr)∧t≠114)→(W.setCell ⟨bA,0,none⟩ s'.val).heap[k]? = W.heap[k]?:=by
  rintro k ⟨C,t,fr,hk,ht⟩;refine f1.block k (Array.getElem?_eq_some_iff.1 hk).1 (fun e=>?_);rw [e,h1'] at hk;simp only [Option.some.injEq,Obj.cells.injEq] at hk;exact ht hk.2.1.symm
 refine⟨sA,s',W,h1,fun ty=>ag,h1',⟨sR,b1,?_,?_,?_,fun k hk=>?_,h6⟩,ac.trans (f1.below ac.size (fun k hk=>by rw [hk];exact h.newA)),?_,Nat.le_trans hB.size ae.size⟩
 · exact(aa bR ⟨_,_,_,h2',by decide⟩).trans h2'
 · (have ho':Own 118 8 W s' (ZaK (S ++ [y])):=by rw [Zgo];exact ho);exact Own.frame ho' (fun k hk=>by
    obtain⟨cur,ab⟩:=Own.kind ho' hk;exact aa k ⟨_,_,_,ab,by decide⟩)
 · refine Own.frame h4 (fun k hk=>?_);obtain⟨cur,ab⟩:=Own.kind h4 hk;have e:=ad k _ _ _ ab (by decide);exact(aa k ⟨_,_,_,e.trans ab,by decide⟩).trans e
 · rcases ah with e | ⟨e,_⟩
   · exact h5 k (by rw [← e];exact hk)
   · rw [e] at hk;cases hk;have:=h.below.size;rw [Zae];omega
 · rintro k hk ⟨C,fr,hc | hc | hc⟩
   · have e:=ad k _ _ _ hc (by decide);exact(aa k ⟨_,_,_,e.trans hc,by decide⟩).trans e
   · have e:=ad k _ _ _ hc (by decide);exact(aa k ⟨_,_,_,e.trans hc,by decide⟩).trans e
   · have e:=ad k _ _ _ hc (by decide);exact(aa k ⟨_,_,_,e.trans hc,by decide⟩).trans e
theorem Zjy:∀args w,(callFunc 107 args).run prog w=.ok (.enter 107 args) w:=Pl.qi func107
theorem Zpv (p:Nat)(w:World):(Instr.fieldAt 39 (.pointer (some ⟨p,0,none⟩)) 0).run prog w=.ok (.pointer (some ⟨p,0,none⟩)) w:=by simp [go_sem,Instr.fieldAt]
theorem ZqS {p:Nat}{r:Rw}{c:Value}(h:RwBlk w p r c):(Instr.loadAt 32 (.pointer (some ⟨p,0,none⟩))).run prog w=.ok (.float .f64 r.key) w:=by
 have c0:=h.c0;simp [go_sem,c0]
theorem Ziy {s:Sl}(h:w.heap[b]? = some (.cells #[s.val] 154 (0,0))):(Instr.loadAt 154 (.pointer (some ⟨b,0,none⟩))).run prog w=.ok s.val w:=by
 have c0:=(Zbo h).1;unfold Sl.val at *;simp [go_sem,c0]
theorem Zqt {s:Sl}(h:w.heap[b]? = some (.cells #[s.val] 154 (0,0)))(u:Sl):(Instr.storeAt 154 (.pointer (some ⟨b,0,none⟩)) u.val).run prog w=.ok () (w.setCell ⟨b,0,none⟩ u.val):=by
 have c0:=(Zbo h).1;have f0:=(Zbo h).2;unfold Sl.val at *;simp [go_sem,c0,f0]
structure RkEnd (w w':World) (bR:Nat) (sR:Sl) (us:List Int):Prop where
  ex:∃s':Sl,w'.heap[bR]? = some (.cells #[s'.val] 154 (0,0))∧Own 88 1 w' s' (uVals us)∧(s'.blk=sR.blk∨∀k,s'.blk=some k→w.heap.size≤k)
  frm:Frm (fun k=>k=bR∨sR.blk=some k) w w'
theorem Zsk (w:World)(p bR:Nat)(r:Rw)(c:Value)(sR:Sl)(us:List Int)(hx:RwBlk w p r c)(hb:w.heap[bR]? = some (.cells #[sR.val] 154 (0,0)))(ho:Own 88 1 w sR (uVals us))(hk:r.key<18446744073709551616)(hl:us.length+1≤100000)
    {Q:Exit→Act→World→Prop}{A:Act}(ba:A.tmps.size=18)(aw:A.defers=[])(s3:A.tmps.getD 3 undef=.pointer (some ⟨bR,0,none⟩))(s5:A.tmps.getD 5 undef=.pointer (some ⟨p,0,none⟩))
    (hend:∀(u:Nat→Value) w',RkEnd w w' bR sR (us ++ [((Fl.rk r.key:Nat):Int)])→Q .normal ((((((A.put (some 13) (u 13)).put (some 14) (u 14)).put (some 12) (u 12)).put (some 15) (u 15)).put (some 16) (u 16)).put (some 17) (u 17)) w') :
    Pl.rg prog 2 f106 Q A w:=by
  obtain⟨v,hv⟩:∃v:Int,v=((Fl.rk r.key:Nat):Int):=⟨_,rfl⟩;(have ar:∀w,Calls prog 107 #[.float .f64 r.key] w fun e w'=>e=.returned (.int .u64 v)∧w'=w:=fun w=>by rw [hv];exact Zot r.key hk w);rw [← hv] at hend;have af:=Zab w.drew (.cells #[.int .u64 v] 88);have ah:w.drew.heap[bR]? = some (.cells #[sR.val] 154 (0,0)):=hb;have ap:Own 88 1 w.drew sR (uVals us):=ho;have aj:(w.drew.alloc (.cells #[.int .u64 v] 88)).heap[bR]? = some (.cells #[sR.val] 154 (0,0)):=(af.block _ (Array.getElem?_eq_some_iff.1 ah).1).trans ah;have aq:Own 88 1 (w.drew.alloc (.cells #[.int .u64 v] 88)) sR (uVals us):=Own.frame ap (fun k hk=>af.block k (Own.lt ap hk));(have bb:us.length=sR.len:=by have:=ho.1;rw [Zfr,Nat.mul_one] at this;exact this);obtain⟨s',w2,ac,az,ax,an,av⟩:=Zaz underlying154 Zp3 rfl (by decide) _ sR (uVals us) aq (by intro u hu;obtain ⟨q,_,rfl⟩:=List.mem_map.1 hu;rfl) _ 1 (uVals [v]) (Zqq w.drew v) (by omega) 154;have ab:RwBlk w.drew p r c:=hx;have ad:RwBlk (w.drew.alloc (.cells #[.int .u64 v] 88)) p r c:=ab.keep af;have ao:∀(k:Nat) (C:Array Value) (t:TypeId) (fr:Nat × Nat),(w.drew.alloc (.cells #[.int .u64 v] 88)).heap[k]? = some (Obj.cells C t fr)→t≠88→w2.heap[k]? = (w.drew.alloc (.cells #[.int .u64 v] 88)).heap[k]?:=by
   intro k C t fr hk ht;refine an.block k (Array.getElem?_eq_some_iff.1 hk).1 (fun e=>?_);obtain⟨cur,aa⟩:=Own.kind aq e;rw [hk] at aa;simp only [Option.some.injEq,Obj.cells.injEq] at aa;exact ht aa.2.1
  have ae:RwBlk w2 p r c:=(ao p _ _ _ ad (by decide)).trans ad;have ak:w2.heap[bR]? = some (.cells #[sR.val] 154 (0,0)):=(ao bR _ _ _ aj (by decide)).trans aj;obtain⟨au,al⟩:=Zl6 ak s'.val;have am:=Zqt ak s';have ay:p≠bR:=by
   intro e;have h1:w.heap[p]? = some (.cells _ 39 (0,0)):=hx;rw [e,hb] at h1;simp only [Option.some.injEq,Obj.cells.injEq] at h1;exact absurd h1.2.1 (by decide)
  have ai:RwBlk (w2.setCell ⟨bR,0,none⟩ s'.val) p r c:=(al.block p (Array.getElem?_eq_some_iff.1 ae).1 ay).trans ae;have hE:RkEnd w (w2.setCell ⟨bR,0,none⟩ s'.val) bR sR (us ++ [v]):=by
   refine⟨⟨s',au,?_,?_⟩,?_⟩
   · (have ag:Own 88 1 w2 s' (uVals (us ++ [v])):=by unfold uVals at *;rw [List.map_append];exact az);exact Own.frame ag (fun k hk=>by
      obtain⟨cur,aa⟩:=Own.kind ag hk;refine al.block k (Array.getElem?_eq_some_iff.1 aa).1 (fun e=>?_);rw [e,ak] at aa;simp only [Option.some.injEq,Obj.cells.injEq] at aa;exact absurd aa.2.1 (by decide))
   · rcases av with e | ⟨e,_⟩
     · exact .inl e
     · refine .inr fun k hk=>?_;rw [e] at hk;cases hk;exact af.size
   · have f0:Frm (fun k=>k=bR∨sR.blk=some k) w w.drew:=(Frm.refl _ w).drew;have f1:Frm (fun k=>k=bR∨sR.blk=some k) w.drew (w.drew.alloc (.cells #[.int .u64 v] 88)):=Frm.ofBelow af;have f2:Frm (fun k=>k=bR∨sR.blk=some k) (w.drew.alloc (.cells #[.int .u64 v] 88)) w2:=an.mono (fun _ _ e=>.inr e);have f3:Frm (fun k=>k=bR∨sR.blk=some k) w2 (w2.setCell ⟨bR,0,none⟩ s'.val):=al.mono (fun _ _ e=>.inl e);exact((f0.trans f1 (fun _ _ e=>e)).trans f2 (fun _ _ e=>e)).trans f3 (fun _ _ e=>e)
  have hA:=Pl.At.same (v:=.pointer (some ⟨p,0,none⟩)) (d:=5) (Pl.At.same (v:=.pointer (some ⟨bR,0,none⟩)) (d:=3) (Pl.At.here ba aw) s3) s5;refine Pl.qb (S:=fun w'=>RwBlk w' p r c) hA ab ?_;rw [show (Pl.fd 2 f106).size=7 by kernel_rfl];refine Pl.q0 1 13 (.pointer (some ⟨p,0,none⟩)) (Pl.q1) (Pl.q6 39 (.tmp 5) 0 (Zpv p)) ab ?_;refine Pl.q0 2 14 (.float .f64 r.key) (Pl.q1) (Pl.q4 32 (.tmp 13) (fun w' hS=>ZqS hS)) ab ?_;refine Pl.qs 0 3 ?_ ?_
  · refine Pl.qj 0 12 sR.val w.drew (Pl.q_49 154 (.tmp 3) (Ziy ah)) ab ?_;refine Pl.q_45 3 ?_;refine Pl.q_36 3 15 107 [(.tmp 14)] #[32] Zjy (Calls.mono (ar w.drew) ?_);rintro e w' ⟨rfl,hw⟩;subst hw;refine⟨.int .u64 v,rfl,ab,?_⟩;refine Pl.q_45 4 ?_;refine Pl.qj 4 16 (.slice (some ⟨w.drew.heap.size,0,none⟩) 1 1) (w.drew.alloc (.cells #[.int .u64 v] 88)) (Pl.qu 154 (.tmp 15) (ZeE v w.drew)) ad ?_;refine Pl.qf 5 17 s'.val w2 (Pl.q1) (Pl.q_50 154 154 (.tmp 12) (.tmp 16) ac) ae ?_;refine Pl.ql 6 (w2.setCell ⟨bR,0,none⟩ s'.val) (Pl.q1) (Pl.qm 154 (.tmp 3) (.tmp 17) am) ai ?_;refine Pl.q8 (fun A' hA'=>?_);exact Pl.en hA' hA [13,14,12,15,16,17] (hend hA'.fn _ hE)
  · refine Pl.q_36 3 15 107 [(.tmp 14)] #[32] Zjy (Calls.mono (ar w.drew) ?_);rintro e w' ⟨rfl,hw⟩;subst hw;refine⟨.int .u64 v,rfl,ab,?_⟩;refine Pl.qs 0 4 ?_ ?_
    · refine Pl.qj 0 12 sR.val w.drew (Pl.q_49 154 (.tmp 3) (Ziy ah)) ab ?_;rw [Pl.qg 15 12];refine Pl.q_45 4 ?_;refine Pl.qj 4 16 (.slice (some ⟨w.drew.heap.size,0,none⟩) 1 1) (w.drew.alloc (.cells #[.int .u64 v] 88)) (Pl.qu 154 (.tmp 15) (ZeE v w.drew)) ad ?_;refine Pl.qf 5 17 s'.val w2 (Pl.q1) (Pl.q_50 154 154 (.tmp 12) (.tmp 16) ac) ae ?_;refine Pl.ql 6 (w2.setCell ⟨bR,0,none⟩ s'.val) (Pl.q1) (Pl.qm 154 (.tmp 3) (.tmp 17) am) ai ?_;refine Pl.q8 (fun A' hA'=>?_);exact Pl.en hA' hA [13,14,12,15,16,17] (hend hA'.fn _ hE)
    · refine Pl.qj 4 16 (.slice (some ⟨w.drew.heap.size,0,none⟩) 1 1) (w.drew.alloc (.cells #[.int .u64 v] 88)) (Pl.qu 154 (.tmp 15) (ZeE v w.drew)) ad ?_;refine Pl.q_45 0 ?_;refine Pl.qj 0 12 sR.val (w.drew.alloc (.cells #[.int .u64 v] 88)) (Pl.q_49 154 (.tmp 3) (Ziy aj)) ad ?_;rw [Pl.qg 16 12];rw [Pl.qg 15 12];refine Pl.qf 5 17 s'.val w2 (Pl.q1) (Pl.q_50 154 154 (.tmp 12) (.tmp 16) ac) ae ?_;refine Pl.ql 6 (w2.setCell ⟨bR,0,none⟩ s'.val) (Pl.q1) (Pl.qm 154 (.tmp 3) (.tmp 17) am) ai ?_;refine Pl.q8 (fun A' hA'=>?_);exact Pl.en hA' hA [13,14,12,15,16,17] (hend hA'.fn _ hE)
theorem Zop {S:List Sx}(h:Stk w0 w bA bR S)(y:Sx)(hc:ColF w y.x)(hf:y.x.r.fits)(hl:S.length+1≤100000) :
    Calls prog 106 #[btV ((y.i:Nat),(y.k:Nat)),y.x.val,.pointer (some ⟨bA,0,none⟩),.pointer (some ⟨bR,0,none⟩)] w fun e w'=>e=.returned (.tuple #[])∧Stk w0 w' bA bR (S ++ [y]):=by
  have bn:∀(w:World) (a:Addr) (m:Mode) (x:Nat),(store a (.float .f64 x) m).run prog w=stored prog w a (.float .f64 x) m:=fun w a m x=>run_store prog w a _ m rfl;obtain⟨i,k,r,a,n,cp⟩:=y;obtain⟨Y,hY⟩:∃Y:Sx,Y=⟨i,k,r,a,n,cp⟩:=⟨_,rfl⟩;have ap:=Zab w (.cells #[.int .i64 (i:Nat),.int .i64 (k:Nat)] 67);have ak:=Zab (w.alloc (.cells #[.int .i64 (i:Nat),.int .i64 (k:Nat)] 67)) (.cells #[.float .f64 r.key,.bool r.dead,.slice a n cp,.int .i64 r.wr,.int .i64 r.cell,.int .i64 r.no] 39);have hq:=(Zbv w ((i:Nat),(k:Nat))).keep ak;have hp:=Zai (w.alloc (.cells #[.int .i64 (i:Nat),.int .i64 (k:Nat)] 67)) r (.slice a n cp);rw [Zae] at hp;have al:=(h.keep ap).keep ak;have aw:=(hc.keep ap).keep ak;(have az:Y.x.r.fits:=by rw [hY];exact hf);have ba:r.key<18446744073709551616:=hf.key;(have bc:Y.cells=[.int .i64 (i:Nat),.int .i64 (k:Nat),.float .f64 r.key,.bool r.dead,.slice a n cp,.int .i64 r.wr,.int .i64 r.cell,.int .i64 r.no]:=by rw [hY];rfl);(have aj:((Fl.rk Y.x.r.key:Nat):Int)=((Fl.rk r.key:Nat):Int):=by rw [hY]);have bk:Hi ((w.alloc (.cells #[.int .i64 (i:Nat),.int .i64 (k:Nat)] 67)).alloc (.cells #[.float .f64 r.key,.bool r.dead,.slice a n cp,.int .i64 r.wr,.int .i64 r.cell,.int .i64 r.no] 39)=(w.alloc (.cells #[.int .i64 (i:Nat),.int .i64 (k:Nat)] 67)).alloc (.cells #[.float .f64 r.key,.bool r.dead,.slice a n cp,.int .i64 r.wr,.int .i64 r.cell,.int .i64 r.no] 39)):=rfl;obtain⟨W1,aq⟩:∃W1,W1=(w.alloc (.cells #[.int .i64 (i:Nat),.int .i64 (k:Nat)] 67)).alloc (.cells #[.float .f64 r.key,.bool r.dead,.slice a n cp,.int .i64 r.wr,.int .i64 r.cell,.int .i64 r.no] 39):=⟨_,rfl⟩;rw [← aq] at hq hp al aw;(have ay:ColF W1 Y.x:=by rw [hY];exact aw);have bj:=Zh aq;clear bk ap ak aq;show Calls prog 106 #[btV ((i:Nat),(k:Nat)),(⟨r,a,n,cp⟩:Rx).val,.pointer (some ⟨bA,0,none⟩),.pointer (some ⟨bR,0,none⟩)] w fun e w'=>e=.returned (.tuple #[])∧Stk w0 w' bA bR (S ++ [⟨i,k,r,a,n,cp⟩]);rw [show (⟨i,k,r,a,n,cp⟩:Sx)=Y from hY.symm];obtain⟨sA,s',W,au,ag,av,⟨sR,e1,e2,e3,e4,e5,e6⟩,ac,ab,bl⟩:=al.all Y hl;rw [bc] at ag;obtain⟨W2,ar⟩:∃W2,W2=W.setCell ⟨bA,0,none⟩ s'.val:=⟨_,rfl⟩;rw [← ar] at e1 e2 e3 e4 ac ab;have ax:=Zh ar;have bb:=ab _ (Array.getElem?_eq_some_iff.1 hp).1 ⟨_,_,.inr (.inl hp)⟩;have bh:Hi (RwBlk W2 (w.heap.size+1) r (.slice a n cp)):=bb.trans hp;have am:Hi (∀y∈S ++ [Y],ColF W2 y.x):=by
   intro y hy;have af:ColF W1 y.x:=by
    rcases List.mem_append.1 hy with hy | hy
    · exact al.flt y hy
    · rw [List.mem_singleton.1 hy];exact ay
   have aa:∀b off,y.x.a=some ⟨b,off,none⟩→0<y.x.n→W2.heap[b]? = W1.heap[b]?:=by
    intro b off ha hn;obtain⟨C,fr,hk⟩:=af.home b off ha hn;exact ab b (Array.getElem?_eq_some_iff.1 hk).1 ⟨C,fr,.inl hk⟩
   refine⟨af.fs.same aa,fun b off ha hn=>?_⟩;obtain⟨C,fr,hk⟩:=af.home b off ha hn;exact⟨C,fr,(aa b off ha hn).trans hk⟩
  have ao:Hi (∀y∈S ++ [Y],y.x.r.fits):=by
   intro y hy;rcases List.mem_append.1 hy with hy | hy
   · exact h.fits y hy
   · rw [List.mem_singleton.1 hy];exact az
  (have bi:Hi ((rkS S).length+1≤100000):=by show _≤_;unfold rkS;rw [List.length_map];exact hl);have bf:Hi (∀w',RkEnd W2 w' bR sR (rkS S ++ [((Fl.rk r.key:Nat):Int)])→Stk w0 w' bA bR (S ++ [Y])):=by
   rintro w' ⟨⟨s2,g1,g2,g3⟩,gf⟩;have ae:∀(b:Nat) (C:Array Value) (t:TypeId) (fr:Nat × Nat),W2.heap[b]? = some (Obj.cells C t fr)→t≠88→t≠154→w'.heap[b]? = W2.heap[b]?:=by
    intro b C t fr hb h1 h2;refine gf.block b (Array.getElem?_eq_some_iff.1 hb).1 ?_;rintro (e | e)
    · rw [e,e2] at hb;simp only [Option.some.injEq,Obj.cells.injEq] at hb;exact h2 hb.2.1.symm
    · obtain⟨cur,ad⟩:=Own.kind e4 e;rw [hb] at ad;simp only [Option.some.injEq,Obj.cells.injEq] at ad;exact h1 ad.2.1
   have ai:Bl w0 w':=ac.trans (gf.below ac.size (fun k hk=>by
    rcases hk with rfl | hk
    · exact h.newR
    · exact e6 k hk))
   refine⟨⟨s',s2,(ae bA _ _ _ e1 (by decide) (by decide)).trans e1,g1,Own.frame e3 (fun b hb=>?_),?_,e5,fun b hb=>?_⟩,h.newA,h.newR,ai,fun y hy=>?_,ao.o⟩
   · obtain⟨cur,ad⟩:=Own.kind e3 hb;exact ae b _ _ _ ad (by decide) (by decide)
   · (have:rkS (S ++ [Y])=rkS S ++ [((Fl.rk r.key:Nat):Int)]:=by unfold rkS;rw [List.map_append,List.map_cons,aj];rfl);rw [this];exact g2
   · rcases g3 with e | e
     · exact e6 b (by rw [← e];exact hb)
     · exact Nat.le_trans ac.size (e b hb)
   · have af:=am.o y hy;have aa:∀b off,y.x.a=some ⟨b,off,none⟩→0<y.x.n→w'.heap[b]? = W2.heap[b]?:=by
      intro b off ha hn;obtain⟨C,fr,hk⟩:=af.home b off ha hn;exact ae b _ _ _ hk (by decide) (by decide)
     refine⟨af.fs.same aa,fun b off ha hn=>?_⟩;obtain⟨C,fr,hk⟩:=af.home b off ha hn;exact⟨C,fr,(aa b off ha hn).trans hk⟩
  have ah:=Zh ag;have bd:=Zh e2;have be:=Zh e4;have bg:=Zh ba;have q0:=hq.c0;have q1:=hq.c1;have p0:=hp.c0;have p1:=hp.c1;have p2:=hp.c2;have p3:=hp.c3;have p4:=hp.c4;have p5:=hp.c5;have a0:=(Zbo au).1;have aw0:=(Zbo av).1;have aw1:=(Zbo av).2;have bm:=(Array.getElem?_eq_some_iff.1 au).1;unfold Sl.val at ah a0 aw0 ax

  unfold btV Rx.val Rw.val;simp only;clear h hc hf hq hp al aw ay az ba bc aj hY au ag av e1 e2 e3 e4 e5 e6 ac ab bl bb ar;go_enter func106,ntmps106;go_upto_region 1 with fail;rw [← bj.o];go_upto_region 2 with (at_builtin;refine Zaq _ rfl 114 (.tmp 6) (.tmp 10) rfl (.slice sA.a sA.len sA.cap) (.slice (some ⟨W1.heap.size,0,none⟩) 1 1) (.slice s'.a s'.len s'.cap) rfl rfl W ah.o ?_);rw [← ax.o];refine Pl.q9 (ops:=Pl.fd 2 f106) ?_;refine Zsk W2 (w.heap.size+1) bR r (.slice a n cp) sR (rkS S) bh.o bd.o be.o bg.o bi.o (by rfl) (by rfl) (by rfl) (by rfl) ?_;intro u w' hend;have an:=Zh (bf.o w' hend);clear hend;simp only [Pl.pu,List.foldl,Act.put,List.setIfInBounds_toArray,List.set];go_end0;exact⟨rfl,an.o⟩
def Zfx (l:List Lf):Prop:=∀f∈l,∀x∈f.slots,x ≠ []→decH x≠none
def Zq0 (w0:World) (bA bR:Nat) (l:List Lf) (e:Ending) (w':World):Prop:=
  (Zfx l∧e=.returned (.bool true)∧∃S,Stk w0 w' bA bR S∧S.map Sx.hr=allH l)∨(¬Zfx l∧e=.returned (.bool false)∧Bl w0 w')
theorem ZbI:∀(l:List Lf)(i:Nat),(∀f∈l,f.slots.length≤64)→(rowsH l i).length≤l.length*64
 | [],_,_=>by simp [rowsH]
 | f :: l,i,h=>by
  have h1:=ZbI l (i+1) (fun g hg=>h g (List.mem_cons_of_mem _ hg))
  have h2:=Zdu i f.slots 0
  have h3:=h f (List.mem_cons_self ..)
  simp only [rowsH,List.length_append,List.length_cons]
  omega
theorem ZmQ {l:List Lf}(h:∀a,a<l.length→∀b,b<(lf l a).slots.length→sl (lf l a).slots b ≠ []→decH (sl (lf l a).slots b)≠none):Zfx l:=by
 intro f hf x hx hn;obtain⟨a,ha,rfl⟩:=List.getElem_of_mem hf;obtain⟨b,hb,rfl⟩:=List.getElem_of_mem hx;have:=h a ha b (by rw [Zed ha];exact hb);rw [Zed ha,Zek hb] at this;exact this hn
theorem ZmR {l:List Lf}{a:Nat}(ha:a<l.length)(hb:b<(lf l a).slots.length)(hn:sl (lf l a).slots b ≠ [])(hd:decH (sl (lf l a).slots b)=none):¬Zfx l:=by
 intro h;refine h (lf l a) (ZcA ha) (sl (lf l a).slots b) ?_ hn hd;rw [Zek hb];exact List.getElem_mem hb
theorem ZnY (w:World)(x:Sl):Calls prog 139 #[x.val] w fun e w'=>e=.returned (.bool (decide (x.len=0)))∧w'=w:=by
 obtain⟨a,n,c⟩:=x;unfold Sl.val;simp only;by_cases h:n=0
 · subst h;go_enter func139,ntmps139;go_wp2;go_ret;exact⟨rfl,rfl⟩
 · (have i1:¬(n:Int)=0:=by omega);(have i2:((n:Int) == 0)=false:=by simp [h]);rw [decide_eq_false h];go_enter func139,ntmps139;go_wp2;go_ret;exact⟨by simp,rfl⟩
theorem ZnE (w0 w:World)(s:Sl)(L:List Lb)(bA bR:Nat)(h:Gl (fun _=>True) w0 s L)(hm:∀f∈lfs L,MayL f)(bm:s.len≤62)(hS:Stk w0 w bA bR []) :
    Calls prog 105 #[s.val,.func (.func 106) #[] #[.pointer (some ⟨bA,0,none⟩),.pointer (some ⟨bR,0,none⟩)]] w (Zq0 w0 bA bR (lfs L)):=by
  obtain⟨a,len,cap⟩:=s;have cp:∀(w:World) (a:Addr) (m:Mode) (x:Nat),(store a (.float .f64 x) m).run prog w=stored prog w a (.float .f64 x) m:=fun w a m x=>run_store prog w a _ m rfl;have H:=Zh h;have HS:=Zh hS;have cd:len≤62:=bm;have HL:Hi (L.length=len):=h.len;have ak:Hi (∀f∈lfs L,f.slots.length≤64):=fun f hf=>(hm f hf).slots.1;clear h hm bm hS;unfold Sl.val;simp only;go_enter func105,ntmps105;go_wp2_with fail;go_loopw [13] (fun iv wr=>∃(i:Nat) (S:List Sx),i≤len∧iv=.int .i64 (i:Nat)∧Hi (Stk w0 wr bA bR S)∧Hi (S.map Sx.hr=rowsH ((lfs L).take i) 0)∧Hi (∀p,p<i→∀b,b<(lf (lfs L) p).slots.length→sl (lf (lfs L) p).slots b ≠ []→decH (sl (lf (lfs L) p).slots b)≠none)) (fun iv _=>len-(intOf iv).toNat)
  case atStart=>exact ⟨0,[],Nat.zero_le _,rfl,HS,rfl,fun p hp=>absurd hp (Nat.not_lt_zero _)⟩
  case round =>
   clear HS;obtain⟨i,S,hi,rfl,hI,ad,aw⟩:=hrel;rcases Nat.lt_or_ge i len with bq | cn
   · (have j1:(i:Int)<(len:Int):=by omega);have be:=H.o.below hI.o.below (Nat.le_refl _);have ag:i<(Sl.mk a len cap).len:=bq;obtain⟨b,off,ha,c0,c1⟩:=be.cell i ag;replace ha:a=some ⟨b,off,none⟩:=ha;subst ha;have av:=(be.at ag).2;have bg:=ZfH L i;have bp:lf (lfs L) i∈lfs L:=ZcA (by rw [Zbh,HL.o];exact bq);have az:=ak.o _ bp;obtain⟨x,hx⟩:∃x,x=L.getD i Lb.zero:=⟨_,rfl⟩;rw [← hx] at c0 c1 av bg;obtain⟨xu,⟨va,vn,vc⟩,xt,xl⟩:=x;have bv:xl.length=vn:=av.len;have bx:Hi (Gb (fun _=>True) wr ⟨va,vn,vc⟩ xl):=av;have bz:Hi (∀wx,Bl w0 wx→Gb (fun _=>True) wx ⟨va,vn,vc⟩ xl):=fun wx hb=>by
      have:=((H.o.below hb (Nat.le_refl _)).at ag).2;rw [← hx] at this;exact this
     (have aj:Hi ((lf (lfs L) i).slots=bss xl):=by show _=_;rw [bg];rfl);(have al:Hi ((bss xl).length=vn):=by show _=_;rw [Zaj];exact bv);(have cl:vn≤64:=by rw [aj.o,al.o] at az;exact az);have ax:=Zh (ZdI (b:=b) (o:=off+i*2) c0 c1);have af:=Zab wr (.cells #[xu.val,.slice va vn vc] 101);have bw:=Zh (bx.o.below af (Nat.le_refl _));have bk:=Zh (hI.o.keep af);have ca:Hi (S.map Sx.hr=rowsH ((lfs L).take i) 0 ++ rowsS i ((bss xl).take 0) 0):=by
      show _=_;rw [List.take_zero];unfold rowsS;rw [List.append_nil];exact ad.o
     have cc:Hi ((rowsH ((lfs L).take i) 0).length≤62*64):=by
      show _≤_;have h1:=ZbI ((lfs L).take i) 0 (fun f hf=>ak.o f (List.mem_of_mem_take hf));rw [List.length_take] at h1;have:min i (lfs L).length*64≤62*64:=Nat.mul_le_mul_right _ (by omega);omega
     have ci:=HL.o;(have bl:Hi (i<(lfs L).length):=by show _<_;rw [Zbh];omega);unfold lfV Sl.val at ax;unfold Sl.val at af bw bk;simp only at ax;clear be av hx hI c0 c1 bv bg bp az ad ci;go_upto_block 2 with (refine Zah _ rfl 101 (.tmp 16) rfl (.pointer (some ⟨b,off+i*2,none⟩)) (.agg #[.slice xu.a xu.len xu.cap,.slice va vn vc]) rfl ax.o ?_);go_wp2_with fail;generalize cm:wr.alloc (.cells #[.slice xu.a xu.len xu.cap,.slice va vn vc] 101)=WB at *;go_loopw [21] (fun kv wr2=>∃(k:Nat) (S:List Sx),k≤vn∧kv=.int .i64 (k:Nat)∧Hi (Stk w0 wr2 bA bR S)∧Hi (S.map Sx.hr=rowsH ((lfs L).take i) 0 ++ rowsS i ((bss xl).take k) 0)∧Hi (∀b,b<k→sl (bss xl) b ≠ []→decH (sl (bss xl) b)≠none)) (fun kv _=>vn-(intOf kv).toNat)
     case atStart=>exact ⟨0,S,Nat.zero_le _,rfl,bk,ca,fun b hb=>absurd hb (Nat.not_lt_zero _)⟩
     case round =>
      rename World=>wr2;obtain⟨k,S,hk,rfl,am,ae,ab⟩:=hrel;rcases Nat.lt_or_ge k vn with bf | co
      · (have j2:(k:Int)<(vn:Int):=by omega);have bd:=bz.o wr2 am.o.below;have ao:k<(Sl.mk va vn vc).len:=bf;obtain⟨vb,vo,bj,e0⟩:=bd.cell k ao;replace bj:va=some ⟨vb,vo,none⟩:=bj;subst bj;have au:=(bd.at ao).1;obtain⟨⟨sa,sn,sc⟩,bt⟩:∃s,s=(xl.getD k Sb.zero).s:=⟨_,rfl⟩;rw [← bt] at e0 au;have bu:(sl (bss xl) k).length=sn:=au.came.bs.1;have hD:=Zh (ZmM sa sn sc (sl (bss xl) k) wr2 au.came);have hE:=Zh (ZnY wr2 ⟨sa,sn,sc⟩);unfold Sl.val at e0 hE;simp only at e0 hE;have aq:=ZfV (i:=i) (s:=bss xl) (k:=k) (by rw [al.o];exact bf);have aa:=Zh aq;have ac:=Zh bu;clear bd au bt aq bu;by_cases hz:sn=0
        · have ah:sl (bss xl) k=[]:=List.length_eq_zero_iff.1 (by rw [ac.o];exact hz);have hN:Hi (S.map Sx.hr=rowsH ((lfs L).take i) 0 ++ rowsS i ((bss xl).take (k+1)) 0):=by
           show _=_;rw [aa.o,ah,show decH []=none by kernel_rfl];simp only [List.append_nil];exact ae.o
          have ai:Hi (∀b,b<k+1→sl (bss xl) b ≠ []→decH (sl (bss xl) b)≠none):=by
           intro b hb hn;rcases Nat.lt_or_ge b k with h | h
           · exact ab.o b h hn
           · exact absurd (by rw [show b=k by omega];exact ah) hn
          have an:decide (sn=0)=true:=decide_eq_true hz;rw [an] at hE;clear ah aa ac ae ab hD hz an;go_wp2_with fail;refine hE.o.mono ?_;rintro e w1 ⟨rfl,hw⟩;subst hw;go_wp2;go_roundw;exact ⟨k+1,S,by omega,by go_num,am,hN,ai⟩;simp only [intOf];omega
        · have an:decide (sn=0)=false:=decide_eq_false hz;rw [an] at hE;have cj:sl (bss xl) k ≠ []:=fun h=>hz (by rw [← ac.o,h];rfl);(have bb:Hi (k<(lf (lfs L) i).slots.length):=by show _<_;rw [aj.o,al.o];exact bf);clear an ac;go_wp2_with fail;refine hE.o.mono ?_;rintro e w1 ⟨rfl,hw⟩;subst hw;go_wp2_with fail;refine hD.o.mono ?_;intro e w3 ht;have ar:Hi (Stk w0 w3 bA bR S):=am.o.keep ht.1;cases hd:decH (sl (bss xl) k) with
          | none =>
           have bh:=ht.2.1 hd;subst bh;have hA:=Zab w3 (.cells #[.float .f64 0,.bool false,.slice none 0 0,.int .i64 0,.int .i64 0,.int .i64 0] 39);have cf:Hi (¬Zfx (lfs L)):=ZmR bl.o bb.o (by rw [aj.o];exact cj) (by rw [aj.o];exact hd);have ce:=Zh ((ar.o.keep hA).below);clear ht hd hD hA e0 ar ae ab aa bb;unfold Zd1;go_wp2;go_ret;exact .inr ⟨cf.o,rfl,ce.o⟩
          | some r =>
           obtain⟨br,ra,rl,rc,bh,bo,ap⟩:=ht.2.2 r hd;subst bh;rw [hd] at aa;simp only at aa;have hA:=Zab w3 (.cells #[.float .f64 r.key,.bool r.dead,.slice ra rl rc,.int .i64 r.wr,.int .i64 r.cell,.int .i64 r.no] 39);have hX:=Zai w3 r (.slice ra rl rc);have ba:=ar.o.keep hA;have bc:ColF (w3.alloc (.cells #[.float .f64 r.key,.bool r.dead,.slice ra rl rc,.int .i64 r.wr,.int .i64 r.cell,.int .i64 r.no] 39)) ⟨r,ra,rl,rc⟩:=(ColF.owns ap bo).keep hA;have hN:Hi ((S ++ [(⟨i,k,⟨r,ra,rl,rc⟩⟩:Sx)]).map Sx.hr=rowsH ((lfs L).take i) 0 ++ rowsS i ((bss xl).take (k+1)) 0):=by
            show _=_;rw [aa.o,← List.append_assoc,← ae.o,List.map_append];rfl
           have ai:Hi (∀b,b<k+1→sl (bss xl) b ≠ []→decH (sl (bss xl) b)≠none):=by
            intro b hb hn;rcases Nat.lt_or_ge b k with h | h
            · exact ab.o b h hn
            · rw [show b=k by omega,hd];exact (fun h=>by cases h)
           have bn:S.length+1≤100000:=by
            have h1:=congrArg List.length ae.o;rw [List.length_map,List.length_append] at h1;have h2:=cc.o;have h3:=Zdu i ((bss xl).take k) 0;rw [List.length_take] at h3;omega
           unfold Rw.val;have bi:=Zcq r.key r.dead ra rl rc r.wr r.cell r.no w3;generalize ch:w3.alloc (.cells #[.float .f64 r.key,.bool r.dead,.slice ra rl rc,.int .i64 r.wr,.int .i64 r.cell,.int .i64 r.no] 39)=W4 at hX ba bc bi;have HP:=Zh (Zop ba ⟨i,k,⟨r,ra,rl,rc⟩⟩ bc br bn);have x0:=hX.c0;have x1:=hX.c1;have x2:=hX.c2;have x3:=hX.c3;have x4:=hX.c4;have x5:=hX.c5;have cb:=Zh bi;clear ht hd hD ar hA e0 hX ba bc bo ap aa bn br ch bi ae ab bb am hE;unfold Rx.val btV at HP;simp only at HP;go_wp2_with (first | refine Zad _ rfl rfl 39 (.tmp 9) (.tmp 31) rfl (.pointer (some ⟨w3.heap.size,0,none⟩)) (.agg #[.float .f64 r.key,.bool r.dead,.slice ra rl rc,.int .i64 r.wr,.int .i64 r.cell,.int .i64 r.no]) rfl rfl W4 cb.o ?_);refine HP.o.mono ?_;rintro e w5 ⟨rfl,cg⟩;go_wp2;go_roundw;exact ⟨k+1,S ++ [(⟨i,k,⟨r,ra,rl,rc⟩⟩:Sx)],by omega,by go_num,Zh cg,hN,ai⟩;simp only [intOf];omega
      · (have j2:¬(k:Int)<(vn:Int):=by omega);(have e0:k=vn:=by omega);have HN:Hi (S.map Sx.hr=rowsH ((lfs L).take (i+1)) 0):=by
         have:=ae.o;rw [e0,List.take_of_length_le (l:=bss xl) (by rw [al.o];exact Nat.le_refl _),← aj.o] at this;show _=_;rw [ZfT bl.o];exact this
        have ay:Hi (∀p,p<i+1→∀b,b<(lf (lfs L) p).slots.length→sl (lf (lfs L) p).slots b ≠ []→decH (sl (lf (lfs L) p).slots b)≠none):=by
         intro p hp b hb hn;rcases Nat.lt_or_ge p i with h | h
         · exact aw.o p h b hb hn
         · (have ck:p=i:=by omega);subst ck;rw [aj.o] at hb hn ⊢;exact ab.o b (by rw [al.o] at hb;omega) hn
        clear ae ab aw e0;go_wp2;go_roundw;exact ⟨i+1,S,by omega,by go_num,am,HN,ay⟩;simp only [intOf];omega
   · (have j1:¬(i:Int)<(len:Int):=by omega);(have e0:i=len:=by omega);have HT:Hi (S.map Sx.hr=allH (lfs L)):=by
      have:=ad.o;rw [e0,List.take_of_length_le (by rw [Zbh,HL.o];exact Nat.le_refl _)] at this;exact this
     have ay:Hi (Zfx (lfs L)):=ZmQ (fun p hp=>aw.o p (by rw [Zbh,HL.o] at hp;omega));clear ad aw e0;go_wp2;go_ret;exact .inl ⟨ay.o,rfl,S,hI.o,HT.o⟩
structure Std (w0 w:World) (s:Sl) (S:List Sx):Prop where
  own:Own 118 8 w s (ZaK S)
  new:∀k,s.blk=some k→w0.heap.size≤k
  below:Bl w0 w
  flt:∀y∈S,ColF w y.x
  fits:∀y∈S,y.x.r.fits
theorem Std.keep {w':World}{s:Sl}{S:List Sx}(h:Std w0 w s S)(hb:Bl w w'):Std w0 w' s S:=
 ⟨Own.frame h.own (fun k hk=>hb.block k (Own.lt h.own hk)),h.new,h.below.trans (hb.mono h.below.size),fun y hy=>(h.flt y hy).keep hb,h.fits⟩
def Zge (w0:World) (l:List Lf) (e:Ending) (w':World):Prop:=
  (MayH l∧∃s S,e=.returned (.tuple #[s.val,.int .i64 0])∧Std w0 w' s S∧S.map Sx.hr=allH l)∨(¬MayH l∧e=.returned (.tuple #[.slice none 0 0,.int .i64 1])∧Bl w0 w')
theorem ZhI {S:List Sx}{l:List Hr}(h:S.map Sx.hr=l)(hg:∀g∈l,Zfu g.r):(rkS S).Nodup↔ZbG l:=by
 subst h;unfold ZbG rkS List.Nodup;rw [List.pairwise_map,List.pairwise_map];refine List.Pairwise.iff_of_mem (fun {a b} ha hb=>?_);have ga:=hg _ (List.mem_map_of_mem ha);have gb:=hg _ (List.mem_map_of_mem hb);constructor
 · intro aa he;exact aa (by simp only [Sx.hr] at he;rw [he])
 · intro aa he;exact aa (Zpb ga.fit gb.fit ga.key gb.key (by simp only [Sx.hr];omega))
theorem Zne (w:World):Stk w ((w.alloc (.cells #[.slice none 0 0] 114)).alloc (.cells #[.slice none 0 0] 154)) w.heap.size (w.heap.size+1) []:=by
 have h1:=Zab w (.cells #[.slice none 0 0] 114);have h2:=Zab (w.alloc (.cells #[.slice none 0 0] 114)) (.cells #[.slice none 0 0] 154);have e1:=heap_alloc_new w (.cells #[.slice none 0 0] 114);have e2:=heap_alloc_new (w.alloc (.cells #[.slice none 0 0] 114)) (.cells #[.slice none 0 0] 154);rw [Zae] at e2;refine⟨⟨⟨none,0,0⟩,⟨none,0,0⟩,(h2.block _ (by rw [Zae];omega)).trans e1,e2,⟨rfl,.inl ⟨rfl,rfl⟩⟩,⟨rfl,.inl ⟨rfl,rfl⟩⟩,?_,?_⟩,Nat.le_refl _,by omega,Zac h1 h2,?_,?_⟩
 · intro k hk;cases hk
 · intro k hk;cases hk
 · intro y hy;cases hy
 · intro y hy;cases hy
theorem ZgC (w:World)(s:Sl)(L:List Lb)(h:Gl (fun _=>True) w s L) :
    Calls prog 66 #[s.val] w (Zge w (lfs L)):=by
  have ay:∀(w:World) (a:Addr) (m:Mode) (x:Nat),(store a (.float .f64 x) m).run prog w=stored prog w a (.float .f64 x) m:=fun w a m x=>run_store prog w a _ m rfl;obtain⟨a,len,cap⟩:=s;have HG:=Zh h;(have HL:Hi ((lfs L).length=len):=by show _=_;rw [Zbh];exact h.len);have aw:len≤900:=h.big;have HX:=Zh (Zkh w ⟨a,len,cap⟩ L h);have aq:=Zh h.good;clear h;unfold Sl.val at *;simp only at *;rcases Nat.lt_or_ge len 1 with h1 | h1
  · (have i1:(len:Int)<1:=by omega);(have ad:Hi (¬MayH (lfs L)):=fun hm=>by have:=hm.pos;rw [HL.o] at this;omega);have d1:=decide_eq_true i1;go_enter func66,ntmps66;go_wp2;go_ret2;exact .inr ⟨ad.o,rfl,Below.refl _ _⟩
  · (have i1:¬(len:Int)<1:=by omega);have d1:=decide_eq_false i1;rcases Nat.lt_or_ge 62 len with h2 | h2
    · (have i2:(62:Int)<(len:Int):=by omega);have d2:=decide_eq_true i2;(have ad:Hi (¬MayH (lfs L)):=fun hm=>by have:=hm.few;rw [HL.o] at this;omega);go_enter func66,ntmps66;go_wp2;go_ret2;exact .inr ⟨ad.o,rfl,Below.refl _ _⟩
    · (have i2:¬(62:Int)<(len:Int):=by omega);have d2:=decide_eq_false i2;go_enter func66,ntmps66;go_wp2_with fail;refine HX.o.mono ?_;rintro e w1 ⟨hx,hb⟩;rcases hx with ⟨hm,rfl⟩ | ⟨hm,rfl⟩
      · have am:=Zh (Zne w1);have ah:=HG.o.below hb (Nat.le_refl _);have ai:=Zh (ZnE w1 _ ⟨a,len,cap⟩ L w1.heap.size (w1.heap.size+1) ah hm h2 am.o);have HB:=Zh hb;have HM:=Zh hm;clear hb hm ah;unfold Sl.val at ai;simp only at ai;go_wp2_with fail;refine ai.o.mono ?_;rintro e w2 ax;rcases ax with ⟨ao,rfl,S,hS,ab⟩ | ⟨an,rfl,ag⟩
        · obtain⟨⟨sa,sn,sc⟩,⟨ra,rn,rc⟩,e1,e2,o1,o2,n1,n2⟩:=hS.ex;have av:(rkS S).length≤62*64:=by
           unfold rkS;have:=congrArg List.length ab;rw [List.length_map] at this ⊢;rw [this];have h3:=ZbI (lfs L) 0 (fun f hf=>(HM.o f hf).slots.1);rw [HL.o] at h3;have:len*64≤62*64:=Nat.mul_le_mul_right _ h2;exact Nat.le_trans h3 this
          have ae:=Zh (Znk w2 ⟨ra,rn,rc⟩ (rkS S) o2 (by omega));have c5:=(Zbo e2).1;have aj:Hi (∀w3,Frm (fun k=>(Sl.mk ra rn rc).blk=some k) w2 w3→w3.cell? ⟨w1.heap.size,0,none⟩=some (.slice sa sn sc)∧Std w w3 ⟨sa,sn,sc⟩ S):=by
           intro w3 hf;have hk:∀(k:Nat) (C:Array Value) (t:TypeId) (fr:Nat × Nat),w2.heap[k]? = some (Obj.cells C t fr)→t≠88→w3.heap[k]? = w2.heap[k]?:=by
            intro k C t fr hk ht;refine hf.block k (Array.getElem?_eq_some_iff.1 hk).1 (fun e=>?_);obtain⟨cur,aa⟩:=Own.kind o2 e;rw [hk] at aa;simp only [Option.some.injEq,Obj.cells.injEq] at aa;exact ht aa.2.1
           have f1:=(hk _ _ _ _ e1 (by decide)).trans e1;refine⟨(Zbo f1).1,Own.frame o1 (fun k hh=>?_),fun k hh=>Nat.le_trans HB.o.size (n1 k hh),?_,fun y hy=>(hS.flt y hy).frm hf (fun k hh C fr hc=>?_),hS.fits⟩
           · obtain⟨cur,aa⟩:=Own.kind o1 hh;exact hk _ _ _ _ aa (by decide)
           · have ag:=Zac HB.o hS.below;exact ag.trans (hf.below ag.size (fun k hh=>Nat.le_trans HB.o.size (n2 k hh)))
           · obtain⟨cur,aa⟩:=Own.kind o2 hh;rw [hc] at aa;simp only [Option.some.injEq,Obj.cells.injEq] at aa;exact absurd aa.2.1 (by decide)
          have al:=Zh (ZhI ab aq.o);have au:=Zh ab;have ar:=Zh ao;clear hS e1 e2 o1 o2 n1 n2 av ab ao ai am;unfold Sl.val at ae c5;simp only at ae c5;by_cases hk:ZbG (allH (lfs L))
          · have ak:Hi (MayH (lfs L)):=⟨HM.o,ar.o,hk,by rw [HL.o];exact h1,by rw [HL.o];exact h2⟩;(have hd:(!decide (rkS S).Nodup)=false:=by rw [decide_eq_true (al.o.2 hk)];rfl);rw [hd] at ae;clear hk hd;go_wp2_with fail;refine ae.o.mono ?_;rintro e w3 ⟨rfl,hf⟩;obtain⟨c4,ac⟩:=aj.o w3 hf;have af:=Zh ac;clear hf ac aj ae;go_wp2;go_ret2;exact .inl ⟨ak.o,⟨sa,sn,sc⟩,S,rfl,af.o,au.o⟩
          · have ad:Hi (¬MayH (lfs L)):=fun hh=>hk hh.keys;(have hd:(!decide (rkS S).Nodup)=true:=by rw [decide_eq_false (fun h=>hk (al.o.1 h))];rfl);rw [hd] at ae;clear hk hd;go_wp2_with fail;refine ae.o.mono ?_;rintro e w3 ⟨rfl,hf⟩;obtain⟨c4,ac⟩:=aj.o w3 hf;have af:=Zh ac;clear hf ac aj ae;go_wp2;go_ret2;exact .inr ⟨ad.o,rfl,af.o.below⟩
        · have ad:Hi (¬MayH (lfs L)):=fun hh=>an hh.rows;have ap:=Zh (Zac HB.o ag);clear an ag;go_wp2;go_ret2;exact .inr ⟨ad.o,rfl,ap.o⟩
      · have ad:Hi (¬MayH (lfs L)):=fun hh=>hm hh.leaf;have HB:=Zh hb;clear hb hm;go_wp2;go_ret2;exact .inr ⟨ad.o,rfl,HB.o⟩
end Go.Proofs.YtiecfcjlhldhdaaGreat
