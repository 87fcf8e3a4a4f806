/-
  Lemmas.
-/
import Derived.Test.YtdojdcncncgncaaGreatKtbf
import Derived.Deep.CutBlock
import Derived.Sort.LotB
import Derived.Sort.LotC
import Derived.Sort.WalkA6
import Derived.Shelf.SlSortCmp.WholeK
import Derived.Shelf.SlSortCmp.NoneTotal
import Derived.Shelf.SlicesE.Compact
import Derived.Test.YtdojdcncncgncaaGreatRows
namespace Go.Proofs.YtdojdcncncgncaaGreat
open Go.RowKit
set_option linter.unusedVariables false
set_option maxRecDepth 100000
set_option maxHeartbeats 4000000
variable {j i:Nat}
open Go.RowKit Go.Sort
section
variable {α : Type} [Inhabited α]
theorem Zov {p:α→Bool}{d:Array α}(h:i≤j)(hp:p d[i]! = true):scanUp p d j (i+1)=scanUp p d j i:=by
 conv=>rhs;rw [scanUp]
 rw [if_pos (by simp [h,hp])]
theorem Zed {p:α→Bool}{d:Array α}(h:¬i≤j∨p d[i]! = false):scanUp p d j i=i:=by
 rw [scanUp,if_neg];rcases h with h | h <;> simp [h]
theorem ZhM {p:α→Bool}{d:Array α}(h0:1≤j)(h:i≤j)(hp:p d[j]! = true):scanDown p d i (j-1)=scanDown p d i j:=by
 obtain⟨k,rfl⟩:∃k,j=k+1:=⟨j-1,by omega⟩
 conv=>rhs;rw [scanDown]
 rw [if_pos (by simp [h,hp])];rfl
theorem ZbJ {p:α→Bool}{d:Array α}(h:¬i≤j∨p d[j]! = false):scanDown p d i j=j:=by
 cases j with
 | zero=>rw [scanDown]
 | succ k =>
  rw [scanDown,if_neg];rcases h with h | h <;> simp [h]
theorem scans {p q:α→Bool}(hq:∀x,q x = !p x)(d:Array α)(h0:0<i)(aa:i≤j+1):i≤scanUp p d j i∧scanUp p d j i≤j+1∧scanDown q d (scanUp p d j i) j≤j∧scanUp p d j i≤scanDown q d (scanUp p d j i) j+1∧(scanUp p d j i≤scanDown q d (scanUp p d j i) j→scanUp p d j i<scanDown q d (scanUp p d j i) j):=by
 obtain⟨h1,h2,h3,h4,_,_,h5⟩:=round_facts p q hq d (i-1) (j+1) i j (by omega) aa (fun t a b=>by omega) (fun t a b=>by omega);exact⟨h1,h2,h3,h4,fun h=>(h5 (by omega)).2.2⟩
end
theorem ZjR (w0 W:World)(blk off m cap a b pivot:Nat)(d:Array Int)(h:Sq w0 blk off m W d)(bf:a≤pivot)(bg:pivot<b)(hb:b≤m)(hm:m<1000000) :
    Calls Tryz.prog 170 #[.slice (some ⟨blk,off,none⟩) m cap,.int .i64 (a:Nat),.int .i64 (b:Nat),.int .i64 (pivot:Nat)] W fun e W'=>(∃ap:Bool,e=.returned (.tuple #[.int .i64 ((partition ltInt d a b pivot).1:Nat),.bool ap]))∧Sq w0 blk off m W' (partition ltInt d a b pivot).2.2:=by
  rw [partition_fst,partition_arr];obtain⟨d1,aw⟩:∃d1,d1=swp d a pivot:=⟨_,rfl⟩;rw [← aw];obtain⟨R,hR⟩:∃R,R=partLoop ltInt a (a+1) (b-1) d1:=⟨_,rfl⟩;rw [← hR];have ar:=hide aw;have HR:=hide hR;have HS:=hide h;clear h aw hR;go_enter Tryz.func170,Tryz.ntmps170;go_upto_region 1 with fail;go_cut [] from 12 (fun wx=>Hid (Sq w0 blk off m wx d1))
  case first =>
   obtain⟨G,hG⟩:∃G:Nat→Int,∀t,G t=d[t]!:=⟨fun t=>d[t]!,fun _=>rfl⟩;(have ah:∀t,t<m→W.cell? ⟨blk,off+t,none⟩=some (.int .u64 (G t)):=fun t ht=>by rw [hG];exact HS.out.cell t ht);have ai:∀t,t<m→W.frozen? ⟨blk,off+t,none⟩=false:=HS.out.fz;have HG:Hid (∀t,G t=d[t]!):=hG;have aa:=HS;clear hG;(have i1:a<m:=by omega);(have i2:pivot<m:=by omega);by_cases ba:a<pivot
   · have HX:=hide (aa.out.swap 0 a pivot i1 i2).drew1;rw [← HG.out,← HG.out,← ar.out] at HX;clear aa HS HG;go_region;(all_goals go_wp2_with fail);go_meet
     case rel=>exact HX
   · (obtain rfl:pivot=a:=by omega);have HX:=hide (aa.out.swap 0 pivot pivot i1 i1).drew1;rw [← HG.out,← ar.out] at HX;clear aa HS HG;go_region;(all_goals go_wp2_with fail);go_meet
     case rel=>exact HX
  case rest =>
   have ac:=hcut;clear hcut ar HS;go_upto_region 2 with fail;go_cut [10,11] from 12 (fun iv jv wx=>∃i0 j0:Nat,iv=.int .i64 (i0:Nat)∧jv=.int .i64 (j0:Nat)∧Hid (i0=a+1)∧Hid (j0+1=b)∧Hid (Sq w0 blk off m wx d1))
   case first =>
    go_wp2_with fail;go_meet
    case rel=>exact ⟨a+1,b-1,(by first | rfl | go_num | (congr 1;omega)),(by first | rfl | go_num | (congr 1;omega)),rfl,(show Hid _ from by show _=_;omega),ac⟩
   case rest =>
    clear ac;obtain⟨i0,j0,rfl,rfl,ao,aq,ac⟩:=hcut;have an:Hid (R=partLoop ltInt a i0 j0 d1):=by
     show _=_;rw [HR.out,ao.out,show b-1=j0 by have:=aq.out;omega]
    (have k1:a<i0:=by have:=ao.out;omega);(have k2:i0≤j0+1:=by have:=ao.out;have:=aq.out;omega);(have k3:j0<b:=by have:=aq.out;omega);(have k4:a≤j0:=by omega);clear HR ao aq;go_upto_block 0 with fail;go_cut [10] from 30 (fun iv wx=>∃I:Nat,iv=.int .i64 (I:Nat)∧Hid (I=scanUp (fun x=>ltInt x d1[a]!) d1 j0 i0)∧Hid (Sq w0 blk off m wx d1))
    case first =>
     go_wp2_with fail;go_loopw [10] (fun vi wr_=>∃iu:Nat,vi=.int .i64 (iu:Nat)∧i0≤iu∧iu≤j0+1∧Hid (Sq w0 blk off m wr_ d1)∧Hid (scanUp (fun x=>ltInt x d1[a]!) d1 j0 iu=scanUp (fun x=>ltInt x d1[a]!) d1 j0 i0)) (fun vi _=>j0+1-(intOf vi).toNat)
     case atStart=>exact ⟨i0,rfl,Nat.le_refl _,by omega,ac,rfl⟩
     case round =>
      rename World=>wr_;obtain⟨iu,rfl,au,av,ab,hO⟩:=hrel;by_cases hc:iu≤j0
      · (have ak:(iu:Int)≤(j0:Int):=by omega);obtain⟨G,hG⟩:∃G:Nat→Int,∀t,G t=d1[t]!:=⟨fun t=>d1[t]!,fun _=>rfl⟩;(have ah:∀t,t<m→wr_.cell? ⟨blk,off+t,none⟩=some (.int .u64 (G t)):=fun t ht=>by rw [hG];exact ab.out.cell t ht);have ai:∀t,t<m→wr_.frozen? ⟨blk,off+t,none⟩=false:=ab.out.fz;have HG:Hid (∀t,G t=d1[t]!):=hG;have aa:=ab;clear hG;(have i1:iu<m:=by omega);(have i2:a<m:=by omega);have HD:Hid (∀q,Sq w0 blk off m (wr_.drewN q) d1):=aa.out.drewN;clear aa ab;cases hl:ltInt (G iu) (G a) with
        | true =>
         (have aj:Hid (scanUp (fun x=>ltInt x d1[a]!) d1 j0 (iu+1)=scanUp (fun x=>ltInt x d1[a]!) d1 j0 i0):=by show _=_;rw [Zov hc (by simp only [← HG.out];simp [hl])];exact hO.out);clear hO HG;go_wp2_with fail;go_quiet (first | (go_at_call 168;refine Calls.quiet_of_same (Zah _ _ _)));go_wp2_with fail;go_roundw
         case rel=>exact ⟨iu+1,by go_num,by omega,by omega,HD.out _,aj⟩
         case measure=>simp only [intOf];omega
        | false =>
         (have HE:Hid (iu=scanUp (fun x=>ltInt x d1[a]!) d1 j0 i0):=by show _=_;rw [← hO.out,Zed (.inr (by simp only [← HG.out];simp [hl]))]);clear hO HG;go_wp2_with fail;go_quiet (first | (go_at_call 168;refine Calls.quiet_of_same (Zah _ _ _)));go_wp2_with fail;go_meet
         case rel=>exact ⟨iu,rfl,HE,HD.out _⟩
      · have ak:decide ((iu:Int)≤(j0:Int))=false:=decide_eq_false (by omega);(have HE:Hid (iu=scanUp (fun x=>ltInt x d1[a]!) d1 j0 i0):=by show _=_;rw [← hO.out,Zed (.inl hc)]);have HD:Hid (∀q,Sq w0 blk off m (wr_.drewN q) d1):=ab.out.drewN;clear hO ab;go_wp2_with fail;go_quiet (first | (go_at_call 168;refine Calls.quiet_of_same (Zah _ _ _)));go_wp2_with fail;go_meet
        case rel=>exact ⟨iu,rfl,HE,HD.out _⟩
    case rest =>
     clear ac;obtain⟨I,rfl,HI,ac⟩:=hcut;have ag:=scans (p:=fun x=>ltInt x d1[a]!) (q:=fun x=>!ltInt x d1[a]!) (fun x=>rfl) d1 (i:=i0) (j:=j0) (by omega) k2;have al:=partLoop_eq ltInt a i0 j0 d1;rw [← HI.out] at ag al;have af:=hide ag;have ae:=hide al;have k5:=ag.1;have k6:=ag.2.1;clear ag al;go_upto_block 2 with fail;go_cut [11] from 44 (fun jv wx=>∃J:Nat,jv=.int .i64 (J:Nat)∧Hid (J=scanDown (fun x=>!ltInt x d1[a]!) d1 I j0)∧Hid (Sq w0 blk off m wx d1))
     case first =>
      go_wp2_with fail;go_loopw [11] (fun vi wr_=>∃jd:Nat,vi=.int .i64 (jd:Nat)∧I≤jd+1∧jd≤j0∧Hid (Sq w0 blk off m wr_ d1)∧Hid (scanDown (fun x=>!ltInt x d1[a]!) d1 I jd=scanDown (fun x=>!ltInt x d1[a]!) d1 I j0)) (fun vi _=>(intOf vi).toNat)
      case atStart=>exact ⟨j0,rfl,by omega,Nat.le_refl _,ac,rfl⟩
      case round =>
       rename World=>wr_;obtain⟨jd,rfl,au,av,ab,hO⟩:=hrel;by_cases hc:I≤jd
       · (have ak:(I:Int)≤(jd:Int):=by omega);obtain⟨G,hG⟩:∃G:Nat→Int,∀t,G t=d1[t]!:=⟨fun t=>d1[t]!,fun _=>rfl⟩;(have ah:∀t,t<m→wr_.cell? ⟨blk,off+t,none⟩=some (.int .u64 (G t)):=fun t ht=>by rw [hG];exact ab.out.cell t ht);have ai:∀t,t<m→wr_.frozen? ⟨blk,off+t,none⟩=false:=ab.out.fz;have HG:Hid (∀t,G t=d1[t]!):=hG;have aa:=ab;clear hG;(have i1:jd<m:=by omega);(have i2:a<m:=by omega);have HD:Hid (∀q,Sq w0 blk off m (wr_.drewN q) d1):=aa.out.drewN;clear aa ab;cases hl:ltInt (G jd) (G a) with
         | false =>
          (have aj:Hid (scanDown (fun x=>!ltInt x d1[a]!) d1 I (jd-1)=scanDown (fun x=>!ltInt x d1[a]!) d1 I j0):=by show _=_;rw [ZhM (by omega) hc (by simp only [← HG.out];simp [hl])];exact hO.out);clear hO HG;go_wp2_with fail;go_quiet (first | (go_at_call 168;refine Calls.quiet_of_same (Zah _ _ _)));go_wp2_with fail;go_roundw
          case rel=>exact ⟨jd-1,by congr 1;omega,by omega,by omega,HD.out _,aj⟩
          case measure=>simp only [intOf];omega
         | true =>
          (have HE:Hid (jd=scanDown (fun x=>!ltInt x d1[a]!) d1 I j0):=by show _=_;rw [← hO.out,ZbJ (.inr (by simp only [← HG.out];simp [hl]))]);clear hO HG;go_wp2_with fail;go_quiet (first | (go_at_call 168;refine Calls.quiet_of_same (Zah _ _ _)));go_wp2_with fail;go_meet
          case rel=>exact ⟨jd,rfl,HE,HD.out _⟩
       · have ak:decide ((I:Int)≤(jd:Int))=false:=decide_eq_false (by omega);(have HE:Hid (jd=scanDown (fun x=>!ltInt x d1[a]!) d1 I j0):=by show _=_;rw [← hO.out,ZbJ (.inl hc)]);have HD:Hid (∀q,Sq w0 blk off m (wr_.drewN q) d1):=ab.out.drewN;clear hO ab;go_wp2_with fail;go_quiet (first | (go_at_call 168;refine Calls.quiet_of_same (Zah _ _ _)));go_wp2_with fail;go_meet
         case rel=>exact ⟨jd,rfl,HE,HD.out _⟩
     case rest =>
      clear ac;obtain⟨J,rfl,HJ,ac⟩:=hcut;rw [← HJ.out] at af ae;have k7:=af.out.2.2.1;have k8:=af.out.2.2.2.1;have k9:=af.out.2.2.2.2;clear af;by_cases az:J<I
      · have HV:Hid (R=(J,d1)):=by
         show _=_;rw [an.out,ae.out,if_pos az]
        (have bc:(J:Int)<(I:Int):=by omega);(have k10:a≤J:=by omega);clear ae an k9;go_upto_region 8 with fail;go_cut [] from 66 (fun wx=>Hid (Sq w0 blk off m wx (swp d1 J a)))
        case first =>
         rename World=>wz;obtain⟨G,hG⟩:∃G:Nat→Int,∀t,G t=d1[t]!:=⟨fun t=>d1[t]!,fun _=>rfl⟩;(have ah:∀t,t<m→wz.cell? ⟨blk,off+t,none⟩=some (.int .u64 (G t)):=fun t ht=>by rw [hG];exact ac.out.cell t ht);have ai:∀t,t<m→wz.frozen? ⟨blk,off+t,none⟩=false:=ac.out.fz;have HG:Hid (∀t,G t=d1[t]!):=hG;have aa:=ac;clear hG;(have i1:J<m:=by omega);(have i2:a<m:=by omega);by_cases ba:a<J
         · have HX:=hide (aa.out.swap 0 J a i1 i2).drew1;rw [← HG.out,← HG.out] at HX;clear aa ac HG;go_region;(all_goals go_wp2_with fail);go_meet
           case rel=>exact HX
         · (obtain rfl:J=a:=by omega);have HX:=hide (aa.out.swap 0 J J i1 i1).drew1;rw [← HG.out] at HX;clear aa ac HG;go_region;(all_goals go_wp2_with fail);go_meet
           case rel=>exact HX
        case rest =>
         have bd:=hcut;clear ac;go_wp2_with fail;go_ret2;rw [HV.out];exact⟨⟨true,rfl⟩,bd.out⟩
      · (have bc:¬(J:Int)<(I:Int):=by omega);have HV:Hid (partLoop ltInt a (I+1) (J-1) (swp d1 I J)=R):=by
         show _=_;rw [an.out,ae.out,if_neg az]
        have k10:=k9 (by omega);obtain⟨G,hG⟩:∃G:Nat→Int,∀t,G t=d1[t]!:=⟨fun t=>d1[t]!,fun _=>rfl⟩;(have ah:∀t,t<m→wc.cell? ⟨blk,off+t,none⟩=some (.int .u64 (G t)):=fun t ht=>by rw [hG];exact ac.out.cell t ht);have ai:∀t,t<m→wc.frozen? ⟨blk,off+t,none⟩=false:=ac.out.fz;have HG:Hid (∀t,G t=d1[t]!):=hG;have aa:=ac;clear hG;(have i1:I<m:=by omega);(have i2:J<m:=by omega);have HX:=hide (aa.out.swap 0 I J i1 i2).drew1;rw [← HG.out,← HG.out] at HX;clear aa ac HG ae an k9;go_upto_region 10 with fail;go_region;(all_goals go_wp2_with fail);go_loopw [10,11] (fun vi vj wr=>∃(i j:Nat) (dk:Array Int),vi=.int .i64 (i:Nat)∧vj=.int .i64 (j:Nat)∧a<i∧i≤j+1∧j<b∧Hid (Sq w0 blk off m wr dk)∧Hid (partLoop ltInt a i j dk=R)) (fun vi vj _=>(intOf vj).toNat+1-(intOf vi).toNat)
        case atStart=>exact ⟨I+1,J-1,_,by go_num,by congr 1;omega,by omega,by omega,by omega,HX,HV⟩
        case round =>
         clear HX HV ah ai;obtain⟨i,j,dk,rfl,rfl,m1,m2,m3,ad,hO⟩:=hrel;(have m4:a≤j:=by omega);go_upto_block 6 with fail;go_cut [10] from 99 to 152 (fun iv wx=>∃I:Nat,iv=.int .i64 (I:Nat)∧Hid (I=scanUp (fun x=>ltInt x dk[a]!) dk j i)∧Hid (Sq w0 blk off m wx dk))
         case first =>
          go_wp2_with fail;go_loopw [10] (fun vi wr_=>∃iu:Nat,vi=.int .i64 (iu:Nat)∧i≤iu∧iu≤j+1∧Hid (Sq w0 blk off m wr_ dk)∧Hid (scanUp (fun x=>ltInt x dk[a]!) dk j iu=scanUp (fun x=>ltInt x dk[a]!) dk j i)) (fun vi _=>j+1-(intOf vi).toNat)
          case atStart=>exact ⟨i,rfl,Nat.le_refl _,by omega,ad,rfl⟩
          case round =>
           rename World=>wr_;obtain⟨iu,rfl,au,av,ab,hO⟩:=hrel;by_cases hc:iu≤j
           · (have ak:(iu:Int)≤(j:Int):=by omega);obtain⟨G,hG⟩:∃G:Nat→Int,∀t,G t=dk[t]!:=⟨fun t=>dk[t]!,fun _=>rfl⟩;(have ah:∀t,t<m→wr_.cell? ⟨blk,off+t,none⟩=some (.int .u64 (G t)):=fun t ht=>by rw [hG];exact ab.out.cell t ht);have ai:∀t,t<m→wr_.frozen? ⟨blk,off+t,none⟩=false:=ab.out.fz;have HG:Hid (∀t,G t=dk[t]!):=hG;have aa:=ab;clear hG;(have i1:iu<m:=by omega);(have i2:a<m:=by omega);have HD:Hid (∀q,Sq w0 blk off m (wr_.drewN q) dk):=aa.out.drewN;clear aa ab;cases hl:ltInt (G iu) (G a) with
             | true =>
              (have aj:Hid (scanUp (fun x=>ltInt x dk[a]!) dk j (iu+1)=scanUp (fun x=>ltInt x dk[a]!) dk j i):=by show _=_;rw [Zov hc (by simp only [← HG.out];simp [hl])];exact hO.out);clear hO HG;go_wp2_with fail;go_quiet (first | (go_at_call 168;refine Calls.quiet_of_same (Zah _ _ _)));go_wp2_with fail;go_roundw
              case rel=>exact ⟨iu+1,by go_num,by omega,by omega,HD.out _,aj⟩
              case measure=>simp only [intOf];omega
             | false =>
              (have HE:Hid (iu=scanUp (fun x=>ltInt x dk[a]!) dk j i):=by show _=_;rw [← hO.out,Zed (.inr (by simp only [← HG.out];simp [hl]))]);clear hO HG;go_wp2_with fail;go_quiet (first | (go_at_call 168;refine Calls.quiet_of_same (Zah _ _ _)));go_wp2_with fail;go_meet
              case rel=>exact ⟨iu,rfl,HE,HD.out _⟩
           · have ak:decide ((iu:Int)≤(j:Int))=false:=decide_eq_false (by omega);(have HE:Hid (iu=scanUp (fun x=>ltInt x dk[a]!) dk j i):=by show _=_;rw [← hO.out,Zed (.inl hc)]);have HD:Hid (∀q,Sq w0 blk off m (wr_.drewN q) dk):=ab.out.drewN;clear hO ab;go_wp2_with fail;go_quiet (first | (go_at_call 168;refine Calls.quiet_of_same (Zah _ _ _)));go_wp2_with fail;go_meet
             case rel=>exact ⟨iu,rfl,HE,HD.out _⟩
         case rest =>
          clear ad;obtain⟨I2,rfl,ay,ad⟩:=hcut;have ag:=scans (p:=fun x=>ltInt x dk[a]!) (q:=fun x=>!ltInt x dk[a]!) (fun x=>rfl) dk (i:=i) (j:=j) (by omega) m2;have al:=partLoop_eq ltInt a i j dk;rw [hO.out,← ay.out] at al;rw [← ay.out] at ag;have af:=hide ag;have ae:=hide al;have m5:=ag.1;have m6:=ag.2.1;clear ag al hO;go_upto_block 8 with fail;go_cut [11] from 99 to 152 (fun jv wx=>∃J:Nat,jv=.int .i64 (J:Nat)∧Hid (J=scanDown (fun x=>!ltInt x dk[a]!) dk I2 j)∧Hid (Sq w0 blk off m wx dk))
          case first =>
           go_wp2_with fail;go_loopw [11] (fun vi wr_=>∃jd:Nat,vi=.int .i64 (jd:Nat)∧I2≤jd+1∧jd≤j∧Hid (Sq w0 blk off m wr_ dk)∧Hid (scanDown (fun x=>!ltInt x dk[a]!) dk I2 jd=scanDown (fun x=>!ltInt x dk[a]!) dk I2 j)) (fun vi _=>(intOf vi).toNat)
           case atStart=>exact ⟨j,rfl,by omega,Nat.le_refl _,ad,rfl⟩
           case round =>
            rename World=>wr_;obtain⟨jd,rfl,au,av,ab,hO⟩:=hrel;by_cases hc:I2≤jd
            · (have ak:(I2:Int)≤(jd:Int):=by omega);obtain⟨G,hG⟩:∃G:Nat→Int,∀t,G t=dk[t]!:=⟨fun t=>dk[t]!,fun _=>rfl⟩;(have ah:∀t,t<m→wr_.cell? ⟨blk,off+t,none⟩=some (.int .u64 (G t)):=fun t ht=>by rw [hG];exact ab.out.cell t ht);have ai:∀t,t<m→wr_.frozen? ⟨blk,off+t,none⟩=false:=ab.out.fz;have HG:Hid (∀t,G t=dk[t]!):=hG;have aa:=ab;clear hG;(have i1:jd<m:=by omega);(have i2:a<m:=by omega);have HD:Hid (∀q,Sq w0 blk off m (wr_.drewN q) dk):=aa.out.drewN;clear aa ab;cases hl:ltInt (G jd) (G a) with
              | false =>
               (have aj:Hid (scanDown (fun x=>!ltInt x dk[a]!) dk I2 (jd-1)=scanDown (fun x=>!ltInt x dk[a]!) dk I2 j):=by show _=_;rw [ZhM (by omega) hc (by simp only [← HG.out];simp [hl])];exact hO.out);clear hO HG;go_wp2_with fail;go_quiet (first | (go_at_call 168;refine Calls.quiet_of_same (Zah _ _ _)));go_wp2_with fail;go_roundw
               case rel=>exact ⟨jd-1,by congr 1;omega,by omega,by omega,HD.out _,aj⟩
               case measure=>simp only [intOf];omega
              | true =>
               (have HE:Hid (jd=scanDown (fun x=>!ltInt x dk[a]!) dk I2 j):=by show _=_;rw [← hO.out,ZbJ (.inr (by simp only [← HG.out];simp [hl]))]);clear hO HG;go_wp2_with fail;go_quiet (first | (go_at_call 168;refine Calls.quiet_of_same (Zah _ _ _)));go_wp2_with fail;go_meet
               case rel=>exact ⟨jd,rfl,HE,HD.out _⟩
            · have ak:decide ((I2:Int)≤(jd:Int))=false:=decide_eq_false (by omega);(have HE:Hid (jd=scanDown (fun x=>!ltInt x dk[a]!) dk I2 j):=by show _=_;rw [← hO.out,ZbJ (.inl hc)]);have HD:Hid (∀q,Sq w0 blk off m (wr_.drewN q) dk):=ab.out.drewN;clear hO ab;go_wp2_with fail;go_quiet (first | (go_at_call 168;refine Calls.quiet_of_same (Zah _ _ _)));go_wp2_with fail;go_meet
              case rel=>exact ⟨jd,rfl,HE,HD.out _⟩
          case rest =>
           clear ad;obtain⟨J2,rfl,bb,ad⟩:=hcut;rw [← bb.out] at af ae;have m7:=af.out.2.2.1;have m8:=af.out.2.2.2.1;have m9:=af.out.2.2.2.2;clear af;by_cases am:J2<I2
           · have HV:Hid (R=(J2,dk)):=by
              show _=_;rw [ae.out,if_pos am]
             (have ax:(J2:Int)<(I2:Int):=by omega);(have k10:a≤J2:=by omega);clear ae m9;go_upto_region 21 with fail;go_upto_region 21 with fail;go_cut [] from 153 (fun wx=>Hid (Sq w0 blk off m wx (swp dk J2 a)))
             case first =>
              rename World=>wz;obtain⟨G,hG⟩:∃G:Nat→Int,∀t,G t=dk[t]!:=⟨fun t=>dk[t]!,fun _=>rfl⟩;(have ah:∀t,t<m→wz.cell? ⟨blk,off+t,none⟩=some (.int .u64 (G t)):=fun t ht=>by rw [hG];exact ad.out.cell t ht);have ai:∀t,t<m→wz.frozen? ⟨blk,off+t,none⟩=false:=ad.out.fz;have HG:Hid (∀t,G t=dk[t]!):=hG;have aa:=ad;clear hG;(have i1:J2<m:=by omega);(have i2:a<m:=by omega);by_cases ba:a<J2
              · have HX:=hide (aa.out.swap 0 J2 a i1 i2).drew1;rw [← HG.out,← HG.out] at HX;clear aa ad HG;go_region;(all_goals go_wp2_with fail);go_meet
                case rel=>exact HX
              · (obtain rfl:J2=a:=by omega);have HX:=hide (aa.out.swap 0 J2 J2 i1 i1).drew1;rw [← HG.out] at HX;clear aa ad HG;go_region;(all_goals go_wp2_with fail);go_meet
                case rel=>exact HX
             case rest =>
              have be:=hcut;clear ad;go_wp2_with fail;go_ret2;rw [HV.out];exact⟨⟨false,rfl⟩,be.out⟩
           · (have ax:¬(J2:Int)<(I2:Int):=by omega);have HV:Hid (partLoop ltInt a (I2+1) (J2-1) (swp dk I2 J2)=R):=by
              show _=_;rw [ae.out,if_neg am]
             have m10:=m9 (by omega);obtain⟨G,hG⟩:∃G:Nat→Int,∀t,G t=dk[t]!:=⟨fun t=>dk[t]!,fun _=>rfl⟩;(have ah:∀t,t<m→wc.cell? ⟨blk,off+t,none⟩=some (.int .u64 (G t)):=fun t ht=>by rw [hG];exact ad.out.cell t ht);have ai:∀t,t<m→wc.frozen? ⟨blk,off+t,none⟩=false:=ad.out.fz;have HG:Hid (∀t,G t=dk[t]!):=hG;have aa:=ad;clear hG;(have i1:I2<m:=by omega);(have i2:J2<m:=by omega);have HX:=hide (aa.out.swap 0 I2 J2 i1 i2).drew1;rw [← HG.out,← HG.out] at HX;clear aa ad HG ae m9;go_upto_region 18 with fail;go_region;(all_goals go_wp2_with fail);go_roundw
             case rel=>exact ⟨I2+1,J2-1,_,by go_num,by congr 1;omega,by omega,by omega,by omega,HX,HV⟩
             case measure=>simp only [intOf];omega
theorem Zhv (w0 W:World)(blk off m cap a b pivot:Nat)(d:Array Int)(h:Sq w0 blk off m W d)(aw:a≤pivot)(ay:pivot<b)(hb:b≤m)(hm:m<1000000) :
    Calls Tryz.prog 169 #[.slice (some ⟨blk,off,none⟩) m cap,.int .i64 (a:Nat),.int .i64 (b:Nat),.int .i64 (pivot:Nat)] W fun e W'=>e=.returned (.int .i64 ((partitionEqual ltInt d a b pivot).1:Nat))∧Sq w0 blk off m W' (partitionEqual ltInt d a b pivot).2:=by
  unfold partitionEqual;obtain⟨d1,al⟩:∃d1,d1=swp d a pivot:=⟨_,rfl⟩;rw [← al];obtain⟨R,hR⟩:∃R,R=partEqLoop ltInt a (a+1) (b-1) d1:=⟨_,rfl⟩;rw [← hR];have ah:=hide al;have HR:=hide hR;have HS:=hide h;clear h al hR;go_enter Tryz.func169,Tryz.ntmps169;go_upto_region 1 with fail;go_cut [] from 11 (fun wx=>Hid (Sq w0 blk off m wx d1))
  case first =>
   obtain⟨G,hG⟩:∃G:Nat→Int,∀t,G t=d[t]!:=⟨fun t=>d[t]!,fun _=>rfl⟩;(have aj:∀t,t<m→W.cell? ⟨blk,off+t,none⟩=some (.int .u64 (G t)):=fun t ht=>by rw [hG];exact HS.out.cell t ht);have an:∀t,t<m→W.frozen? ⟨blk,off+t,none⟩=false:=HS.out.fz;have HG:Hid (∀t,G t=d[t]!):=hG;have aa:=HS;clear hG;(have i1:a<m:=by omega);(have i2:pivot<m:=by omega);by_cases ax:a<pivot
   · have HX:=hide (aa.out.swap 0 a pivot i1 i2).drew1;rw [← HG.out,← HG.out,← ah.out] at HX;clear aa HS HG;go_region;(all_goals go_wp2_with fail);go_meet
     case rel=>exact HX
   · (obtain rfl:pivot=a:=by omega);have HX:=hide (aa.out.swap 0 pivot pivot i1 i1).drew1;rw [← HG.out,← ah.out] at HX;clear aa HS HG;go_region;(all_goals go_wp2_with fail);go_meet
     case rel=>exact HX
  case rest =>
   have aq:=hcut;clear hcut ah HS;go_wp2_with fail;go_loopw [9,10] (fun vi vj wr=>∃(i j:Nat) (dk:Array Int),vi=.int .i64 (i:Nat)∧vj=.int .i64 (j:Nat)∧a<i∧i≤j+1∧j<b∧Hid (Sq w0 blk off m wr dk)∧Hid (partEqLoop ltInt a i j dk=R)) (fun vi vj _=>(intOf vj).toNat+1-(intOf vi).toNat)
   case atStart=>exact ⟨a+1,b-1,d1,by go_num,by congr 1;omega,by omega,by omega,by omega,aq,hide HR.out.symm⟩
   case round =>
    clear aq HR;obtain⟨i,j,dk,rfl,rfl,m1,m2,m3,ac,hO⟩:=hrel;(have m4:a≤j:=by omega);go_upto_block 2 with fail;go_cut [9] from 29 to 82 (fun iv wx=>∃I:Nat,iv=.int .i64 (I:Nat)∧Hid (I=scanUp (fun x=>!ltInt dk[a]! x) dk j i)∧Hid (Sq w0 blk off m wx dk))
    case first =>
     go_wp2_with fail;go_loopw [9] (fun vi wr_=>∃iu:Nat,vi=.int .i64 (iu:Nat)∧i≤iu∧iu≤j+1∧Hid (Sq w0 blk off m wr_ dk)∧Hid (scanUp (fun x=>!ltInt dk[a]! x) dk j iu=scanUp (fun x=>!ltInt dk[a]! x) dk j i)) (fun vi _=>j+1-(intOf vi).toNat)
     case atStart=>exact ⟨i,rfl,Nat.le_refl _,by omega,ac,rfl⟩
     case round =>
      rename World=>wr_;obtain⟨iu,rfl,au,av,ab,hO⟩:=hrel;by_cases hc:iu≤j
      · (have ak:(iu:Int)≤(j:Int):=by omega);obtain⟨G,hG⟩:∃G:Nat→Int,∀t,G t=dk[t]!:=⟨fun t=>dk[t]!,fun _=>rfl⟩;(have aj:∀t,t<m→wr_.cell? ⟨blk,off+t,none⟩=some (.int .u64 (G t)):=fun t ht=>by rw [hG];exact ab.out.cell t ht);have an:∀t,t<m→wr_.frozen? ⟨blk,off+t,none⟩=false:=ab.out.fz;have HG:Hid (∀t,G t=dk[t]!):=hG;have aa:=ab;clear hG;(have i1:iu<m:=by omega);(have i2:a<m:=by omega);have HD:Hid (∀q,Sq w0 blk off m (wr_.drewN q) dk):=aa.out.drewN;clear aa ab;cases hl:ltInt (G a) (G iu) with
        | false =>
         (have ai:Hid (scanUp (fun x=>!ltInt dk[a]! x) dk j (iu+1)=scanUp (fun x=>!ltInt dk[a]! x) dk j i):=by show _=_;rw [Zov hc (by simp only [← HG.out];simp [hl])];exact hO.out);clear hO HG;go_wp2_with fail;go_quiet (first | (go_at_call 168;refine Calls.quiet_of_same (Zah _ _ _)));go_wp2_with fail;go_roundw
         case rel=>exact ⟨iu+1,by go_num,by omega,by omega,HD.out _,ai⟩
         case measure=>simp only [intOf];omega
        | true =>
         (have HE:Hid (iu=scanUp (fun x=>!ltInt dk[a]! x) dk j i):=by show _=_;rw [← hO.out,Zed (.inr (by simp only [← HG.out];simp [hl]))]);clear hO HG;go_wp2_with fail;go_quiet (first | (go_at_call 168;refine Calls.quiet_of_same (Zah _ _ _)));go_wp2_with fail;go_meet
         case rel=>exact ⟨iu,rfl,HE,HD.out _⟩
      · have ak:decide ((iu:Int)≤(j:Int))=false:=decide_eq_false (by omega);(have HE:Hid (iu=scanUp (fun x=>!ltInt dk[a]! x) dk j i):=by show _=_;rw [← hO.out,Zed (.inl hc)]);have HD:Hid (∀q,Sq w0 blk off m (wr_.drewN q) dk):=ab.out.drewN;clear hO ab;go_wp2_with fail;go_quiet (first | (go_at_call 168;refine Calls.quiet_of_same (Zah _ _ _)));go_wp2_with fail;go_meet
        case rel=>exact ⟨iu,rfl,HE,HD.out _⟩
    case rest =>
     clear ac;obtain⟨I2,rfl,ap,ac⟩:=hcut;have ag:=scans (p:=fun x=>!ltInt dk[a]! x) (q:=fun x=>ltInt dk[a]! x) (fun x=>by simp) dk (i:=i) (j:=j) (by omega) m2;have am:=partEqLoop_eq ltInt a i j dk;rw [hO.out,← ap.out] at am;rw [← ap.out] at ag;have ae:=hide ag;have ad:=hide am;have m5:=ag.1;have m6:=ag.2.1;clear ag am hO;go_upto_block 4 with fail;go_cut [10] from 29 to 82 (fun jv wx=>∃J:Nat,jv=.int .i64 (J:Nat)∧Hid (J=scanDown (fun x=>ltInt dk[a]! x) dk I2 j)∧Hid (Sq w0 blk off m wx dk))
     case first =>
      go_wp2_with fail;go_loopw [10] (fun vi wr_=>∃jd:Nat,vi=.int .i64 (jd:Nat)∧I2≤jd+1∧jd≤j∧Hid (Sq w0 blk off m wr_ dk)∧Hid (scanDown (fun x=>ltInt dk[a]! x) dk I2 jd=scanDown (fun x=>ltInt dk[a]! x) dk I2 j)) (fun vi _=>(intOf vi).toNat)
      case atStart=>exact ⟨j,rfl,by omega,Nat.le_refl _,ac,rfl⟩
      case round =>
       rename World=>wr_;obtain⟨jd,rfl,au,av,ab,hO⟩:=hrel;by_cases hc:I2≤jd
       · (have ak:(I2:Int)≤(jd:Int):=by omega);obtain⟨G,hG⟩:∃G:Nat→Int,∀t,G t=dk[t]!:=⟨fun t=>dk[t]!,fun _=>rfl⟩;(have aj:∀t,t<m→wr_.cell? ⟨blk,off+t,none⟩=some (.int .u64 (G t)):=fun t ht=>by rw [hG];exact ab.out.cell t ht);have an:∀t,t<m→wr_.frozen? ⟨blk,off+t,none⟩=false:=ab.out.fz;have HG:Hid (∀t,G t=dk[t]!):=hG;have aa:=ab;clear hG;(have i1:jd<m:=by omega);(have i2:a<m:=by omega);have HD:Hid (∀q,Sq w0 blk off m (wr_.drewN q) dk):=aa.out.drewN;clear aa ab;cases hl:ltInt (G a) (G jd) with
         | true =>
          (have ai:Hid (scanDown (fun x=>ltInt dk[a]! x) dk I2 (jd-1)=scanDown (fun x=>ltInt dk[a]! x) dk I2 j):=by show _=_;rw [ZhM (by omega) hc (by simp only [← HG.out];simp [hl])];exact hO.out);clear hO HG;go_wp2_with fail;go_quiet (first | (go_at_call 168;refine Calls.quiet_of_same (Zah _ _ _)));go_wp2_with fail;go_roundw
          case rel=>exact ⟨jd-1,by congr 1;omega,by omega,by omega,HD.out _,ai⟩
          case measure=>simp only [intOf];omega
         | false =>
          (have HE:Hid (jd=scanDown (fun x=>ltInt dk[a]! x) dk I2 j):=by show _=_;rw [← hO.out,ZbJ (.inr (by simp only [← HG.out];simp [hl]))]);clear hO HG;go_wp2_with fail;go_quiet (first | (go_at_call 168;refine Calls.quiet_of_same (Zah _ _ _)));go_wp2_with fail;go_meet
          case rel=>exact ⟨jd,rfl,HE,HD.out _⟩
       · have ak:decide ((I2:Int)≤(jd:Int))=false:=decide_eq_false (by omega);(have HE:Hid (jd=scanDown (fun x=>ltInt dk[a]! x) dk I2 j):=by show _=_;rw [← hO.out,ZbJ (.inl hc)]);have HD:Hid (∀q,Sq w0 blk off m (wr_.drewN q) dk):=ab.out.drewN;clear hO ab;go_wp2_with fail;go_quiet (first | (go_at_call 168;refine Calls.quiet_of_same (Zah _ _ _)));go_wp2_with fail;go_meet
         case rel=>exact ⟨jd,rfl,HE,HD.out _⟩
     case rest =>
      clear ac;obtain⟨J2,rfl,ar,ac⟩:=hcut;rw [← ar.out] at ae ad;have m7:=ae.out.2.2.1;have m8:=ae.out.2.2.2.1;have m9:=ae.out.2.2.2.2;clear ae;by_cases af:J2<I2
      · have HV:Hid (R=(I2,dk)):=by
         show _=_;rw [ad.out,if_pos af]
        (have ao:(J2:Int)<(I2:Int):=by omega);clear ad m9;go_wp2_with fail;go_ret;rw [HV.out];exact⟨rfl,ac.out⟩
      · (have ao:¬(J2:Int)<(I2:Int):=by omega);have HV:Hid (partEqLoop ltInt a (I2+1) (J2-1) (swp dk I2 J2)=R):=by
         show _=_;rw [ad.out,if_neg af]
        have m10:=m9 (by omega);obtain⟨G,hG⟩:∃G:Nat→Int,∀t,G t=dk[t]!:=⟨fun t=>dk[t]!,fun _=>rfl⟩;(have aj:∀t,t<m→wc.cell? ⟨blk,off+t,none⟩=some (.int .u64 (G t)):=fun t ht=>by rw [hG];exact ac.out.cell t ht);have an:∀t,t<m→wc.frozen? ⟨blk,off+t,none⟩=false:=ac.out.fz;have HG:Hid (∀t,G t=dk[t]!):=hG;have aa:=ac;clear hG;(have i1:I2<m:=by omega);(have i2:J2<m:=by omega);have HX:=hide (aa.out.swap 0 I2 J2 i1 i2).drew1;rw [← HG.out,← HG.out] at HX;clear aa ac HG ad m9;go_upto_region 8 with fail;go_region;(all_goals go_wp2_with fail);go_roundw
        case rel=>exact ⟨I2+1,J2-1,_,by go_num,by congr 1;omega,by omega,by omega,by omega,HX,HV⟩
        case measure=>simp only [intOf];omega
theorem Zl5 (w0 W:World)(blk off m cap a b:Nat)(d:Array Int)(h:Sq w0 blk off m W d)(ad:a<b)(hb:b≤m)(hm:m<1000000) :
    Calls Tryz.prog 166 #[.slice (some ⟨blk,off,none⟩) m cap,.int .i64 (a:Nat),.int .i64 (b:Nat)] W fun e W'=>e=.returned (.tuple #[])∧Sq w0 blk off m W' (reverseRange d a b):=by
  have HS:=hide h;clear h;unfold reverseRange;go_enter Tryz.func166,Tryz.ntmps166;go_wp2_with fail;go_loopw [6,7] (fun vi vj wr=>∃(i j:Nat) (dk:Array Int),vi=.int .i64 (i:Nat)∧vj=.int .i64 (j:Nat)∧j<b∧Hid (Sq w0 blk off m wr dk)∧Hid (reverseLoop i j dk=reverseLoop a (b-1) d)) (fun vi vj _=>(intOf vj).toNat-(intOf vi).toNat)
  case atStart=>exact ⟨a,b-1,d,rfl,by congr 1;omega,by omega,HS,rfl⟩
  case round =>
   obtain⟨i,j,dk,rfl,rfl,m1,aa,hO⟩:=hrel;by_cases ac:i<j
   · (have hz:(i:Int)<(j:Int):=by omega);have HV:Hid (reverseLoop (i+1) (j-1) (swp dk i j)=reverseLoop a (b-1) d):=by
      show _=_;rw [← hO.out]
      conv=>rhs;rw [reverseLoop]
      rw [if_pos ac]
     obtain⟨G,hG⟩:∃G:Nat→Int,∀t,G t=dk[t]!:=⟨fun t=>dk[t]!,fun _=>rfl⟩;(have ae:∀t,t<m→wr.cell? ⟨blk,off+t,none⟩=some (.int .u64 (G t)):=fun t ht=>by rw [hG];exact aa.out.cell t ht);have af:∀t,t<m→wr.frozen? ⟨blk,off+t,none⟩=false:=aa.out.fz;have HG:Hid (∀t,G t=dk[t]!):=hG;have ab:=aa;clear hG;(have i1:i<m:=by omega);(have i2:j<m:=by omega);have HX:=hide (ab.out.swap 0 i j i1 i2).drew1;rw [← HG.out,← HG.out] at HX;clear ab aa HG hO;go_wp2_with fail;go_region;(all_goals go_wp2_with fail);go_roundw
     case rel=>exact ⟨i+1,j-1,_,by go_num,by congr 1;omega,by omega,HX,HV⟩
     case measure=>simp only [intOf];omega
   · (have hz:¬(i:Int)<(j:Int):=by omega);have HV:Hid (dk=reverseLoop a (b-1) d):=by
      show _=_;rw [← hO.out,reverseLoop,if_neg ac]
     go_wp2_with fail;go_end0;exact⟨rfl,by rw [← HV.out];exact aa.out⟩
open Go.RowKit Go.Sort
theorem ZjT (w0 W:World)(blk off m cap a b:Nat)(d:Array Int)(h:Sq w0 blk off m W d)(bb:a<b)(hb:b≤m)(hm:m<1000000) :
    Calls Tryz.prog 167 #[.slice (some ⟨blk,off,none⟩) m cap,.int .i64 (a:Nat),.int .i64 (b:Nat)] W fun e W'=>e=.returned (.bool (partialInsertionSort ltInt d a b).2)∧Sq w0 blk off m W' (partialInsertionSort ltInt d a b).1:=by
  obtain⟨P,hP⟩:∃P,P=partialInsertionSort ltInt d a b:=⟨_,rfl⟩;rw [← hP];(have HP:Hid (partialIns ltInt a b (5-0) (a+1) d=P):=by show _=_;rw [hP];rfl);have HS:=hide h;clear h hP;go_enter Tryz.func167,Tryz.ntmps167;go_wp2_with fail;go_loopw [7,8] (fun vi vs wr=>∃(i s:Nat) (dk:Array Int),vi=.int .i64 (i:Nat)∧vs=.int .i64 (s:Nat)∧s≤5∧a<i∧i≤b∧Hid (Sq w0 blk off m wr dk)∧Hid (partialIns ltInt a b (5-s) i dk=P)) (fun _ vs _=>5-(intOf vs).toNat)
  case atStart=>exact ⟨a+1,0,d,by go_num,rfl,by omega,by omega,by omega,HS,HP⟩
  case round =>
   clear HS HP;obtain⟨i,s,dk,rfl,rfl,bg,bc,ax,am,hO⟩:=hrel;by_cases hs:s<5
   · (have ba:(s:Int)<5:=by omega);go_upto_block 2 with fail;go_cut [7] from 13 to 132 (fun iv wx=>∃k:Nat,iv=.int .i64 (k:Nat)∧i≤k∧k≤b∧Hid (scanSorted ltInt dk b i=k)∧Hid (Sq w0 blk off m wx dk))
     case first =>
      go_wp2_with fail;go_loopw [7] (fun vi wr_=>∃t:Nat,vi=.int .i64 (t:Nat)∧i≤t∧t≤b∧Hid (Sq w0 blk off m wr_ dk)∧Hid (scanSorted ltInt dk b t=scanSorted ltInt dk b i)) (fun vi _=>b-(intOf vi).toNat)
      case atStart=>exact ⟨i,rfl,Nat.le_refl _,ax,am,rfl⟩
      case round =>
       rename World=>wr_;obtain⟨t,rfl,aq,au,aa,hT⟩:=hrel;by_cases hc:t<b
       · (have aw:(t:Int)<(b:Int):=by omega);obtain⟨G,hG⟩:∃G:Nat→Int,∀t,G t=dk[t]!:=⟨fun t=>dk[t]!,fun _=>rfl⟩;(have ai:∀t,t<m→wr_.cell? ⟨blk,off+t,none⟩=some (.int .u64 (G t)):=fun t ht=>by rw [hG];exact aa.out.cell t ht);have ak:∀t,t<m→wr_.frozen? ⟨blk,off+t,none⟩=false:=aa.out.fz;have HG:Hid (∀t,G t=dk[t]!):=hG;have ab:=aa;clear hG;have HD:Hid (∀q,Sq w0 blk off m (wr_.drewN q) dk):=ab.out.drewN;(have i1:t<m:=by omega);(have i2:t-1<m:=by omega);(have i3:1≤t:=by omega);clear ab aa;cases hl:ltInt (G t) (G (t-1)) with
         | false =>
          (have ae:Hid (scanSorted ltInt dk b (t+1)=scanSorted ltInt dk b i):=by show _=_;rw [← hT.out,← scanSorted_go ltInt dk b t hc (by rw [← HG.out,← HG.out];exact hl)]);clear hT HG;go_wp2_with fail;go_quiet (first | (go_at_call 168;refine Calls.quiet_of_same (Zah _ _ _)));go_wp2_with fail;go_roundw
          case rel=>exact ⟨t+1,by go_num,by omega,by omega,HD.out _,ae⟩
          case measure=>simp only [intOf];omega
         | true =>
          (have HE:Hid (scanSorted ltInt dk b i=t):=by show _=_;rw [← hT.out,scanSorted_stop ltInt dk b t (.inr (by rw [← HG.out,← HG.out];exact hl))]);clear hT HG;go_wp2_with fail;go_quiet (first | (go_at_call 168;refine Calls.quiet_of_same (Zah _ _ _)));go_wp2_with fail;go_meet
          case rel=>exact ⟨t,rfl,aq,au,HE,HD.out _⟩
       · have aw:decide ((t:Int)<(b:Int))=false:=decide_eq_false (by omega);(have HE:Hid (scanSorted ltInt dk b i=t):=by show _=_;rw [← hT.out,scanSorted_stop ltInt dk b t (.inl hc)]);have HD:Hid (∀q,Sq w0 blk off m (wr_.drewN q) dk):=aa.out.drewN;clear hT aa;go_wp2_with fail;go_quiet (first | (go_at_call 168;refine Calls.quiet_of_same (Zah _ _ _)));go_wp2_with fail;go_meet
         case rel=>exact ⟨t,rfl,aq,au,HE,HD.out _⟩
     case rest =>
      clear am;obtain⟨k,rfl,bd,bf,HK,ad⟩:=hcut;by_cases ac:k=b
      · have HV:Hid (P=(dk,true)):=by
         show _=_;rw [← hO.out,pi_true ltInt a b s i dk hs (HK.out.trans ac)]
        (have ar:((k:Int) == (b:Int))=true:=by simp [ac]);obtain rfl:=ac;clear hO HK;go_wp2_with fail;go_ret;rw [HV.out];exact⟨rfl,ad.out⟩
      · (have ar:¬(k:Int)=(b:Int):=by omega);have az:((k:Int) == (b:Int))=false:=beq_eq_false_iff_ne.2 ar;by_cases ao:b-a<50
        · have HV:Hid (P=(dk,false)):=by
           show _=_;rw [← hO.out,pi_short ltInt a b s i dk hs (by rw [HK.out];exact ac) ao]
          (have av:(b:Int)-(a:Int)<50:=by omega);clear hO HK;go_wp2_with fail;go_ret;rw [HV.out];exact⟨rfl,ad.out⟩
        · (have av:¬(b:Int)-(a:Int)<50:=by omega);have HV:=hide (pi_go ltInt a b s i k dk hs HK.out ac ao);rw [hO.out] at HV;obtain⟨d1,aj⟩:∃d1,d1=swp dk k (k-1):=⟨_,rfl⟩;rw [← aj] at HV;have an:=hide aj;(have i1:k<m:=by omega);(have i2:k-1<m:=by omega);(have i3:1≤k:=by omega);clear hO HK aj;go_upto_region 11 with fail;go_cut [] from 13 to 132 (fun wx=>Hid (Sq w0 blk off m wx d1))
          case first =>
           rename World=>wz;obtain⟨G,hG⟩:∃G:Nat→Int,∀t,G t=dk[t]!:=⟨fun t=>dk[t]!,fun _=>rfl⟩;(have ai:∀t,t<m→wz.cell? ⟨blk,off+t,none⟩=some (.int .u64 (G t)):=fun t ht=>by rw [hG];exact ad.out.cell t ht);have ak:∀t,t<m→wz.frozen? ⟨blk,off+t,none⟩=false:=ad.out.fz;have HG:Hid (∀t,G t=dk[t]!):=hG;have ab:=ad;clear hG;have HX:=hide (ab.out.swap 0 k (k-1) i1 i2).drew1;rw [← HG.out,← HG.out,← an.out] at HX;clear ab ad HG;go_region;(all_goals go_wp2_with fail);go_meet
           case rel=>exact HX
          case rest =>
           clear ad an;have af:=hcut;clear hcut;go_upto_if 61 with fail;go_cut [9] from 13 to 132 (fun jv wx=>Hid (Sq w0 blk off m wx (fixDown ltInt a k d1)))
           case first =>
            by_cases h2:k-a ≥ 2
            · (have ah:(2:Int)≤(k:Int)-(a:Int):=by omega);(have HF:Hid (fixDown ltInt a k d1=shiftDown ltInt (k-1) d1):=by show _=_;unfold fixDown;rw [if_pos h2]);go_wp2_with fail;go_loopw [9] (fun vj wr_=>∃(j:Nat) (dj:Array Int),vj=.int .i64 (j:Nat)∧j≤k-1∧Hid (Sq w0 blk off m wr_ dj)∧Hid (shiftDown ltInt j dj=shiftDown ltInt (k-1) d1)) (fun vj _=>(intOf vj).toNat)
              case atStart=>exact ⟨k-1,d1,by congr 1;omega,Nat.le_refl _,af,rfl⟩
              case round =>
               clear af;rename World=>wr_;obtain⟨j,dj,rfl,ay,aa,hT⟩:=hrel;by_cases hj:1≤j
               · (have al:(1:Int)≤(j:Int):=by omega);obtain⟨G,hG⟩:∃G:Nat→Int,∀t,G t=dj[t]!:=⟨fun t=>dj[t]!,fun _=>rfl⟩;(have ai:∀t,t<m→wr_.cell? ⟨blk,off+t,none⟩=some (.int .u64 (G t)):=fun t ht=>by rw [hG];exact aa.out.cell t ht);have ak:∀t,t<m→wr_.frozen? ⟨blk,off+t,none⟩=false:=aa.out.fz;have HG:Hid (∀t,G t=dj[t]!):=hG;have ab:=aa;clear hG;(have l1:j<m:=by omega);(have l2:j-1<m:=by omega);cases hl:ltInt (G j) (G (j-1)) with
                 | true =>
                  (have ae:Hid (shiftDown ltInt (j-1) (swp dj j (j-1))=shiftDown ltInt (k-1) d1):=by show _=_;rw [← hT.out,shiftDown_go ltInt j dj hj (by rw [← HG.out,← HG.out];exact hl)]);have HX:Hid (∀q,Sq w0 blk off m (((wr_.drewN q).setCell ⟨blk,off+j,none⟩ (.int .u64 (G (j-1)))).setCell ⟨blk,off+(j-1),none⟩ (.int .u64 (G j))) (swp dj j (j-1))):=fun q=>by
                   rw [HG.out,HG.out];exact ab.out.swap q j (j-1) l1 l2
                  clear hT HG ab aa;go_wp2_with fail;go_quiet (first | (go_at_call 168;refine Calls.quiet_of_same (Zah _ _ _)));go_wp2_with fail;go_region;(all_goals go_wp2_with fail);go_roundw
                  case rel=>exact ⟨j-1,_,by congr 1;omega,by omega,HX.out _,ae⟩
                  case measure=>simp only [intOf];omega
                 | false =>
                  (have HE:Hid (fixDown ltInt a k d1=dj):=by show _=_;rw [HF.out,← hT.out,shiftDown_stop ltInt j dj (.inr (by rw [← HG.out,← HG.out];exact hl))]);have HD:Hid (∀q,Sq w0 blk off m (wr_.drewN q) dj):=ab.out.drewN;clear hT HG ab aa;go_wp2_with fail;go_quiet (first | (go_at_call 168;refine Calls.quiet_of_same (Zah _ _ _)));go_wp2_with fail;go_meet
                  case rel=>exact (by show Sq _ _ _ _ _ _;rw [HE.out];exact HD.out _)
               · (have al:¬(1:Int)≤(j:Int):=by omega);(have HE:Hid (fixDown ltInt a k d1=dj):=by show _=_;rw [HF.out,← hT.out,shiftDown_stop ltInt j dj (.inl (by omega))]);clear hT;go_wp2_with fail;go_meet
                 case rel=>exact (by show Sq _ _ _ _ _ _;rw [HE.out];exact aa.out)
            · (have ah:¬(2:Int)≤(k:Int)-(a:Int):=by omega);(have HE:Hid (fixDown ltInt a k d1=d1):=by show _=_;unfold fixDown;rw [if_neg h2]);go_wp2_with fail;go_meet
              case rel=>exact (by show Sq _ _ _ _ _ _;rw [HE.out];exact af.out)
           case rest =>
            clear af;have ag:=hcut;clear hcut;obtain⟨d2,ap⟩:∃d2,d2=fixDown ltInt a k d1:=⟨_,rfl⟩;rw [← ap] at ag HV;clear ap;by_cases h2:b-k ≥ 2
            · (have ah:(2:Int)≤(b:Int)-(k:Int):=by omega);(have HF:Hid (fixUp ltInt b k d2=shiftUp ltInt b (k+1) d2):=by show _=_;unfold fixUp;rw [if_pos h2]);go_wp2_with fail;go_loopw [10] (fun vj wr_=>∃(j:Nat) (dj:Array Int),vj=.int .i64 (j:Nat)∧k+1≤j∧j≤b∧Hid (Sq w0 blk off m wr_ dj)∧Hid (shiftUp ltInt b j dj=shiftUp ltInt b (k+1) d2)) (fun vj _=>b-(intOf vj).toNat)
              case atStart=>exact ⟨k+1,d2,by go_num,Nat.le_refl _,by omega,ag,rfl⟩
              case round =>
               clear ag;rename World=>wr_;obtain⟨j,dj,rfl,ay,be,aa,hT⟩:=hrel;by_cases hj:j<b
               · (have al:(j:Int)<(b:Int):=by omega);obtain⟨G,hG⟩:∃G:Nat→Int,∀t,G t=dj[t]!:=⟨fun t=>dj[t]!,fun _=>rfl⟩;(have ai:∀t,t<m→wr_.cell? ⟨blk,off+t,none⟩=some (.int .u64 (G t)):=fun t ht=>by rw [hG];exact aa.out.cell t ht);have ak:∀t,t<m→wr_.frozen? ⟨blk,off+t,none⟩=false:=aa.out.fz;have HG:Hid (∀t,G t=dj[t]!):=hG;have ab:=aa;clear hG;(have l1:j<m:=by omega);(have l2:j-1<m:=by omega);(have l3:1≤j:=by omega);cases hl:ltInt (G j) (G (j-1)) with
                 | true =>
                  (have ae:Hid (shiftUp ltInt b (j+1) (swp dj j (j-1))=shiftUp ltInt b (k+1) d2):=by show _=_;rw [← hT.out,shiftUp_go ltInt b j dj hj (by rw [← HG.out,← HG.out];exact hl)]);have HX:Hid (∀q,Sq w0 blk off m (((wr_.drewN q).setCell ⟨blk,off+j,none⟩ (.int .u64 (G (j-1)))).setCell ⟨blk,off+(j-1),none⟩ (.int .u64 (G j))) (swp dj j (j-1))):=fun q=>by
                   rw [HG.out,HG.out];exact ab.out.swap q j (j-1) l1 l2
                  clear hT HG ab aa;go_wp2_with fail;go_quiet (first | (go_at_call 168;refine Calls.quiet_of_same (Zah _ _ _)));go_wp2_with fail;go_region;(all_goals go_wp2_with fail);go_roundw
                  case rel=>exact ⟨j+1,_,by go_num,by omega,by omega,HX.out _,ae⟩
                  case measure=>simp only [intOf];omega
                 | false =>
                  (have HE:Hid (fixUp ltInt b k d2=dj):=by show _=_;rw [HF.out,← hT.out,shiftUp_stop ltInt b j dj (.inr (by rw [← HG.out,← HG.out];exact hl))]);have HD:Hid (∀q,Sq w0 blk off m (wr_.drewN q) dj):=ab.out.drewN;clear hT HG ab aa;go_wp2_with fail;go_quiet (first | (go_at_call 168;refine Calls.quiet_of_same (Zah _ _ _)));go_wp2_with fail;go_roundw
                  case rel=>exact ⟨k,s+1,_,rfl,by go_num,by omega,by omega,by omega,hide (HD.out _),(show Hid _ from by show _=_;rw [HV.out,HE.out])⟩
                  case measure=>simp only [intOf];omega
               · (have al:¬(j:Int)<(b:Int):=by omega);(have HE:Hid (fixUp ltInt b k d2=dj):=by show _=_;rw [HF.out,← hT.out,shiftUp_stop ltInt b j dj (.inl hj)]);clear hT;go_wp2_with fail;go_roundw
                 case rel=>exact ⟨k,s+1,_,rfl,by go_num,by omega,by omega,by omega,hide (aa.out),(show Hid _ from by show _=_;rw [HV.out,HE.out])⟩
                 case measure=>simp only [intOf];omega
            · (have ah:¬(2:Int)≤(b:Int)-(k:Int):=by omega);(have HE:Hid (fixUp ltInt b k d2=d2):=by show _=_;unfold fixUp;rw [if_neg h2]);go_wp2_with fail;go_roundw
              case rel=>exact ⟨k,s+1,_,rfl,by go_num,by omega,by omega,by omega,hide (ag.out),(show Hid _ from by show _=_;rw [HV.out,HE.out])⟩
              case measure=>simp only [intOf];omega
   · (have ba:¬(s:Int)<5:=by omega);(obtain rfl:s=5:=by omega);(have HV:Hid (P=(dk,false)):=by show _=_;rw [← hO.out];rfl);clear hO;go_wp2_with fail;go_ret;rw [HV.out];exact⟨rfl,am.out⟩
open Go.Shelf
def Zbb:Go.Shelf.Ren:=⟨fun | 6=>38 | 15=>80 | 14=>79 | 28=>123 | 29=>124 | 20=>115 | 21=>116 | 22=>117 | 23=>118 | 24=>119 | 25=>120 | 26=>121 | 27=>122 | 46=>145 | 47=>146 | 48=>147 | 49=>148 | 50=>149 | 57=>171 | n=>n,fun | 22=>38 | 24=>33 | 25=>81 | 3=>3 | 39=>112 | 0=>0 | 53=>147 | 55=>100 | 4=>4 | 46=>140 | 45=>139 | 50=>144 | 5=>5 | 9=>9 | 66=>166 | 70=>170 | 76=>191 | 77=>192 | n=>n,fun | n=>n⟩
theorem Zki:Go.Proofs.SlLaysF0.n6 Tryz.prog Zbb:={
 mixed:=by kernel_rfl
 f6:=⟨Tryz.f38.name,by decide,Tryz.func38.trans (congrArg some (by kernel_rfl))⟩
 f14:=⟨Tryz.f79.name,by decide,Tryz.func79.trans (congrArg some (by kernel_rfl))⟩
 f15:=Tryz.func80.trans (congrArg some (by kernel_rfl))
 f20:=⟨Tryz.f115.name,by decide,Tryz.func115.trans (congrArg some (by kernel_rfl))⟩
 f21:=⟨Tryz.f116.name,by decide,Tryz.func116.trans (congrArg some (by kernel_rfl))⟩
 f22:=⟨Tryz.f117.name,by decide,Tryz.func117.trans (congrArg some (by kernel_rfl))⟩
 f23:=⟨Tryz.f118.name,by decide,Tryz.func118.trans (congrArg some (by kernel_rfl))⟩
 f24:=⟨Tryz.f119.name,by decide,Tryz.func119.trans (congrArg some (by kernel_rfl))⟩
 f25:=⟨Tryz.f120.name,by decide,Tryz.func120.trans (congrArg some (by kernel_rfl))⟩
 f26:=⟨Tryz.f121.name,by decide,Tryz.func121.trans (congrArg some (by kernel_rfl))⟩
 f27:=⟨Tryz.f122.name,by decide,Tryz.func122.trans (congrArg some (by kernel_rfl))⟩
 f28:=Tryz.func123.trans (congrArg some (by kernel_rfl))
 f29:=Tryz.func124.trans (congrArg some (by kernel_rfl))
 f46:=⟨Tryz.f145.name,by decide,Tryz.func145.trans (congrArg some (by kernel_rfl))⟩
 f47:=Tryz.func146.trans (congrArg some (by kernel_rfl))
 f48:=Tryz.func147.trans (congrArg some (by kernel_rfl))
 f49:=⟨Tryz.f148.name,by decide,Tryz.func148.trans (congrArg some (by kernel_rfl))⟩
 f50:=⟨Tryz.f149.name,by decide,Tryz.func149.trans (congrArg some (by kernel_rfl))⟩
 f57:=⟨Tryz.f171.name,by decide,Tryz.func171.trans (congrArg some (by kernel_rfl))⟩
 t0:=Tryz.underlying0
 a0:=Tryz.isAgg0
 z0:=Tryz.sizeOf0
 v0:=Tryz.zeroValue0
 t3:=Tryz.underlying3
 a3:=Tryz.isAgg3
 z3:=Tryz.sizeOf3
 v3:=Tryz.zeroValue3
 t4:=Tryz.underlying4
 a4:=Tryz.isAgg4
 z4:=Tryz.sizeOf4
 v4:=Tryz.zeroValue4
 t5:=Tryz.underlying5
 a5:=Tryz.isAgg5
 z5:=Tryz.sizeOf5
 v5:=Tryz.zeroValue5
 t9:=Tryz.underlying9
 a9:=Tryz.isAgg9
 z9:=Tryz.sizeOf9
 v9:=Tryz.zeroValue9
 t22:=Tryz.underlying38
 a22:=Tryz.isAgg38
 z22:=Tryz.sizeOf38
 v22:=Tryz.zeroValue38
 t25:=Tryz.underlying81
 a25:=Tryz.isAgg81
 z25:=Tryz.sizeOf81
 v25:=Tryz.zeroValue81
 t39:=Tryz.underlying112
 a39:=Tryz.isAgg112
 z39:=Tryz.sizeOf112
 v39:=Tryz.zeroValue112
 t45:=Tryz.underlying139
 a45:=Tryz.isAgg139
 z45:=Tryz.sizeOf139
 v45:=Tryz.zeroValue139
 t46:=Tryz.underlying140
 a46:=Tryz.isAgg140
 z46:=Tryz.sizeOf140
 v46:=Tryz.zeroValue140
 t50:=Tryz.underlying144
 a50:=Tryz.isAgg144
 z50:=Tryz.sizeOf144
 v50:=Tryz.zeroValue144
 t53:=Tryz.underlying147
 a53:=Tryz.isAgg147
 z53:=Tryz.sizeOf147
 v53:=Tryz.zeroValue147
 t55:=Tryz.underlying100
 a55:=Tryz.isAgg100
 z55:=Tryz.sizeOf100
 v55:=Tryz.zeroValue100
 t66:=Tryz.underlying166
 a66:=Tryz.isAgg166
 z66:=Tryz.sizeOf166
 v66:=Tryz.zeroValue166
 t70:=Tryz.underlying170
 a70:=Tryz.isAgg170
 z70:=Tryz.sizeOf170
 v70:=Tryz.zeroValue170
 t76:=Tryz.underlying191
 a76:=Tryz.isAgg191
 z76:=Tryz.sizeOf191
 v76:=Tryz.zeroValue191
 t77:=Tryz.underlying192
 a77:=Tryz.isAgg192
 z77:=Tryz.sizeOf192
 v77:=Tryz.zeroValue192 }
def ZgJ:Go.Shelf.Ren:=⟨fun | 43=>113 | n=>n,fun | 22=>105 | 23=>100 | 3=>3 | 4=>4 | 0=>0 | n=>n,fun | n=>n⟩
theorem Zi9:Go.Proofs.SlLaysE.n43 Tryz.prog ZgJ:={
 mixed:=by kernel_rfl
 f43:=⟨Tryz.f113.name,by decide,Tryz.func113.trans (congrArg some (by kernel_rfl))⟩
 t0:=Tryz.underlying0
 a0:=Tryz.isAgg0
 z0:=Tryz.sizeOf0
 v0:=Tryz.zeroValue0
 t3:=Tryz.underlying3
 a3:=Tryz.isAgg3
 z3:=Tryz.sizeOf3
 v3:=Tryz.zeroValue3
 t4:=Tryz.underlying4
 a4:=Tryz.isAgg4
 z4:=Tryz.sizeOf4
 v4:=Tryz.zeroValue4
 t22:=Tryz.underlying105
 a22:=Tryz.isAgg105
 z22:=Tryz.sizeOf105
 v22:=Tryz.zeroValue105
 a23:=Tryz.isAgg100
 z23:=Tryz.sizeOf100 }
end Go.Proofs.YtdojdcncncgncaaGreat
