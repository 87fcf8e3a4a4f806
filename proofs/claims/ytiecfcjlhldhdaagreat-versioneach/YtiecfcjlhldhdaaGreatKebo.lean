/-
  Lemmas.
-/
import Derived.Test.YtiecfcjlhldhdaaGreatKebm
import Derived.Sort.WalkA6
import Derived.Deep.CutBlock
import Derived.Shelf.SlSortCmp.WholeK
import Derived.Shelf.SlSortCmp.NoneTotal
import Derived.Shelf.SlicesE.Compact
import Derived.Test.YtiecfcjlhldhdaaGreatRows
import Derived.Sort.LotD1
import Derived.Sort.Walk7
import Derived.Test.YtiecfcjlhldhdaaGreatKebn
namespace Go.Proofs.YtiecfcjlhldhdaaGreat
open Go.RowKit
set_option linter.unusedVariables false
set_option linter.unusedSimpArgs false
set_option maxRecDepth 100000
set_option maxHeartbeats 4000000
variable {W:World}{s:Nat}{K:IntKind}{ty:TypeId}{z:Int}
open Go.RowKit Go.Sort
theorem ZkD (w0 W:World)(blk off m cap a b:Nat)(d:Array Int)(h:Sq w0 blk off m W d)(bb:a<b)(hb:b≤m)(hm:m<1000000) :
    Calls Tryz.prog 194 #[.slice (some ⟨blk,off,none⟩) m cap,.int .i64 (a:Nat),.int .i64 (b:Nat)] W fun e W'=>e=.returned (.bool (partialInsertionSort ltInt d a b).2)∧Sq w0 blk off m W' (partialInsertionSort ltInt d a b).1:=by
  obtain⟨P,hP⟩:∃P,P=partialInsertionSort ltInt d a b:=⟨_,rfl⟩;rw [← hP];(have HP:Hid (partialIns ltInt a b (5-0) (a+1) d=P):=by show _=_;rw [hP];rfl);have HS:=hide h;clear h hP;go_enter Tryz.func194,Tryz.ntmps194;go_wp2_with fail;go_loopw [7,8] (fun vi vs wr=>∃(i s:Nat) (dk:Array Int),vi=.int .i64 (i:Nat)∧vs=.int .i64 (s:Nat)∧s≤5∧a<i∧i≤b∧Hid (Sq w0 blk off m wr dk)∧Hid (partialIns ltInt a b (5-s) i dk=P)) (fun _ vs _=>5-(intOf vs).toNat)
  case atStart=>exact ⟨a+1,0,d,by go_num,rfl,by omega,by omega,by omega,HS,HP⟩
  case round =>
   clear HS HP;obtain⟨i,s,dk,rfl,rfl,bg,bc,ax,am,hO⟩:=hrel;by_cases hs:s<5
   · (have ba:(s:Int)<5:=by omega);go_upto_block 2 with fail;go_cut [7] from 13 to 132 (fun iv wx=>∃k:Nat,iv=.int .i64 (k:Nat)∧i≤k∧k≤b∧Hid (scanSorted ltInt dk b i=k)∧Hid (Sq w0 blk off m wx dk))
     case first =>
      go_wp2_with fail;go_loopw [7] (fun vi wr_=>∃t:Nat,vi=.int .i64 (t:Nat)∧i≤t∧t≤b∧Hid (Sq w0 blk off m wr_ dk)∧Hid (scanSorted ltInt dk b t=scanSorted ltInt dk b i)) (fun vi _=>b-(intOf vi).toNat)
      case atStart=>exact ⟨i,rfl,Nat.le_refl _,ax,am,rfl⟩
      case round =>
       rename World=>wr_;obtain⟨t,rfl,aq,au,aa,hT⟩:=hrel;by_cases hc:t<b
       · (have aw:(t:Int)<(b:Int):=by omega);obtain⟨G,hG⟩:∃G:Nat→Int,∀t,G t=dk[t]!:=⟨fun t=>dk[t]!,fun _=>rfl⟩;(have ai:∀t,t<m→wr_.cell? ⟨blk,off+t,none⟩=some (.int .u64 (G t)):=fun t ht=>by rw [hG];exact aa.out.cell t ht);have ak:∀t,t<m→wr_.frozen? ⟨blk,off+t,none⟩=false:=aa.out.fz;have HG:Hid (∀t,G t=dk[t]!):=hG;have ab:=aa;clear hG;have HD:Hid (∀q,Sq w0 blk off m (wr_.drewN q) dk):=ab.out.drewN;(have i1:t<m:=by omega);(have i2:t-1<m:=by omega);(have i3:1≤t:=by omega);clear ab aa;cases hl:ltInt (G t) (G (t-1)) with
         | false =>
          (have ae:Hid (scanSorted ltInt dk b (t+1)=scanSorted ltInt dk b i):=by show _=_;rw [← hT.out,← scanSorted_go ltInt dk b t hc (by rw [← HG.out,← HG.out];exact hl)]);clear hT HG;go_wp2_with fail;go_quiet (first | (go_at_call 195;refine Calls.quiet_of_same (Zaf _ _ _)));go_wp2_with fail;go_roundw
          case rel=>exact ⟨t+1,by go_num,by omega,by omega,HD.out _,ae⟩
          case measure=>simp only [intOf];omega
         | true =>
          (have HE:Hid (scanSorted ltInt dk b i=t):=by show _=_;rw [← hT.out,scanSorted_stop ltInt dk b t (.inr (by rw [← HG.out,← HG.out];exact hl))]);clear hT HG;go_wp2_with fail;go_quiet (first | (go_at_call 195;refine Calls.quiet_of_same (Zaf _ _ _)));go_wp2_with fail;go_meet
          case rel=>exact ⟨t,rfl,aq,au,HE,HD.out _⟩
       · have aw:decide ((t:Int)<(b:Int))=false:=decide_eq_false (by omega);(have HE:Hid (scanSorted ltInt dk b i=t):=by show _=_;rw [← hT.out,scanSorted_stop ltInt dk b t (.inl hc)]);have HD:Hid (∀q,Sq w0 blk off m (wr_.drewN q) dk):=aa.out.drewN;clear hT aa;go_wp2_with fail;go_quiet (first | (go_at_call 195;refine Calls.quiet_of_same (Zaf _ _ _)));go_wp2_with fail;go_meet
         case rel=>exact ⟨t,rfl,aq,au,HE,HD.out _⟩
     case rest =>
      clear am;obtain⟨k,rfl,bd,bf,HK,ad⟩:=hcut;by_cases ac:k=b
      · have HV:Hid (P=(dk,true)):=by
         show _=_;rw [← hO.out,pi_true ltInt a b s i dk hs (HK.out.trans ac)]
        (have ar:((k:Int) == (b:Int))=true:=by simp [ac]);obtain rfl:=ac;clear hO HK;go_wp2_with fail;go_ret;rw [HV.out];exact⟨rfl,ad.out⟩
      · (have ar:¬(k:Int)=(b:Int):=by omega);have az:((k:Int) == (b:Int))=false:=beq_eq_false_iff_ne.2 ar;by_cases ao:b-a<50
        · have HV:Hid (P=(dk,false)):=by
           show _=_;rw [← hO.out,pi_short ltInt a b s i dk hs (by rw [HK.out];exact ac) ao]
          (have av:(b:Int)-(a:Int)<50:=by omega);clear hO HK;go_wp2_with fail;go_ret;rw [HV.out];exact⟨rfl,ad.out⟩
        · (have av:¬(b:Int)-(a:Int)<50:=by omega);have HV:=hide (pi_go ltInt a b s i k dk hs HK.out ac ao);rw [hO.out] at HV;obtain⟨d1,aj⟩:∃d1,d1=swp dk k (k-1):=⟨_,rfl⟩;rw [← aj] at HV;have an:=hide aj;(have i1:k<m:=by omega);(have i2:k-1<m:=by omega);(have i3:1≤k:=by omega);clear hO HK aj;go_upto_region 11 with fail;go_cut [] from 13 to 132 (fun wx=>Hid (Sq w0 blk off m wx d1))
          case first =>
           rename World=>wz;obtain⟨G,hG⟩:∃G:Nat→Int,∀t,G t=dk[t]!:=⟨fun t=>dk[t]!,fun _=>rfl⟩;(have ai:∀t,t<m→wz.cell? ⟨blk,off+t,none⟩=some (.int .u64 (G t)):=fun t ht=>by rw [hG];exact ad.out.cell t ht);have ak:∀t,t<m→wz.frozen? ⟨blk,off+t,none⟩=false:=ad.out.fz;have HG:Hid (∀t,G t=dk[t]!):=hG;have ab:=ad;clear hG;have HX:=hide (ab.out.swap 0 k (k-1) i1 i2).drew1;rw [← HG.out,← HG.out,← an.out] at HX;clear ab ad HG;go_region;(all_goals go_wp2_with fail);go_meet
           case rel=>exact HX
          case rest =>
           clear ad an;have af:=hcut;clear hcut;go_upto_if 61 with fail;go_cut [9] from 13 to 132 (fun jv wx=>Hid (Sq w0 blk off m wx (fixDown ltInt a k d1)))
           case first =>
            by_cases h2:k-a ≥ 2
            · (have ah:(2:Int)≤(k:Int)-(a:Int):=by omega);(have HF:Hid (fixDown ltInt a k d1=shiftDown ltInt (k-1) d1):=by show _=_;unfold fixDown;rw [if_pos h2]);go_wp2_with fail;go_loopw [9] (fun vj wr_=>∃(j:Nat) (dj:Array Int),vj=.int .i64 (j:Nat)∧j≤k-1∧Hid (Sq w0 blk off m wr_ dj)∧Hid (shiftDown ltInt j dj=shiftDown ltInt (k-1) d1)) (fun vj _=>(intOf vj).toNat)
              case atStart=>exact ⟨k-1,d1,by congr 1;omega,Nat.le_refl _,af,rfl⟩
              case round =>
               clear af;rename World=>wr_;obtain⟨j,dj,rfl,ay,aa,hT⟩:=hrel;by_cases hj:1≤j
               · (have al:(1:Int)≤(j:Int):=by omega);obtain⟨G,hG⟩:∃G:Nat→Int,∀t,G t=dj[t]!:=⟨fun t=>dj[t]!,fun _=>rfl⟩;(have ai:∀t,t<m→wr_.cell? ⟨blk,off+t,none⟩=some (.int .u64 (G t)):=fun t ht=>by rw [hG];exact aa.out.cell t ht);have ak:∀t,t<m→wr_.frozen? ⟨blk,off+t,none⟩=false:=aa.out.fz;have HG:Hid (∀t,G t=dj[t]!):=hG;have ab:=aa;clear hG;(have l1:j<m:=by omega);(have l2:j-1<m:=by omega);cases hl:ltInt (G j) (G (j-1)) with
                 | true =>
                  (have ae:Hid (shiftDown ltInt (j-1) (swp dj j (j-1))=shiftDown ltInt (k-1) d1):=by show _=_;rw [← hT.out,shiftDown_go ltInt j dj hj (by rw [← HG.out,← HG.out];exact hl)]);have HX:Hid (∀q,Sq w0 blk off m (((wr_.drewN q).setCell ⟨blk,off+j,none⟩ (.int .u64 (G (j-1)))).setCell ⟨blk,off+(j-1),none⟩ (.int .u64 (G j))) (swp dj j (j-1))):=fun q=>by
                   rw [HG.out,HG.out];exact ab.out.swap q j (j-1) l1 l2
                  clear hT HG ab aa;go_wp2_with fail;go_quiet (first | (go_at_call 195;refine Calls.quiet_of_same (Zaf _ _ _)));go_wp2_with fail;go_region;(all_goals go_wp2_with fail);go_roundw
                  case rel=>exact ⟨j-1,_,by congr 1;omega,by omega,HX.out _,ae⟩
                  case measure=>simp only [intOf];omega
                 | false =>
                  (have HE:Hid (fixDown ltInt a k d1=dj):=by show _=_;rw [HF.out,← hT.out,shiftDown_stop ltInt j dj (.inr (by rw [← HG.out,← HG.out];exact hl))]);have HD:Hid (∀q,Sq w0 blk off m (wr_.drewN q) dj):=ab.out.drewN;clear hT HG ab aa;go_wp2_with fail;go_quiet (first | (go_at_call 195;refine Calls.quiet_of_same (Zaf _ _ _)));go_wp2_with fail;go_meet
                  case rel=>exact (by show Sq _ _ _ _ _ _;rw [HE.out];exact HD.out _)
               · (have al:¬(1:Int)≤(j:Int):=by omega);(have HE:Hid (fixDown ltInt a k d1=dj):=by show _=_;rw [HF.out,← hT.out,shiftDown_stop ltInt j dj (.inl (by omega))]);clear hT;go_wp2_with fail;go_meet
                 case rel=>exact (by show Sq _ _ _ _ _ _;rw [HE.out];exact aa.out)
            · (have ah:¬(2:Int)≤(k:Int)-(a:Int):=by omega);(have HE:Hid (fixDown ltInt a k d1=d1):=by show _=_;unfold fixDown;rw [if_neg h2]);go_wp2_with fail;go_meet
              case rel=>exact (by show Sq _ _ _ _ _ _;rw [HE.out];exact af.out)
           case rest =>
            clear af;have ag:=hcut;clear hcut;obtain⟨d2,ap⟩:∃d2,d2=fixDown ltInt a k d1:=⟨_,rfl⟩;rw [← ap] at ag HV;clear ap;by_cases h2:b-k ≥ 2
            · (have ah:(2:Int)≤(b:Int)-(k:Int):=by omega);(have HF:Hid (fixUp ltInt b k d2=shiftUp ltInt b (k+1) d2):=by show _=_;unfold fixUp;rw [if_pos h2]);go_wp2_with fail;go_loopw [10] (fun vj wr_=>∃(j:Nat) (dj:Array Int),vj=.int .i64 (j:Nat)∧k+1≤j∧j≤b∧Hid (Sq w0 blk off m wr_ dj)∧Hid (shiftUp ltInt b j dj=shiftUp ltInt b (k+1) d2)) (fun vj _=>b-(intOf vj).toNat)
              case atStart=>exact ⟨k+1,d2,by go_num,Nat.le_refl _,by omega,ag,rfl⟩
              case round =>
               clear ag;rename World=>wr_;obtain⟨j,dj,rfl,ay,be,aa,hT⟩:=hrel;by_cases hj:j<b
               · (have al:(j:Int)<(b:Int):=by omega);obtain⟨G,hG⟩:∃G:Nat→Int,∀t,G t=dj[t]!:=⟨fun t=>dj[t]!,fun _=>rfl⟩;(have ai:∀t,t<m→wr_.cell? ⟨blk,off+t,none⟩=some (.int .u64 (G t)):=fun t ht=>by rw [hG];exact aa.out.cell t ht);have ak:∀t,t<m→wr_.frozen? ⟨blk,off+t,none⟩=false:=aa.out.fz;have HG:Hid (∀t,G t=dj[t]!):=hG;have ab:=aa;clear hG;(have l1:j<m:=by omega);(have l2:j-1<m:=by omega);(have l3:1≤j:=by omega);cases hl:ltInt (G j) (G (j-1)) with
                 | true =>
                  (have ae:Hid (shiftUp ltInt b (j+1) (swp dj j (j-1))=shiftUp ltInt b (k+1) d2):=by show _=_;rw [← hT.out,shiftUp_go ltInt b j dj hj (by rw [← HG.out,← HG.out];exact hl)]);have HX:Hid (∀q,Sq w0 blk off m (((wr_.drewN q).setCell ⟨blk,off+j,none⟩ (.int .u64 (G (j-1)))).setCell ⟨blk,off+(j-1),none⟩ (.int .u64 (G j))) (swp dj j (j-1))):=fun q=>by
                   rw [HG.out,HG.out];exact ab.out.swap q j (j-1) l1 l2
                  clear hT HG ab aa;go_wp2_with fail;go_quiet (first | (go_at_call 195;refine Calls.quiet_of_same (Zaf _ _ _)));go_wp2_with fail;go_region;(all_goals go_wp2_with fail);go_roundw
                  case rel=>exact ⟨j+1,_,by go_num,by omega,by omega,HX.out _,ae⟩
                  case measure=>simp only [intOf];omega
                 | false =>
                  (have HE:Hid (fixUp ltInt b k d2=dj):=by show _=_;rw [HF.out,← hT.out,shiftUp_stop ltInt b j dj (.inr (by rw [← HG.out,← HG.out];exact hl))]);have HD:Hid (∀q,Sq w0 blk off m (wr_.drewN q) dj):=ab.out.drewN;clear hT HG ab aa;go_wp2_with fail;go_quiet (first | (go_at_call 195;refine Calls.quiet_of_same (Zaf _ _ _)));go_wp2_with fail;go_roundw
                  case rel=>exact ⟨k,s+1,_,rfl,by go_num,by omega,by omega,by omega,hide (HD.out _),(show Hid _ from by show _=_;rw [HV.out,HE.out])⟩
                  case measure=>simp only [intOf];omega
               · (have al:¬(j:Int)<(b:Int):=by omega);(have HE:Hid (fixUp ltInt b k d2=dj):=by show _=_;rw [HF.out,← hT.out,shiftUp_stop ltInt b j dj (.inl hj)]);clear hT;go_wp2_with fail;go_roundw
                 case rel=>exact ⟨k,s+1,_,rfl,by go_num,by omega,by omega,by omega,hide (aa.out),(show Hid _ from by show _=_;rw [HV.out,HE.out])⟩
                 case measure=>simp only [intOf];omega
            · (have ah:¬(2:Int)≤(b:Int)-(k:Int):=by omega);(have HE:Hid (fixUp ltInt b k d2=d2):=by show _=_;unfold fixUp;rw [if_neg h2]);go_wp2_with fail;go_roundw
              case rel=>exact ⟨k,s+1,_,rfl,by go_num,by omega,by omega,by omega,hide (ag.out),(show Hid _ from by show _=_;rw [HV.out,HE.out])⟩
              case measure=>simp only [intOf];omega
   · (have ba:¬(s:Int)<5:=by omega);(obtain rfl:s=5:=by omega);(have HV:Hid (P=(dk,false)):=by show _=_;rw [← hO.out];rfl);clear hO;go_wp2_with fail;go_ret;rw [HV.out];exact⟨rfl,am.out⟩
open Go.Shelf
def ZaY:Go.Shelf.Ren:=⟨fun | 6=>88 | 15=>92 | 14=>122 | 28=>132 | 29=>133 | 20=>148 | 21=>149 | 22=>150 | 23=>151 | 24=>152 | 25=>153 | 26=>154 | 27=>155 | 46=>179 | 47=>157 | 48=>158 | 49=>180 | 50=>181 | 57=>199 | n=>n,fun | 22=>49 | 24=>39 | 25=>139 | 3=>3 | 39=>142 | 0=>0 | 53=>178 | 55=>88 | 4=>4 | 46=>170 | 45=>169 | 50=>175 | 5=>5 | 9=>9 | 66=>200 | 70=>204 | 76=>222 | 77=>223 | n=>n,fun | n=>n⟩
theorem ZkT:Go.Proofs.SlLaysF0.n6 Tryz.prog ZaY:={
 mixed:=by kernel_rfl
 f6:=⟨Tryz.f88.name,by decide,Tryz.func88.trans (congrArg some (by kernel_rfl))⟩
 f14:=⟨Tryz.f122.name,by decide,Tryz.func122.trans (congrArg some (by kernel_rfl))⟩
 f15:=Tryz.func92.trans (congrArg some (by kernel_rfl))
 f20:=⟨Tryz.f148.name,by decide,Tryz.func148.trans (congrArg some (by kernel_rfl))⟩
 f21:=⟨Tryz.f149.name,by decide,Tryz.func149.trans (congrArg some (by kernel_rfl))⟩
 f22:=⟨Tryz.f150.name,by decide,Tryz.func150.trans (congrArg some (by kernel_rfl))⟩
 f23:=⟨Tryz.f151.name,by decide,Tryz.func151.trans (congrArg some (by kernel_rfl))⟩
 f24:=⟨Tryz.f152.name,by decide,Tryz.func152.trans (congrArg some (by kernel_rfl))⟩
 f25:=⟨Tryz.f153.name,by decide,Tryz.func153.trans (congrArg some (by kernel_rfl))⟩
 f26:=⟨Tryz.f154.name,by decide,Tryz.func154.trans (congrArg some (by kernel_rfl))⟩
 f27:=⟨Tryz.f155.name,by decide,Tryz.func155.trans (congrArg some (by kernel_rfl))⟩
 f28:=Tryz.func132.trans (congrArg some (by kernel_rfl))
 f29:=Tryz.func133.trans (congrArg some (by kernel_rfl))
 f46:=⟨Tryz.f179.name,by decide,Tryz.func179.trans (congrArg some (by kernel_rfl))⟩
 f47:=Tryz.func157.trans (congrArg some (by kernel_rfl))
 f48:=Tryz.func158.trans (congrArg some (by kernel_rfl))
 f49:=⟨Tryz.f180.name,by decide,Tryz.func180.trans (congrArg some (by kernel_rfl))⟩
 f50:=⟨Tryz.f181.name,by decide,Tryz.func181.trans (congrArg some (by kernel_rfl))⟩
 f57:=⟨Tryz.f199.name,by decide,Tryz.func199.trans (congrArg some (by kernel_rfl))⟩
 t0:=Tryz.underlying0
 a0:=Tryz.isAgg0
 z0:=Tryz.sizeOf0
 v0:=Tryz.zeroValue0
 t3:=Tryz.underlying3
 a3:=Tryz.isAgg3
 z3:=Tryz.sizeOf3
 v3:=Tryz.zeroValue3
 t4:=Tryz.underlying4
 a4:=Tryz.isAgg4
 z4:=Tryz.sizeOf4
 v4:=Tryz.zeroValue4
 t5:=Tryz.underlying5
 a5:=Tryz.isAgg5
 z5:=Tryz.sizeOf5
 v5:=Tryz.zeroValue5
 t9:=Tryz.underlying9
 a9:=Tryz.isAgg9
 z9:=Tryz.sizeOf9
 v9:=Tryz.zeroValue9
 t22:=Tryz.underlying49
 a22:=Tryz.isAgg49
 z22:=Tryz.sizeOf49
 v22:=Tryz.zeroValue49
 t25:=Tryz.underlying139
 a25:=Tryz.isAgg139
 z25:=Tryz.sizeOf139
 v25:=Tryz.zeroValue139
 t39:=Tryz.underlying142
 a39:=Tryz.isAgg142
 z39:=Tryz.sizeOf142
 v39:=Tryz.zeroValue142
 t45:=Tryz.underlying169
 a45:=Tryz.isAgg169
 z45:=Tryz.sizeOf169
 v45:=Tryz.zeroValue169
 t46:=Tryz.underlying170
 a46:=Tryz.isAgg170
 z46:=Tryz.sizeOf170
 v46:=Tryz.zeroValue170
 t50:=Tryz.underlying175
 a50:=Tryz.isAgg175
 z50:=Tryz.sizeOf175
 v50:=Tryz.zeroValue175
 t53:=Tryz.underlying178
 a53:=Tryz.isAgg178
 z53:=Tryz.sizeOf178
 v53:=Tryz.zeroValue178
 t55:=Tryz.underlying88
 a55:=Tryz.isAgg88
 z55:=Tryz.sizeOf88
 v55:=Tryz.zeroValue88
 t66:=Tryz.underlying200
 a66:=Tryz.isAgg200
 z66:=Tryz.sizeOf200
 v66:=Tryz.zeroValue200
 t70:=Tryz.underlying204
 a70:=Tryz.isAgg204
 z70:=Tryz.sizeOf204
 v70:=Tryz.zeroValue204
 t76:=Tryz.underlying222
 a76:=Tryz.isAgg222
 z76:=Tryz.sizeOf222
 v76:=Tryz.zeroValue222
 t77:=Tryz.underlying223
 a77:=Tryz.isAgg223
 z77:=Tryz.sizeOf223
 v77:=Tryz.zeroValue223 }
def ZgF:Go.Shelf.Ren:=⟨fun | 43=>143 | n=>n,fun | 22=>154 | 23=>88 | 3=>3 | 4=>4 | 0=>0 | n=>n,fun | n=>n⟩
theorem ZiZ:Go.Proofs.SlLaysE.n43 Tryz.prog ZgF:={
 mixed:=by kernel_rfl
 f43:=⟨Tryz.f143.name,by decide,Tryz.func143.trans (congrArg some (by kernel_rfl))⟩
 t0:=Tryz.underlying0
 a0:=Tryz.isAgg0
 z0:=Tryz.sizeOf0
 v0:=Tryz.zeroValue0
 t3:=Tryz.underlying3
 a3:=Tryz.isAgg3
 z3:=Tryz.sizeOf3
 v3:=Tryz.zeroValue3
 t4:=Tryz.underlying4
 a4:=Tryz.isAgg4
 z4:=Tryz.sizeOf4
 v4:=Tryz.zeroValue4
 t22:=Tryz.underlying154
 a22:=Tryz.isAgg154
 z22:=Tryz.sizeOf154
 v22:=Tryz.zeroValue154
 a23:=Tryz.isAgg88
 z23:=Tryz.sizeOf88 }
open Go.RowKit Go.Sort
theorem Sq.other {w0:World}{blk off m:Nat}{d:Array Int}(h:Sq w0 blk off m W d)(hs:s≠blk)(h0:w0.heap.size≤s)(v:Value):Sq w0 blk off m (W.setCell ⟨s,0,none⟩ v) d:=by
 have hb:∀k,k≠s→(W.setCell ⟨s,0,none⟩ v).heap[k]? = W.heap[k]?:=fun k hk=>by
  simp only [World.setCell];rw [Array.getElem?_modify,if_neg (fun e=>hk e.symm)]
 refine⟨h.size,fun t ht=>⟨?_,?_⟩,?_⟩
 · rw [← (h.holds t ht).1];simp only [World.cell?,hb blk (fun e=>hs e.symm)]
 · rw [← (h.holds t ht).2];simp only [World.frozen?,hb blk (fun e=>hs e.symm)]
 · exact(h.frm.mono (G:=fun k=>k=blk∨k=s) (fun i _ e=>.inl e)).setCell (.inr rfl) v |>.mono (fun i hi e=>by
    rcases e with e | e
    · exact e
    · omega)
def Bn (K:IntKind) (ty:TypeId) (W:World) (s:Nat) (z:Int):Prop:=W.heap[s]? = some (.cells #[.int K z] ty (0,0))
theorem Bn.cell (h:Bn K ty W s z):W.cell? ⟨s,0,none⟩=some (.int K z):=by
 rw [cell_of_row _ _ _ _ _ _ h];rfl
theorem Bn.fz (h:Bn K ty W s z):W.frozen? ⟨s,0,none⟩=false:=frozen_of_row W s 0 _ ty h
theorem Bn.set (h:Bn K ty W s z)(y:Int):Bn K ty (W.setCell ⟨s,0,none⟩ (.int K y)) s y:=by
 unfold Bn at *;simp only [World.setCell];rw [Array.getElem?_modify,if_pos rfl,h];rfl
theorem Bn.far (h:Bn K ty W s z){p:Addr}(hp:p.block≠s)(v:Value):Bn K ty (W.setCell p v) s z:=by
 unfold Bn at *;rw [← h];simp only [World.setCell];rw [Array.getElem?_modify,if_neg hp]
theorem Bn.drewN (h:Bn K ty W s z)(q:Nat):Bn K ty (W.drewN q) s z:=h
def O2 (w0:World) (blk off m s:Nat) (d:Array Int) (x y:Nat) (e:Ending) (W:World):Prop:=
  (∃p q:Nat,e=.returned (.tuple #[.int .i64 (p:Nat),.int .i64 (q:Nat)])∧((p=x∧q=y)∨(p=y∧q=x)))∧Sq w0 blk off m W d∧∃z,Bn .i64 3 W s z
theorem Zmj (w0 W:World)(blk off m cap s x y:Nat)(d:Array Int)(h:Sq w0 blk off m W d)(z:Int)(hz:Bn .i64 3 W s z)(hs:s≠blk)(h0:w0.heap.size≤s)(hx:x<m)(hy:y<m)(hm:m<1000000) :
    Calls Tryz.prog 212 #[.slice (some ⟨blk,off,none⟩) m cap,.int .i64 (x:Nat),.int .i64 (y:Nat),.pointer (some ⟨s,0,none⟩)] W (O2 w0 blk off m s d x y):=by
  have HS:=hide h;have HZ:=hide hz;clear h hz;obtain⟨G,hG⟩:∃G:Nat→Int,∀t,G t=d[t]!:=⟨fun t=>d[t]!,fun _=>rfl⟩;(have ad:∀t,t<m→W.cell? ⟨blk,off+t,none⟩=some (.int .u64 (G t)):=fun t ht=>by rw [hG];exact HS.out.cell t ht);have ae:∀t,t<m→W.frozen? ⟨blk,off+t,none⟩=false:=HS.out.fz;have HG:Hid (∀t,G t=d[t]!):=hG;have aa:=HS;clear hG;have HD:Hid (∀q,Sq w0 blk off m (W.drewN q) d):=aa.out.drewN;clear aa HS;have ab:Hid (∀q,Bn .i64 3 (W.drewN q) s z):=HZ.out.drewN;have c0:=HZ.out.cell;have c1:=HZ.out.fz;have HE:Hid (∀q v,Sq w0 blk off m ((W.drewN q).setCell ⟨s,0,none⟩ v) d):=fun q v=>(HD.out q).other hs h0 v;have ac:Hid (∀q y,Bn .i64 3 ((W.drewN q).setCell ⟨s,0,none⟩ (.int .i64 y)) s y):=fun q y=>(ab.out q).set y;go_enter Tryz.func212,Tryz.ntmps212;go_wp2_with fail;go_quiet (first | (go_at_call 195;refine Calls.quiet_of_same (Zaf _ _ _)));go_wp2_with fail
  · (try simp only [Exit.inBlock,Exit.then]);go_ret2;exact⟨⟨y,x,rfl,.inr ⟨rfl,rfl⟩⟩,HE.out _ _,_,ac.out _ _⟩
  · (try simp only [Exit.inBlock,Exit.then]);go_ret2;exact⟨⟨x,y,rfl,.inl ⟨rfl,rfl⟩⟩,HD.out _,_,ab.out _⟩
def M3 (w0:World) (blk off m s:Nat) (d:Array Int) (x y t:Nat) (e:Ending) (W:World):Prop:=
  (∃p:Nat,e=.returned (.int .i64 (p:Nat))∧(p=x∨p=y∨p=t))∧Sq w0 blk off m W d∧∃z,Bn .i64 3 W s z
theorem Zhq (w0 W:World)(blk off m cap s x y t:Nat)(d:Array Int)(h:Sq w0 blk off m W d)(z:Int)(hz:Bn .i64 3 W s z)(hs:s≠blk)(h0:w0.heap.size≤s)(hx:x<m)(hy:y<m)(ht:t<m)(hm:m<1000000)(vx vy vt:Int)(ex:vx=(x:Nat))(ey:vy=(y:Nat))(et:vt=(t:Nat)) :
    Calls Tryz.prog 205 #[.slice (some ⟨blk,off,none⟩) m cap,.int .i64 vx,.int .i64 vy,.int .i64 vt,.pointer (some ⟨s,0,none⟩)] W (M3 w0 blk off m s d x y t):=by
  subst ex ey et;have HC:Hid (∀(V:World) (x y:Nat),Sq w0 blk off m V d→(∃z,Bn .i64 3 V s z)→x<m→y<m→_):=fun V x y hq ⟨z,hz⟩ hx hy=>Zmj w0 V blk off m cap s x y d hq z hz hs h0 hx hy hm;have H1:=hide (HC.out W x y h ⟨z,hz⟩ hx hy);clear h hz;go_enter Tryz.func205,Tryz.ntmps205;go_wp2_with fail;refine H1.out.mono ?_;rintro e w1 ⟨⟨p,q,rfl,ag⟩,ah,ak⟩;have H2:=hide (HC.out w1 q t ah ak (by omega) ht);have ac:=hide ag;clear ah ak H1 ag;go_wp2_with fail;refine H2.out.mono ?_;rintro e w2 ⟨⟨p2,q2,rfl,ab⟩,ai,al⟩;(have hp:p<m:=by have:=ac.out;omega);(have af:p2<m:=by have:=ac.out;omega);have H3:=hide (HC.out w2 p p2 ai al hp af);have aa:=hide ab;clear ai al H2 ab hp af;go_wp2_with fail;refine H3.out.mono ?_;rintro e w3 ⟨⟨p3,q3,rfl,ae⟩,aj,am⟩;have ad:Hid (M3 w0 blk off m s d x y t (.returned (.int .i64 (q3:Nat))) w3):=⟨⟨q3,rfl,by have:=ac.out;have:=aa.out;omega⟩,aj,am⟩;clear aj am H3 ae ac aa;go_wp2_with fail;go_ret;exact ad.out
theorem Zhr (w0 W:World)(blk off m cap s x:Nat)(d:Array Int)(h:Sq w0 blk off m W d)(z:Int)(hz:Bn .i64 3 W s z)(hs:s≠blk)(h0:w0.heap.size≤s)(h1:1≤x)(hx:x+1<m)(hm:m<1000000)(vx:Int)(ex:vx=(x:Nat)) :
    Calls Tryz.prog 204 #[.slice (some ⟨blk,off,none⟩) m cap,.int .i64 vx,.pointer (some ⟨s,0,none⟩)] W (M3 w0 blk off m s d (x-1) x (x+1)):=by
  (have ad:1≤vx:=by omega);(have ae:vx<1000000:=by omega);have H1:=hide (Zhq w0 W blk off m cap s (x-1) x (x+1) d h z hz hs h0 (by omega) (by omega) hx hm (vx-1) vx (vx+1) (by omega) ex (by omega));clear h hz ex;go_enter Tryz.func204,Tryz.ntmps204;go_wp2_with fail;refine H1.out.mono ?_;rintro e w1 ⟨⟨p,rfl,hp⟩,ab,ac⟩;have aa:Hid (M3 w0 blk off m s d (x-1) x (x+1) (.returned (.int .i64 (p:Nat))) w1):=⟨⟨p,rfl,hp⟩,ab,ac⟩;clear hp ab ac H1;go_wp2_with fail;go_ret;exact aa.out
def CpS (w0:World) (blk off m a b:Nat) (d:Array Int) (e:Ending) (W:World):Prop:=
  (∃(p:Nat) (h:Int),e=.returned (.tuple #[.int .i64 (p:Nat),.int .i64 h])∧a≤p∧p<b∧(h=0∨h=1∨h=2))∧Sq w0 blk off m W d
theorem Ziu (w0 W:World)(blk off m cap a b:Nat)(d:Array Int)(h:Sq w0 blk off m W d)(bk:a+12<b)(hb:b≤m)(hm:m<1000000) :
    Calls Tryz.prog 192 #[.slice (some ⟨blk,off,none⟩) m cap,.int .i64 (a:Nat),.int .i64 (b:Nat)] W (CpS w0 blk off m a b d):=by
  obtain⟨n,hn⟩:∃n:Nat,n=b-a:=⟨_,rfl⟩;obtain⟨p,hp⟩:∃p:Nat,p=n / 4:=⟨_,rfl⟩;(have q1:(b:Int)-(a:Int)=(n:Int):=by omega);(have q2:(n:Int) / 4=(p:Int):=by omega);(have bh:12<n:=by omega);(have k1:a+p*3<b:=by omega);(have k2:3≤p:=by omega);(have k3:a+p*3+1<b:=by omega);have bg:=h.lt (by omega);(have hs:W.heap.size≠blk:=by omega);have h0:w0.heap.size≤W.heap.size:=h.frm.size;have HB:=Zaa W (.cells #[.int .i64 0] 3);have bb:=h.below HB;have al:Bn .i64 3 (W.alloc (.cells #[.int .i64 0] 3)) W.heap.size 0:=heap_alloc_new W _;obtain⟨s,af⟩:∃s,s=W.heap.size:=⟨_,rfl⟩;rw [← af] at hs h0 al;have ab:Hid (∀(V:World) (vx:Int) (x:Nat),Sq w0 blk off m V d→(∃z,Bn .i64 3 V s z)→vx=(x:Nat)→1≤x→x+1<m→_):=fun V vx x hq ⟨z,hz⟩ e h1 h2=>Zhr w0 V blk off m cap s x d hq z hz hs h0 h1 h2 hm vx e;have ad:Hid (∀(V:World) (vx vy vt:Int) (x y t:Nat),Sq w0 blk off m V d→(∃z,Bn .i64 3 V s z)→vx=(x:Nat)→vy=(y:Nat)→vt=(t:Nat)→x<m→y<m→t<m→_):=fun V vx vy vt x y t hq ⟨z,hz⟩ e1 e2 e3 h1 h2 h3=>Zhq w0 V blk off m cap s x y t d hq z hz hs h0 h1 h2 h3 hm vx vy vt e1 e2 e3;have aa:=hide bb;have ah:=hide al;(have bj:(8:Int)≤(n:Int):=by omega);clear h hn hp HB bb al bg;by_cases bi:50≤n
  · (have bf:(50:Int)≤(n:Int):=by omega);(have k4:12≤p:=by omega);go_enter Tryz.func192,Tryz.ntmps192;go_wp2_with fail;generalize W.alloc (.cells #[.int .i64 0] 3)=W1 at *;rw [← af];clear af;refine(ab.out _ _ (a+p) aa.out ⟨_,ah.out⟩ (by omega) (by omega) (by omega)).mono ?_;rintro e w1 ⟨⟨r1,rfl,av⟩,ay,bc⟩;have ai:=hide av;have an:=hide ay;have aq:=hide bc;clear av ay bc aa ah;go_wp2_with fail;refine(ab.out _ _ (a+p*2) an.out aq.out (by omega) (by omega) (by omega)).mono ?_;rintro e w2 ⟨⟨r2,rfl,aw⟩,az,bd⟩;have aj:=hide aw;have ao:=hide az;have ar:=hide bd;clear aw az bd an aq;go_wp2_with fail;refine(ab.out _ _ (a+p*3) ao.out ar.out (by omega) (by omega) (by omega)).mono ?_;rintro e w3 ⟨⟨r3,rfl,ax⟩,ba,be⟩;have ak:=hide ax;have ap:=hide ba;have au:=hide be;clear ax ba be ao ar;go_wp2_with fail;refine(ad.out _ _ _ _ r1 r2 r3 ap.out au.out rfl rfl rfl (by have:=ai.out;omega) (by have:=aj.out;omega) (by have:=ak.out;omega)).mono ?_;rintro e w4 ⟨⟨r4,rfl,am⟩,ae,⟨z4,ag⟩⟩;have ac:Hid (∀hh:Int,(hh=0∨hh=1∨hh=2)→CpS w0 blk off m a b d (.returned (.tuple #[.int .i64 (r4:Nat),.int .i64 hh])) w4):=fun hh hc=>⟨⟨r4,hh,rfl,by have:=ai.out;have:=aj.out;have:=ak.out;omega,by have:=ai.out;have:=aj.out;have:=ak.out;omega,hc⟩,ae⟩;have cz:=ag.cell;clear ae ag am ai aj ak ap au;go_wp2_with fail;(all_goals (try simp only [Exit.inBlock,Exit.then]));(all_goals go_ret2);all_goals exact ac.out _ (by decide)
  · (have bf:¬(50:Int)≤(n:Int):=by omega);go_enter Tryz.func192,Tryz.ntmps192;go_wp2_with fail;generalize W.alloc (.cells #[.int .i64 0] 3)=W1 at *;rw [← af];clear af;refine(ad.out _ _ _ _ (a+p) (a+p*2) (a+p*3) aa.out ⟨_,ah.out⟩ (by omega) (by omega) (by omega) (by omega) (by omega) (by omega)).mono ?_;rintro e w4 ⟨⟨r4,rfl,am⟩,ae,⟨z4,ag⟩⟩;have ac:Hid (∀hh:Int,(hh=0∨hh=1∨hh=2)→CpS w0 blk off m a b d (.returned (.tuple #[.int .i64 (r4:Nat),.int .i64 hh])) w4):=fun hh hc=>⟨⟨r4,hh,rfl,by omega,by omega,hc⟩,ae⟩;have cz:=ag.cell;clear ae ag am aa ah;go_wp2_with fail;(all_goals (try simp only [Exit.inBlock,Exit.then]));(all_goals go_ret2);all_goals exact ac.out _ (by decide)
open Go.RowKit Go.Sort
def BpS (w0:World) (blk off m a b:Nat) (d:Array Int) (e:Ending) (W:World):Prop:=e=.returned (.tuple #[])∧∃d',PermIn a b d d'∧Sq w0 blk off m W d'
theorem Zq7 (s:Nat)(V:World)(z:Nat)(hz:z<18446744073709551616)(h:Bn .u64 200 V s z):Calls Tryz.prog 158 #[.pointer (some ⟨s,0,none⟩)] V fun e w'=>∃Y:Nat,Y<18446744073709551616∧e=.returned (.int .u64 (Y:Nat))∧w'=(V.setCell ⟨s,0,none⟩ (.int .u64 (Y:Nat))).drewN 3:=by
 have hc:=Go.Proofs.AnyF.xorshift_Next (P:=Tryz.prog) (ρ:=ZaY) { ZkT with } s 0 z hz V h.cell h.fz;change Calls Tryz.prog 158 _ _ _ at hc;exact hc.mono fun e w' ⟨h1,h2⟩=>⟨_,xorNextN_lt z hz,h1,h2⟩
theorem ZhT (w0 W:World)(blk off m cap a b:Nat)(d:Array Int)(h:Sq w0 blk off m W d)(be:a+12<b)(hb:b≤m)(hm:m<1000000) :
    Calls Tryz.prog 191 #[.slice (some ⟨blk,off,none⟩) m cap,.int .i64 (a:Nat),.int .i64 (b:Nat)] W (BpS w0 blk off m a b d):=by
  obtain⟨n,hn⟩:∃n:Nat,n=b-a:=⟨_,rfl⟩;obtain⟨p,hp⟩:∃p:Nat,p=n / 4:=⟨_,rfl⟩;obtain⟨M,hM⟩:∃M:Nat,M=1 <<< bitsLen n:=⟨_,rfl⟩;(have bc:1≤M:=by rw [hM,Nat.one_shiftLeft];exact Nat.two_pow_pos _);(have bd:M≤2*n:=by rw [hM,Nat.one_shiftLeft];exact two_pow_bitsLen_le (by omega));have ax:Hid (∀w,Calls Tryz.prog 157 #[.int .i64 (n:Nat)] w fun e w'=>e=.returned (.int .u64 (M:Nat))∧w'=w):=by
   intro w;have hc:=Go.Proofs.AnyF.nextPowerOfTwo (P:=Tryz.prog) (ρ:=ZaY) { ZkT with } n (by omega) w;change Calls Tryz.prog 157 _ _ _ at hc;rw [hM];exact hc
  (have q1:(b:Int)-(a:Int)=(n:Int):=by omega);(have q2:(n:Int) / 4=(p:Int):=by omega);(have bk:a+n=b:=by omega);(have k1:a+p*3<b:=by omega);(have k2:3≤p:=by omega);(have k3:n<1000000:=by omega);have ay:=h.lt (by omega);(have hs:W.heap.size≠blk:=by omega);have h0:w0.heap.size≤W.heap.size:=h.frm.size;have HB:=Zaa W (.cells #[.int .u64 (n:Nat)] 200);have aw:=h.below HB;have aa:Bn .u64 200 (W.alloc (.cells #[.int .u64 (n:Nat)] 200)) W.heap.size (n:Nat):=heap_alloc_new W _;obtain⟨s,ap⟩:∃s,s=W.heap.size:=⟨_,rfl⟩;rw [← ap] at hs h0 aa;have ac:=hide aw;have ar:=hide aa;have ba:=h.size;(have bb:(8:Int)≤(n:Int):=by omega);clear h hn hp HB aw aa ay hM;go_enter Tryz.func191,Tryz.ntmps191;go_wp2_with fail;generalize W.alloc (.cells #[.int .u64 (n:Nat)] 200)=W1 at *;rw [← ap];clear ap;refine(ax.out _).mono ?_;rintro e w1 ⟨rfl,hw⟩;obtain rfl:=hw.symm;go_wp2_with fail;go_loopw [9] (fun vi wr=>∃(i:Nat) (dk:Array Int) (z:Nat),vi=.int .i64 (i:Nat)∧a+p*2-1≤i∧i≤a+p*2+2∧Hid (PermIn a b d dk)∧Hid (Sq w0 blk off m wr dk)∧Hid (z<18446744073709551616)∧Hid (Bn .u64 200 wr s (z:Nat))) (fun vi _=>a+p*2+2-(intOf vi).toNat)
  case atStart=>exact ⟨a+p*2-1,d,n,by congr 1;omega,Nat.le_refl _,by omega,permIn_refl _ _ _,ac,(show Hid _ from by show _<_;omega),ar⟩
  case round =>
   clear ac ar;obtain⟨i,dk,z,rfl,bh,bi,ae,ah,hz,aa⟩:=hrel;by_cases bj:i≤a+p*2+1
   · (have az:(i:Int)≤(a:Int)+(p:Int)*2+1:=by omega);have au:=hide (Zq7 s wr z hz.out aa.out);go_wp2_with fail;refine au.out.mono ?_;rintro e w2 ⟨Y,hY,rfl,aq⟩;obtain⟨O,hO⟩:∃O:Nat,O=Y &&& (M-1):=⟨_,rfl⟩;(have lO:O≤M-1:=by rw [hO];exact Nat.and_le_right);have eAnd:bits .and .u64 (Y:Int) ((M:Int)-1)=(O:Int):=by
      rw [show ((M:Int)-1)=((M-1:Nat):Int) by omega,bits_and_u64_nat _ _ hY (by omega),hO]
     (have an:Hid (Sq w0 blk off m w2 dk):=by show Sq _ _ _ _ _ _;rw [aq];exact (ah.out.other hs h0 _).drewN 3);(have ai:Hid (Bn .u64 200 w2 s (Y:Nat)):=by show Bn _ _ _ _ _;rw [aq];exact (aa.out.set _).drewN 3);have HY:=hide hY;clear aq hO hY au ah aa hz;go_upto_if 43 with fail;go_cut [10] from 26 to 64 (fun ov wx=>∃o:Nat,ov=.int .i64 (o:Nat)∧o<n∧Hid (Sq w0 blk off m wx dk)∧Hid (Bn .u64 200 wx s (Y:Nat)))
     case first =>
      by_cases bl:n≤O
      · (have ao:(n:Int)≤(O:Int):=by omega);go_wp2_with fail;go_meet
        case rel=>exact ⟨O-n,by congr 1;omega,by omega,an,ai⟩
      · (have ao:¬(n:Int)≤(O:Int):=by omega);go_wp2_with fail;go_meet
        case rel=>exact ⟨O,rfl,by omega,an,ai⟩
     case rest =>
      clear an ai eAnd;obtain⟨o,rfl,ho,af,ag⟩:=hcut;obtain⟨G,hG⟩:∃G:Nat→Int,∀t,G t=dk[t]!:=⟨fun t=>dk[t]!,fun _=>rfl⟩;(have bf:∀t,t<m→wc.cell? ⟨blk,off+t,none⟩=some (.int .u64 (G t)):=fun t ht=>by rw [hG];exact af.out.cell t ht);have bg:∀t,t<m→wc.frozen? ⟨blk,off+t,none⟩=false:=af.out.fz;have HG:Hid (∀t,G t=dk[t]!):=hG;have ab:=af;clear hG;(have i1:i<m:=by omega);(have i2:a+o<m:=by omega);have al:Hid (PermIn a b d (swp dk i (a+o))):=permIn_trans _ _ _ _ _ ae.out (swp_permIn dk a b i (a+o) (by omega) (by omega) (by omega) (by omega) (by rw [ab.out.size];exact hb));by_cases av:i=a+o
      · have HX:=hide ((ab.out.swap 0 i i i1 i1).drew1);rw [← HG.out] at HX;(have am:Hid (PermIn a b d (swp dk i i)):=by show PermIn _ _ _ _;have:=al.out;rwa [← av] at this);have ad:=(ag.out.far (p:=⟨blk,off+i,none⟩) (fun e=>hs e.symm) (.int .u64 (G i))).far (p:=⟨blk,off+i,none⟩) (fun e=>hs e.symm) (.int .u64 (G i));have aj:=hide (ad.drewN 1);(have bm:(a:Int)+(o:Int)=(i:Int):=by omega);clear ab af HG al ae ag ad av;go_wp2_with fail;go_region;(all_goals go_wp2_with fail);go_roundw
        case rel=>exact ⟨i+1,_,Y,by go_num,by omega,by omega,am,HX,HY,aj⟩
        case measure=>simp only [intOf];omega
      · have HX:=hide ((ab.out.swap 0 i (a+o) i1 i2).drew1);rw [← HG.out,← HG.out] at HX;have ad:=(ag.out.far (p:=⟨blk,off+i,none⟩) (fun e=>hs e.symm) (.int .u64 (G (a+o)))).far (p:=⟨blk,off+(a+o),none⟩) (fun e=>hs e.symm) (.int .u64 (G i));have aj:=hide (ad.drewN 1);clear ab af HG ae ag ad;go_wp2_with fail;go_region;(all_goals go_wp2_with fail);go_roundw
        case rel=>exact ⟨i+1,_,Y,by go_num,by omega,by omega,al,HX,HY,aj⟩
        case measure=>simp only [intOf];omega
   · (have az:¬(i:Int)≤(a:Int)+(p:Int)*2+1:=by omega);have ak:Hid (BpS w0 blk off m a b d (.returned (.tuple #[])) wr):=⟨rfl,dk,ae.out,ah.out⟩;clear ae ah hz aa;go_wp2_with fail;go_end0;exact ak.out
open Go.RowKit Go.Sort
def SoS (w0:World) (blk off m a b:Nat) (d:Array Int) (e:Ending) (W:World):Prop:=e=.returned (.tuple #[])∧∃d',PermIn a b d d'∧SortedIn ltInt a b d'∧Sq w0 blk off m W d'
def FinQ (a b:Nat) (d:Array Int) (p q:Nat) (dk:Array Int):Prop:=∀d',PermIn p q dk d'→SortedIn ltInt p q d'→PermIn a b d d'∧SortedIn ltInt a b d'
theorem Zmm (w0:World)(blk off m cap:Nat)(hm:m<1000000):∀(k:Nat)(W:World)(a b limit:Nat)(d:Array Int),b-a≤k→Sq w0 blk off m W d→a≤b→b≤m→limit<1000000→Go.Sort.Below ltInt a b d →
    Calls Tryz.prog 172 #[.slice (some ⟨blk,off,none⟩) m cap,.int .i64 (a:Nat),.int .i64 (b:Nat),.int .i64 (limit:Nat)] W (SoS w0 blk off m a b d):=by
  intro k
  induction k using Nat.strongRecOn with
  | _ k ih =>
  intro W a b limit d hk h cl cm bu av;have HS:=hide h;have IH:Hid (∀(V:World) (x y l:Nat) (dk:Array Int),y-x<k→Sq w0 blk off m V dk→x≤y→y≤m→l<1000000→Go.Sort.Below ltInt x y dk→_):=fun V x y l dk h1 h2 h3 h4 h5 h6=>ih (y-x) h1 V x y l dk (Nat.le_refl _) h2 h3 h4 h5 h6;have bz:=hide av;clear h av ih;go_enter Tryz.func172,Tryz.ntmps172;go_wp2_with fail;go_loopw [1,2,3,8,9] (fun v1 v2 v3 v8 v9 wr=>∃(p q l:Nat) (wb wp:Bool) (dk:Array Int),v1=.int .i64 (p:Nat)∧v2=.int .i64 (q:Nat)∧v3=.int .i64 (l:Nat)∧v8=.bool wb∧v9=.bool wp∧p≤q∧q≤m∧q-p≤k∧l<1000000∧Hid (Sq w0 blk off m wr dk)∧Hid (Go.Sort.Below ltInt p q dk)∧Hid (FinQ a b d p q dk)) (fun v1 v2 _ _ _ _=>(intOf v2).toNat-(intOf v1).toNat)
  case atStart=>exact ⟨a,b,limit,true,true,d,rfl,rfl,rfl,rfl,rfl,cl,cm,hk,bu,HS,bz,fun d' h1 h2=>⟨h1,h2⟩⟩
  case round =>
   clear HS bz;obtain⟨p,q,l,wb,wp,dk,rfl,rfl,rfl,rfl,rfl,bd,aa,da,ct,aj,an,ac⟩:=hrel;obtain⟨n,hn⟩:∃n:Nat,p+n=q:=⟨q-p,by omega⟩;(have q1:(q:Int)-(p:Int)=(n:Int):=by omega);by_cases cw:n≤12
   · (have bq:(n:Int)≤12:=by omega);have HC:=hide (ZlK w0 wr blk off m cap p q dk aj.out bd aa hm);have hI:=insertionSort_holds (lt:=ltInt) swo_ltInt dk p q bd (by rw [aj.out.size];exact aa);have HE:=hide (ac.out _ hI.1 hI.2);clear ac an hI aj;go_wp2_with fail;refine HC.out.mono ?_;rintro e w1 ⟨rfl,ag⟩;have ar:=hide ag;clear ag HC;go_wp2_with fail;(try simp only [Exit.inBlock,Exit.then]);refine bodyPost_ret (results_none rfl _ _ _) rfl ?_;exact⟨rfl,_,HE.out.1,HE.out.2,ar.out⟩
   (have bq:¬(n:Int)≤12:=by omega);by_cases cr:l=0
   · obtain rfl:=cr;have HC:=hide (Zkg w0 wr blk off m cap p q dk aj.out (by omega) aa hm);have hI:=heapSort_holds (lt:=ltInt) swo_ltInt dk p q bd (by rw [aj.out.size];exact aa);have HE:=hide (ac.out _ hI.1 hI.2);clear ac an hI aj;go_wp2_with fail;refine HC.out.mono ?_;rintro e w1 ⟨rfl,ag⟩;have ar:=hide ag;clear ag HC;go_wp2_with fail;(try simp only [Exit.inBlock,Exit.then]);refine bodyPost_ret (results_none rfl _ _ _) rfl ?_;exact⟨rfl,_,HE.out.1,HE.out.2,ar.out⟩
   (have bt:¬(l:Int)=0:=by omega);have cs:((l:Int) == 0)=false:=beq_eq_false_iff_ne.2 bt;(have al:p+12<q:=by omega);go_upto_if 35 with fail;go_cut [3] from 19 to 133 (fun lv wx=>∃(l2:Nat) (d1:Array Int),lv=.int .i64 (l2:Nat)∧l2<1000000∧Hid (PermIn p q dk d1)∧Hid (Sq w0 blk off m wx d1))
   case first =>
    cases wb with
    | true =>
     go_wp2_with fail;go_meet
     case rel=>exact ⟨l,dk,rfl,ct,permIn_refl _ _ _,aj⟩
    | false =>
     have HC:=hide (ZhT w0 wr blk off m cap p q dk aj.out al aa hm);go_wp2_with fail;refine HC.out.mono ?_;rintro e w1 ⟨rfl,d1,ao,ag⟩;have ar:=hide ag;have ch:=hide ao;clear ag ao HC;go_wp2_with fail;go_meet
     case rel=>exact ⟨l-1,d1,by congr 1;omega,by omega,ch,ar⟩
   case rest =>
    clear aj;obtain⟨l2,d1,rfl,ax,ao,ag⟩:=hcut;have ca:=hide (Ziu w0 wc blk off m cap p q d1 ag.out al aa hm);clear ag;go_wp2_with fail;refine ca.out.mono ?_;rintro e w2 ⟨⟨c,hh,rfl,cn,co,ce⟩,cf⟩;have au:=hide cf;have HH:=hide ce;clear cf ce ca;go_upto_if 50 with fail;go_cut [11,12] from 19 to 133 (fun cv hv wx=>∃(c2:Nat) (h2:Int) (d2:Array Int),cv=.int .i64 (c2:Nat)∧hv=.int .i64 h2∧p≤c2∧c2<q∧Hid (PermIn p q dk d2)∧Hid (Sq w0 blk off m wx d2))
    case first =>
     by_cases cd:hh=2
     · obtain rfl:=cd;have HC:=hide (Zmw w0 w2 blk off m cap p q d1 au.out (by omega) aa hm);have ci:Hid (PermIn p q dk (reverseRange d1 p q)):=permIn_trans _ _ _ _ _ ao.out (reverseRange_holds d1 p q bd (by rw [au.out.size];exact aa));clear au HH;go_wp2_with fail;refine HC.out.mono ?_;rintro e w3 ⟨rfl,ab⟩;have cj:=hide ab;clear ab HC;go_wp2_with fail;go_meet
       case rel=>exact ⟨q-1-(c-p),1,_,by congr 1;omega,rfl,by omega,by omega,ci,cj⟩
     · have cq:(hh == 2)=false:=beq_eq_false_iff_ne.2 cd;go_wp2_with fail;go_meet
       case rel=>exact ⟨c,hh,d1,rfl,rfl,cn,co,ao,au⟩
    case rest =>
     clear au ao HH;obtain⟨c2,h2,d2,rfl,rfl,ah,ai,ay,ab⟩:=hcut;go_upto_region 15 with fail;go_cut [68] from 19 to 133 (fun tv wx=>∃t:Bool,tv=.bool t∧Hid (Sq w0 blk off m wx d2))
     case first =>
      by_cases cc:h2=1
      · obtain rfl:=cc;cases wb <;> cases wp;(all_goals go_wp2_with fail);all_goals go_meet
        case rel=>exact ⟨_,rfl,ab⟩
        case rel=>exact ⟨_,rfl,ab⟩
        case rel=>exact ⟨_,rfl,ab⟩
        case rel=>exact ⟨_,rfl,ab⟩
      · have cp:(h2 == 1)=false:=beq_eq_false_iff_ne.2 cc;cases wb <;> cases wp;(all_goals go_wp2_with fail);all_goals go_meet
        case rel=>exact ⟨_,rfl,ab⟩
        case rel=>exact ⟨_,rfl,ab⟩
        case rel=>exact ⟨_,rfl,ab⟩
        case rel=>exact ⟨_,rfl,ab⟩
     case rest =>
     clear ab;obtain⟨t,rfl,ab⟩:=hcut;go_upto_if 68 with fail;go_cut [] from 19 to 133 (fun wx=>∃d3:Array Int,Hid (PermIn p q dk d3)∧Hid (Sq w0 blk off m wx d3))
     case first =>
      cases t with
      | false =>
       go_wp2_with fail;go_meet
       case rel=>exact ⟨d2,ay,ab⟩
      | true =>
       have cb:Go.Sort.Below ltInt p q d2:=an.out.perm (by rw [← ay.out.1,ab.out.size];exact aa) ay.out;have hI:=partialInsertionSort_holds (lt:=ltInt) swo_ltInt d2 p q (by omega) (by rw [ab.out.size];exact aa) cb;have HC:=hide (ZkD w0 wc blk off m cap p q d2 ab.out (by omega) aa hm);have bj:Hid (PermIn p q dk (partialInsertionSort ltInt d2 p q).1):=permIn_trans _ _ _ _ _ ay.out hI.1;have bi:=hide hI.2;obtain⟨R,hR⟩:∃R,R=partialInsertionSort ltInt d2 p q:=⟨_,rfl⟩;rw [← hR] at bj bi HC;obtain⟨d3,r⟩:=R;clear hI cb hR;cases r with
       | true =>
        have HE:=hide (ac.out _ bj.out (bi.out rfl));clear ac an bi;go_wp2_with fail;refine HC.out.mono ?_;rintro e w4 ⟨rfl,ad⟩;have bo:=hide ad;clear ad HC;go_wp2_with fail;(try simp only [Exit.inBlock,Exit.then]);refine bodyPost_ret (results_none rfl _ _ _) rfl ?_;exact⟨rfl,_,HE.out.1,HE.out.2,bo.out⟩
       | false =>
        go_wp2_with fail;refine HC.out.mono ?_;rintro e w4 ⟨rfl,ad⟩;have bo:=hide ad;clear ad HC;go_wp2_with fail;go_meet
        case rel=>exact ⟨d3,bj,bo⟩
     case rest =>
      clear ab ay;obtain⟨d3,bc,ad⟩:=hcut;have br:Go.Sort.Below ltInt p q d3:=an.out.perm (by rw [← bc.out.1,ad.out.size];exact aa) bc.out;(have bx:q≤d3.size:=by rw [ad.out.size];exact aa);have ae:Hid (FinQ a b d p q d3):=fun d' x y=>ac.out d' (permIn_trans _ _ _ _ _ bc.out x) y;have bl:=hide (fun (mid:Nat) (ap:Bool) (d4:Array Int) (hx:partition ltInt d3 p q c2=(mid,ap,d4))=>round_part (lt:=ltInt) swo_ltInt (partition_holds _) ah ai bx br hx);have bk:=hide (fun (h0:0<p) (bb:ltInt d3[p-1]! d3[c2]! = false) (mid:Nat) (d4:Array Int) (hx:partitionEqual ltInt d3 p q c2=(mid,d4))=>round_eq (lt:=ltInt) swo_ltInt (partitionEqual_holds _) h0 ah ai bx br bb hx);clear ac an bc br bx;go_upto_region 17 with fail;go_cut [87] from 19 to 133 (fun tv wx=>∃t:Bool,tv=.bool t∧Hid (t=true→0<p∧ltInt d3[p-1]! d3[c2]! = false)∧Hid (Sq w0 blk off m wx d3))
      case first =>
       obtain⟨G,hG⟩:∃G:Nat→Int,∀t,G t=d3[t]!:=⟨fun t=>d3[t]!,fun _=>rfl⟩;(have cx:∀t,t<m→wc.cell? ⟨blk,off+t,none⟩=some (.int .u64 (G t)):=fun t ht=>by rw [hG];exact ad.out.cell t ht);have cy:∀t,t<m→wc.frozen? ⟨blk,off+t,none⟩=false:=ad.out.fz;have HG:Hid (∀t,G t=d3[t]!):=hG;have ba:=ad;clear hG;have HD:Hid (∀q,Sq w0 blk off m (wc.drewN q) d3):=ba.out.drewN;(have i2:c2<m:=by omega);by_cases bw:0<p
       · (have cu:(0:Int)<(p:Int):=by omega);(have i1:p-1<m:=by omega);cases hl:ltInt (G (p-1)) (G c2) with
         | false =>
          have HT:Hid (0<p∧ltInt d3[p-1]! d3[c2]! = false):=⟨bw,by rw [← HG.out,← HG.out];exact hl⟩;clear ba HG ad;go_wp2_with fail;go_quiet (first | (go_at_call 195;refine Calls.quiet_of_same (Zaf _ _ _)));go_wp2_with fail;go_meet
          case rel=>exact ⟨true,rfl,hide (fun _=>HT.out),HD.out _⟩
         | true =>
          (have HT:Hid (false=true→0<p∧ltInt d3[p-1]! d3[c2]! = false):=fun e=>by cases e);clear ba HG ad;go_wp2_with fail;go_quiet (first | (go_at_call 195;refine Calls.quiet_of_same (Zaf _ _ _)));go_wp2_with fail;go_meet
          case rel=>exact ⟨false,rfl,HT,HD.out _⟩
       · have cu:decide ((0:Int)<(p:Int))=false:=decide_eq_false (by omega);(have HT:Hid (false=true→0<p∧ltInt d3[p-1]! d3[c2]! = false):=fun e=>by cases e);clear ba HG ad;go_wp2_with fail;go_quiet (first | (go_at_call 195;refine Calls.quiet_of_same (Zaf _ _ _)));go_wp2_with fail;go_meet
         case rel=>exact ⟨false,rfl,HT,HD.out _⟩
      case rest =>
       clear ad;obtain⟨t2,rfl,bs,be⟩:=hcut;cases t2 with
       | true =>
        obtain⟨bw,bb⟩:=bs.out rfl;have HC:=hide (Zhw w0 wc blk off m cap p q c2 d3 be.out ah ai aa hm);obtain⟨R,hR⟩:∃R,R=partitionEqual ltInt d3 p q c2:=⟨_,rfl⟩;obtain⟨mid,d4⟩:=R;obtain⟨r1,r2,r3,r4,r5⟩:=bk.out bw bb mid d4 hR.symm;rw [← hR] at HC;have aq:=hide r4;have cg:Hid (FinQ a b d mid q d4):=fun d' x y=>ae.out d' (r5 d' x y).1 (r5 d' x y).2;clear bs be bk bl ae bb hR r4 r5;go_wp2_with fail;refine HC.out.mono ?_;rintro e w5 ⟨rfl,am⟩;have ck:=hide am;clear am HC;go_wp2_with fail;go_roundw
        case rel=>exact ⟨mid,q,l2,wb,wp,d4,rfl,rfl,rfl,rfl,rfl,r2,aa,by omega,ax,ck,aq,cg⟩
        case measure=>simp only [intOf];omega
       | false =>
        have HC:=hide (ZkB w0 wc blk off m cap p q c2 d3 be.out ah ai aa hm);obtain⟨R,hR⟩:∃R,R=partition ltInt d3 p q c2:=⟨_,rfl⟩;obtain⟨mid,ap',d4⟩:=R;obtain⟨r1,r2,r3,r4,r5,r6,r7⟩:=bl.out mid ap' d4 hR.symm;rw [← hR] at HC;have aq:=hide r4;have bf:=hide r5;have bm:=hide r6;have bn:=hide r7;clear bs be bk bl hR r4 r5 r6 r7;go_wp2_with fail;refine HC.out.mono ?_;rintro e w5 ⟨⟨ap,rfl⟩,am⟩;by_cases cz:mid-p<q-mid
        · (have bv:(mid:Int)-(p:Int)<(q:Int)-(mid:Int):=by omega);have HL:=hide (IH.out w5 p mid l2 d4 (by omega) am r1 (by omega) ax aq.out);clear am HC bn;go_wp2_with fail;refine HL.out.mono ?_;rintro e w6 ⟨rfl,L,aw,af,az⟩;obtain⟨u1,u2⟩:=bm.out L aw af;have bg:=hide u1;have bh:Hid (FinQ a b d (mid+1) q L):=fun d' x y=>ae.out d' (u2 d' x y).1 (u2 d' x y).2;have bp:=hide az;clear az aw af u1 u2 HL bm aq bf ae;go_wp2_with fail;go_roundw
          case rel=>exact ⟨mid+1,q,l2,_,ap,L,by go_num,rfl,rfl,rfl,rfl,r2,aa,by omega,ax,bp,bg,bh⟩
          case measure=>simp only [intOf];omega
        · (have bv:¬(mid:Int)-(p:Int)<(q:Int)-(mid:Int):=by omega);have ak:=IH.out w5 (mid+1) q l2 d4 (by omega) am r2 aa ax bf.out;have HL:Hid (Calls Tryz.prog 172 #[.slice (some ⟨blk,off,none⟩) m cap,.int .i64 ((mid:Int)+1),.int .i64 (q:Nat),.int .i64 (l2:Nat)] w5 (SoS w0 blk off m (mid+1) q d4)):=ak;clear am HC bm ak;go_wp2_with fail;refine HL.out.mono ?_;rintro e w6 ⟨rfl,L,aw,af,az⟩;obtain⟨u1,u2⟩:=bn.out L aw af;have bg:=hide u1;have bh:Hid (FinQ a b d p mid L):=fun d' x y=>ae.out d' (u2 d' x y).1 (u2 d' x y).2;have bp:=hide az;clear az aw af u1 u2 HL bn aq bf ae;go_wp2_with fail;go_roundw
          case rel=>exact ⟨p,mid,l2,_,ap,L,rfl,rfl,rfl,rfl,rfl,r1,by omega,by omega,ax,bp,bg,bh⟩
          case measure=>simp only [intOf];omega
end Go.Proofs.YtiecfcjlhldhdaaGreat
