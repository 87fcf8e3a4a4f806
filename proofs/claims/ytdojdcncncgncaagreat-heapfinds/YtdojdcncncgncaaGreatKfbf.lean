/-
  Lemmas.
-/
import Derived.Test.YtdojdcncncgncaaGreatKfbe
import Derived.Sort.WalkA6
import Derived.Deep.CutBlock
import Derived.Shelf.SlSortCmp.WholeK
import Derived.Shelf.SlSortCmp.NoneTotal
import Derived.Shelf.SlicesE.Compact
import Derived.Test.YtdojdcncncgncaaGreatRows
import Derived.Sort.LotD1
import Derived.Sort.Walk7
namespace Go.Proofs.YtdojdcncncgncaaGreat
open Go.RowKit
set_option linter.unusedVariables false
set_option maxRecDepth 100000
set_option maxHeartbeats 4000000
variable {W:World}{s:Nat}{K:IntKind}{ty:TypeId}{z:Int}
open Go.RowKit Go.Sort
theorem Zju (w0 W:World)(blk off m cap a b:Nat)(d:Array Int)(h:Sq w0 blk off m W d)(hab:a<b)(hb:b≤m)(hm:m<1000000) :
    Calls Tryz.prog 167 #[.slice (some ⟨blk,off,none⟩) m cap,.int .i64 (a:Nat),.int .i64 (b:Nat)] W fun e W'=>e=.returned (.bool (partialInsertionSort ltInt d a b).2)∧Sq w0 blk off m W' (partialInsertionSort ltInt d a b).1:=by
  obtain⟨P,hP⟩:∃P,P=partialInsertionSort ltInt d a b:=⟨_,rfl⟩
  rw [← hP]
  have HP:Hid (partialIns ltInt a b (5-0) (a+1) d=P):=by show _=_;rw [hP];rfl
  have HS:=hide h
  clear h hP
  go_enter Tryz.func167,Tryz.ntmps167
  go_wp2_with fail
  go_loopw [7,8] (fun vi vs wr=>∃(i s:Nat) (dk:Array Int),vi=.int .i64 (i:Nat)∧vs=.int .i64 (s:Nat)∧s≤5∧a<i∧i≤b∧Hid (Sq w0 blk off m wr dk)∧Hid (partialIns ltInt a b (5-s) i dk=P)) (fun _ vs _=>5-(intOf vs).toNat)
  case atStart=>exact ⟨a+1,0,d,by go_num,rfl,by omega,by omega,by omega,HS,HP⟩
  case round =>
   clear HS HP
   obtain⟨i,s,dk,rfl,rfl,hs5,hai,hib,hs0,hO⟩:=hrel
   by_cases hs:s<5
   · have hsz:(s:Int)<5:=by omega
     go_upto_block 2 with fail
     go_cut [7] from 13 to 132 (fun iv wx=>∃k:Nat,iv=.int .i64 (k:Nat)∧i≤k∧k≤b∧Hid (scanSorted ltInt dk b i=k)∧Hid (Sq w0 blk off m wx dk))
     case first =>
      go_wp2_with fail
      go_loopw [7] (fun vi wr_=>∃t:Nat,vi=.int .i64 (t:Nat)∧i≤t∧t≤b∧Hid (Sq w0 blk off m wr_ dk)∧Hid (scanSorted ltInt dk b t=scanSorted ltInt dk b i)) (fun vi _=>b-(intOf vi).toNat)
      case atStart=>exact ⟨i,rfl,Nat.le_refl _,hib,hs0,rfl⟩
      case round =>
       rename World=>wr_
       obtain⟨t,rfl,hit,htb,hsr,hT⟩:=hrel
       by_cases hc:t<b
       · have hcz:(t:Int)<(b:Int):=by omega
         obtain⟨G,hG⟩:∃G:Nat→Int,∀t,G t=dk[t]!:=⟨fun t=>dk[t]!,fun _=>rfl⟩
         have hcw:∀t,t<m→wr_.cell? ⟨blk,off+t,none⟩=some (.int .u64 (G t)):=fun t ht=>by rw [hG];exact hsr.out.cell t ht
         have hfw:∀t,t<m→wr_.frozen? ⟨blk,off+t,none⟩=false:=hsr.out.fz
         have HG:Hid (∀t,G t=dk[t]!):=hG
         have HSQ:=hsr
         clear hG
         have HD:Hid (∀q,Sq w0 blk off m (wr_.drewN q) dk):=HSQ.out.drewN
         have i1:t<m:=by omega
         have i2:t-1<m:=by omega
         have i3:1≤t:=by omega
         clear HSQ hsr
         cases hl:ltInt (G t) (G (t-1)) with
         | false =>
          have HT2:Hid (scanSorted ltInt dk b (t+1)=scanSorted ltInt dk b i):=by show _=_;rw [← hT.out,← scanSorted_go ltInt dk b t hc (by rw [← HG.out,← HG.out];exact hl)]
          clear hT HG
          go_wp2_with fail
          go_quiet (first | (go_at_call 168;refine Calls.quiet_of_same (Zaf _ _ _)))
          go_wp2_with fail
          go_roundw
          case rel=>exact ⟨t+1,by go_num,by omega,by omega,HD.out _,HT2⟩
          case measure=>simp only [intOf];omega
         | true =>
          have HE:Hid (scanSorted ltInt dk b i=t):=by show _=_;rw [← hT.out,scanSorted_stop ltInt dk b t (.inr (by rw [← HG.out,← HG.out];exact hl))]
          clear hT HG
          go_wp2_with fail
          go_quiet (first | (go_at_call 168;refine Calls.quiet_of_same (Zaf _ _ _)))
          go_wp2_with fail
          go_meet
          case rel=>exact ⟨t,rfl,hit,htb,HE,HD.out _⟩
       · have hcz:decide ((t:Int)<(b:Int))=false:=decide_eq_false (by omega)
         have HE:Hid (scanSorted ltInt dk b i=t):=by show _=_;rw [← hT.out,scanSorted_stop ltInt dk b t (.inl hc)]
         have HD:Hid (∀q,Sq w0 blk off m (wr_.drewN q) dk):=hsr.out.drewN
         clear hT hsr
         go_wp2_with fail
         go_quiet (first | (go_at_call 168;refine Calls.quiet_of_same (Zaf _ _ _)))
         go_wp2_with fail
         go_meet
         case rel=>exact ⟨t,rfl,hit,htb,HE,HD.out _⟩
     case rest =>
      clear hs0
      obtain⟨k,rfl,hik,hkb,HK,hs1⟩:=hcut
      by_cases hkb2:k=b
      · have HV:Hid (P=(dk,true)):=by
         show _=_
         rw [← hO.out,pi_true ltInt a b s i dk hs (HK.out.trans hkb2)]
        have hkz:((k:Int) == (b:Int))=true:=by simp [hkb2]
        obtain rfl:=hkb2
        clear hO HK
        go_wp2_with fail
        go_ret
        rw [HV.out]
        exact⟨rfl,hs1.out⟩
      · have hkz:¬(k:Int)=(b:Int):=by omega
        have hkzb:((k:Int) == (b:Int))=false:=beq_eq_false_iff_ne.2 hkz
        by_cases h50:b-a<50
        · have HV:Hid (P=(dk,false)):=by
           show _=_
           rw [← hO.out,pi_short ltInt a b s i dk hs (by rw [HK.out];exact hkb2) h50]
          have h5z:(b:Int)-(a:Int)<50:=by omega
          clear hO HK
          go_wp2_with fail
          go_ret
          rw [HV.out]
          exact⟨rfl,hs1.out⟩
        · have h5z:¬(b:Int)-(a:Int)<50:=by omega
          have HV:=hide (pi_go ltInt a b s i k dk hs HK.out hkb2 h50)
          rw [hO.out] at HV
          obtain⟨d1,hd1⟩:∃d1,d1=swp dk k (k-1):=⟨_,rfl⟩
          rw [← hd1] at HV
          have HD1:=hide hd1
          have i1:k<m:=by omega
          have i2:k-1<m:=by omega
          have i3:1≤k:=by omega
          clear hO HK hd1
          go_upto_region 11 with fail
          go_cut [] from 13 to 132 (fun wx=>Hid (Sq w0 blk off m wx d1))
          case first =>
           rename World=>wz
           obtain⟨G,hG⟩:∃G:Nat→Int,∀t,G t=dk[t]!:=⟨fun t=>dk[t]!,fun _=>rfl⟩
           have hcw:∀t,t<m→wz.cell? ⟨blk,off+t,none⟩=some (.int .u64 (G t)):=fun t ht=>by rw [hG];exact hs1.out.cell t ht
           have hfw:∀t,t<m→wz.frozen? ⟨blk,off+t,none⟩=false:=hs1.out.fz
           have HG:Hid (∀t,G t=dk[t]!):=hG
           have HSQ:=hs1
           clear hG
           have HX:=hide (HSQ.out.swap 0 k (k-1) i1 i2).drew1
           rw [← HG.out,← HG.out,← HD1.out] at HX
           clear HSQ hs1 HG
           go_region
           all_goals go_wp2_with fail
           go_meet
           case rel=>exact HX
          case rest =>
           clear hs1 HD1
           have hs2:=hcut
           clear hcut
           go_upto_if 61 with fail
           go_cut [9] from 13 to 132 (fun jv wx=>Hid (Sq w0 blk off m wx (fixDown ltInt a k d1)))
           case first =>
            by_cases h2:k-a ≥ 2
            · have h2z:(2:Int)≤(k:Int)-(a:Int):=by omega
              have HF:Hid (fixDown ltInt a k d1=shiftDown ltInt (k-1) d1):=by show _=_;unfold fixDown;rw [if_pos h2]
              go_wp2_with fail
              go_loopw [9] (fun vj wr_=>∃(j:Nat) (dj:Array Int),vj=.int .i64 (j:Nat)∧j≤k-1∧Hid (Sq w0 blk off m wr_ dj)∧Hid (shiftDown ltInt j dj=shiftDown ltInt (k-1) d1)) (fun vj _=>(intOf vj).toNat)
              case atStart=>exact ⟨k-1,d1,by congr 1;omega,Nat.le_refl _,hs2,rfl⟩
              case round =>
               clear hs2
               rename World=>wr_
               obtain⟨j,dj,rfl,hj1,hsr,hT⟩:=hrel
               by_cases hj:1≤j
               · have hjz:(1:Int)≤(j:Int):=by omega
                 obtain⟨G,hG⟩:∃G:Nat→Int,∀t,G t=dj[t]!:=⟨fun t=>dj[t]!,fun _=>rfl⟩
                 have hcw:∀t,t<m→wr_.cell? ⟨blk,off+t,none⟩=some (.int .u64 (G t)):=fun t ht=>by rw [hG];exact hsr.out.cell t ht
                 have hfw:∀t,t<m→wr_.frozen? ⟨blk,off+t,none⟩=false:=hsr.out.fz
                 have HG:Hid (∀t,G t=dj[t]!):=hG
                 have HSQ:=hsr
                 clear hG
                 have l1:j<m:=by omega
                 have l2:j-1<m:=by omega
                 cases hl:ltInt (G j) (G (j-1)) with
                 | true =>
                  have HT2:Hid (shiftDown ltInt (j-1) (swp dj j (j-1))=shiftDown ltInt (k-1) d1):=by show _=_;rw [← hT.out,shiftDown_go ltInt j dj hj (by rw [← HG.out,← HG.out];exact hl)]
                  have HX:Hid (∀q,Sq w0 blk off m (((wr_.drewN q).setCell ⟨blk,off+j,none⟩ (.int .u64 (G (j-1)))).setCell ⟨blk,off+(j-1),none⟩ (.int .u64 (G j))) (swp dj j (j-1))):=fun q=>by
                   rw [HG.out,HG.out]
                   exact HSQ.out.swap q j (j-1) l1 l2
                  clear hT HG HSQ hsr
                  go_wp2_with fail
                  go_quiet (first | (go_at_call 168;refine Calls.quiet_of_same (Zaf _ _ _)))
                  go_wp2_with fail
                  go_region
                  all_goals go_wp2_with fail
                  go_roundw
                  case rel=>exact ⟨j-1,_,by congr 1;omega,by omega,HX.out _,HT2⟩
                  case measure=>simp only [intOf];omega
                 | false =>
                  have HE:Hid (fixDown ltInt a k d1=dj):=by show _=_;rw [HF.out,← hT.out,shiftDown_stop ltInt j dj (.inr (by rw [← HG.out,← HG.out];exact hl))]
                  have HD:Hid (∀q,Sq w0 blk off m (wr_.drewN q) dj):=HSQ.out.drewN
                  clear hT HG HSQ hsr
                  go_wp2_with fail
                  go_quiet (first | (go_at_call 168;refine Calls.quiet_of_same (Zaf _ _ _)))
                  go_wp2_with fail
                  go_meet
                  case rel=>exact (by show Sq _ _ _ _ _ _;rw [HE.out];exact HD.out _)
               · have hjz:¬(1:Int)≤(j:Int):=by omega
                 have HE:Hid (fixDown ltInt a k d1=dj):=by show _=_;rw [HF.out,← hT.out,shiftDown_stop ltInt j dj (.inl (by omega))]
                 clear hT
                 go_wp2_with fail
                 go_meet
                 case rel=>exact (by show Sq _ _ _ _ _ _;rw [HE.out];exact hsr.out)
            · have h2z:¬(2:Int)≤(k:Int)-(a:Int):=by omega
              have HE:Hid (fixDown ltInt a k d1=d1):=by show _=_;unfold fixDown;rw [if_neg h2]
              go_wp2_with fail
              go_meet
              case rel=>exact (by show Sq _ _ _ _ _ _;rw [HE.out];exact hs2.out)
           case rest =>
            clear hs2
            have hs3:=hcut
            clear hcut
            obtain⟨d2,hd2⟩:∃d2,d2=fixDown ltInt a k d1:=⟨_,rfl⟩
            rw [← hd2] at hs3 HV
            clear hd2
            by_cases h2:b-k ≥ 2
            · have h2z:(2:Int)≤(b:Int)-(k:Int):=by omega
              have HF:Hid (fixUp ltInt b k d2=shiftUp ltInt b (k+1) d2):=by show _=_;unfold fixUp;rw [if_pos h2]
              go_wp2_with fail
              go_loopw [10] (fun vj wr_=>∃(j:Nat) (dj:Array Int),vj=.int .i64 (j:Nat)∧k+1≤j∧j≤b∧Hid (Sq w0 blk off m wr_ dj)∧Hid (shiftUp ltInt b j dj=shiftUp ltInt b (k+1) d2)) (fun vj _=>b-(intOf vj).toNat)
              case atStart=>exact ⟨k+1,d2,by go_num,Nat.le_refl _,by omega,hs3,rfl⟩
              case round =>
               clear hs3
               rename World=>wr_
               obtain⟨j,dj,rfl,hj1,hjb,hsr,hT⟩:=hrel
               by_cases hj:j<b
               · have hjz:(j:Int)<(b:Int):=by omega
                 obtain⟨G,hG⟩:∃G:Nat→Int,∀t,G t=dj[t]!:=⟨fun t=>dj[t]!,fun _=>rfl⟩
                 have hcw:∀t,t<m→wr_.cell? ⟨blk,off+t,none⟩=some (.int .u64 (G t)):=fun t ht=>by rw [hG];exact hsr.out.cell t ht
                 have hfw:∀t,t<m→wr_.frozen? ⟨blk,off+t,none⟩=false:=hsr.out.fz
                 have HG:Hid (∀t,G t=dj[t]!):=hG
                 have HSQ:=hsr
                 clear hG
                 have l1:j<m:=by omega
                 have l2:j-1<m:=by omega
                 have l3:1≤j:=by omega
                 cases hl:ltInt (G j) (G (j-1)) with
                 | true =>
                  have HT2:Hid (shiftUp ltInt b (j+1) (swp dj j (j-1))=shiftUp ltInt b (k+1) d2):=by show _=_;rw [← hT.out,shiftUp_go ltInt b j dj hj (by rw [← HG.out,← HG.out];exact hl)]
                  have HX:Hid (∀q,Sq w0 blk off m (((wr_.drewN q).setCell ⟨blk,off+j,none⟩ (.int .u64 (G (j-1)))).setCell ⟨blk,off+(j-1),none⟩ (.int .u64 (G j))) (swp dj j (j-1))):=fun q=>by
                   rw [HG.out,HG.out]
                   exact HSQ.out.swap q j (j-1) l1 l2
                  clear hT HG HSQ hsr
                  go_wp2_with fail
                  go_quiet (first | (go_at_call 168;refine Calls.quiet_of_same (Zaf _ _ _)))
                  go_wp2_with fail
                  go_region
                  all_goals go_wp2_with fail
                  go_roundw
                  case rel=>exact ⟨j+1,_,by go_num,by omega,by omega,HX.out _,HT2⟩
                  case measure=>simp only [intOf];omega
                 | false =>
                  have HE:Hid (fixUp ltInt b k d2=dj):=by show _=_;rw [HF.out,← hT.out,shiftUp_stop ltInt b j dj (.inr (by rw [← HG.out,← HG.out];exact hl))]
                  have HD:Hid (∀q,Sq w0 blk off m (wr_.drewN q) dj):=HSQ.out.drewN
                  clear hT HG HSQ hsr
                  go_wp2_with fail
                  go_quiet (first | (go_at_call 168;refine Calls.quiet_of_same (Zaf _ _ _)))
                  go_wp2_with fail
                  go_roundw
                  case rel=>exact ⟨k,s+1,_,rfl,by go_num,by omega,by omega,by omega,hide (HD.out _),(show Hid _ from by show _=_;rw [HV.out,HE.out])⟩
                  case measure=>simp only [intOf];omega
               · have hjz:¬(j:Int)<(b:Int):=by omega
                 have HE:Hid (fixUp ltInt b k d2=dj):=by show _=_;rw [HF.out,← hT.out,shiftUp_stop ltInt b j dj (.inl hj)]
                 clear hT
                 go_wp2_with fail
                 go_roundw
                 case rel=>exact ⟨k,s+1,_,rfl,by go_num,by omega,by omega,by omega,hide (hsr.out),(show Hid _ from by show _=_;rw [HV.out,HE.out])⟩
                 case measure=>simp only [intOf];omega
            · have h2z:¬(2:Int)≤(b:Int)-(k:Int):=by omega
              have HE:Hid (fixUp ltInt b k d2=d2):=by show _=_;unfold fixUp;rw [if_neg h2]
              go_wp2_with fail
              go_roundw
              case rel=>exact ⟨k,s+1,_,rfl,by go_num,by omega,by omega,by omega,hide (hs3.out),(show Hid _ from by show _=_;rw [HV.out,HE.out])⟩
              case measure=>simp only [intOf];omega
   · have hsz:¬(s:Int)<5:=by omega
     obtain rfl:s=5:=by omega
     have HV:Hid (P=(dk,false)):=by show _=_;rw [← hO.out];rfl
     clear hO
     go_wp2_with fail
     go_ret
     rw [HV.out]
     exact⟨rfl,hs0.out⟩
open Go.Shelf
def ZaW : Go.Shelf.Ren := ⟨fun | 6 => 38 | 15 => 80 | 14 => 79 | 28 => 123 | 29 => 124 | 20 => 115 | 21 => 116 | 22 => 117 | 23 => 118 | 24 => 119 | 25 => 120 | 26 => 121 | 27 => 122 | 46 => 145 | 47 => 146 | 48 => 147 | 49 => 148 | 50 => 149 | 57 => 171 | n => n, fun | 22 => 38 | 24 => 33 | 25 => 81 | 3 => 3 | 39 => 112 | 0 => 0 | 53 => 147 | 55 => 100 | 4 => 4 | 46 => 140 | 45 => 139 | 50 => 144 | 5 => 5 | 9 => 9 | 66 => 166 | 70 => 170 | 76 => 191 | 77 => 192 | n => n, fun | n => n⟩
theorem Zj8 : Go.Proofs.SlLaysF0.n6 Tryz.prog ZaW := {
  mixed := by kernel_rfl
  f6 := ⟨Tryz.f38.name, by decide, Tryz.func38.trans (congrArg some (by kernel_rfl))⟩
  f14 := ⟨Tryz.f79.name, by decide, Tryz.func79.trans (congrArg some (by kernel_rfl))⟩
  f15 := Tryz.func80.trans (congrArg some (by kernel_rfl))
  f20 := ⟨Tryz.f115.name, by decide, Tryz.func115.trans (congrArg some (by kernel_rfl))⟩
  f21 := ⟨Tryz.f116.name, by decide, Tryz.func116.trans (congrArg some (by kernel_rfl))⟩
  f22 := ⟨Tryz.f117.name, by decide, Tryz.func117.trans (congrArg some (by kernel_rfl))⟩
  f23 := ⟨Tryz.f118.name, by decide, Tryz.func118.trans (congrArg some (by kernel_rfl))⟩
  f24 := ⟨Tryz.f119.name, by decide, Tryz.func119.trans (congrArg some (by kernel_rfl))⟩
  f25 := ⟨Tryz.f120.name, by decide, Tryz.func120.trans (congrArg some (by kernel_rfl))⟩
  f26 := ⟨Tryz.f121.name, by decide, Tryz.func121.trans (congrArg some (by kernel_rfl))⟩
  f27 := ⟨Tryz.f122.name, by decide, Tryz.func122.trans (congrArg some (by kernel_rfl))⟩
  f28 := Tryz.func123.trans (congrArg some (by kernel_rfl))
  f29 := Tryz.func124.trans (congrArg some (by kernel_rfl))
  f46 := ⟨Tryz.f145.name, by decide, Tryz.func145.trans (congrArg some (by kernel_rfl))⟩
  f47 := Tryz.func146.trans (congrArg some (by kernel_rfl))
  f48 := Tryz.func147.trans (congrArg some (by kernel_rfl))
  f49 := ⟨Tryz.f148.name, by decide, Tryz.func148.trans (congrArg some (by kernel_rfl))⟩
  f50 := ⟨Tryz.f149.name, by decide, Tryz.func149.trans (congrArg some (by kernel_rfl))⟩
  f57 := ⟨Tryz.f171.name, by decide, Tryz.func171.trans (congrArg some (by kernel_rfl))⟩
  t0 := Tryz.underlying0
  a0 := Tryz.isAgg0
  z0 := Tryz.sizeOf0
  v0 := Tryz.zeroValue0
  t3 := Tryz.underlying3
  a3 := Tryz.isAgg3
  z3 := Tryz.sizeOf3
  v3 := Tryz.zeroValue3
  t4 := Tryz.underlying4
  a4 := Tryz.isAgg4
  z4 := Tryz.sizeOf4
  v4 := Tryz.zeroValue4
  t5 := Tryz.underlying5
  a5 := Tryz.isAgg5
  z5 := Tryz.sizeOf5
  v5 := Tryz.zeroValue5
  t9 := Tryz.underlying9
  a9 := Tryz.isAgg9
  z9 := Tryz.sizeOf9
  v9 := Tryz.zeroValue9
  t22 := Tryz.underlying38
  a22 := Tryz.isAgg38
  z22 := Tryz.sizeOf38
  v22 := Tryz.zeroValue38
  t25 := Tryz.underlying81
  a25 := Tryz.isAgg81
  z25 := Tryz.sizeOf81
  v25 := Tryz.zeroValue81
  t39 := Tryz.underlying112
  a39 := Tryz.isAgg112
  z39 := Tryz.sizeOf112
  v39 := Tryz.zeroValue112
  t45 := Tryz.underlying139
  a45 := Tryz.isAgg139
  z45 := Tryz.sizeOf139
  v45 := Tryz.zeroValue139
  t46 := Tryz.underlying140
  a46 := Tryz.isAgg140
  z46 := Tryz.sizeOf140
  v46 := Tryz.zeroValue140
  t50 := Tryz.underlying144
  a50 := Tryz.isAgg144
  z50 := Tryz.sizeOf144
  v50 := Tryz.zeroValue144
  t53 := Tryz.underlying147
  a53 := Tryz.isAgg147
  z53 := Tryz.sizeOf147
  v53 := Tryz.zeroValue147
  t55 := Tryz.underlying100
  a55 := Tryz.isAgg100
  z55 := Tryz.sizeOf100
  v55 := Tryz.zeroValue100
  t66 := Tryz.underlying166
  a66 := Tryz.isAgg166
  z66 := Tryz.sizeOf166
  v66 := Tryz.zeroValue166
  t70 := Tryz.underlying170
  a70 := Tryz.isAgg170
  z70 := Tryz.sizeOf170
  v70 := Tryz.zeroValue170
  t76 := Tryz.underlying191
  a76 := Tryz.isAgg191
  z76 := Tryz.sizeOf191
  v76 := Tryz.zeroValue191
  t77 := Tryz.underlying192
  a77 := Tryz.isAgg192
  z77 := Tryz.sizeOf192
  v77 := Tryz.zeroValue192 }
def Zgx : Go.Shelf.Ren := ⟨fun | 43 => 113 | n => n, fun | 22 => 105 | 23 => 100 | 3 => 3 | 4 => 4 | 0 => 0 | n => n, fun | n => n⟩
theorem Zid : Go.Proofs.SlLaysE.n43 Tryz.prog Zgx := {
  mixed := by kernel_rfl
  f43 := ⟨Tryz.f113.name, by decide, Tryz.func113.trans (congrArg some (by kernel_rfl))⟩
  t0 := Tryz.underlying0
  a0 := Tryz.isAgg0
  z0 := Tryz.sizeOf0
  v0 := Tryz.zeroValue0
  t3 := Tryz.underlying3
  a3 := Tryz.isAgg3
  z3 := Tryz.sizeOf3
  v3 := Tryz.zeroValue3
  t4 := Tryz.underlying4
  a4 := Tryz.isAgg4
  z4 := Tryz.sizeOf4
  v4 := Tryz.zeroValue4
  t22 := Tryz.underlying105
  a22 := Tryz.isAgg105
  z22 := Tryz.sizeOf105
  v22 := Tryz.zeroValue105
  a23 := Tryz.isAgg100
  z23 := Tryz.sizeOf100 }
open Go.RowKit Go.Sort
theorem Sq.other {w0:World}{blk off m : Nat} {d : Array Int} (h : Sq w0 blk off m W d) (hs : s ≠ blk) (h0 : w0.heap.size ≤ s) (v : Value) : Sq w0 blk off m (W.setCell ⟨s, 0, none⟩ v) d := by
 have hb : ∀ k, k ≠ s → (W.setCell ⟨s, 0, none⟩ v).heap[k]? = W.heap[k]? := fun k hk => by
  simp only [World.setCell]
  rw [Array.getElem?_modify, if_neg (fun e => hk e.symm)]
 refine ⟨h.size, fun t ht => ⟨?_, ?_⟩, ?_⟩
 · rw [← (h.holds t ht).1]
   simp only [World.cell?, hb blk (fun e => hs e.symm)]
 · rw [← (h.holds t ht).2]
   simp only [World.frozen?, hb blk (fun e => hs e.symm)]
 · exact (h.frm.mono (G := fun k => k = blk ∨ k = s) (fun i _ e => .inl e)).setCell (.inr rfl) v |>.mono (fun i hi e => by
    rcases e with e | e
    · exact e
    · omega)
def Bn (K : IntKind) (ty : TypeId) (W : World) (s : Nat) (z : Int) : Prop := W.heap[s]? = some (.cells #[.int K z] ty (0, 0))
theorem Bn.cell {K : IntKind} {ty : TypeId} {W : World} {s : Nat} {z : Int} (h : Bn K ty W s z) : W.cell? ⟨s, 0, none⟩ = some (.int K z) := by
  rw [cell_of_row _ _ _ _ _ _ h]; rfl
theorem Bn.fz {K : IntKind} {ty : TypeId} {W : World} {s : Nat} {z : Int} (h : Bn K ty W s z) : W.frozen? ⟨s, 0, none⟩ = false := frozen_of_row W s 0 _ ty h
theorem Bn.set (h : Bn K ty W s z) (y : Int) : Bn K ty (W.setCell ⟨s, 0, none⟩ (.int K y)) s y := by
 unfold Bn at *
 simp only [World.setCell]
 rw [Array.getElem?_modify, if_pos rfl, h]
 rfl
theorem Bn.far (h : Bn K ty W s z) {p : Addr} (hp : p.block ≠ s) (v : Value) : Bn K ty (W.setCell p v) s z := by
 unfold Bn at *
 rw [← h]
 simp only [World.setCell]
 rw [Array.getElem?_modify, if_neg hp]
theorem Bn.drewN {K : IntKind} {ty : TypeId} {W : World} {s : Nat} {z : Int} (h : Bn K ty W s z) (q : Nat) : Bn K ty (W.drewN q) s z := h
def O2 (w0 : World) (blk off m s : Nat) (d : Array Int) (x y : Nat) (e : Ending) (W : World) : Prop :=
  (∃ p q : Nat, e = .returned (.tuple #[.int .i64 (p : Nat), .int .i64 (q : Nat)]) ∧ ((p = x ∧ q = y) ∨ (p = y ∧ q = x))) ∧ Sq w0 blk off m W d ∧ ∃ z, Bn .i64 3 W s z
theorem ZkR (w0 W:World)(blk off m cap s x y:Nat)(d:Array Int)(h:Sq w0 blk off m W d)(z:Int)(hz:Bn .i64 3 W s z)(hs:s≠blk)(h0:w0.heap.size≤s)(hx:x<m)(hy:y<m)(hm:m<1000000) :
    Calls Tryz.prog 189 #[.slice (some ⟨blk,off,none⟩) m cap,.int .i64 (x:Nat),.int .i64 (y:Nat),.pointer (some ⟨s,0,none⟩)] W (O2 w0 blk off m s d x y):=by
  have HS:=hide h
  have HZ:=hide hz
  clear h hz
  obtain⟨G,hG⟩:∃G:Nat→Int,∀t,G t=d[t]!:=⟨fun t=>d[t]!,fun _=>rfl⟩
  have hcw:∀t,t<m→W.cell? ⟨blk,off+t,none⟩=some (.int .u64 (G t)):=fun t ht=>by rw [hG];exact HS.out.cell t ht
  have hfw:∀t,t<m→W.frozen? ⟨blk,off+t,none⟩=false:=HS.out.fz
  have HG:Hid (∀t,G t=d[t]!):=hG
  have HSQ:=HS
  clear hG
  have HD:Hid (∀q,Sq w0 blk off m (W.drewN q) d):=HSQ.out.drewN
  clear HSQ HS
  have HZD:Hid (∀q,Bn .i64 3 (W.drewN q) s z):=HZ.out.drewN
  have c0:=HZ.out.cell
  have c1:=HZ.out.fz
  have HE:Hid (∀q v,Sq w0 blk off m ((W.drewN q).setCell ⟨s,0,none⟩ v) d):=fun q v=>(HD.out q).other hs h0 v
  have HE2:Hid (∀q y,Bn .i64 3 ((W.drewN q).setCell ⟨s,0,none⟩ (.int .i64 y)) s y):=fun q y=>(HZD.out q).set y
  go_enter Tryz.func189,Tryz.ntmps189
  go_wp2_with fail
  go_quiet (first | (go_at_call 168;refine Calls.quiet_of_same (Zaf _ _ _)))
  go_wp2_with fail
  · (try simp only [Exit.inBlock,Exit.then])
    go_ret2
    exact⟨⟨y,x,rfl,.inr ⟨rfl,rfl⟩⟩,HE.out _ _,_,HE2.out _ _⟩
  · (try simp only [Exit.inBlock,Exit.then])
    go_ret2
    exact⟨⟨x,y,rfl,.inl ⟨rfl,rfl⟩⟩,HD.out _,_,HZD.out _⟩
def M3 (w0 : World) (blk off m s : Nat) (d : Array Int) (x y t : Nat) (e : Ending) (W : World) : Prop :=
  (∃ p : Nat, e = .returned (.int .i64 (p : Nat)) ∧ (p = x ∨ p = y ∨ p = t)) ∧ Sq w0 blk off m W d ∧ ∃ z, Bn .i64 3 W s z
theorem ZgP (w0 W:World)(blk off m cap s x y t:Nat)(d:Array Int)(h:Sq w0 blk off m W d)(z:Int)(hz:Bn .i64 3 W s z)(hs:s≠blk)(h0:w0.heap.size≤s)(hx:x<m)(hy:y<m)(ht:t<m)(hm:m<1000000)(vx vy vt:Int)(ex:vx=(x:Nat))(ey:vy=(y:Nat))(et:vt=(t:Nat)) :
    Calls Tryz.prog 181 #[.slice (some ⟨blk,off,none⟩) m cap,.int .i64 vx,.int .i64 vy,.int .i64 vt,.pointer (some ⟨s,0,none⟩)] W (M3 w0 blk off m s d x y t):=by
  subst ex ey et
  have HC:Hid (∀(V:World) (x y:Nat),Sq w0 blk off m V d→(∃z,Bn .i64 3 V s z)→x<m→y<m→_):=fun V x y hq ⟨z,hz⟩ hx hy=>ZkR w0 V blk off m cap s x y d hq z hz hs h0 hx hy hm
  have H1:=hide (HC.out W x y h ⟨z,hz⟩ hx hy)
  clear h hz
  go_enter Tryz.func181,Tryz.ntmps181
  go_wp2_with fail
  refine H1.out.mono ?_
  rintro e w1 ⟨⟨p,q,rfl,hpq⟩,hs1,hz1⟩
  have H2:=hide (HC.out w1 q t hs1 hz1 (by omega) ht)
  have HPQ:=hide hpq
  clear hs1 hz1 H1 hpq
  go_wp2_with fail
  refine H2.out.mono ?_
  rintro e w2 ⟨⟨p2,q2,rfl,hpq2⟩,hs2,hz2⟩
  have hp:p<m:=by have:=HPQ.out;omega
  have hp2:p2<m:=by have:=HPQ.out;omega
  have H3:=hide (HC.out w2 p p2 hs2 hz2 hp hp2)
  have HPQ2:=hide hpq2
  clear hs2 hz2 H2 hpq2 hp hp2
  go_wp2_with fail
  refine H3.out.mono ?_
  rintro e w3 ⟨⟨p3,q3,rfl,hpq3⟩,hs3,hz3⟩
  have HEND:Hid (M3 w0 blk off m s d x y t (.returned (.int .i64 (q3:Nat))) w3):=⟨⟨q3,rfl,by have:=HPQ.out;have:=HPQ2.out;omega⟩,hs3,hz3⟩
  clear hs3 hz3 H3 hpq3 HPQ HPQ2
  go_wp2_with fail
  go_ret
  exact HEND.out
theorem ZgQ (w0 W:World)(blk off m cap s x:Nat)(d:Array Int)(h:Sq w0 blk off m W d)(z:Int)(hz:Bn .i64 3 W s z)(hs:s≠blk)(h0:w0.heap.size≤s)(h1:1≤x)(hx:x+1<m)(hm:m<1000000)(vx:Int)(ex:vx=(x:Nat)) :
    Calls Tryz.prog 180 #[.slice (some ⟨blk,off,none⟩) m cap,.int .i64 vx,.pointer (some ⟨s,0,none⟩)] W (M3 w0 blk off m s d (x-1) x (x+1)):=by
  have hv1:1≤vx:=by omega
  have hv2:vx<1000000:=by omega
  have H1:=hide (ZgP w0 W blk off m cap s (x-1) x (x+1) d h z hz hs h0 (by omega) (by omega) hx hm (vx-1) vx (vx+1) (by omega) ex (by omega))
  clear h hz ex
  go_enter Tryz.func180,Tryz.ntmps180
  go_wp2_with fail
  refine H1.out.mono ?_
  rintro e w1 ⟨⟨p,rfl,hp⟩,hs1,hz1⟩
  have HEND:Hid (M3 w0 blk off m s d (x-1) x (x+1) (.returned (.int .i64 (p:Nat))) w1):=⟨⟨p,rfl,hp⟩,hs1,hz1⟩
  clear hp hs1 hz1 H1
  go_wp2_with fail
  go_ret
  exact HEND.out
def CpS (w0 : World) (blk off m a b : Nat) (d : Array Int) (e : Ending) (W : World) : Prop :=
  (∃ (p : Nat) (h : Int), e = .returned (.tuple #[.int .i64 (p : Nat), .int .i64 h]) ∧ a ≤ p ∧ p < b ∧ (h = 0 ∨ h = 1 ∨ h = 2)) ∧ Sq w0 blk off m W d
theorem Zh7 (w0 W:World)(blk off m cap a b:Nat)(d:Array Int)(h:Sq w0 blk off m W d)(hab:a+12<b)(hb:b≤m)(hm:m<1000000) :
    Calls Tryz.prog 165 #[.slice (some ⟨blk,off,none⟩) m cap,.int .i64 (a:Nat),.int .i64 (b:Nat)] W (CpS w0 blk off m a b d):=by
  obtain⟨n,hn⟩:∃n:Nat,n=b-a:=⟨_,rfl⟩
  obtain⟨p,hp⟩:∃p:Nat,p=n / 4:=⟨_,rfl⟩
  have q1:(b:Int)-(a:Int)=(n:Int):=by omega
  have q2:(n:Int) / 4=(p:Int):=by omega
  have h12:12<n:=by omega
  have k1:a+p*3<b:=by omega
  have k2:3≤p:=by omega
  have k3:a+p*3+1<b:=by omega
  have hlt:=h.lt (by omega)
  have hs:W.heap.size≠blk:=by omega
  have h0:w0.heap.size≤W.heap.size:=h.frm.size
  have HB:=Zaa W (.cells #[.int .i64 0] 3)
  have hsq:=h.below HB
  have hbz:Bn .i64 3 (W.alloc (.cells #[.int .i64 0] 3)) W.heap.size 0:=heap_alloc_new W _
  obtain⟨s,hsE⟩:∃s,s=W.heap.size:=⟨_,rfl⟩
  rw [← hsE] at hs h0 hbz
  have HADJ:Hid (∀(V:World) (vx:Int) (x:Nat),Sq w0 blk off m V d→(∃z,Bn .i64 3 V s z)→vx=(x:Nat)→1≤x→x+1<m→_):=fun V vx x hq ⟨z,hz⟩ e h1 h2=>ZgQ w0 V blk off m cap s x d hq z hz hs h0 h1 h2 hm vx e
  have HMED:Hid (∀(V:World) (vx vy vt:Int) (x y t:Nat),Sq w0 blk off m V d→(∃z,Bn .i64 3 V s z)→vx=(x:Nat)→vy=(y:Nat)→vt=(t:Nat)→x<m→y<m→t<m→_):=fun V vx vy vt x y t hq ⟨z,hz⟩ e1 e2 e3 h1 h2 h3=>ZgP w0 V blk off m cap s x y t d hq z hz hs h0 h1 h2 h3 hm vx vy vt e1 e2 e3
  have HSQ1:=hide hsq
  have HBZ:=hide hbz
  have h8z:(8:Int)≤(n:Int):=by omega
  clear h hn hp HB hsq hbz hlt
  by_cases h50:50≤n
  · have h5z:(50:Int)≤(n:Int):=by omega
    have k4:12≤p:=by omega
    go_enter Tryz.func165,Tryz.ntmps165
    go_wp2_with fail
    generalize W.alloc (.cells #[.int .i64 0] 3)=W1 at *
    rw [← hsE]
    clear hsE
    refine(HADJ.out _ _ (a+p) HSQ1.out ⟨_,HBZ.out⟩ (by omega) (by omega) (by omega)).mono ?_
    rintro e w1 ⟨⟨r1,rfl,hr1⟩,hs1,hz1⟩
    have HR1:=hide hr1
    have HS1:=hide hs1
    have HZ1:=hide hz1
    clear hr1 hs1 hz1 HSQ1 HBZ
    go_wp2_with fail
    refine(HADJ.out _ _ (a+p*2) HS1.out HZ1.out (by omega) (by omega) (by omega)).mono ?_
    rintro e w2 ⟨⟨r2,rfl,hr2⟩,hs2,hz2⟩
    have HR2:=hide hr2
    have HS2:=hide hs2
    have HZ2:=hide hz2
    clear hr2 hs2 hz2 HS1 HZ1
    go_wp2_with fail
    refine(HADJ.out _ _ (a+p*3) HS2.out HZ2.out (by omega) (by omega) (by omega)).mono ?_
    rintro e w3 ⟨⟨r3,rfl,hr3⟩,hs3,hz3⟩
    have HR3:=hide hr3
    have HS3:=hide hs3
    have HZ3:=hide hz3
    clear hr3 hs3 hz3 HS2 HZ2
    go_wp2_with fail
    refine(HMED.out _ _ _ _ r1 r2 r3 HS3.out HZ3.out rfl rfl rfl (by have:=HR1.out;omega) (by have:=HR2.out;omega) (by have:=HR3.out;omega)).mono ?_
    rintro e w4 ⟨⟨r4,rfl,hr4⟩,hs4,⟨z4,hz4⟩⟩
    have HEND:Hid (∀hh:Int,(hh=0∨hh=1∨hh=2)→CpS w0 blk off m a b d (.returned (.tuple #[.int .i64 (r4:Nat),.int .i64 hh])) w4):=fun hh hc=>⟨⟨r4,hh,rfl,by have:=HR1.out;have:=HR2.out;have:=HR3.out;omega,by have:=HR1.out;have:=HR2.out;have:=HR3.out;omega,hc⟩,hs4⟩
    have cz:=hz4.cell
    clear hs4 hz4 hr4 HR1 HR2 HR3 HS3 HZ3
    go_wp2_with fail
    all_goals (try simp only [Exit.inBlock,Exit.then])
    all_goals go_ret2
    all_goals exact HEND.out _ (by decide)
  · have h5z:¬(50:Int)≤(n:Int):=by omega
    go_enter Tryz.func165,Tryz.ntmps165
    go_wp2_with fail
    generalize W.alloc (.cells #[.int .i64 0] 3)=W1 at *
    rw [← hsE]
    clear hsE
    refine(HMED.out _ _ _ _ (a+p) (a+p*2) (a+p*3) HSQ1.out ⟨_,HBZ.out⟩ (by omega) (by omega) (by omega) (by omega) (by omega) (by omega)).mono ?_
    rintro e w4 ⟨⟨r4,rfl,hr4⟩,hs4,⟨z4,hz4⟩⟩
    have HEND:Hid (∀hh:Int,(hh=0∨hh=1∨hh=2)→CpS w0 blk off m a b d (.returned (.tuple #[.int .i64 (r4:Nat),.int .i64 hh])) w4):=fun hh hc=>⟨⟨r4,hh,rfl,by omega,by omega,hc⟩,hs4⟩
    have cz:=hz4.cell
    clear hs4 hz4 hr4 HSQ1 HBZ
    go_wp2_with fail
    all_goals (try simp only [Exit.inBlock,Exit.then])
    all_goals go_ret2
    all_goals exact HEND.out _ (by decide)
open Go.RowKit Go.Sort
def BpS (w0 : World) (blk off m a b : Nat) (d : Array Int) (e : Ending) (W : World) : Prop := e = .returned (.tuple #[]) ∧ ∃ d', PermIn a b d d' ∧ Sq w0 blk off m W d'
theorem Zom (s : Nat) (V : World) (z : Nat) (hz : z < 18446744073709551616) (h : Bn .u64 166 V s z) : Calls Tryz.prog 147 #[.pointer (some ⟨s, 0, none⟩)] V fun e w' => ∃ Y : Nat, Y < 18446744073709551616 ∧ e = .returned (.int .u64 (Y : Nat)) ∧ w' = (V.setCell ⟨s, 0, none⟩ (.int .u64 (Y : Nat))).drewN 3 := by
 have hc := Go.Proofs.AnyF.xorshift_Next (P := Tryz.prog) (ρ := ZaW) { Zj8 with } s 0 z hz V h.cell h.fz
 change Calls Tryz.prog 147 _ _ _ at hc
 exact hc.mono fun e w' ⟨h1, h2⟩ => ⟨_, xorNextN_lt z hz, h1, h2⟩
theorem Zhl (w0 W:World)(blk off m cap a b:Nat)(d:Array Int)(h:Sq w0 blk off m W d)(hab:a+12<b)(hb:b≤m)(hm:m<1000000) :
    Calls Tryz.prog 164 #[.slice (some ⟨blk,off,none⟩) m cap,.int .i64 (a:Nat),.int .i64 (b:Nat)] W (BpS w0 blk off m a b d):=by
  obtain⟨n,hn⟩:∃n:Nat,n=b-a:=⟨_,rfl⟩
  obtain⟨p,hp⟩:∃p:Nat,p=n / 4:=⟨_,rfl⟩
  obtain⟨M,hM⟩:∃M:Nat,M=1 <<< bitsLen n:=⟨_,rfl⟩
  have hM1:1≤M:=by rw [hM,Nat.one_shiftLeft];exact Nat.two_pow_pos _
  have hM2:M≤2*n:=by rw [hM,Nat.one_shiftLeft];exact two_pow_bitsLen_le (by omega)
  have HNP:Hid (∀w,Calls Tryz.prog 146 #[.int .i64 (n:Nat)] w fun e w'=>e=.returned (.int .u64 (M:Nat))∧w'=w):=by
   intro w
   have hc:=Go.Proofs.AnyF.nextPowerOfTwo (P:=Tryz.prog) (ρ:=ZaW) { Zj8 with } n (by omega) w
   change Calls Tryz.prog 146 _ _ _ at hc
   rw [hM]
   exact hc
  have q1:(b:Int)-(a:Int)=(n:Int):=by omega
  have q2:(n:Int) / 4=(p:Int):=by omega
  have hnb:a+n=b:=by omega
  have k1:a+p*3<b:=by omega
  have k2:3≤p:=by omega
  have k3:n<1000000:=by omega
  have hlt:=h.lt (by omega)
  have hs:W.heap.size≠blk:=by omega
  have h0:w0.heap.size≤W.heap.size:=h.frm.size
  have HB:=Zaa W (.cells #[.int .u64 (n:Nat)] 166)
  have hsq:=h.below HB
  have hbz:Bn .u64 166 (W.alloc (.cells #[.int .u64 (n:Nat)] 166)) W.heap.size (n:Nat):=heap_alloc_new W _
  obtain⟨s,hsE⟩:∃s,s=W.heap.size:=⟨_,rfl⟩
  rw [← hsE] at hs h0 hbz
  have HSQ1:=hide hsq
  have HBZ:=hide hbz
  have HSD:=h.size
  have h8z:(8:Int)≤(n:Int):=by omega
  clear h hn hp HB hsq hbz hlt hM
  go_enter Tryz.func164,Tryz.ntmps164
  go_wp2_with fail
  generalize W.alloc (.cells #[.int .u64 (n:Nat)] 166)=W1 at *
  rw [← hsE]
  clear hsE
  refine(HNP.out _).mono ?_
  rintro e w1 ⟨rfl,hw⟩
  obtain rfl:=hw.symm
  go_wp2_with fail
  go_loopw [9] (fun vi wr=>∃(i:Nat) (dk:Array Int) (z:Nat),vi=.int .i64 (i:Nat)∧a+p*2-1≤i∧i≤a+p*2+2∧Hid (PermIn a b d dk)∧Hid (Sq w0 blk off m wr dk)∧Hid (z<18446744073709551616)∧Hid (Bn .u64 166 wr s (z:Nat))) (fun vi _=>a+p*2+2-(intOf vi).toNat)
  case atStart=>exact ⟨a+p*2-1,d,n,by congr 1;omega,Nat.le_refl _,by omega,permIn_refl _ _ _,HSQ1,(show Hid _ from by show _<_;omega),HBZ⟩
  case round =>
   clear HSQ1 HBZ
   obtain⟨i,dk,z,rfl,hi1,hi2,hpm,hsk,hz,hbz⟩:=hrel
   by_cases hle:i≤a+p*2+1
   · have hlz:(i:Int)≤(a:Int)+(p:Int)*2+1:=by omega
     have HNX:=hide (Zom s wr z hz.out hbz.out)
     go_wp2_with fail
     refine HNX.out.mono ?_
     rintro e w2 ⟨Y,hY,rfl,hw2⟩
     obtain⟨O,hO⟩:∃O:Nat,O=Y &&& (M-1):=⟨_,rfl⟩
     have lO:O≤M-1:=by rw [hO];exact Nat.and_le_right
     have eAnd:bits .and .u64 (Y:Int) ((M:Int)-1)=(O:Int):=by
      rw [show ((M:Int)-1)=((M-1:Nat):Int) by omega,bits_and_u64_nat _ _ hY (by omega),hO]
     have HS2:Hid (Sq w0 blk off m w2 dk):=by show Sq _ _ _ _ _ _;rw [hw2];exact (hsk.out.other hs h0 _).drewN 3
     have HB2:Hid (Bn .u64 166 w2 s (Y:Nat)):=by show Bn _ _ _ _ _;rw [hw2];exact (hbz.out.set _).drewN 3
     have HY:=hide hY
     clear hw2 hO hY HNX hsk hbz hz
     go_upto_if 43 with fail
     go_cut [10] from 26 to 64 (fun ov wx=>∃o:Nat,ov=.int .i64 (o:Nat)∧o<n∧Hid (Sq w0 blk off m wx dk)∧Hid (Bn .u64 166 wx s (Y:Nat)))
     case first =>
      by_cases hon:n≤O
      · have honz:(n:Int)≤(O:Int):=by omega
        go_wp2_with fail
        go_meet
        case rel=>exact ⟨O-n,by congr 1;omega,by omega,HS2,HB2⟩
      · have honz:¬(n:Int)≤(O:Int):=by omega
        go_wp2_with fail
        go_meet
        case rel=>exact ⟨O,rfl,by omega,HS2,HB2⟩
     case rest =>
      clear HS2 HB2 eAnd
      obtain⟨o,rfl,ho,hs3,hb3⟩:=hcut
      obtain⟨G,hG⟩:∃G:Nat→Int,∀t,G t=dk[t]!:=⟨fun t=>dk[t]!,fun _=>rfl⟩
      have hcw:∀t,t<m→wc.cell? ⟨blk,off+t,none⟩=some (.int .u64 (G t)):=fun t ht=>by rw [hG];exact hs3.out.cell t ht
      have hfw:∀t,t<m→wc.frozen? ⟨blk,off+t,none⟩=false:=hs3.out.fz
      have HG:Hid (∀t,G t=dk[t]!):=hG
      have HSQ:=hs3
      clear hG
      have i1:i<m:=by omega
      have i2:a+o<m:=by omega
      have HPM:Hid (PermIn a b d (swp dk i (a+o))):=permIn_trans _ _ _ _ _ hpm.out (swp_permIn dk a b i (a+o) (by omega) (by omega) (by omega) (by omega) (by rw [HSQ.out.size];exact hb))
      by_cases hne:i=a+o
      · have HX:=hide ((HSQ.out.swap 0 i i i1 i1).drew1)
        rw [← HG.out] at HX
        have HPM2:Hid (PermIn a b d (swp dk i i)):=by show PermIn _ _ _ _;have:=HPM.out;rwa [← hne] at this
        have hbs:=(hb3.out.far (p:=⟨blk,off+i,none⟩) (fun e=>hs e.symm) (.int .u64 (G i))).far (p:=⟨blk,off+i,none⟩) (fun e=>hs e.symm) (.int .u64 (G i))
        have HBX:=hide (hbs.drewN 1)
        have hoz:(a:Int)+(o:Int)=(i:Int):=by omega
        clear HSQ hs3 HG HPM hpm hb3 hbs hne
        go_wp2_with fail
        go_region
        all_goals go_wp2_with fail
        go_roundw
        case rel=>exact ⟨i+1,_,Y,by go_num,by omega,by omega,HPM2,HX,HY,HBX⟩
        case measure=>simp only [intOf];omega
      · have HX:=hide ((HSQ.out.swap 0 i (a+o) i1 i2).drew1)
        rw [← HG.out,← HG.out] at HX
        have hbs:=(hb3.out.far (p:=⟨blk,off+i,none⟩) (fun e=>hs e.symm) (.int .u64 (G (a+o)))).far (p:=⟨blk,off+(a+o),none⟩) (fun e=>hs e.symm) (.int .u64 (G i))
        have HBX:=hide (hbs.drewN 1)
        clear HSQ hs3 HG hpm hb3 hbs
        go_wp2_with fail
        go_region
        all_goals go_wp2_with fail
        go_roundw
        case rel=>exact ⟨i+1,_,Y,by go_num,by omega,by omega,HPM,HX,HY,HBX⟩
        case measure=>simp only [intOf];omega
   · have hlz:¬(i:Int)≤(a:Int)+(p:Int)*2+1:=by omega
     have HEND:Hid (BpS w0 blk off m a b d (.returned (.tuple #[])) wr):=⟨rfl,dk,hpm.out,hsk.out⟩
     clear hpm hsk hz hbz
     go_wp2_with fail
     go_end0
     exact HEND.out
open Go.RowKit Go.Sort
def SoS (w0 : World) (blk off m a b : Nat) (d : Array Int) (e : Ending) (W : World) : Prop := e = .returned (.tuple #[]) ∧ ∃ d', PermIn a b d d' ∧ SortedIn ltInt a b d' ∧ Sq w0 blk off m W d'
def FinQ (a b : Nat) (d : Array Int) (p q : Nat) (dk : Array Int) : Prop := ∀ d', PermIn p q dk d' → SortedIn ltInt p q d' → PermIn a b d d' ∧ SortedIn ltInt a b d'
theorem ZkU (w0:World)(blk off m cap:Nat)(hm:m<1000000):∀(k:Nat)(W:World)(a b limit:Nat)(d:Array Int),b-a≤k→Sq w0 blk off m W d→a≤b→b≤m→limit<1000000→Go.Sort.Below ltInt a b d →
    Calls Tryz.prog 144 #[.slice (some ⟨blk,off,none⟩) m cap,.int .i64 (a:Nat),.int .i64 (b:Nat),.int .i64 (limit:Nat)] W (SoS w0 blk off m a b d):=by
  intro k
  induction k using Nat.strongRecOn with
  | _ k ih =>
  intro W a b limit d hk h hab hbm hlim hbel
  have HS:=hide h
  have IH:Hid (∀(V:World) (x y l:Nat) (dk:Array Int),y-x<k→Sq w0 blk off m V dk→x≤y→y≤m→l<1000000→Go.Sort.Below ltInt x y dk→_):=fun V x y l dk h1 h2 h3 h4 h5 h6=>ih (y-x) h1 V x y l dk (Nat.le_refl _) h2 h3 h4 h5 h6
  have HBL:=hide hbel
  clear h hbel ih
  go_enter Tryz.func144,Tryz.ntmps144
  go_wp2_with fail
  go_loopw [1,2,3,8,9] (fun v1 v2 v3 v8 v9 wr=>∃(p q l:Nat) (wb wp:Bool) (dk:Array Int),v1=.int .i64 (p:Nat)∧v2=.int .i64 (q:Nat)∧v3=.int .i64 (l:Nat)∧v8=.bool wb∧v9=.bool wp∧p≤q∧q≤m∧q-p≤k∧l<1000000∧Hid (Sq w0 blk off m wr dk)∧Hid (Go.Sort.Below ltInt p q dk)∧Hid (FinQ a b d p q dk)) (fun v1 v2 _ _ _ _=>(intOf v2).toNat-(intOf v1).toNat)
  case atStart=>exact ⟨a,b,limit,true,true,d,rfl,rfl,rfl,rfl,rfl,hab,hbm,hk,hlim,HS,HBL,fun d' h1 h2=>⟨h1,h2⟩⟩
  case round =>
   clear HS HBL
   obtain⟨p,q,l,wb,wp,dk,rfl,rfl,rfl,rfl,rfl,hpq,hqm,hqk,hll,hsk,hbl,hfin⟩:=hrel
   obtain⟨n,hn⟩:∃n:Nat,p+n=q:=⟨q-p,by omega⟩
   have q1:(q:Int)-(p:Int)=(n:Int):=by omega
   by_cases h12:n≤12
   · have h12z:(n:Int)≤12:=by omega
     have HC:=hide (Zk0 w0 wr blk off m cap p q dk hsk.out hpq hqm hm)
     have hI:=insertionSort_holds (lt:=ltInt) swo_ltInt dk p q hpq (by rw [hsk.out.size];exact hqm)
     have HE:=hide (hfin.out _ hI.1 hI.2)
     clear hfin hbl hI hsk
     go_wp2_with fail
     refine HC.out.mono ?_
     rintro e w1 ⟨rfl,hs1⟩
     have HS1:=hide hs1
     clear hs1 HC
     go_wp2_with fail
     (try simp only [Exit.inBlock,Exit.then]);refine bodyPost_ret (results_none rfl _ _ _) rfl ?_
     exact⟨rfl,_,HE.out.1,HE.out.2,HS1.out⟩
   have h12z:¬(n:Int)≤12:=by omega
   by_cases hl0:l=0
   · obtain rfl:=hl0
     have HC:=hide (ZiY w0 wr blk off m cap p q dk hsk.out (by omega) hqm hm)
     have hI:=heapSort_holds (lt:=ltInt) swo_ltInt dk p q hpq (by rw [hsk.out.size];exact hqm)
     have HE:=hide (hfin.out _ hI.1 hI.2)
     clear hfin hbl hI hsk
     go_wp2_with fail
     refine HC.out.mono ?_
     rintro e w1 ⟨rfl,hs1⟩
     have HS1:=hide hs1
     clear hs1 HC
     go_wp2_with fail
     (try simp only [Exit.inBlock,Exit.then]);refine bodyPost_ret (results_none rfl _ _ _) rfl ?_
     exact⟨rfl,_,HE.out.1,HE.out.2,HS1.out⟩
   have hl0z:¬(l:Int)=0:=by omega
   have hl0b:((l:Int) == 0)=false:=beq_eq_false_iff_ne.2 hl0z
   have hpq12:p+12<q:=by omega
   go_upto_if 35 with fail
   go_cut [3] from 19 to 133 (fun lv wx=>∃(l2:Nat) (d1:Array Int),lv=.int .i64 (l2:Nat)∧l2<1000000∧Hid (PermIn p q dk d1)∧Hid (Sq w0 blk off m wx d1))
   case first =>
    cases wb with
    | true =>
     go_wp2_with fail
     go_meet
     case rel=>exact ⟨l,dk,rfl,hll,permIn_refl _ _ _,hsk⟩
    | false =>
     have HC:=hide (Zhl w0 wr blk off m cap p q dk hsk.out hpq12 hqm hm)
     go_wp2_with fail
     refine HC.out.mono ?_
     rintro e w1 ⟨rfl,d1,hp1,hs1⟩
     have HS1:=hide hs1
     have HP1:=hide hp1
     clear hs1 hp1 HC
     go_wp2_with fail
     go_meet
     case rel=>exact ⟨l-1,d1,by congr 1;omega,by omega,HP1,HS1⟩
   case rest =>
    clear hsk
    obtain⟨l2,d1,rfl,hl2,hp1,hs1⟩:=hcut
    have HCP:=hide (Zh7 w0 wc blk off m cap p q d1 hs1.out hpq12 hqm hm)
    clear hs1
    go_wp2_with fail
    refine HCP.out.mono ?_
    rintro e w2 ⟨⟨c,hh,rfl,hc1,hc2,hh3⟩,hs2⟩
    have HS2:=hide hs2
    have HH:=hide hh3
    clear hs2 hh3 HCP
    go_upto_if 50 with fail
    go_cut [11,12] from 19 to 133 (fun cv hv wx=>∃(c2:Nat) (h2:Int) (d2:Array Int),cv=.int .i64 (c2:Nat)∧hv=.int .i64 h2∧p≤c2∧c2<q∧Hid (PermIn p q dk d2)∧Hid (Sq w0 blk off m wx d2))
    case first =>
     by_cases hh2:hh=2
     · obtain rfl:=hh2
       have HC:=hide (Zlb w0 w2 blk off m cap p q d1 HS2.out (by omega) hqm hm)
       have HP2:Hid (PermIn p q dk (reverseRange d1 p q)):=permIn_trans _ _ _ _ _ hp1.out (reverseRange_holds d1 p q hpq (by rw [HS2.out.size];exact hqm))
       clear HS2 HH
       go_wp2_with fail
       refine HC.out.mono ?_
       rintro e w3 ⟨rfl,hs3⟩
       have HS3:=hide hs3
       clear hs3 HC
       go_wp2_with fail
       go_meet
       case rel=>exact ⟨q-1-(c-p),1,_,by congr 1;omega,rfl,by omega,by omega,HP2,HS3⟩
     · have hh2b:(hh == 2)=false:=beq_eq_false_iff_ne.2 hh2
       go_wp2_with fail
       go_meet
       case rel=>exact ⟨c,hh,d1,rfl,rfl,hc1,hc2,hp1,HS2⟩
    case rest =>
     clear HS2 hp1 HH
     obtain⟨c2,h2,d2,rfl,rfl,hc21,hc22,hp2,hs3⟩:=hcut
     go_upto_region 15 with fail
     go_cut [68] from 19 to 133 (fun tv wx=>∃t:Bool,tv=.bool t∧Hid (Sq w0 blk off m wx d2))
     case first =>
      by_cases hh1:h2=1
      · obtain rfl:=hh1
        cases wb <;> cases wp
        all_goals go_wp2_with fail
        all_goals go_meet
        case rel=>exact ⟨_,rfl,hs3⟩
        case rel=>exact ⟨_,rfl,hs3⟩
        case rel=>exact ⟨_,rfl,hs3⟩
        case rel=>exact ⟨_,rfl,hs3⟩
      · have hh1b:(h2 == 1)=false:=beq_eq_false_iff_ne.2 hh1
        cases wb <;> cases wp
        all_goals go_wp2_with fail
        all_goals go_meet
        case rel=>exact ⟨_,rfl,hs3⟩
        case rel=>exact ⟨_,rfl,hs3⟩
        case rel=>exact ⟨_,rfl,hs3⟩
        case rel=>exact ⟨_,rfl,hs3⟩
     case rest =>
     clear hs3
     obtain⟨t,rfl,hs3⟩:=hcut
     go_upto_if 68 with fail
     go_cut [] from 19 to 133 (fun wx=>∃d3:Array Int,Hid (PermIn p q dk d3)∧Hid (Sq w0 blk off m wx d3))
     case first =>
      cases t with
      | false =>
       go_wp2_with fail
       go_meet
       case rel=>exact ⟨d2,hp2,hs3⟩
      | true =>
       have hB2:Go.Sort.Below ltInt p q d2:=hbl.out.perm (by rw [← hp2.out.1,hs3.out.size];exact hqm) hp2.out
       have hI:=partialInsertionSort_holds (lt:=ltInt) swo_ltInt d2 p q (by omega) (by rw [hs3.out.size];exact hqm) hB2
       have HC:=hide (Zju w0 wc blk off m cap p q d2 hs3.out (by omega) hqm hm)
       have HP3:Hid (PermIn p q dk (partialInsertionSort ltInt d2 p q).1):=permIn_trans _ _ _ _ _ hp2.out hI.1
       have HI2:=hide hI.2
       obtain⟨R,hR⟩:∃R,R=partialInsertionSort ltInt d2 p q:=⟨_,rfl⟩
       rw [← hR] at HP3 HI2 HC
       obtain⟨d3,r⟩:=R
       clear hI hB2 hR
       cases r with
       | true =>
        have HE:=hide (hfin.out _ HP3.out (HI2.out rfl))
        clear hfin hbl HI2
        go_wp2_with fail
        refine HC.out.mono ?_
        rintro e w4 ⟨rfl,hs4⟩
        have HS4:=hide hs4
        clear hs4 HC
        go_wp2_with fail
        (try simp only [Exit.inBlock,Exit.then]);refine bodyPost_ret (results_none rfl _ _ _) rfl ?_
        exact⟨rfl,_,HE.out.1,HE.out.2,HS4.out⟩
       | false =>
        go_wp2_with fail
        refine HC.out.mono ?_
        rintro e w4 ⟨rfl,hs4⟩
        have HS4:=hide hs4
        clear hs4 HC
        go_wp2_with fail
        go_meet
        case rel=>exact ⟨d3,HP3,HS4⟩
     case rest =>
      clear hs3 hp2
      obtain⟨d3,hp3,hs4⟩:=hcut
      have hB3:Go.Sort.Below ltInt p q d3:=hbl.out.perm (by rw [← hp3.out.1,hs4.out.size];exact hqm) hp3.out
      have hqs:q≤d3.size:=by rw [hs4.out.size];exact hqm
      have HFIN:Hid (FinQ a b d p q d3):=fun d' x y=>hfin.out d' (permIn_trans _ _ _ _ _ hp3.out x) y
      have HPT:=hide (fun (mid:Nat) (ap:Bool) (d4:Array Int) (hx:partition ltInt d3 p q c2=(mid,ap,d4))=>round_part (lt:=ltInt) swo_ltInt (partition_holds _) hc21 hc22 hqs hB3 hx)
      have HPE:=hide (fun (h0:0<p) (hnl:ltInt d3[p-1]! d3[c2]! = false) (mid:Nat) (d4:Array Int) (hx:partitionEqual ltInt d3 p q c2=(mid,d4))=>round_eq (lt:=ltInt) swo_ltInt (partitionEqual_holds _) h0 hc21 hc22 hqs hB3 hnl hx)
      clear hfin hbl hp3 hB3 hqs
      go_upto_region 17 with fail
      go_cut [87] from 19 to 133 (fun tv wx=>∃t:Bool,tv=.bool t∧Hid (t=true→0<p∧ltInt d3[p-1]! d3[c2]! = false)∧Hid (Sq w0 blk off m wx d3))
      case first =>
       obtain⟨G,hG⟩:∃G:Nat→Int,∀t,G t=d3[t]!:=⟨fun t=>d3[t]!,fun _=>rfl⟩
       have hcw:∀t,t<m→wc.cell? ⟨blk,off+t,none⟩=some (.int .u64 (G t)):=fun t ht=>by rw [hG];exact hs4.out.cell t ht
       have hfw:∀t,t<m→wc.frozen? ⟨blk,off+t,none⟩=false:=hs4.out.fz
       have HG:Hid (∀t,G t=d3[t]!):=hG
       have HSQ:=hs4
       clear hG
       have HD:Hid (∀q,Sq w0 blk off m (wc.drewN q) d3):=HSQ.out.drewN
       have i2:c2<m:=by omega
       by_cases hp0:0<p
       · have hpz:(0:Int)<(p:Int):=by omega
         have i1:p-1<m:=by omega
         cases hl:ltInt (G (p-1)) (G c2) with
         | false =>
          have HT:Hid (0<p∧ltInt d3[p-1]! d3[c2]! = false):=⟨hp0,by rw [← HG.out,← HG.out];exact hl⟩
          clear HSQ HG hs4
          go_wp2_with fail
          go_quiet (first | (go_at_call 168;refine Calls.quiet_of_same (Zaf _ _ _)))
          go_wp2_with fail
          go_meet
          case rel=>exact ⟨true,rfl,hide (fun _=>HT.out),HD.out _⟩
         | true =>
          have HT:Hid (false=true→0<p∧ltInt d3[p-1]! d3[c2]! = false):=fun e=>by cases e
          clear HSQ HG hs4
          go_wp2_with fail
          go_quiet (first | (go_at_call 168;refine Calls.quiet_of_same (Zaf _ _ _)))
          go_wp2_with fail
          go_meet
          case rel=>exact ⟨false,rfl,HT,HD.out _⟩
       · have hpz:decide ((0:Int)<(p:Int))=false:=decide_eq_false (by omega)
         have HT:Hid (false=true→0<p∧ltInt d3[p-1]! d3[c2]! = false):=fun e=>by cases e
         clear HSQ HG hs4
         go_wp2_with fail
         go_quiet (first | (go_at_call 168;refine Calls.quiet_of_same (Zaf _ _ _)))
         go_wp2_with fail
         go_meet
         case rel=>exact ⟨false,rfl,HT,HD.out _⟩
      case rest =>
       clear hs4
       obtain⟨t2,rfl,hT2,hs5⟩:=hcut
       cases t2 with
       | true =>
        obtain⟨hp0,hnl⟩:=hT2.out rfl
        have HC:=hide (ZgX w0 wc blk off m cap p q c2 d3 hs5.out hc21 hc22 hqm hm)
        obtain⟨R,hR⟩:∃R,R=partitionEqual ltInt d3 p q c2:=⟨_,rfl⟩
        obtain⟨mid,d4⟩:=R
        obtain⟨r1,r2,r3,r4,r5⟩:=HPE.out hp0 hnl mid d4 hR.symm
        rw [← hR] at HC
        have HB4:=hide r4
        have HF4:Hid (FinQ a b d mid q d4):=fun d' x y=>HFIN.out d' (r5 d' x y).1 (r5 d' x y).2
        clear hT2 hs5 HPE HPT HFIN hnl hR r4 r5
        go_wp2_with fail
        refine HC.out.mono ?_
        rintro e w5 ⟨rfl,hs6⟩
        have HS6:=hide hs6
        clear hs6 HC
        go_wp2_with fail
        go_roundw
        case rel=>exact ⟨mid,q,l2,wb,wp,d4,rfl,rfl,rfl,rfl,rfl,r2,hqm,by omega,hl2,HS6,HB4,HF4⟩
        case measure=>simp only [intOf];omega
       | false =>
        have HC:=hide (Zjs w0 wc blk off m cap p q c2 d3 hs5.out hc21 hc22 hqm hm)
        obtain⟨R,hR⟩:∃R,R=partition ltInt d3 p q c2:=⟨_,rfl⟩
        obtain⟨mid,ap',d4⟩:=R
        obtain⟨r1,r2,r3,r4,r5,r6,r7⟩:=HPT.out mid ap' d4 hR.symm
        rw [← hR] at HC
        have HB4:=hide r4
        have HB5:=hide r5
        have HR6:=hide r6
        have HR7:=hide r7
        clear hT2 hs5 HPE HPT hR r4 r5 r6 r7
        go_wp2_with fail
        refine HC.out.mono ?_
        rintro e w5 ⟨⟨ap,rfl⟩,hs6⟩
        by_cases hlr:mid-p<q-mid
        · have hlrz:(mid:Int)-(p:Int)<(q:Int)-(mid:Int):=by omega
          have HL:=hide (IH.out w5 p mid l2 d4 (by omega) hs6 r1 (by omega) hl2 HB4.out)
          clear hs6 HC HR7
          go_wp2_with fail
          refine HL.out.mono ?_
          rintro e w6 ⟨rfl,L,hl1,hl2',hs7⟩
          obtain⟨u1,u2⟩:=HR6.out L hl1 hl2'
          have HB6:=hide u1
          have HF6:Hid (FinQ a b d (mid+1) q L):=fun d' x y=>HFIN.out d' (u2 d' x y).1 (u2 d' x y).2
          have HS7:=hide hs7
          clear hs7 hl1 hl2' u1 u2 HL HR6 HB4 HB5 HFIN
          go_wp2_with fail
          go_roundw
          case rel=>exact ⟨mid+1,q,l2,_,ap,L,by go_num,rfl,rfl,rfl,rfl,r2,hqm,by omega,hl2,HS7,HB6,HF6⟩
          case measure=>simp only [intOf];omega
        · have hlrz:¬(mid:Int)-(p:Int)<(q:Int)-(mid:Int):=by omega
          have hcall:=IH.out w5 (mid+1) q l2 d4 (by omega) hs6 r2 hqm hl2 HB5.out
          have HL:Hid (Calls Tryz.prog 144 #[.slice (some ⟨blk,off,none⟩) m cap,.int .i64 ((mid:Int)+1),.int .i64 (q:Nat),.int .i64 (l2:Nat)] w5 (SoS w0 blk off m (mid+1) q d4)):=hcall
          clear hs6 HC HR6 hcall
          go_wp2_with fail
          refine HL.out.mono ?_
          rintro e w6 ⟨rfl,L,hl1,hl2',hs7⟩
          obtain⟨u1,u2⟩:=HR7.out L hl1 hl2'
          have HB6:=hide u1
          have HF6:Hid (FinQ a b d p mid L):=fun d' x y=>HFIN.out d' (u2 d' x y).1 (u2 d' x y).2
          have HS7:=hide hs7
          clear hs7 hl1 hl2' u1 u2 HL HR7 HB4 HB5 HFIN
          go_wp2_with fail
          go_roundw
          case rel=>exact ⟨p,mid,l2,_,ap,L,rfl,rfl,rfl,rfl,rfl,r1,by omega,by omega,hl2,HS7,HB6,HF6⟩
          case measure=>simp only [intOf];omega
end Go.Proofs.YtdojdcncncgncaaGreat
