/-
  Lemmas.
-/
import Derived.Test.YtiecfcjlhldhdaaGreatKebm
import Derived.Deep.CutBlock
import Derived.Sort.LotB
import Derived.Sort.LotC
namespace Go.Proofs.YtiecfcjlhldhdaaGreat
open Go.RowKit
set_option linter.unusedVariables false
set_option linter.unusedSimpArgs false
set_option maxRecDepth 100000
set_option maxHeartbeats 4000000
variable {j i hi first root:Nat}
open Go.RowKit Go.Sort
section
variable {α : Type} [Inhabited α] (lt : α → α → Bool)
theorem ZmE {d:Array α}(h:hi≤2*root+1):siftDown lt hi first root d=d:=by
 rw [siftDown,dif_pos h]
theorem ZkR {d:Array α}(h1:¬hi≤2*root+1)(h2:2*root+2<hi)(hl:lt d[first+2*root+1]! d[first+2*root+2]! = true) :
    siftDown lt hi first root d=if lt d[first+root]! d[first+2*root+2]! = true then siftDown lt hi first (2*root+2) (swp d (first+root) (first+2*root+2)) else d:=by
  have hl':lt d[first+(2*root+1)]! d[first+(2*root+1)+1]! = true:=hl;rw [siftDown,dif_neg h1,if_pos (by rw [hl'];simpa using h2)];have e:first+(2*root+2)=first+2*root+2:=rfl;rw [e];cases h3:lt d[first+root]! d[first+2*root+2]! <;> simp [h2]
theorem ZhC {d:Array α}(h1:¬hi≤2*root+1)(h2:¬2*root+2<hi∨lt d[first+2*root+1]! d[first+2*root+2]! = false) :
    siftDown lt hi first root d=if lt d[first+root]! d[first+2*root+1]! = true then siftDown lt hi first (2*root+1) (swp d (first+root) (first+2*root+1)) else d:=by
  have hc:¬((decide (2*root+1+1<hi) && lt d[first+(2*root+1)]! d[first+(2*root+1)+1]!)=true):=by
   have e:first+(2*root+1)+1=first+2*root+2:=rfl;have e':first+(2*root+1)=first+2*root+1:=rfl;rcases h2 with h | h
   · rw [decide_eq_false (by omega)];simp
   · rw [e,e',h];simp
  rw [siftDown,dif_neg h1,if_neg hc];have e':first+(2*root+1)=first+2*root+1:=rfl;rw [e'];cases h3:lt d[first+root]! d[first+2*root+1]! <;> simp
end
theorem ZfI (w0 W:World)(blk off m cap lo hi first:Nat)(d:Array Int)(h:Sq w0 blk off m W d)(hf:first+hi≤m)(hm:m<1000000)(ak:lo<1000000) :
    Calls Tryz.prog 203 #[.slice (some ⟨blk,off,none⟩) m cap,.int .i64 (lo:Nat),.int .i64 (hi:Nat),.int .i64 (first:Nat)] W fun e W'=>e=.returned (.tuple #[])∧Sq w0 blk off m W' (siftDown ltInt hi first lo d):=by
  have HS:=hide h;clear h;go_enter Tryz.func203,Tryz.ntmps203;go_wp2_with fail;go_loopw [8] (fun vi wr=>∃(r:Nat) (dk:Array Int),vi=.int .i64 (r:Nat)∧r<1000000∧Hid (Sq w0 blk off m wr dk)∧Hid (siftDown ltInt hi first r dk=siftDown ltInt hi first lo d)) (fun vi _=>hi-(intOf vi).toNat)
  case atStart=>exact ⟨lo,d,rfl,ak,HS,rfl⟩
  case round =>
   obtain⟨r,dk,rfl,hr,ai,hO⟩:=hrel;by_cases ag:hi≤2*r+1
   · have HE:Hid (dk=siftDown ltInt hi first lo d):=by
      show _=_;rw [← hO.out,ZmE _ ag]
     go_wp2_with fail;go_end0;exact⟨rfl,by rw [← HE.out];exact ai.out⟩
   · obtain⟨G,hG⟩:∃G:Nat→Int,∀t,G t=dk[t]!:=⟨fun t=>dk[t]!,fun _=>rfl⟩;(have ae:∀t,t<m→wr.cell? ⟨blk,off+t,none⟩=some (.int .u64 (G t)):=fun t ht=>by rw [hG];exact ai.out.cell t ht);have af:∀t,t<m→wr.frozen? ⟨blk,off+t,none⟩=false:=ai.out.fz;have HG:Hid (∀t,G t=dk[t]!):=hG;have ad:=ai;clear hG;(have i1:first+r<m:=by omega);(have i2:first+2*r+1<m:=by omega);(have n2:¬((hi:Int)≤2*(r:Int)+1):=by omega);by_cases h2:2*r+2<hi
     · (have i3:first+2*r+2<m:=by omega);(have j2:(2*(r:Int)+1+1)<(hi:Int):=by omega);cases hl:ltInt (G (first+2*r+1)) (G (first+2*r+2)) with
       | true =>
        have hx:=ZkR ltInt (d:=dk) (first:=first) ag h2 (by rw [← HG.out,← HG.out];exact hl);rw [hO.out,← HG.out,← HG.out] at hx;cases hk:ltInt (G (first+r)) (G (first+2*r+2)) with
        | true =>
         rw [hk,if_pos rfl] at hx;have HX:=hide hx;clear hx hO ai;go_wp2_with fail;go_quiet (first | (go_at_call 195;refine Calls.quiet_of_same (Zaf _ _ _)));go_wp2_with fail;have ac:Sq w0 blk off m (wr.drewN nq) dk:=ad.out.drewN nq;have aa:∀t,t<m→(wr.drewN nq).cell? ⟨blk,off+t,none⟩=some (.int .u64 (G t)):=ae;have ab:∀t,t<m→(wr.drewN nq).frozen? ⟨blk,off+t,none⟩=false:=af;clear ad ae af;generalize wr.drewN nq=wr2 at ac aa ab ⊢;clear nq;have ad:=hide ac;have ae:=aa;have af:=ab;clear ac aa ab;go_quiet (first | (go_at_call 195;refine Calls.quiet_of_same (Zaf _ _ _)));go_wp2_with fail;have aj:Hid (∀q,Sq w0 blk off m (((wr2.drewN q).setCell ⟨blk,off+(first+r),none⟩ (.int .u64 (G (first+2*r+2)))).setCell ⟨blk,off+(first+2*r+2),none⟩ (.int .u64 (G (first+r)))) (swp dk (first+r) (first+2*r+2))):=fun q=>by
          rw [HG.out,HG.out];exact ad.out.swap q _ _ i1 (by omega)
         clear ad HG;go_region;(all_goals go_wp2_with fail);go_roundw
         case rel=>exact ⟨2*r+2,_,by go_num,by omega,aj.out _,hide HX.out.symm⟩
         case measure=>simp only [intOf];omega
        | false =>
         rw [hk,if_neg (by decide)] at hx;have HX:=hide hx;clear hx hO ai HG;go_wp2_with fail;go_quiet (first | (go_at_call 195;refine Calls.quiet_of_same (Zaf _ _ _)));go_wp2_with fail;have ac:Sq w0 blk off m (wr.drewN nq) dk:=ad.out.drewN nq;have aa:∀t,t<m→(wr.drewN nq).cell? ⟨blk,off+t,none⟩=some (.int .u64 (G t)):=ae;have ab:∀t,t<m→(wr.drewN nq).frozen? ⟨blk,off+t,none⟩=false:=af;clear ad ae af;generalize wr.drewN nq=wr2 at ac aa ab ⊢;clear nq;have ad:=hide ac;have ae:=aa;have af:=ab;clear ac aa ab;go_quiet (first | (go_at_call 195;refine Calls.quiet_of_same (Zaf _ _ _)));go_wp2_with fail;have ah:Hid (∀q,Sq w0 blk off m (wr2.drewN q) dk):=ad.out.drewN;(try simp only [Exit.inBlock,Exit.then]);refine bodyPost_ret (results_none rfl _ _ _) rfl ?_;exact⟨rfl,by rw [HX.out];exact ah.out _⟩
       | false =>
        have hx:=ZhC ltInt (d:=dk) (first:=first) ag (.inr (by rw [← HG.out,← HG.out];exact hl));rw [hO.out,← HG.out,← HG.out] at hx;cases hk:ltInt (G (first+r)) (G (first+2*r+1)) with
        | true =>
         rw [hk,if_pos rfl] at hx;have HX:=hide hx;clear hx hO ai;go_wp2_with fail;go_quiet (first | (go_at_call 195;refine Calls.quiet_of_same (Zaf _ _ _)));go_wp2_with fail;have ac:Sq w0 blk off m (wr.drewN nq) dk:=ad.out.drewN nq;have aa:∀t,t<m→(wr.drewN nq).cell? ⟨blk,off+t,none⟩=some (.int .u64 (G t)):=ae;have ab:∀t,t<m→(wr.drewN nq).frozen? ⟨blk,off+t,none⟩=false:=af;clear ad ae af;generalize wr.drewN nq=wr2 at ac aa ab ⊢;clear nq;have ad:=hide ac;have ae:=aa;have af:=ab;clear ac aa ab;go_quiet (first | (go_at_call 195;refine Calls.quiet_of_same (Zaf _ _ _)));go_wp2_with fail;have aj:Hid (∀q,Sq w0 blk off m (((wr2.drewN q).setCell ⟨blk,off+(first+r),none⟩ (.int .u64 (G (first+2*r+1)))).setCell ⟨blk,off+(first+2*r+1),none⟩ (.int .u64 (G (first+r)))) (swp dk (first+r) (first+2*r+1))):=fun q=>by
          rw [HG.out,HG.out];exact ad.out.swap q _ _ i1 (by omega)
         clear ad HG;go_region;(all_goals go_wp2_with fail);go_roundw
         case rel=>exact ⟨2*r+1,_,by go_num,by omega,aj.out _,hide HX.out.symm⟩
         case measure=>simp only [intOf];omega
        | false =>
         rw [hk,if_neg (by decide)] at hx;have HX:=hide hx;clear hx hO ai HG;go_wp2_with fail;go_quiet (first | (go_at_call 195;refine Calls.quiet_of_same (Zaf _ _ _)));go_wp2_with fail;have ac:Sq w0 blk off m (wr.drewN nq) dk:=ad.out.drewN nq;have aa:∀t,t<m→(wr.drewN nq).cell? ⟨blk,off+t,none⟩=some (.int .u64 (G t)):=ae;have ab:∀t,t<m→(wr.drewN nq).frozen? ⟨blk,off+t,none⟩=false:=af;clear ad ae af;generalize wr.drewN nq=wr2 at ac aa ab ⊢;clear nq;have ad:=hide ac;have ae:=aa;have af:=ab;clear ac aa ab;go_quiet (first | (go_at_call 195;refine Calls.quiet_of_same (Zaf _ _ _)));go_wp2_with fail;have ah:Hid (∀q,Sq w0 blk off m (wr2.drewN q) dk):=ad.out.drewN;(try simp only [Exit.inBlock,Exit.then]);refine bodyPost_ret (results_none rfl _ _ _) rfl ?_;exact⟨rfl,by rw [HX.out];exact ah.out _⟩
     · have j2:decide ((2*(r:Int)+1+1)<(hi:Int))=false:=decide_eq_false (by omega);have hx:=ZhC ltInt (d:=dk) (first:=first) ag (.inl h2);rw [hO.out,← HG.out,← HG.out] at hx;cases hk:ltInt (G (first+r)) (G (first+2*r+1)) with
       | true =>
        rw [hk,if_pos rfl] at hx;have HX:=hide hx;clear hx hO ai;go_wp2_with fail;go_quiet (first | (go_at_call 195;refine Calls.quiet_of_same (Zaf _ _ _)));go_wp2_with fail;have ac:Sq w0 blk off m (wr.drewN nq) dk:=ad.out.drewN nq;have aa:∀t,t<m→(wr.drewN nq).cell? ⟨blk,off+t,none⟩=some (.int .u64 (G t)):=ae;have ab:∀t,t<m→(wr.drewN nq).frozen? ⟨blk,off+t,none⟩=false:=af;clear ad ae af;generalize wr.drewN nq=wr2 at ac aa ab ⊢;clear nq;have ad:=hide ac;have ae:=aa;have af:=ab;clear ac aa ab;go_quiet (first | (go_at_call 195;refine Calls.quiet_of_same (Zaf _ _ _)));go_wp2_with fail;have aj:Hid (∀q,Sq w0 blk off m (((wr2.drewN q).setCell ⟨blk,off+(first+r),none⟩ (.int .u64 (G (first+2*r+1)))).setCell ⟨blk,off+(first+2*r+1),none⟩ (.int .u64 (G (first+r)))) (swp dk (first+r) (first+2*r+1))):=fun q=>by
         rw [HG.out,HG.out];exact ad.out.swap q _ _ i1 (by omega)
        clear ad HG;go_region;(all_goals go_wp2_with fail);go_roundw
        case rel=>exact ⟨2*r+1,_,by go_num,by omega,aj.out _,hide HX.out.symm⟩
        case measure=>simp only [intOf];omega
       | false =>
        rw [hk,if_neg (by decide)] at hx;have HX:=hide hx;clear hx hO ai HG;go_wp2_with fail;go_quiet (first | (go_at_call 195;refine Calls.quiet_of_same (Zaf _ _ _)));go_wp2_with fail;have ac:Sq w0 blk off m (wr.drewN nq) dk:=ad.out.drewN nq;have aa:∀t,t<m→(wr.drewN nq).cell? ⟨blk,off+t,none⟩=some (.int .u64 (G t)):=ae;have ab:∀t,t<m→(wr.drewN nq).frozen? ⟨blk,off+t,none⟩=false:=af;clear ad ae af;generalize wr.drewN nq=wr2 at ac aa ab ⊢;clear nq;have ad:=hide ac;have ae:=aa;have af:=ab;clear ac aa ab;go_quiet (first | (go_at_call 195;refine Calls.quiet_of_same (Zaf _ _ _)));go_wp2_with fail;have ah:Hid (∀q,Sq w0 blk off m (wr2.drewN q) dk):=ad.out.drewN;(try simp only [Exit.inBlock,Exit.then]);refine bodyPost_ret (results_none rfl _ _ _) rfl ?_;exact⟨rfl,by rw [HX.out];exact ah.out _⟩
theorem Zkg (w0 W:World)(blk off m cap a b:Nat)(d:Array Int)(h:Sq w0 blk off m W d)(aj:a<b)(hb:b≤m)(hm:m<1000000) :
    Calls Tryz.prog 190 #[.slice (some ⟨blk,off,none⟩) m cap,.int .i64 (a:Nat),.int .i64 (b:Nat)] W fun e W'=>e=.returned (.tuple #[])∧Sq w0 blk off m W' (heapSort ltInt d a b):=by
  have HS:=hide h;clear h;obtain⟨n,hn⟩:∃n:Nat,b=a+n:=⟨b-a,by omega⟩;(have ao:1≤n:=by omega);(have ap:a+n≤m:=by omega);have ab:Hid (∀(V:World) (dk:Array Int) (lo hi:Nat),Sq w0 blk off m V dk→hi≤n→lo<1000000→_):=fun V dk lo hi hq hh hl=>ZfI w0 V blk off m cap lo hi a dk hq (by omega) hm hl;have ad:Hid (heapSort ltInt d a b=heapPop ltInt a n (heapBuild ltInt n a ((n-1) / 2+1) d)):=by
   show _=_;unfold heapSort;rw [hn,show a+n-a=n by omega]
  (have q1:((b:Int)-(a:Int))=(n:Int):=by omega);obtain⟨p,hp⟩:∃p:Nat,p=(n-1) / 2:=⟨_,rfl⟩;(have aq:p<1000000:=by omega);have HP:=hide hp;rw [← hp] at ad;clear hn hp;go_enter Tryz.func190,Tryz.ntmps190;go_wp2_with fail;go_loopw [9] (fun vi wr=>∃(k:Nat) (z:Int) (dk:Array Int),vi=.int .i64 z∧Hid (z=(k:Int)-1)∧k≤p+1∧Hid (Sq w0 blk off m wr dk)∧Hid (heapBuild ltInt n a k dk=heapBuild ltInt n a (p+1) d)) (fun vi _=>(intOf vi+1).toNat)
  case atStart=>exact ⟨p+1,_,d,rfl,(show Hid _ from by show _=_;have:=HP.out;omega),Nat.le_refl _,HS,rfl⟩
  case round =>
   obtain⟨k,z,dk,rfl,hz,hk,ai,hO⟩:=hrel;cases k with
   | succ k =>
    (obtain rfl:z=(k:Int):=by have:=hz.out;omega);have aa:=hide (ab.out wr dk k n ai.out (Nat.le_refl _) (by omega));have HO:Hid (heapBuild ltInt n a k (siftDown ltInt n a k dk)=heapBuild ltInt n a (p+1) d):=hO;clear hz hO ai;go_wp2_with fail;refine aa.out.mono ?_;rintro e w2 ⟨rfl,ac⟩;have ag:=hide ac;clear ac aa;go_wp2_with fail;go_roundw
    case rel=>exact ⟨k,(k:Int)-1,_,rfl,(show Hid _ from rfl),by omega,ag,HO⟩
    case measure=>simp only [intOf];omega
   | zero =>
    (obtain rfl:z = -1:=by have:=hz.out;omega);have HB:Hid (dk=heapBuild ltInt n a (p+1) d):=hO;clear hz hO ab HP;have ab:Hid (∀(V:World) (dk:Array Int) (lo hi:Nat),Sq w0 blk off m V dk→hi≤n→lo<1000000→_):=fun V dk lo hi hq hh hl=>ZfI w0 V blk off m cap lo hi a dk hq (by omega) hm hl;rw [← HB.out] at ad;have al:=ai.out.size;go_wp2_with fail;rename World=>w1;go_loopw [10] (fun vi wr=>∃(k:Nat) (z:Int) (dj:Array Int),vi=.int .i64 z∧Hid (z=(k:Int)-1)∧k≤n∧Hid (Sq w0 blk off m wr dj)∧Hid (heapPop ltInt a k dj=heapPop ltInt a n dk)) (fun vi _=>(intOf vi+1).toNat)
    case atStart=>exact ⟨n,(n:Int)-1,dk,rfl,(show Hid _ from rfl),Nat.le_refl _,ai,rfl⟩
    case round =>
     obtain⟨k,z,dj,rfl,hz,hk,af,hO⟩:=hrel;cases k with
     | succ k =>
      (obtain rfl:z=(k:Int):=by have:=hz.out;omega);have HO:Hid (heapPop ltInt a k (siftDown ltInt k a 0 (swp dj a (a+k)))=heapPop ltInt a n dk):=hO;obtain⟨G,hG⟩:∃G:Nat→Int,∀t,G t=dj[t]!:=⟨fun t=>dj[t]!,fun _=>rfl⟩;(have ak:∀t,t<m→wr.cell? ⟨blk,off+t,none⟩=some (.int .u64 (G t)):=fun t ht=>by rw [hG];exact af.out.cell t ht);have am:∀t,t<m→wr.frozen? ⟨blk,off+t,none⟩=false:=af.out.fz;have HG:Hid (∀t,G t=dj[t]!):=hG;have ah:=af;clear hG;(have i1:a<m:=by omega);(have i2:a+k<m:=by omega);by_cases an:0<k
      · have ae:=hide ((ah.out.swap 0 a (a+k) i1 i2).drew1);rw [← HG.out,← HG.out] at ae;have aa:=ab.out _ _ 0 k ae.out (by omega) (by decide);have HC:Hid (Calls Tryz.prog 203 #[.slice (some ⟨blk,off,none⟩) m cap,.int .i64 0,.int .i64 (k:Nat),.int .i64 (a:Nat)] (((wr.setCell ⟨blk,off+a,none⟩ (.int .u64 (G (a+k)))).setCell ⟨blk,off+(a+k),none⟩ (.int .u64 (G a))).drew) fun e W'=>e=.returned (.tuple #[])∧Sq w0 blk off m W' (siftDown ltInt k a 0 (swp dj a (a+k)))):=aa;clear hz hO af HG ah ae aa;go_wp2_with fail;go_region;(all_goals go_wp2_with fail);refine HC.out.mono ?_;rintro e w2 ⟨rfl,ac⟩;have ag:=hide ac;clear ac HC;go_wp2_with fail;go_roundw
        case rel=>exact ⟨k,(k:Int)-1,_,rfl,(show Hid _ from rfl),by omega,ag,HO⟩
        case measure=>simp only [intOf];omega
      · (obtain rfl:k=0:=by omega);have ae:=hide ((ah.out.swap 0 a a i1 i1).drew1);rw [← HG.out] at ae;have aa:=ab.out _ _ 0 0 ae.out (by omega) (by decide);have HC:Hid (Calls Tryz.prog 203 #[.slice (some ⟨blk,off,none⟩) m cap,.int .i64 0,.int .i64 0,.int .i64 (a:Nat)] (((wr.setCell ⟨blk,off+a,none⟩ (.int .u64 (G a))).setCell ⟨blk,off+a,none⟩ (.int .u64 (G a))).drew) fun e W'=>e=.returned (.tuple #[])∧Sq w0 blk off m W' (siftDown ltInt 0 a 0 (swp dj a (a+0)))):=aa;clear hz hO af HG ah ae aa;go_wp2_with fail;go_region;(all_goals go_wp2_with fail);refine HC.out.mono ?_;rintro e w2 ⟨rfl,ac⟩;have ag:=hide ac;clear ac HC;go_wp2_with fail;go_roundw
        case rel=>exact ⟨0,-1,_,rfl,(show Hid _ from rfl),by omega,ag,HO⟩
        case measure=>simp only [intOf];omega
     | zero =>
      (obtain rfl:z = -1:=by have:=hz.out;omega);have HE:Hid (dj=heapSort ltInt d a b):=by
       show _=_;rw [ad.out,← hO.out];rfl
      clear hz hO;go_wp2_with fail;go_end0;exact⟨rfl,by rw [← HE.out];exact af.out⟩
open Go.RowKit Go.Sort
section
variable {α : Type} [Inhabited α]
theorem ZpI {p:α→Bool}{d:Array α}(h:i≤j)(hp:p d[i]! = true):scanUp p d j (i+1)=scanUp p d j i:=by
 conv=>rhs;rw [scanUp]
 rw [if_pos (by simp [h,hp])]
theorem ZdM {p:α→Bool}{d:Array α}(h:¬i≤j∨p d[i]! = false):scanUp p d j i=i:=by
 rw [scanUp,if_neg];rcases h with h | h <;> simp [h]
theorem Zia {p:α→Bool}{d:Array α}(h0:1≤j)(h:i≤j)(hp:p d[j]! = true):scanDown p d i (j-1)=scanDown p d i j:=by
 obtain⟨k,rfl⟩:∃k,j=k+1:=⟨j-1,by omega⟩
 conv=>rhs;rw [scanDown]
 rw [if_pos (by simp [h,hp])];rfl
theorem Zb7 {p:α→Bool}{d:Array α}(h:¬i≤j∨p d[j]! = false):scanDown p d i j=j:=by
 cases j with
 | zero=>rw [scanDown]
 | succ k =>
  rw [scanDown,if_neg];rcases h with h | h <;> simp [h]
theorem scans {p q:α→Bool}(hq:∀x,q x = !p x)(d:Array α)(h0:0<i)(aa:i≤j+1):i≤scanUp p d j i∧scanUp p d j i≤j+1∧scanDown q d (scanUp p d j i) j≤j∧scanUp p d j i≤scanDown q d (scanUp p d j i) j+1∧(scanUp p d j i≤scanDown q d (scanUp p d j i) j→scanUp p d j i<scanDown q d (scanUp p d j i) j):=by
 obtain⟨h1,h2,h3,h4,_,_,h5⟩:=round_facts p q hq d (i-1) (j+1) i j (by omega) aa (fun t a b=>by omega) (fun t a b=>by omega);exact⟨h1,h2,h3,h4,fun h=>(h5 (by omega)).2.2⟩
end
theorem ZkB (w0 W:World)(blk off m cap a b pivot:Nat)(d:Array Int)(h:Sq w0 blk off m W d)(bf:a≤pivot)(bg:pivot<b)(hb:b≤m)(hm:m<1000000) :
    Calls Tryz.prog 197 #[.slice (some ⟨blk,off,none⟩) m cap,.int .i64 (a:Nat),.int .i64 (b:Nat),.int .i64 (pivot:Nat)] W fun e W'=>(∃ap:Bool,e=.returned (.tuple #[.int .i64 ((partition ltInt d a b pivot).1:Nat),.bool ap]))∧Sq w0 blk off m W' (partition ltInt d a b pivot).2.2:=by
  rw [partition_fst,partition_arr];obtain⟨d1,aw⟩:∃d1,d1=swp d a pivot:=⟨_,rfl⟩;rw [← aw];obtain⟨R,hR⟩:∃R,R=partLoop ltInt a (a+1) (b-1) d1:=⟨_,rfl⟩;rw [← hR];have ar:=hide aw;have HR:=hide hR;have HS:=hide h;clear h aw hR;go_enter Tryz.func197,Tryz.ntmps197;go_upto_region 1 with fail;go_cut [] from 12 (fun wx=>Hid (Sq w0 blk off m wx d1))
  case first =>
   obtain⟨G,hG⟩:∃G:Nat→Int,∀t,G t=d[t]!:=⟨fun t=>d[t]!,fun _=>rfl⟩;(have ah:∀t,t<m→W.cell? ⟨blk,off+t,none⟩=some (.int .u64 (G t)):=fun t ht=>by rw [hG];exact HS.out.cell t ht);have ai:∀t,t<m→W.frozen? ⟨blk,off+t,none⟩=false:=HS.out.fz;have HG:Hid (∀t,G t=d[t]!):=hG;have aa:=HS;clear hG;(have i1:a<m:=by omega);(have i2:pivot<m:=by omega);by_cases ba:a<pivot
   · have HX:=hide (aa.out.swap 0 a pivot i1 i2).drew1;rw [← HG.out,← HG.out,← ar.out] at HX;clear aa HS HG;go_region;(all_goals go_wp2_with fail);go_meet
     case rel=>exact HX
   · (obtain rfl:pivot=a:=by omega);have HX:=hide (aa.out.swap 0 pivot pivot i1 i1).drew1;rw [← HG.out,← ar.out] at HX;clear aa HS HG;go_region;(all_goals go_wp2_with fail);go_meet
     case rel=>exact HX
  case rest =>
   have ac:=hcut;clear hcut ar HS;go_upto_region 2 with fail;go_cut [10,11] from 12 (fun iv jv wx=>∃i0 j0:Nat,iv=.int .i64 (i0:Nat)∧jv=.int .i64 (j0:Nat)∧Hid (i0=a+1)∧Hid (j0+1=b)∧Hid (Sq w0 blk off m wx d1))
   case first =>
    go_wp2_with fail;go_meet
    case rel=>exact ⟨a+1,b-1,(by first | rfl | go_num | (congr 1;omega)),(by first | rfl | go_num | (congr 1;omega)),rfl,(show Hid _ from by show _=_;omega),ac⟩
   case rest =>
    clear ac;obtain⟨i0,j0,rfl,rfl,ao,aq,ac⟩:=hcut;have an:Hid (R=partLoop ltInt a i0 j0 d1):=by
     show _=_;rw [HR.out,ao.out,show b-1=j0 by have:=aq.out;omega]
    (have k1:a<i0:=by have:=ao.out;omega);(have k2:i0≤j0+1:=by have:=ao.out;have:=aq.out;omega);(have k3:j0<b:=by have:=aq.out;omega);(have k4:a≤j0:=by omega);clear HR ao aq;go_upto_block 0 with fail;go_cut [10] from 30 (fun iv wx=>∃I:Nat,iv=.int .i64 (I:Nat)∧Hid (I=scanUp (fun x=>ltInt x d1[a]!) d1 j0 i0)∧Hid (Sq w0 blk off m wx d1))
    case first =>
     go_wp2_with fail;go_loopw [10] (fun vi wr_=>∃iu:Nat,vi=.int .i64 (iu:Nat)∧i0≤iu∧iu≤j0+1∧Hid (Sq w0 blk off m wr_ d1)∧Hid (scanUp (fun x=>ltInt x d1[a]!) d1 j0 iu=scanUp (fun x=>ltInt x d1[a]!) d1 j0 i0)) (fun vi _=>j0+1-(intOf vi).toNat)
     case atStart=>exact ⟨i0,rfl,Nat.le_refl _,by omega,ac,rfl⟩
     case round =>
      rename World=>wr_;obtain⟨iu,rfl,au,av,ab,hO⟩:=hrel;by_cases hc:iu≤j0
      · (have ak:(iu:Int)≤(j0:Int):=by omega);obtain⟨G,hG⟩:∃G:Nat→Int,∀t,G t=d1[t]!:=⟨fun t=>d1[t]!,fun _=>rfl⟩;(have ah:∀t,t<m→wr_.cell? ⟨blk,off+t,none⟩=some (.int .u64 (G t)):=fun t ht=>by rw [hG];exact ab.out.cell t ht);have ai:∀t,t<m→wr_.frozen? ⟨blk,off+t,none⟩=false:=ab.out.fz;have HG:Hid (∀t,G t=d1[t]!):=hG;have aa:=ab;clear hG;(have i1:iu<m:=by omega);(have i2:a<m:=by omega);have HD:Hid (∀q,Sq w0 blk off m (wr_.drewN q) d1):=aa.out.drewN;clear aa ab;cases hl:ltInt (G iu) (G a) with
        | true =>
         (have aj:Hid (scanUp (fun x=>ltInt x d1[a]!) d1 j0 (iu+1)=scanUp (fun x=>ltInt x d1[a]!) d1 j0 i0):=by show _=_;rw [ZpI hc (by simp only [← HG.out];simp [hl])];exact hO.out);clear hO HG;go_wp2_with fail;go_quiet (first | (go_at_call 195;refine Calls.quiet_of_same (Zaf _ _ _)));go_wp2_with fail;go_roundw
         case rel=>exact ⟨iu+1,by go_num,by omega,by omega,HD.out _,aj⟩
         case measure=>simp only [intOf];omega
        | false =>
         (have HE:Hid (iu=scanUp (fun x=>ltInt x d1[a]!) d1 j0 i0):=by show _=_;rw [← hO.out,ZdM (.inr (by simp only [← HG.out];simp [hl]))]);clear hO HG;go_wp2_with fail;go_quiet (first | (go_at_call 195;refine Calls.quiet_of_same (Zaf _ _ _)));go_wp2_with fail;go_meet
         case rel=>exact ⟨iu,rfl,HE,HD.out _⟩
      · have ak:decide ((iu:Int)≤(j0:Int))=false:=decide_eq_false (by omega);(have HE:Hid (iu=scanUp (fun x=>ltInt x d1[a]!) d1 j0 i0):=by show _=_;rw [← hO.out,ZdM (.inl hc)]);have HD:Hid (∀q,Sq w0 blk off m (wr_.drewN q) d1):=ab.out.drewN;clear hO ab;go_wp2_with fail;go_quiet (first | (go_at_call 195;refine Calls.quiet_of_same (Zaf _ _ _)));go_wp2_with fail;go_meet
        case rel=>exact ⟨iu,rfl,HE,HD.out _⟩
    case rest =>
     clear ac;obtain⟨I,rfl,HI,ac⟩:=hcut;have ag:=scans (p:=fun x=>ltInt x d1[a]!) (q:=fun x=>!ltInt x d1[a]!) (fun x=>rfl) d1 (i:=i0) (j:=j0) (by omega) k2;have al:=partLoop_eq ltInt a i0 j0 d1;rw [← HI.out] at ag al;have af:=hide ag;have ae:=hide al;have k5:=ag.1;have k6:=ag.2.1;clear ag al;go_upto_block 2 with fail;go_cut [11] from 44 (fun jv wx=>∃J:Nat,jv=.int .i64 (J:Nat)∧Hid (J=scanDown (fun x=>!ltInt x d1[a]!) d1 I j0)∧Hid (Sq w0 blk off m wx d1))
     case first =>
      go_wp2_with fail;go_loopw [11] (fun vi wr_=>∃jd:Nat,vi=.int .i64 (jd:Nat)∧I≤jd+1∧jd≤j0∧Hid (Sq w0 blk off m wr_ d1)∧Hid (scanDown (fun x=>!ltInt x d1[a]!) d1 I jd=scanDown (fun x=>!ltInt x d1[a]!) d1 I j0)) (fun vi _=>(intOf vi).toNat)
      case atStart=>exact ⟨j0,rfl,by omega,Nat.le_refl _,ac,rfl⟩
      case round =>
       rename World=>wr_;obtain⟨jd,rfl,au,av,ab,hO⟩:=hrel;by_cases hc:I≤jd
       · (have ak:(I:Int)≤(jd:Int):=by omega);obtain⟨G,hG⟩:∃G:Nat→Int,∀t,G t=d1[t]!:=⟨fun t=>d1[t]!,fun _=>rfl⟩;(have ah:∀t,t<m→wr_.cell? ⟨blk,off+t,none⟩=some (.int .u64 (G t)):=fun t ht=>by rw [hG];exact ab.out.cell t ht);have ai:∀t,t<m→wr_.frozen? ⟨blk,off+t,none⟩=false:=ab.out.fz;have HG:Hid (∀t,G t=d1[t]!):=hG;have aa:=ab;clear hG;(have i1:jd<m:=by omega);(have i2:a<m:=by omega);have HD:Hid (∀q,Sq w0 blk off m (wr_.drewN q) d1):=aa.out.drewN;clear aa ab;cases hl:ltInt (G jd) (G a) with
         | false =>
          (have aj:Hid (scanDown (fun x=>!ltInt x d1[a]!) d1 I (jd-1)=scanDown (fun x=>!ltInt x d1[a]!) d1 I j0):=by show _=_;rw [Zia (by omega) hc (by simp only [← HG.out];simp [hl])];exact hO.out);clear hO HG;go_wp2_with fail;go_quiet (first | (go_at_call 195;refine Calls.quiet_of_same (Zaf _ _ _)));go_wp2_with fail;go_roundw
          case rel=>exact ⟨jd-1,by congr 1;omega,by omega,by omega,HD.out _,aj⟩
          case measure=>simp only [intOf];omega
         | true =>
          (have HE:Hid (jd=scanDown (fun x=>!ltInt x d1[a]!) d1 I j0):=by show _=_;rw [← hO.out,Zb7 (.inr (by simp only [← HG.out];simp [hl]))]);clear hO HG;go_wp2_with fail;go_quiet (first | (go_at_call 195;refine Calls.quiet_of_same (Zaf _ _ _)));go_wp2_with fail;go_meet
          case rel=>exact ⟨jd,rfl,HE,HD.out _⟩
       · have ak:decide ((I:Int)≤(jd:Int))=false:=decide_eq_false (by omega);(have HE:Hid (jd=scanDown (fun x=>!ltInt x d1[a]!) d1 I j0):=by show _=_;rw [← hO.out,Zb7 (.inl hc)]);have HD:Hid (∀q,Sq w0 blk off m (wr_.drewN q) d1):=ab.out.drewN;clear hO ab;go_wp2_with fail;go_quiet (first | (go_at_call 195;refine Calls.quiet_of_same (Zaf _ _ _)));go_wp2_with fail;go_meet
         case rel=>exact ⟨jd,rfl,HE,HD.out _⟩
     case rest =>
      clear ac;obtain⟨J,rfl,HJ,ac⟩:=hcut;rw [← HJ.out] at af ae;have k7:=af.out.2.2.1;have k8:=af.out.2.2.2.1;have k9:=af.out.2.2.2.2;clear af;by_cases az:J<I
      · have HV:Hid (R=(J,d1)):=by
         show _=_;rw [an.out,ae.out,if_pos az]
        (have bc:(J:Int)<(I:Int):=by omega);(have k10:a≤J:=by omega);clear ae an k9;go_upto_region 8 with fail;go_cut [] from 66 (fun wx=>Hid (Sq w0 blk off m wx (swp d1 J a)))
        case first =>
         rename World=>wz;obtain⟨G,hG⟩:∃G:Nat→Int,∀t,G t=d1[t]!:=⟨fun t=>d1[t]!,fun _=>rfl⟩;(have ah:∀t,t<m→wz.cell? ⟨blk,off+t,none⟩=some (.int .u64 (G t)):=fun t ht=>by rw [hG];exact ac.out.cell t ht);have ai:∀t,t<m→wz.frozen? ⟨blk,off+t,none⟩=false:=ac.out.fz;have HG:Hid (∀t,G t=d1[t]!):=hG;have aa:=ac;clear hG;(have i1:J<m:=by omega);(have i2:a<m:=by omega);by_cases ba:a<J
         · have HX:=hide (aa.out.swap 0 J a i1 i2).drew1;rw [← HG.out,← HG.out] at HX;clear aa ac HG;go_region;(all_goals go_wp2_with fail);go_meet
           case rel=>exact HX
         · (obtain rfl:J=a:=by omega);have HX:=hide (aa.out.swap 0 J J i1 i1).drew1;rw [← HG.out] at HX;clear aa ac HG;go_region;(all_goals go_wp2_with fail);go_meet
           case rel=>exact HX
        case rest =>
         have bd:=hcut;clear ac;go_wp2_with fail;go_ret2;rw [HV.out];exact⟨⟨true,rfl⟩,bd.out⟩
      · (have bc:¬(J:Int)<(I:Int):=by omega);have HV:Hid (partLoop ltInt a (I+1) (J-1) (swp d1 I J)=R):=by
         show _=_;rw [an.out,ae.out,if_neg az]
        have k10:=k9 (by omega);obtain⟨G,hG⟩:∃G:Nat→Int,∀t,G t=d1[t]!:=⟨fun t=>d1[t]!,fun _=>rfl⟩;(have ah:∀t,t<m→wc.cell? ⟨blk,off+t,none⟩=some (.int .u64 (G t)):=fun t ht=>by rw [hG];exact ac.out.cell t ht);have ai:∀t,t<m→wc.frozen? ⟨blk,off+t,none⟩=false:=ac.out.fz;have HG:Hid (∀t,G t=d1[t]!):=hG;have aa:=ac;clear hG;(have i1:I<m:=by omega);(have i2:J<m:=by omega);have HX:=hide (aa.out.swap 0 I J i1 i2).drew1;rw [← HG.out,← HG.out] at HX;clear aa ac HG ae an k9;go_upto_region 10 with fail;go_region;(all_goals go_wp2_with fail);go_loopw [10,11] (fun vi vj wr=>∃(i j:Nat) (dk:Array Int),vi=.int .i64 (i:Nat)∧vj=.int .i64 (j:Nat)∧a<i∧i≤j+1∧j<b∧Hid (Sq w0 blk off m wr dk)∧Hid (partLoop ltInt a i j dk=R)) (fun vi vj _=>(intOf vj).toNat+1-(intOf vi).toNat)
        case atStart=>exact ⟨I+1,J-1,_,by go_num,by congr 1;omega,by omega,by omega,by omega,HX,HV⟩
        case round =>
         clear HX HV ah ai;obtain⟨i,j,dk,rfl,rfl,m1,m2,m3,ad,hO⟩:=hrel;(have m4:a≤j:=by omega);go_upto_block 6 with fail;go_cut [10] from 99 to 152 (fun iv wx=>∃I:Nat,iv=.int .i64 (I:Nat)∧Hid (I=scanUp (fun x=>ltInt x dk[a]!) dk j i)∧Hid (Sq w0 blk off m wx dk))
         case first =>
          go_wp2_with fail;go_loopw [10] (fun vi wr_=>∃iu:Nat,vi=.int .i64 (iu:Nat)∧i≤iu∧iu≤j+1∧Hid (Sq w0 blk off m wr_ dk)∧Hid (scanUp (fun x=>ltInt x dk[a]!) dk j iu=scanUp (fun x=>ltInt x dk[a]!) dk j i)) (fun vi _=>j+1-(intOf vi).toNat)
          case atStart=>exact ⟨i,rfl,Nat.le_refl _,by omega,ad,rfl⟩
          case round =>
           rename World=>wr_;obtain⟨iu,rfl,au,av,ab,hO⟩:=hrel;by_cases hc:iu≤j
           · (have ak:(iu:Int)≤(j:Int):=by omega);obtain⟨G,hG⟩:∃G:Nat→Int,∀t,G t=dk[t]!:=⟨fun t=>dk[t]!,fun _=>rfl⟩;(have ah:∀t,t<m→wr_.cell? ⟨blk,off+t,none⟩=some (.int .u64 (G t)):=fun t ht=>by rw [hG];exact ab.out.cell t ht);have ai:∀t,t<m→wr_.frozen? ⟨blk,off+t,none⟩=false:=ab.out.fz;have HG:Hid (∀t,G t=dk[t]!):=hG;have aa:=ab;clear hG;(have i1:iu<m:=by omega);(have i2:a<m:=by omega);have HD:Hid (∀q,Sq w0 blk off m (wr_.drewN q) dk):=aa.out.drewN;clear aa ab;cases hl:ltInt (G iu) (G a) with
             | true =>
              (have aj:Hid (scanUp (fun x=>ltInt x dk[a]!) dk j (iu+1)=scanUp (fun x=>ltInt x dk[a]!) dk j i):=by show _=_;rw [ZpI hc (by simp only [← HG.out];simp [hl])];exact hO.out);clear hO HG;go_wp2_with fail;go_quiet (first | (go_at_call 195;refine Calls.quiet_of_same (Zaf _ _ _)));go_wp2_with fail;go_roundw
              case rel=>exact ⟨iu+1,by go_num,by omega,by omega,HD.out _,aj⟩
              case measure=>simp only [intOf];omega
             | false =>
              (have HE:Hid (iu=scanUp (fun x=>ltInt x dk[a]!) dk j i):=by show _=_;rw [← hO.out,ZdM (.inr (by simp only [← HG.out];simp [hl]))]);clear hO HG;go_wp2_with fail;go_quiet (first | (go_at_call 195;refine Calls.quiet_of_same (Zaf _ _ _)));go_wp2_with fail;go_meet
              case rel=>exact ⟨iu,rfl,HE,HD.out _⟩
           · have ak:decide ((iu:Int)≤(j:Int))=false:=decide_eq_false (by omega);(have HE:Hid (iu=scanUp (fun x=>ltInt x dk[a]!) dk j i):=by show _=_;rw [← hO.out,ZdM (.inl hc)]);have HD:Hid (∀q,Sq w0 blk off m (wr_.drewN q) dk):=ab.out.drewN;clear hO ab;go_wp2_with fail;go_quiet (first | (go_at_call 195;refine Calls.quiet_of_same (Zaf _ _ _)));go_wp2_with fail;go_meet
             case rel=>exact ⟨iu,rfl,HE,HD.out _⟩
         case rest =>
          clear ad;obtain⟨I2,rfl,ay,ad⟩:=hcut;have ag:=scans (p:=fun x=>ltInt x dk[a]!) (q:=fun x=>!ltInt x dk[a]!) (fun x=>rfl) dk (i:=i) (j:=j) (by omega) m2;have al:=partLoop_eq ltInt a i j dk;rw [hO.out,← ay.out] at al;rw [← ay.out] at ag;have af:=hide ag;have ae:=hide al;have m5:=ag.1;have m6:=ag.2.1;clear ag al hO;go_upto_block 8 with fail;go_cut [11] from 99 to 152 (fun jv wx=>∃J:Nat,jv=.int .i64 (J:Nat)∧Hid (J=scanDown (fun x=>!ltInt x dk[a]!) dk I2 j)∧Hid (Sq w0 blk off m wx dk))
          case first =>
           go_wp2_with fail;go_loopw [11] (fun vi wr_=>∃jd:Nat,vi=.int .i64 (jd:Nat)∧I2≤jd+1∧jd≤j∧Hid (Sq w0 blk off m wr_ dk)∧Hid (scanDown (fun x=>!ltInt x dk[a]!) dk I2 jd=scanDown (fun x=>!ltInt x dk[a]!) dk I2 j)) (fun vi _=>(intOf vi).toNat)
           case atStart=>exact ⟨j,rfl,by omega,Nat.le_refl _,ad,rfl⟩
           case round =>
            rename World=>wr_;obtain⟨jd,rfl,au,av,ab,hO⟩:=hrel;by_cases hc:I2≤jd
            · (have ak:(I2:Int)≤(jd:Int):=by omega);obtain⟨G,hG⟩:∃G:Nat→Int,∀t,G t=dk[t]!:=⟨fun t=>dk[t]!,fun _=>rfl⟩;(have ah:∀t,t<m→wr_.cell? ⟨blk,off+t,none⟩=some (.int .u64 (G t)):=fun t ht=>by rw [hG];exact ab.out.cell t ht);have ai:∀t,t<m→wr_.frozen? ⟨blk,off+t,none⟩=false:=ab.out.fz;have HG:Hid (∀t,G t=dk[t]!):=hG;have aa:=ab;clear hG;(have i1:jd<m:=by omega);(have i2:a<m:=by omega);have HD:Hid (∀q,Sq w0 blk off m (wr_.drewN q) dk):=aa.out.drewN;clear aa ab;cases hl:ltInt (G jd) (G a) with
              | false =>
               (have aj:Hid (scanDown (fun x=>!ltInt x dk[a]!) dk I2 (jd-1)=scanDown (fun x=>!ltInt x dk[a]!) dk I2 j):=by show _=_;rw [Zia (by omega) hc (by simp only [← HG.out];simp [hl])];exact hO.out);clear hO HG;go_wp2_with fail;go_quiet (first | (go_at_call 195;refine Calls.quiet_of_same (Zaf _ _ _)));go_wp2_with fail;go_roundw
               case rel=>exact ⟨jd-1,by congr 1;omega,by omega,by omega,HD.out _,aj⟩
               case measure=>simp only [intOf];omega
              | true =>
               (have HE:Hid (jd=scanDown (fun x=>!ltInt x dk[a]!) dk I2 j):=by show _=_;rw [← hO.out,Zb7 (.inr (by simp only [← HG.out];simp [hl]))]);clear hO HG;go_wp2_with fail;go_quiet (first | (go_at_call 195;refine Calls.quiet_of_same (Zaf _ _ _)));go_wp2_with fail;go_meet
               case rel=>exact ⟨jd,rfl,HE,HD.out _⟩
            · have ak:decide ((I2:Int)≤(jd:Int))=false:=decide_eq_false (by omega);(have HE:Hid (jd=scanDown (fun x=>!ltInt x dk[a]!) dk I2 j):=by show _=_;rw [← hO.out,Zb7 (.inl hc)]);have HD:Hid (∀q,Sq w0 blk off m (wr_.drewN q) dk):=ab.out.drewN;clear hO ab;go_wp2_with fail;go_quiet (first | (go_at_call 195;refine Calls.quiet_of_same (Zaf _ _ _)));go_wp2_with fail;go_meet
              case rel=>exact ⟨jd,rfl,HE,HD.out _⟩
          case rest =>
           clear ad;obtain⟨J2,rfl,bb,ad⟩:=hcut;rw [← bb.out] at af ae;have m7:=af.out.2.2.1;have m8:=af.out.2.2.2.1;have m9:=af.out.2.2.2.2;clear af;by_cases am:J2<I2
           · have HV:Hid (R=(J2,dk)):=by
              show _=_;rw [ae.out,if_pos am]
             (have ax:(J2:Int)<(I2:Int):=by omega);(have k10:a≤J2:=by omega);clear ae m9;go_upto_region 21 with fail;go_upto_region 21 with fail;go_cut [] from 153 (fun wx=>Hid (Sq w0 blk off m wx (swp dk J2 a)))
             case first =>
              rename World=>wz;obtain⟨G,hG⟩:∃G:Nat→Int,∀t,G t=dk[t]!:=⟨fun t=>dk[t]!,fun _=>rfl⟩;(have ah:∀t,t<m→wz.cell? ⟨blk,off+t,none⟩=some (.int .u64 (G t)):=fun t ht=>by rw [hG];exact ad.out.cell t ht);have ai:∀t,t<m→wz.frozen? ⟨blk,off+t,none⟩=false:=ad.out.fz;have HG:Hid (∀t,G t=dk[t]!):=hG;have aa:=ad;clear hG;(have i1:J2<m:=by omega);(have i2:a<m:=by omega);by_cases ba:a<J2
              · have HX:=hide (aa.out.swap 0 J2 a i1 i2).drew1;rw [← HG.out,← HG.out] at HX;clear aa ad HG;go_region;(all_goals go_wp2_with fail);go_meet
                case rel=>exact HX
              · (obtain rfl:J2=a:=by omega);have HX:=hide (aa.out.swap 0 J2 J2 i1 i1).drew1;rw [← HG.out] at HX;clear aa ad HG;go_region;(all_goals go_wp2_with fail);go_meet
                case rel=>exact HX
             case rest =>
              have be:=hcut;clear ad;go_wp2_with fail;go_ret2;rw [HV.out];exact⟨⟨false,rfl⟩,be.out⟩
           · (have ax:¬(J2:Int)<(I2:Int):=by omega);have HV:Hid (partLoop ltInt a (I2+1) (J2-1) (swp dk I2 J2)=R):=by
              show _=_;rw [ae.out,if_neg am]
             have m10:=m9 (by omega);obtain⟨G,hG⟩:∃G:Nat→Int,∀t,G t=dk[t]!:=⟨fun t=>dk[t]!,fun _=>rfl⟩;(have ah:∀t,t<m→wc.cell? ⟨blk,off+t,none⟩=some (.int .u64 (G t)):=fun t ht=>by rw [hG];exact ad.out.cell t ht);have ai:∀t,t<m→wc.frozen? ⟨blk,off+t,none⟩=false:=ad.out.fz;have HG:Hid (∀t,G t=dk[t]!):=hG;have aa:=ad;clear hG;(have i1:I2<m:=by omega);(have i2:J2<m:=by omega);have HX:=hide (aa.out.swap 0 I2 J2 i1 i2).drew1;rw [← HG.out,← HG.out] at HX;clear aa ad HG ae m9;go_upto_region 18 with fail;go_region;(all_goals go_wp2_with fail);go_roundw
             case rel=>exact ⟨I2+1,J2-1,_,by go_num,by congr 1;omega,by omega,by omega,by omega,HX,HV⟩
             case measure=>simp only [intOf];omega
theorem Zhw (w0 W:World)(blk off m cap a b pivot:Nat)(d:Array Int)(h:Sq w0 blk off m W d)(aw:a≤pivot)(ay:pivot<b)(hb:b≤m)(hm:m<1000000) :
    Calls Tryz.prog 196 #[.slice (some ⟨blk,off,none⟩) m cap,.int .i64 (a:Nat),.int .i64 (b:Nat),.int .i64 (pivot:Nat)] W fun e W'=>e=.returned (.int .i64 ((partitionEqual ltInt d a b pivot).1:Nat))∧Sq w0 blk off m W' (partitionEqual ltInt d a b pivot).2:=by
  unfold partitionEqual;obtain⟨d1,al⟩:∃d1,d1=swp d a pivot:=⟨_,rfl⟩;rw [← al];obtain⟨R,hR⟩:∃R,R=partEqLoop ltInt a (a+1) (b-1) d1:=⟨_,rfl⟩;rw [← hR];have ah:=hide al;have HR:=hide hR;have HS:=hide h;clear h al hR;go_enter Tryz.func196,Tryz.ntmps196;go_upto_region 1 with fail;go_cut [] from 11 (fun wx=>Hid (Sq w0 blk off m wx d1))
  case first =>
   obtain⟨G,hG⟩:∃G:Nat→Int,∀t,G t=d[t]!:=⟨fun t=>d[t]!,fun _=>rfl⟩;(have aj:∀t,t<m→W.cell? ⟨blk,off+t,none⟩=some (.int .u64 (G t)):=fun t ht=>by rw [hG];exact HS.out.cell t ht);have an:∀t,t<m→W.frozen? ⟨blk,off+t,none⟩=false:=HS.out.fz;have HG:Hid (∀t,G t=d[t]!):=hG;have aa:=HS;clear hG;(have i1:a<m:=by omega);(have i2:pivot<m:=by omega);by_cases ax:a<pivot
   · have HX:=hide (aa.out.swap 0 a pivot i1 i2).drew1;rw [← HG.out,← HG.out,← ah.out] at HX;clear aa HS HG;go_region;(all_goals go_wp2_with fail);go_meet
     case rel=>exact HX
   · (obtain rfl:pivot=a:=by omega);have HX:=hide (aa.out.swap 0 pivot pivot i1 i1).drew1;rw [← HG.out,← ah.out] at HX;clear aa HS HG;go_region;(all_goals go_wp2_with fail);go_meet
     case rel=>exact HX
  case rest =>
   have aq:=hcut;clear hcut ah HS;go_wp2_with fail;go_loopw [9,10] (fun vi vj wr=>∃(i j:Nat) (dk:Array Int),vi=.int .i64 (i:Nat)∧vj=.int .i64 (j:Nat)∧a<i∧i≤j+1∧j<b∧Hid (Sq w0 blk off m wr dk)∧Hid (partEqLoop ltInt a i j dk=R)) (fun vi vj _=>(intOf vj).toNat+1-(intOf vi).toNat)
   case atStart=>exact ⟨a+1,b-1,d1,by go_num,by congr 1;omega,by omega,by omega,by omega,aq,hide HR.out.symm⟩
   case round =>
    clear aq HR;obtain⟨i,j,dk,rfl,rfl,m1,m2,m3,ac,hO⟩:=hrel;(have m4:a≤j:=by omega);go_upto_block 2 with fail;go_cut [9] from 29 to 82 (fun iv wx=>∃I:Nat,iv=.int .i64 (I:Nat)∧Hid (I=scanUp (fun x=>!ltInt dk[a]! x) dk j i)∧Hid (Sq w0 blk off m wx dk))
    case first =>
     go_wp2_with fail;go_loopw [9] (fun vi wr_=>∃iu:Nat,vi=.int .i64 (iu:Nat)∧i≤iu∧iu≤j+1∧Hid (Sq w0 blk off m wr_ dk)∧Hid (scanUp (fun x=>!ltInt dk[a]! x) dk j iu=scanUp (fun x=>!ltInt dk[a]! x) dk j i)) (fun vi _=>j+1-(intOf vi).toNat)
     case atStart=>exact ⟨i,rfl,Nat.le_refl _,by omega,ac,rfl⟩
     case round =>
      rename World=>wr_;obtain⟨iu,rfl,au,av,ab,hO⟩:=hrel;by_cases hc:iu≤j
      · (have ak:(iu:Int)≤(j:Int):=by omega);obtain⟨G,hG⟩:∃G:Nat→Int,∀t,G t=dk[t]!:=⟨fun t=>dk[t]!,fun _=>rfl⟩;(have aj:∀t,t<m→wr_.cell? ⟨blk,off+t,none⟩=some (.int .u64 (G t)):=fun t ht=>by rw [hG];exact ab.out.cell t ht);have an:∀t,t<m→wr_.frozen? ⟨blk,off+t,none⟩=false:=ab.out.fz;have HG:Hid (∀t,G t=dk[t]!):=hG;have aa:=ab;clear hG;(have i1:iu<m:=by omega);(have i2:a<m:=by omega);have HD:Hid (∀q,Sq w0 blk off m (wr_.drewN q) dk):=aa.out.drewN;clear aa ab;cases hl:ltInt (G a) (G iu) with
        | false =>
         (have ai:Hid (scanUp (fun x=>!ltInt dk[a]! x) dk j (iu+1)=scanUp (fun x=>!ltInt dk[a]! x) dk j i):=by show _=_;rw [ZpI hc (by simp only [← HG.out];simp [hl])];exact hO.out);clear hO HG;go_wp2_with fail;go_quiet (first | (go_at_call 195;refine Calls.quiet_of_same (Zaf _ _ _)));go_wp2_with fail;go_roundw
         case rel=>exact ⟨iu+1,by go_num,by omega,by omega,HD.out _,ai⟩
         case measure=>simp only [intOf];omega
        | true =>
         (have HE:Hid (iu=scanUp (fun x=>!ltInt dk[a]! x) dk j i):=by show _=_;rw [← hO.out,ZdM (.inr (by simp only [← HG.out];simp [hl]))]);clear hO HG;go_wp2_with fail;go_quiet (first | (go_at_call 195;refine Calls.quiet_of_same (Zaf _ _ _)));go_wp2_with fail;go_meet
         case rel=>exact ⟨iu,rfl,HE,HD.out _⟩
      · have ak:decide ((iu:Int)≤(j:Int))=false:=decide_eq_false (by omega);(have HE:Hid (iu=scanUp (fun x=>!ltInt dk[a]! x) dk j i):=by show _=_;rw [← hO.out,ZdM (.inl hc)]);have HD:Hid (∀q,Sq w0 blk off m (wr_.drewN q) dk):=ab.out.drewN;clear hO ab;go_wp2_with fail;go_quiet (first | (go_at_call 195;refine Calls.quiet_of_same (Zaf _ _ _)));go_wp2_with fail;go_meet
        case rel=>exact ⟨iu,rfl,HE,HD.out _⟩
    case rest =>
     clear ac;obtain⟨I2,rfl,ap,ac⟩:=hcut;have ag:=scans (p:=fun x=>!ltInt dk[a]! x) (q:=fun x=>ltInt dk[a]! x) (fun x=>by simp) dk (i:=i) (j:=j) (by omega) m2;have am:=partEqLoop_eq ltInt a i j dk;rw [hO.out,← ap.out] at am;rw [← ap.out] at ag;have ae:=hide ag;have ad:=hide am;have m5:=ag.1;have m6:=ag.2.1;clear ag am hO;go_upto_block 4 with fail;go_cut [10] from 29 to 82 (fun jv wx=>∃J:Nat,jv=.int .i64 (J:Nat)∧Hid (J=scanDown (fun x=>ltInt dk[a]! x) dk I2 j)∧Hid (Sq w0 blk off m wx dk))
     case first =>
      go_wp2_with fail;go_loopw [10] (fun vi wr_=>∃jd:Nat,vi=.int .i64 (jd:Nat)∧I2≤jd+1∧jd≤j∧Hid (Sq w0 blk off m wr_ dk)∧Hid (scanDown (fun x=>ltInt dk[a]! x) dk I2 jd=scanDown (fun x=>ltInt dk[a]! x) dk I2 j)) (fun vi _=>(intOf vi).toNat)
      case atStart=>exact ⟨j,rfl,by omega,Nat.le_refl _,ac,rfl⟩
      case round =>
       rename World=>wr_;obtain⟨jd,rfl,au,av,ab,hO⟩:=hrel;by_cases hc:I2≤jd
       · (have ak:(I2:Int)≤(jd:Int):=by omega);obtain⟨G,hG⟩:∃G:Nat→Int,∀t,G t=dk[t]!:=⟨fun t=>dk[t]!,fun _=>rfl⟩;(have aj:∀t,t<m→wr_.cell? ⟨blk,off+t,none⟩=some (.int .u64 (G t)):=fun t ht=>by rw [hG];exact ab.out.cell t ht);have an:∀t,t<m→wr_.frozen? ⟨blk,off+t,none⟩=false:=ab.out.fz;have HG:Hid (∀t,G t=dk[t]!):=hG;have aa:=ab;clear hG;(have i1:jd<m:=by omega);(have i2:a<m:=by omega);have HD:Hid (∀q,Sq w0 blk off m (wr_.drewN q) dk):=aa.out.drewN;clear aa ab;cases hl:ltInt (G a) (G jd) with
         | true =>
          (have ai:Hid (scanDown (fun x=>ltInt dk[a]! x) dk I2 (jd-1)=scanDown (fun x=>ltInt dk[a]! x) dk I2 j):=by show _=_;rw [Zia (by omega) hc (by simp only [← HG.out];simp [hl])];exact hO.out);clear hO HG;go_wp2_with fail;go_quiet (first | (go_at_call 195;refine Calls.quiet_of_same (Zaf _ _ _)));go_wp2_with fail;go_roundw
          case rel=>exact ⟨jd-1,by congr 1;omega,by omega,by omega,HD.out _,ai⟩
          case measure=>simp only [intOf];omega
         | false =>
          (have HE:Hid (jd=scanDown (fun x=>ltInt dk[a]! x) dk I2 j):=by show _=_;rw [← hO.out,Zb7 (.inr (by simp only [← HG.out];simp [hl]))]);clear hO HG;go_wp2_with fail;go_quiet (first | (go_at_call 195;refine Calls.quiet_of_same (Zaf _ _ _)));go_wp2_with fail;go_meet
          case rel=>exact ⟨jd,rfl,HE,HD.out _⟩
       · have ak:decide ((I2:Int)≤(jd:Int))=false:=decide_eq_false (by omega);(have HE:Hid (jd=scanDown (fun x=>ltInt dk[a]! x) dk I2 j):=by show _=_;rw [← hO.out,Zb7 (.inl hc)]);have HD:Hid (∀q,Sq w0 blk off m (wr_.drewN q) dk):=ab.out.drewN;clear hO ab;go_wp2_with fail;go_quiet (first | (go_at_call 195;refine Calls.quiet_of_same (Zaf _ _ _)));go_wp2_with fail;go_meet
         case rel=>exact ⟨jd,rfl,HE,HD.out _⟩
     case rest =>
      clear ac;obtain⟨J2,rfl,ar,ac⟩:=hcut;rw [← ar.out] at ae ad;have m7:=ae.out.2.2.1;have m8:=ae.out.2.2.2.1;have m9:=ae.out.2.2.2.2;clear ae;by_cases af:J2<I2
      · have HV:Hid (R=(I2,dk)):=by
         show _=_;rw [ad.out,if_pos af]
        (have ao:(J2:Int)<(I2:Int):=by omega);clear ad m9;go_wp2_with fail;go_ret;rw [HV.out];exact⟨rfl,ac.out⟩
      · (have ao:¬(J2:Int)<(I2:Int):=by omega);have HV:Hid (partEqLoop ltInt a (I2+1) (J2-1) (swp dk I2 J2)=R):=by
         show _=_;rw [ad.out,if_neg af]
        have m10:=m9 (by omega);obtain⟨G,hG⟩:∃G:Nat→Int,∀t,G t=dk[t]!:=⟨fun t=>dk[t]!,fun _=>rfl⟩;(have aj:∀t,t<m→wc.cell? ⟨blk,off+t,none⟩=some (.int .u64 (G t)):=fun t ht=>by rw [hG];exact ac.out.cell t ht);have an:∀t,t<m→wc.frozen? ⟨blk,off+t,none⟩=false:=ac.out.fz;have HG:Hid (∀t,G t=dk[t]!):=hG;have aa:=ac;clear hG;(have i1:I2<m:=by omega);(have i2:J2<m:=by omega);have HX:=hide (aa.out.swap 0 I2 J2 i1 i2).drew1;rw [← HG.out,← HG.out] at HX;clear aa ac HG ad m9;go_upto_region 8 with fail;go_region;(all_goals go_wp2_with fail);go_roundw
        case rel=>exact ⟨I2+1,J2-1,_,by go_num,by congr 1;omega,by omega,by omega,by omega,HX,HV⟩
        case measure=>simp only [intOf];omega
theorem Zmw (w0 W:World)(blk off m cap a b:Nat)(d:Array Int)(h:Sq w0 blk off m W d)(ad:a<b)(hb:b≤m)(hm:m<1000000) :
    Calls Tryz.prog 193 #[.slice (some ⟨blk,off,none⟩) m cap,.int .i64 (a:Nat),.int .i64 (b:Nat)] W fun e W'=>e=.returned (.tuple #[])∧Sq w0 blk off m W' (reverseRange d a b):=by
  have HS:=hide h;clear h;unfold reverseRange;go_enter Tryz.func193,Tryz.ntmps193;go_wp2_with fail;go_loopw [6,7] (fun vi vj wr=>∃(i j:Nat) (dk:Array Int),vi=.int .i64 (i:Nat)∧vj=.int .i64 (j:Nat)∧j<b∧Hid (Sq w0 blk off m wr dk)∧Hid (reverseLoop i j dk=reverseLoop a (b-1) d)) (fun vi vj _=>(intOf vj).toNat-(intOf vi).toNat)
  case atStart=>exact ⟨a,b-1,d,rfl,by congr 1;omega,by omega,HS,rfl⟩
  case round =>
   obtain⟨i,j,dk,rfl,rfl,m1,aa,hO⟩:=hrel;by_cases ac:i<j
   · (have hz:(i:Int)<(j:Int):=by omega);have HV:Hid (reverseLoop (i+1) (j-1) (swp dk i j)=reverseLoop a (b-1) d):=by
      show _=_;rw [← hO.out]
      conv=>rhs;rw [reverseLoop]
      rw [if_pos ac]
     obtain⟨G,hG⟩:∃G:Nat→Int,∀t,G t=dk[t]!:=⟨fun t=>dk[t]!,fun _=>rfl⟩;(have ae:∀t,t<m→wr.cell? ⟨blk,off+t,none⟩=some (.int .u64 (G t)):=fun t ht=>by rw [hG];exact aa.out.cell t ht);have af:∀t,t<m→wr.frozen? ⟨blk,off+t,none⟩=false:=aa.out.fz;have HG:Hid (∀t,G t=dk[t]!):=hG;have ab:=aa;clear hG;(have i1:i<m:=by omega);(have i2:j<m:=by omega);have HX:=hide (ab.out.swap 0 i j i1 i2).drew1;rw [← HG.out,← HG.out] at HX;clear ab aa HG hO;go_wp2_with fail;go_region;(all_goals go_wp2_with fail);go_roundw
     case rel=>exact ⟨i+1,j-1,_,by go_num,by congr 1;omega,by omega,HX,HV⟩
     case measure=>simp only [intOf];omega
   · (have hz:¬(i:Int)<(j:Int):=by omega);have HV:Hid (dk=reverseLoop a (b-1) d):=by
      show _=_;rw [← hO.out,reverseLoop,if_neg ac]
     go_wp2_with fail;go_end0;exact⟨rfl,by rw [← HV.out];exact aa.out⟩
end Go.Proofs.YtiecfcjlhldhdaaGreat
