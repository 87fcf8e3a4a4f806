/-
  Lemmas.
-/
import Derived.Sort.WalkA
import Derived.Sort.LotD3
import Derived.Test.YtdojdcncncgncaaGreatKfaj
import Derived.Deep.CutBlock
import Derived.Sort.LotB
import Derived.Sort.LotC
namespace Go.Proofs.YtdojdcncncgncaaGreat
open Go.RowKit
set_option linter.unusedVariables false
set_option maxRecDepth 100000
set_option maxHeartbeats 4000000
variable {w0 W:World}{blk off m j i hi first root:Nat}{d:Array Int}
open Go.RowKit Go.Sort
def uE (x : Int) : Value := .int .u64 x
structure Sq (w0 : World) (blk off m : Nat) (W : World) (d : Array Int) : Prop where
  size : d.size = m
  holds : Holds uE W blk off d
  frm : Frm (fun k => k = blk) w0 W
theorem Sq.cell {w0 W : World} {blk off m : Nat} {d : Array Int} (h : Sq w0 blk off m W d) (t : Nat) (ht : t < m) : W.cell? ⟨blk, off + t, none⟩ = some (.int .u64 d[t]!) := (h.holds t (by rw [h.size]; exact ht)).1
theorem Sq.fz {w0 W : World} {blk off m : Nat} {d : Array Int} (h : Sq w0 blk off m W d) (t : Nat) (ht : t < m) : W.frozen? ⟨blk, off + t, none⟩ = false := (h.holds t (by rw [h.size]; exact ht)).2
theorem Sq.drewN {w0 W : World} {blk off m : Nat} {d : Array Int} (h : Sq w0 blk off m W d) (q : Nat) : Sq w0 blk off m (W.drewN q) d :=
  ⟨h.size, h.holds, ⟨h.frm.os, h.frm.tape, h.frm.output, h.frm.size, h.frm.block⟩⟩
theorem Sq.drew1 {w0 W : World} {blk off m : Nat} {d : Array Int} (h : Sq w0 blk off m W d) : Sq w0 blk off m W.drew d := h.drewN 1
theorem Sq.lt {w0 W : World} {blk off m : Nat} {d : Array Int} (h : Sq w0 blk off m W d) (hm : 0 < m) : blk < W.heap.size := World.block_lt_of_cell? W _ (h.cell 0 hm)
theorem Sq.below {W':World}(h : Sq w0 blk off m W d) (hb : Below W.heap.size W W') : Sq w0 blk off m W' d := by
 refine ⟨h.size, fun t ht => ?_, h.frm.trans (G := fun _ => False) (Frm.ofBelow hb) (fun _ _ h => h.elim)⟩
 have hl : blk < W.heap.size := World.block_lt_of_cell? W _ (h.holds t ht).1
 refine ⟨(hb.cell (p := ⟨blk, off + t, none⟩) hl).trans (h.holds t ht).1, ?_⟩
 rw [← (h.holds t ht).2]
 simp only [World.frozen?, hb.block blk hl]
theorem Sq.swap (h : Sq w0 blk off m W d) (q i j : Nat) (hi : i < m) (hj : j < m) : Sq w0 blk off m (((W.drewN q).setCell ⟨blk, off + i, none⟩ (.int .u64 d[j]!)).setCell ⟨blk, off + j, none⟩ (.int .u64 d[i]!)) (swp d i j) := by
 have hd := h.drewN q
 generalize W.drewN q = V at hd
 have hs := hd.size
 have e : (V.setCell ⟨blk, off + i, none⟩ (.int .u64 d[j]!)).setCell ⟨blk, off + j, none⟩ (.int .u64 d[i]!) = putRow uE V blk off (swp d i j) := by
  have := putRow_swp uE V blk off d i j (by omega) (by omega)
  rw [putRow_self uE V blk off d hd.holds] at this
  exact this
 refine ⟨by rw [size_swp]; exact hs, ?_, (hd.frm.setCell rfl _).setCell rfl _⟩
 rw [e]
 exact holds_putRow uE V blk off d _ hd.holds (by rw [size_swp])
theorem Zaf (x y : Int) (w : World) : Calls Tryz.prog 168 #[.int .u64 x, .int .u64 y] w fun e w' => e = .returned (.bool (ltInt x y)) ∧ w' = w := by
 have hN : ∀ (z : Int) (w : World), Calls Tryz.prog 182 #[.int .u64 z] w fun e w' => e = .returned (.bool false) ∧ w' = w := by
  intro z w
  go_enter Tryz.func182, Tryz.ntmps182
  go_wp2_with fail
  go_ret
  exact ⟨by simp, rfl⟩
 go_enter Tryz.func168, Tryz.ntmps168
 go_wp2_with (go_at_call 182; refine (hN _ _).mono ?_; rintro e w' ⟨rfl, rfl⟩)
 go_ret
 exact ⟨rfl, rfl⟩
theorem Zk0 (w0 W:World)(blk off m cap a b:Nat)(d:Array Int)(h:Sq w0 blk off m W d)(hab:a≤b)(hb:b≤m)(hm:m<1000000) :
    Calls Tryz.prog 162 #[.slice (some ⟨blk,off,none⟩) m cap,.int .i64 (a:Nat),.int .i64 (b:Nat)] W fun e W'=>e=.returned (.tuple #[])∧Sq w0 blk off m W' (insertionSort ltInt d a b):=by
  have HS:=hide h
  clear h
  go_enter Tryz.func162,Tryz.ntmps162
  go_wp2_with fail
  go_loopw [6] (fun vi wr=>∃(i:Nat) (dk:Array Int),vi=.int .i64 (i:Nat)∧a<i∧i≤b+1∧Hid (Sq w0 blk off m wr dk)∧Hid (insOuter ltInt a b i dk=insOuter ltInt a b (a+1) d)) (fun vi _=>b+1-(intOf vi).toNat)
  case atStart=>exact ⟨a+1,d,by go_num,by omega,by omega,HS,rfl⟩
  case round =>
   obtain⟨i,dk,rfl,hai,hib,hsk,hO⟩:=hrel
   rcases Nat.lt_or_ge i b with hlt | hge
   · have j1:(i:Int)<(b:Int):=by omega
     go_wp2_with fail
     go_loopw [7] (fun vj wr2=>∃(j:Nat) (dj:Array Int),vj=.int .i64 (j:Nat)∧a≤j∧j≤i∧Hid (Sq w0 blk off m wr2 dj)∧Hid (insInner ltInt a j dj=insInner ltInt a i dk)) (fun vj _=>(intOf vj).toNat)
     case atStart=>exact ⟨i,dk,rfl,by omega,Nat.le_refl _,hsk,rfl⟩
     case round =>
      rename World=>wr2
      obtain⟨j,dj,rfl,haj,hji,hsj,hI⟩:=hrel
      have OUT:(j≤a∨ltInt dj[j]! dj[j-1]! = false)→Hid (insOuter ltInt a b (i+1) dj=insOuter ltInt a b (a+1) d):=fun hs=>by
       show _=_
       rw [← hO.out,insOuter_go _ _ _ _ _ hlt,← hI.out,insInner_stop _ _ _ _ hs]
      by_cases hja:a<j
      · obtain⟨G,hG⟩:∃G:Nat→Int,∀t,G t=dj[t]!:=⟨fun t=>dj[t]!,fun _=>rfl⟩
        have hcw:∀t,t<m→wr2.cell? ⟨blk,off+t,none⟩=some (.int .u64 (G t)):=fun t ht=>by rw [hG];exact hsj.out.cell t ht
        have hfw:∀t,t<m→wr2.frozen? ⟨blk,off+t,none⟩=false:=hsj.out.fz
        have HG:Hid (∀t,G t=dj[t]!):=hG
        have j2:(a:Int)<(j:Int):=by omega
        have HO2:=hide OUT
        clear hG OUT
        cases hl:ltInt (G j) (G (j-1)) with
        | true =>
         have HL:Hid (insInner ltInt a (j-1) (swp dj j (j-1))=insInner ltInt a i dk):=by
          show _=_
          rw [← hI.out,insInner_go ltInt a j dj hja (by rw [← HG.out,← HG.out];exact hl)]
         have HW:∀q,Hid (Sq w0 blk off m (((wr2.drewN q).setCell ⟨blk,off+j,none⟩ (.int .u64 (G (j-1)))).setCell ⟨blk,off+(j-1),none⟩ (.int .u64 (G j))) (swp dj j (j-1))):=fun q=>by
          rw [HG.out,HG.out]
          exact hsj.out.swap q j (j-1) (by omega) (by omega)
         clear hI hsj HO2
         go_wp2_with fail
         go_quiet (first | (go_at_call 168;refine Calls.quiet_of_same (Zaf _ _ _)))
         go_wp2_with fail
         go_region
         all_goals go_wp2_with fail
         go_roundw
         case rel=>exact ⟨j-1,swp dj j (j-1),by congr 1;omega,by omega,by omega,HW (nq+1),HL⟩
         case measure=>simp only [intOf];omega
        | false =>
         have HO3:Hid (insOuter ltInt a b (i+1) dj=insOuter ltInt a b (a+1) d):=HO2.out (.inr (by rw [← HG.out,← HG.out];exact hl))
         have HW:∀q,Hid (Sq w0 blk off m (wr2.drewN q) dj):=fun q=>hsj.out.drewN q
         clear hI hsj HO2
         go_wp2_with fail
         go_quiet (first | (go_at_call 168;refine Calls.quiet_of_same (Zaf _ _ _)))
         go_wp2_with fail
         go_roundw
         case rel=>exact ⟨i+1,dj,by go_num,by omega,by omega,HW nq,HO3⟩
         case measure=>simp only [intOf];omega
      · have j2:¬(a:Int)<(j:Int):=by omega
        have HO3:=OUT (.inl (by omega))
        have HW:∀q,Hid (Sq w0 blk off m (wr2.drewN q) dj):=fun q=>hsj.out.drewN q
        clear OUT hI hsj
        go_wp2_with fail
        go_quiet (first | (go_at_call 168;refine Calls.quiet_of_same (Zaf _ _ _)))
        go_wp2_with fail
        go_roundw
        case rel=>exact ⟨i+1,dj,by go_num,by omega,by omega,HW nq,HO3⟩
        case measure=>simp only [intOf];omega
   · have j1:¬(i:Int)<(b:Int):=by omega
     have HE:Hid (dk=insertionSort ltInt d a b):=by
      show _=_
      unfold insertionSort
      rw [← hO.out,insOuter_stop _ _ _ _ _ (by omega)]
     go_wp2_with fail
     go_end0
     exact⟨rfl,by rw [← HE.out];exact hsk.out⟩
open Go.RowKit Go.Sort
section
variable {α : Type} [Inhabited α] (lt : α → α → Bool)
theorem Zln {hi first root : Nat} {d : Array α} (h : hi ≤ 2 * root + 1) : siftDown lt hi first root d = d := by
  rw [siftDown, dif_pos h]
theorem Zj6 {hi first root : Nat} {d : Array α} (h1 : ¬ hi ≤ 2 * root + 1) (h2 : 2 * root + 2 < hi) (hl : lt d[first + 2 * root + 1]! d[first + 2 * root + 2]! = true) :
    siftDown lt hi first root d = if lt d[first + root]! d[first + 2 * root + 2]! = true then siftDown lt hi first (2 * root + 2) (swp d (first + root) (first + 2 * root + 2)) else d := by
  have hl' : lt d[first + (2 * root + 1)]! d[first + (2 * root + 1) + 1]! = true := hl
  rw [siftDown, dif_neg h1, if_pos (by rw [hl']; simpa using h2)]
  have e : first + (2 * root + 2) = first + 2 * root + 2 := rfl
  rw [e]
  cases h3 : lt d[first + root]! d[first + 2 * root + 2]! <;> simp [h2]
theorem Zhe {d : Array α} (h1 : ¬ hi ≤ 2 * root + 1) (h2 : ¬ 2 * root + 2 < hi ∨ lt d[first + 2 * root + 1]! d[first + 2 * root + 2]! = false) :
    siftDown lt hi first root d = if lt d[first + root]! d[first + 2 * root + 1]! = true then siftDown lt hi first (2 * root + 1) (swp d (first + root) (first + 2 * root + 1)) else d := by
  have hc : ¬ ((decide (2 * root + 1 + 1 < hi) && lt d[first + (2 * root + 1)]! d[first + (2 * root + 1) + 1]!) = true) := by
   have e : first + (2 * root + 1) + 1 = first + 2 * root + 2 := rfl
   have e' : first + (2 * root + 1) = first + 2 * root + 1 := rfl
   rcases h2 with h | h
   · rw [decide_eq_false (by omega)]; simp
   · rw [e, e', h]; simp
  rw [siftDown, dif_neg h1, if_neg hc]
  have e' : first + (2 * root + 1) = first + 2 * root + 1 := rfl
  rw [e']
  cases h3 : lt d[first + root]! d[first + 2 * root + 1]! <;> simp
end
theorem Zf7 (w0 W:World)(blk off m cap lo hi first:Nat)(d:Array Int)(h:Sq w0 blk off m W d)(hf:first+hi≤m)(hm:m<1000000)(hlo:lo<1000000) :
    Calls Tryz.prog 179 #[.slice (some ⟨blk,off,none⟩) m cap,.int .i64 (lo:Nat),.int .i64 (hi:Nat),.int .i64 (first:Nat)] W fun e W'=>e=.returned (.tuple #[])∧Sq w0 blk off m W' (siftDown ltInt hi first lo d):=by
  have HS:=hide h
  clear h
  go_enter Tryz.func179,Tryz.ntmps179
  go_wp2_with fail
  go_loopw [8] (fun vi wr=>∃(r:Nat) (dk:Array Int),vi=.int .i64 (r:Nat)∧r<1000000∧Hid (Sq w0 blk off m wr dk)∧Hid (siftDown ltInt hi first r dk=siftDown ltInt hi first lo d)) (fun vi _=>hi-(intOf vi).toNat)
  case atStart=>exact ⟨lo,d,rfl,hlo,HS,rfl⟩
  case round =>
   obtain⟨r,dk,rfl,hr,hsk,hO⟩:=hrel
   by_cases hleaf:hi≤2*r+1
   · have HE:Hid (dk=siftDown ltInt hi first lo d):=by
      show _=_
      rw [← hO.out,Zln _ hleaf]
     go_wp2_with fail
     go_end0
     exact⟨rfl,by rw [← HE.out];exact hsk.out⟩
   · obtain⟨G,hG⟩:∃G:Nat→Int,∀t,G t=dk[t]!:=⟨fun t=>dk[t]!,fun _=>rfl⟩
     have hcw:∀t,t<m→wr.cell? ⟨blk,off+t,none⟩=some (.int .u64 (G t)):=fun t ht=>by rw [hG];exact hsk.out.cell t ht
     have hfw:∀t,t<m→wr.frozen? ⟨blk,off+t,none⟩=false:=hsk.out.fz
     have HG:Hid (∀t,G t=dk[t]!):=hG
     have HSQ:=hsk
     clear hG
     have i1:first+r<m:=by omega
     have i2:first+2*r+1<m:=by omega
     have n2:¬((hi:Int)≤2*(r:Int)+1):=by omega
     by_cases h2:2*r+2<hi
     · have i3:first+2*r+2<m:=by omega
       have j2:(2*(r:Int)+1+1)<(hi:Int):=by omega
       cases hl:ltInt (G (first+2*r+1)) (G (first+2*r+2)) with
       | true =>
        have hx:=Zj6 ltInt (d:=dk) (first:=first) hleaf h2 (by rw [← HG.out,← HG.out];exact hl)
        rw [hO.out,← HG.out,← HG.out] at hx
        cases hk:ltInt (G (first+r)) (G (first+2*r+2)) with
        | true =>
         rw [hk,if_pos rfl] at hx
         have HX:=hide hx
         clear hx hO hsk
         go_wp2_with fail
         go_quiet (first | (go_at_call 168;refine Calls.quiet_of_same (Zaf _ _ _)))
         go_wp2_with fail
         have hsq_:Sq w0 blk off m (wr.drewN nq) dk:=HSQ.out.drewN nq
         have hcw_:∀t,t<m→(wr.drewN nq).cell? ⟨blk,off+t,none⟩=some (.int .u64 (G t)):=hcw
         have hfw_:∀t,t<m→(wr.drewN nq).frozen? ⟨blk,off+t,none⟩=false:=hfw
         clear HSQ hcw hfw
         generalize wr.drewN nq=wr2 at hsq_ hcw_ hfw_ ⊢
         clear nq
         have HSQ:=hide hsq_
         have hcw:=hcw_
         have hfw:=hfw_
         clear hsq_ hcw_ hfw_
         go_quiet (first | (go_at_call 168;refine Calls.quiet_of_same (Zaf _ _ _)))
         go_wp2_with fail
         have HSW:Hid (∀q,Sq w0 blk off m (((wr2.drewN q).setCell ⟨blk,off+(first+r),none⟩ (.int .u64 (G (first+2*r+2)))).setCell ⟨blk,off+(first+2*r+2),none⟩ (.int .u64 (G (first+r)))) (swp dk (first+r) (first+2*r+2))):=fun q=>by
          rw [HG.out,HG.out]
          exact HSQ.out.swap q _ _ i1 (by omega)
         clear HSQ HG
         go_region
         all_goals go_wp2_with fail
         go_roundw
         case rel=>exact ⟨2*r+2,_,by go_num,by omega,HSW.out _,hide HX.out.symm⟩
         case measure=>simp only [intOf];omega
        | false =>
         rw [hk,if_neg (by decide)] at hx
         have HX:=hide hx
         clear hx hO hsk HG
         go_wp2_with fail
         go_quiet (first | (go_at_call 168;refine Calls.quiet_of_same (Zaf _ _ _)))
         go_wp2_with fail
         have hsq_:Sq w0 blk off m (wr.drewN nq) dk:=HSQ.out.drewN nq
         have hcw_:∀t,t<m→(wr.drewN nq).cell? ⟨blk,off+t,none⟩=some (.int .u64 (G t)):=hcw
         have hfw_:∀t,t<m→(wr.drewN nq).frozen? ⟨blk,off+t,none⟩=false:=hfw
         clear HSQ hcw hfw
         generalize wr.drewN nq=wr2 at hsq_ hcw_ hfw_ ⊢
         clear nq
         have HSQ:=hide hsq_
         have hcw:=hcw_
         have hfw:=hfw_
         clear hsq_ hcw_ hfw_
         go_quiet (first | (go_at_call 168;refine Calls.quiet_of_same (Zaf _ _ _)))
         go_wp2_with fail
         have HEND:Hid (∀q,Sq w0 blk off m (wr2.drewN q) dk):=HSQ.out.drewN
         (try simp only [Exit.inBlock,Exit.then]);refine bodyPost_ret (results_none rfl _ _ _) rfl ?_
         exact⟨rfl,by rw [HX.out];exact HEND.out _⟩
       | false =>
        have hx:=Zhe ltInt (d:=dk) (first:=first) hleaf (.inr (by rw [← HG.out,← HG.out];exact hl))
        rw [hO.out,← HG.out,← HG.out] at hx
        cases hk:ltInt (G (first+r)) (G (first+2*r+1)) with
        | true =>
         rw [hk,if_pos rfl] at hx
         have HX:=hide hx
         clear hx hO hsk
         go_wp2_with fail
         go_quiet (first | (go_at_call 168;refine Calls.quiet_of_same (Zaf _ _ _)))
         go_wp2_with fail
         have hsq_:Sq w0 blk off m (wr.drewN nq) dk:=HSQ.out.drewN nq
         have hcw_:∀t,t<m→(wr.drewN nq).cell? ⟨blk,off+t,none⟩=some (.int .u64 (G t)):=hcw
         have hfw_:∀t,t<m→(wr.drewN nq).frozen? ⟨blk,off+t,none⟩=false:=hfw
         clear HSQ hcw hfw
         generalize wr.drewN nq=wr2 at hsq_ hcw_ hfw_ ⊢
         clear nq
         have HSQ:=hide hsq_
         have hcw:=hcw_
         have hfw:=hfw_
         clear hsq_ hcw_ hfw_
         go_quiet (first | (go_at_call 168;refine Calls.quiet_of_same (Zaf _ _ _)))
         go_wp2_with fail
         have HSW:Hid (∀q,Sq w0 blk off m (((wr2.drewN q).setCell ⟨blk,off+(first+r),none⟩ (.int .u64 (G (first+2*r+1)))).setCell ⟨blk,off+(first+2*r+1),none⟩ (.int .u64 (G (first+r)))) (swp dk (first+r) (first+2*r+1))):=fun q=>by
          rw [HG.out,HG.out]
          exact HSQ.out.swap q _ _ i1 (by omega)
         clear HSQ HG
         go_region
         all_goals go_wp2_with fail
         go_roundw
         case rel=>exact ⟨2*r+1,_,by go_num,by omega,HSW.out _,hide HX.out.symm⟩
         case measure=>simp only [intOf];omega
        | false =>
         rw [hk,if_neg (by decide)] at hx
         have HX:=hide hx
         clear hx hO hsk HG
         go_wp2_with fail
         go_quiet (first | (go_at_call 168;refine Calls.quiet_of_same (Zaf _ _ _)))
         go_wp2_with fail
         have hsq_:Sq w0 blk off m (wr.drewN nq) dk:=HSQ.out.drewN nq
         have hcw_:∀t,t<m→(wr.drewN nq).cell? ⟨blk,off+t,none⟩=some (.int .u64 (G t)):=hcw
         have hfw_:∀t,t<m→(wr.drewN nq).frozen? ⟨blk,off+t,none⟩=false:=hfw
         clear HSQ hcw hfw
         generalize wr.drewN nq=wr2 at hsq_ hcw_ hfw_ ⊢
         clear nq
         have HSQ:=hide hsq_
         have hcw:=hcw_
         have hfw:=hfw_
         clear hsq_ hcw_ hfw_
         go_quiet (first | (go_at_call 168;refine Calls.quiet_of_same (Zaf _ _ _)))
         go_wp2_with fail
         have HEND:Hid (∀q,Sq w0 blk off m (wr2.drewN q) dk):=HSQ.out.drewN
         (try simp only [Exit.inBlock,Exit.then]);refine bodyPost_ret (results_none rfl _ _ _) rfl ?_
         exact⟨rfl,by rw [HX.out];exact HEND.out _⟩
     · have j2:decide ((2*(r:Int)+1+1)<(hi:Int))=false:=decide_eq_false (by omega)
       have hx:=Zhe ltInt (d:=dk) (first:=first) hleaf (.inl h2)
       rw [hO.out,← HG.out,← HG.out] at hx
       cases hk:ltInt (G (first+r)) (G (first+2*r+1)) with
       | true =>
        rw [hk,if_pos rfl] at hx
        have HX:=hide hx
        clear hx hO hsk
        go_wp2_with fail
        go_quiet (first | (go_at_call 168;refine Calls.quiet_of_same (Zaf _ _ _)))
        go_wp2_with fail
        have hsq_:Sq w0 blk off m (wr.drewN nq) dk:=HSQ.out.drewN nq
        have hcw_:∀t,t<m→(wr.drewN nq).cell? ⟨blk,off+t,none⟩=some (.int .u64 (G t)):=hcw
        have hfw_:∀t,t<m→(wr.drewN nq).frozen? ⟨blk,off+t,none⟩=false:=hfw
        clear HSQ hcw hfw
        generalize wr.drewN nq=wr2 at hsq_ hcw_ hfw_ ⊢
        clear nq
        have HSQ:=hide hsq_
        have hcw:=hcw_
        have hfw:=hfw_
        clear hsq_ hcw_ hfw_
        go_quiet (first | (go_at_call 168;refine Calls.quiet_of_same (Zaf _ _ _)))
        go_wp2_with fail
        have HSW:Hid (∀q,Sq w0 blk off m (((wr2.drewN q).setCell ⟨blk,off+(first+r),none⟩ (.int .u64 (G (first+2*r+1)))).setCell ⟨blk,off+(first+2*r+1),none⟩ (.int .u64 (G (first+r)))) (swp dk (first+r) (first+2*r+1))):=fun q=>by
         rw [HG.out,HG.out]
         exact HSQ.out.swap q _ _ i1 (by omega)
        clear HSQ HG
        go_region
        all_goals go_wp2_with fail
        go_roundw
        case rel=>exact ⟨2*r+1,_,by go_num,by omega,HSW.out _,hide HX.out.symm⟩
        case measure=>simp only [intOf];omega
       | false =>
        rw [hk,if_neg (by decide)] at hx
        have HX:=hide hx
        clear hx hO hsk HG
        go_wp2_with fail
        go_quiet (first | (go_at_call 168;refine Calls.quiet_of_same (Zaf _ _ _)))
        go_wp2_with fail
        have hsq_:Sq w0 blk off m (wr.drewN nq) dk:=HSQ.out.drewN nq
        have hcw_:∀t,t<m→(wr.drewN nq).cell? ⟨blk,off+t,none⟩=some (.int .u64 (G t)):=hcw
        have hfw_:∀t,t<m→(wr.drewN nq).frozen? ⟨blk,off+t,none⟩=false:=hfw
        clear HSQ hcw hfw
        generalize wr.drewN nq=wr2 at hsq_ hcw_ hfw_ ⊢
        clear nq
        have HSQ:=hide hsq_
        have hcw:=hcw_
        have hfw:=hfw_
        clear hsq_ hcw_ hfw_
        go_quiet (first | (go_at_call 168;refine Calls.quiet_of_same (Zaf _ _ _)))
        go_wp2_with fail
        have HEND:Hid (∀q,Sq w0 blk off m (wr2.drewN q) dk):=HSQ.out.drewN
        (try simp only [Exit.inBlock,Exit.then]);refine bodyPost_ret (results_none rfl _ _ _) rfl ?_
        exact⟨rfl,by rw [HX.out];exact HEND.out _⟩
theorem ZiY (w0 W:World)(blk off m cap a b:Nat)(d:Array Int)(h:Sq w0 blk off m W d)(hab:a<b)(hb:b≤m)(hm:m<1000000) :
    Calls Tryz.prog 163 #[.slice (some ⟨blk,off,none⟩) m cap,.int .i64 (a:Nat),.int .i64 (b:Nat)] W fun e W'=>e=.returned (.tuple #[])∧Sq w0 blk off m W' (heapSort ltInt d a b):=by
  have HS:=hide h
  clear h
  obtain⟨n,hn⟩:∃n:Nat,b=a+n:=⟨b-a,by omega⟩
  have hn1:1≤n:=by omega
  have hnm:a+n≤m:=by omega
  have HSIFT:Hid (∀(V:World) (dk:Array Int) (lo hi:Nat),Sq w0 blk off m V dk→hi≤n→lo<1000000→_):=fun V dk lo hi hq hh hl=>Zf7 w0 V blk off m cap lo hi a dk hq (by omega) hm hl
  have HRES:Hid (heapSort ltInt d a b=heapPop ltInt a n (heapBuild ltInt n a ((n-1) / 2+1) d)):=by
   show _=_
   unfold heapSort
   rw [hn,show a+n-a=n by omega]
  have q1:((b:Int)-(a:Int))=(n:Int):=by omega
  obtain⟨p,hp⟩:∃p:Nat,p=(n-1) / 2:=⟨_,rfl⟩
  have hpn:p<1000000:=by omega
  have HP:=hide hp
  rw [← hp] at HRES
  clear hn hp
  go_enter Tryz.func163,Tryz.ntmps163
  go_wp2_with fail
  go_loopw [9] (fun vi wr=>∃(k:Nat) (z:Int) (dk:Array Int),vi=.int .i64 z∧Hid (z=(k:Int)-1)∧k≤p+1∧Hid (Sq w0 blk off m wr dk)∧Hid (heapBuild ltInt n a k dk=heapBuild ltInt n a (p+1) d)) (fun vi _=>(intOf vi+1).toNat)
  case atStart=>exact ⟨p+1,_,d,rfl,(show Hid _ from by show _=_;have:=HP.out;omega),Nat.le_refl _,HS,rfl⟩
  case round =>
   obtain⟨k,z,dk,rfl,hz,hk,hsk,hO⟩:=hrel
   cases k with
   | succ k =>
    obtain rfl:z=(k:Int):=by have:=hz.out;omega
    have hcall:=hide (HSIFT.out wr dk k n hsk.out (Nat.le_refl _) (by omega))
    have HO:Hid (heapBuild ltInt n a k (siftDown ltInt n a k dk)=heapBuild ltInt n a (p+1) d):=hO
    clear hz hO hsk
    go_wp2_with fail
    refine hcall.out.mono ?_
    rintro e w2 ⟨rfl,hs2⟩
    have HS2:=hide hs2
    clear hs2 hcall
    go_wp2_with fail
    go_roundw
    case rel=>exact ⟨k,(k:Int)-1,_,rfl,(show Hid _ from rfl),by omega,HS2,HO⟩
    case measure=>simp only [intOf];omega
   | zero =>
    obtain rfl:z = -1:=by have:=hz.out;omega
    have HB:Hid (dk=heapBuild ltInt n a (p+1) d):=hO
    clear hz hO HSIFT HP
    have HSIFT:Hid (∀(V:World) (dk:Array Int) (lo hi:Nat),Sq w0 blk off m V dk→hi≤n→lo<1000000→_):=fun V dk lo hi hq hh hl=>Zf7 w0 V blk off m cap lo hi a dk hq (by omega) hm hl
    rw [← HB.out] at HRES
    have hdk:=hsk.out.size
    go_wp2_with fail
    rename World=>w1
    go_loopw [10] (fun vi wr=>∃(k:Nat) (z:Int) (dj:Array Int),vi=.int .i64 z∧Hid (z=(k:Int)-1)∧k≤n∧Hid (Sq w0 blk off m wr dj)∧Hid (heapPop ltInt a k dj=heapPop ltInt a n dk)) (fun vi _=>(intOf vi+1).toNat)
    case atStart=>exact ⟨n,(n:Int)-1,dk,rfl,(show Hid _ from rfl),Nat.le_refl _,hsk,rfl⟩
    case round =>
     obtain⟨k,z,dj,rfl,hz,hk,hsj,hO⟩:=hrel
     cases k with
     | succ k =>
      obtain rfl:z=(k:Int):=by have:=hz.out;omega
      have HO:Hid (heapPop ltInt a k (siftDown ltInt k a 0 (swp dj a (a+k)))=heapPop ltInt a n dk):=hO
      obtain⟨G,hG⟩:∃G:Nat→Int,∀t,G t=dj[t]!:=⟨fun t=>dj[t]!,fun _=>rfl⟩
      have hcw:∀t,t<m→wr.cell? ⟨blk,off+t,none⟩=some (.int .u64 (G t)):=fun t ht=>by rw [hG];exact hsj.out.cell t ht
      have hfw:∀t,t<m→wr.frozen? ⟨blk,off+t,none⟩=false:=hsj.out.fz
      have HG:Hid (∀t,G t=dj[t]!):=hG
      have HSQ:=hsj
      clear hG
      have i1:a<m:=by omega
      have i2:a+k<m:=by omega
      by_cases hk0:0<k
      · have HSW:=hide ((HSQ.out.swap 0 a (a+k) i1 i2).drew1)
        rw [← HG.out,← HG.out] at HSW
        have hcall:=HSIFT.out _ _ 0 k HSW.out (by omega) (by decide)
        have HC:Hid (Calls Tryz.prog 179 #[.slice (some ⟨blk,off,none⟩) m cap,.int .i64 0,.int .i64 (k:Nat),.int .i64 (a:Nat)] (((wr.setCell ⟨blk,off+a,none⟩ (.int .u64 (G (a+k)))).setCell ⟨blk,off+(a+k),none⟩ (.int .u64 (G a))).drew) fun e W'=>e=.returned (.tuple #[])∧Sq w0 blk off m W' (siftDown ltInt k a 0 (swp dj a (a+k)))):=hcall
        clear hz hO hsj HG HSQ HSW hcall
        go_wp2_with fail
        go_region
        all_goals go_wp2_with fail
        refine HC.out.mono ?_
        rintro e w2 ⟨rfl,hs2⟩
        have HS2:=hide hs2
        clear hs2 HC
        go_wp2_with fail
        go_roundw
        case rel=>exact ⟨k,(k:Int)-1,_,rfl,(show Hid _ from rfl),by omega,HS2,HO⟩
        case measure=>simp only [intOf];omega
      · obtain rfl:k=0:=by omega
        have HSW:=hide ((HSQ.out.swap 0 a a i1 i1).drew1)
        rw [← HG.out] at HSW
        have hcall:=HSIFT.out _ _ 0 0 HSW.out (by omega) (by decide)
        have HC:Hid (Calls Tryz.prog 179 #[.slice (some ⟨blk,off,none⟩) m cap,.int .i64 0,.int .i64 0,.int .i64 (a:Nat)] (((wr.setCell ⟨blk,off+a,none⟩ (.int .u64 (G a))).setCell ⟨blk,off+a,none⟩ (.int .u64 (G a))).drew) fun e W'=>e=.returned (.tuple #[])∧Sq w0 blk off m W' (siftDown ltInt 0 a 0 (swp dj a (a+0)))):=hcall
        clear hz hO hsj HG HSQ HSW hcall
        go_wp2_with fail
        go_region
        all_goals go_wp2_with fail
        refine HC.out.mono ?_
        rintro e w2 ⟨rfl,hs2⟩
        have HS2:=hide hs2
        clear hs2 HC
        go_wp2_with fail
        go_roundw
        case rel=>exact ⟨0,-1,_,rfl,(show Hid _ from rfl),by omega,HS2,HO⟩
        case measure=>simp only [intOf];omega
     | zero =>
      obtain rfl:z = -1:=by have:=hz.out;omega
      have HE:Hid (dj=heapSort ltInt d a b):=by
       show _=_
       rw [HRES.out,← hO.out]
       rfl
      clear hz hO
      go_wp2_with fail
      go_end0
      exact⟨rfl,by rw [← HE.out];exact hsj.out⟩
open Go.RowKit Go.Sort
section
variable {α : Type} [Inhabited α]
theorem ZnK {p : α → Bool} {d : Array α} {j i : Nat} (h : i ≤ j) (hp : p d[i]! = true) : scanUp p d j (i + 1) = scanUp p d j i := by
  conv => rhs; rw [scanUp]
  rw [if_pos (by simp [h, hp])]
theorem ZdO {p : α → Bool} {d : Array α} (h : ¬ i ≤ j ∨ p d[i]! = false) : scanUp p d j i = i := by
 rw [scanUp, if_neg]
 rcases h with h | h <;> simp [h]
theorem Zho {p : α → Bool} {d : Array α} (h0 : 1 ≤ j) (h : i ≤ j) (hp : p d[j]! = true) : scanDown p d i (j - 1) = scanDown p d i j := by
 obtain ⟨k, rfl⟩ : ∃ k, j = k + 1 := ⟨j - 1, by omega⟩
 conv => rhs; rw [scanDown]
 rw [if_pos (by simp [h, hp])]
 rfl
theorem Zb8 {p : α → Bool} {d : Array α} (h : ¬ i ≤ j ∨ p d[j]! = false) : scanDown p d i j = j := by
 cases j with
 | zero => rw [scanDown]
 | succ k =>
  rw [scanDown, if_neg]
  rcases h with h | h <;> simp [h]
theorem scans {p q:α→Bool}(hq:∀x,q x = !p x)(d:Array α)(h0:0<i)(hij:i≤j+1):i≤scanUp p d j i∧scanUp p d j i≤j+1∧scanDown q d (scanUp p d j i) j≤j∧scanUp p d j i≤scanDown q d (scanUp p d j i) j+1∧(scanUp p d j i≤scanDown q d (scanUp p d j i) j→scanUp p d j i<scanDown q d (scanUp p d j i) j):=by
 obtain⟨h1,h2,h3,h4,_,_,h5⟩:=round_facts p q hq d (i-1) (j+1) i j (by omega) hij (fun t a b=>by omega) (fun t a b=>by omega)
 exact⟨h1,h2,h3,h4,fun h=>(h5 (by omega)).2.2⟩
end
theorem Zjs (w0 W:World)(blk off m cap a b pivot:Nat)(d:Array Int)(h:Sq w0 blk off m W d)(hap:a≤pivot)(hpb:pivot<b)(hb:b≤m)(hm:m<1000000) :
    Calls Tryz.prog 170 #[.slice (some ⟨blk,off,none⟩) m cap,.int .i64 (a:Nat),.int .i64 (b:Nat),.int .i64 (pivot:Nat)] W fun e W'=>(∃ap:Bool,e=.returned (.tuple #[.int .i64 ((partition ltInt d a b pivot).1:Nat),.bool ap]))∧Sq w0 blk off m W' (partition ltInt d a b pivot).2.2:=by
  rw [partition_fst,partition_arr]
  obtain⟨d1,hd1⟩:∃d1,d1=swp d a pivot:=⟨_,rfl⟩
  rw [← hd1]
  obtain⟨R,hR⟩:∃R,R=partLoop ltInt a (a+1) (b-1) d1:=⟨_,rfl⟩
  rw [← hR]
  have HD1:=hide hd1
  have HR:=hide hR
  have HS:=hide h
  clear h hd1 hR
  go_enter Tryz.func170,Tryz.ntmps170
  go_upto_region 1 with fail
  go_cut [] from 12 (fun wx=>Hid (Sq w0 blk off m wx d1))
  case first =>
   obtain⟨G,hG⟩:∃G:Nat→Int,∀t,G t=d[t]!:=⟨fun t=>d[t]!,fun _=>rfl⟩
   have hcw:∀t,t<m→W.cell? ⟨blk,off+t,none⟩=some (.int .u64 (G t)):=fun t ht=>by rw [hG];exact HS.out.cell t ht
   have hfw:∀t,t<m→W.frozen? ⟨blk,off+t,none⟩=false:=HS.out.fz
   have HG:Hid (∀t,G t=d[t]!):=hG
   have HSQ:=HS
   clear hG
   have i1:a<m:=by omega
   have i2:pivot<m:=by omega
   by_cases hne:a<pivot
   · have HX:=hide (HSQ.out.swap 0 a pivot i1 i2).drew1
     rw [← HG.out,← HG.out,← HD1.out] at HX
     clear HSQ HS HG
     go_region
     all_goals go_wp2_with fail
     go_meet
     case rel=>exact HX
   · obtain rfl:pivot=a:=by omega
     have HX:=hide (HSQ.out.swap 0 pivot pivot i1 i1).drew1
     rw [← HG.out,← HD1.out] at HX
     clear HSQ HS HG
     go_region
     all_goals go_wp2_with fail
     go_meet
     case rel=>exact HX
  case rest =>
   have hs1:=hcut
   clear hcut HD1 HS
   go_upto_region 2 with fail
   go_cut [10,11] from 12 (fun iv jv wx=>∃i0 j0:Nat,iv=.int .i64 (i0:Nat)∧jv=.int .i64 (j0:Nat)∧Hid (i0=a+1)∧Hid (j0+1=b)∧Hid (Sq w0 blk off m wx d1))
   case first =>
    go_wp2_with fail
    go_meet
    case rel=>exact ⟨a+1,b-1,(by first | rfl | go_num | (congr 1;omega)),(by first | rfl | go_num | (congr 1;omega)),rfl,(show Hid _ from by show _=_;omega),hs1⟩
   case rest =>
    clear hs1
    obtain⟨i0,j0,rfl,rfl,hi0,hj0,hs1⟩:=hcut
    have HR2:Hid (R=partLoop ltInt a i0 j0 d1):=by
     show _=_
     rw [HR.out,hi0.out,show b-1=j0 by have:=hj0.out;omega]
    have k1:a<i0:=by have:=hi0.out;omega
    have k2:i0≤j0+1:=by have:=hi0.out;have:=hj0.out;omega
    have k3:j0<b:=by have:=hj0.out;omega
    have k4:a≤j0:=by omega
    clear HR hi0 hj0
    go_upto_block 0 with fail
    go_cut [10] from 30 (fun iv wx=>∃I:Nat,iv=.int .i64 (I:Nat)∧Hid (I=scanUp (fun x=>ltInt x d1[a]!) d1 j0 i0)∧Hid (Sq w0 blk off m wx d1))
    case first =>
     go_wp2_with fail
     go_loopw [10] (fun vi wr_=>∃iu:Nat,vi=.int .i64 (iu:Nat)∧i0≤iu∧iu≤j0+1∧Hid (Sq w0 blk off m wr_ d1)∧Hid (scanUp (fun x=>ltInt x d1[a]!) d1 j0 iu=scanUp (fun x=>ltInt x d1[a]!) d1 j0 i0)) (fun vi _=>j0+1-(intOf vi).toNat)
     case atStart=>exact ⟨i0,rfl,Nat.le_refl _,by omega,hs1,rfl⟩
     case round =>
      rename World=>wr_
      obtain⟨iu,rfl,hb1,hb2,hsr,hO⟩:=hrel
      by_cases hc:iu≤j0
      · have hcz:(iu:Int)≤(j0:Int):=by omega
        obtain⟨G,hG⟩:∃G:Nat→Int,∀t,G t=d1[t]!:=⟨fun t=>d1[t]!,fun _=>rfl⟩
        have hcw:∀t,t<m→wr_.cell? ⟨blk,off+t,none⟩=some (.int .u64 (G t)):=fun t ht=>by rw [hG];exact hsr.out.cell t ht
        have hfw:∀t,t<m→wr_.frozen? ⟨blk,off+t,none⟩=false:=hsr.out.fz
        have HG:Hid (∀t,G t=d1[t]!):=hG
        have HSQ:=hsr
        clear hG
        have i1:iu<m:=by omega
        have i2:a<m:=by omega
        have HD:Hid (∀q,Sq w0 blk off m (wr_.drewN q) d1):=HSQ.out.drewN
        clear HSQ hsr
        cases hl:ltInt (G iu) (G a) with
        | true =>
         have HG2:Hid (scanUp (fun x=>ltInt x d1[a]!) d1 j0 (iu+1)=scanUp (fun x=>ltInt x d1[a]!) d1 j0 i0):=by show _=_;rw [ZnK hc (by simp only [← HG.out];simp [hl])];exact hO.out
         clear hO HG
         go_wp2_with fail
         go_quiet (first | (go_at_call 168;refine Calls.quiet_of_same (Zaf _ _ _)))
         go_wp2_with fail
         go_roundw
         case rel=>exact ⟨iu+1,by go_num,by omega,by omega,HD.out _,HG2⟩
         case measure=>simp only [intOf];omega
        | false =>
         have HE:Hid (iu=scanUp (fun x=>ltInt x d1[a]!) d1 j0 i0):=by show _=_;rw [← hO.out,ZdO (.inr (by simp only [← HG.out];simp [hl]))]
         clear hO HG
         go_wp2_with fail
         go_quiet (first | (go_at_call 168;refine Calls.quiet_of_same (Zaf _ _ _)))
         go_wp2_with fail
         go_meet
         case rel=>exact ⟨iu,rfl,HE,HD.out _⟩
      · have hcz:decide ((iu:Int)≤(j0:Int))=false:=decide_eq_false (by omega)
        have HE:Hid (iu=scanUp (fun x=>ltInt x d1[a]!) d1 j0 i0):=by show _=_;rw [← hO.out,ZdO (.inl hc)]
        have HD:Hid (∀q,Sq w0 blk off m (wr_.drewN q) d1):=hsr.out.drewN
        clear hO hsr
        go_wp2_with fail
        go_quiet (first | (go_at_call 168;refine Calls.quiet_of_same (Zaf _ _ _)))
        go_wp2_with fail
        go_meet
        case rel=>exact ⟨iu,rfl,HE,HD.out _⟩
    case rest =>
     clear hs1
     obtain⟨I,rfl,HI,hs1⟩:=hcut
     have hsc:=scans (p:=fun x=>ltInt x d1[a]!) (q:=fun x=>!ltInt x d1[a]!) (fun x=>rfl) d1 (i:=i0) (j:=j0) (by omega) k2
     have heq:=partLoop_eq ltInt a i0 j0 d1
     rw [← HI.out] at hsc heq
     have HSC:=hide hsc
     have HEQ:=hide heq
     have k5:=hsc.1
     have k6:=hsc.2.1
     clear hsc heq
     go_upto_block 2 with fail
     go_cut [11] from 44 (fun jv wx=>∃J:Nat,jv=.int .i64 (J:Nat)∧Hid (J=scanDown (fun x=>!ltInt x d1[a]!) d1 I j0)∧Hid (Sq w0 blk off m wx d1))
     case first =>
      go_wp2_with fail
      go_loopw [11] (fun vi wr_=>∃jd:Nat,vi=.int .i64 (jd:Nat)∧I≤jd+1∧jd≤j0∧Hid (Sq w0 blk off m wr_ d1)∧Hid (scanDown (fun x=>!ltInt x d1[a]!) d1 I jd=scanDown (fun x=>!ltInt x d1[a]!) d1 I j0)) (fun vi _=>(intOf vi).toNat)
      case atStart=>exact ⟨j0,rfl,by omega,Nat.le_refl _,hs1,rfl⟩
      case round =>
       rename World=>wr_
       obtain⟨jd,rfl,hb1,hb2,hsr,hO⟩:=hrel
       by_cases hc:I≤jd
       · have hcz:(I:Int)≤(jd:Int):=by omega
         obtain⟨G,hG⟩:∃G:Nat→Int,∀t,G t=d1[t]!:=⟨fun t=>d1[t]!,fun _=>rfl⟩
         have hcw:∀t,t<m→wr_.cell? ⟨blk,off+t,none⟩=some (.int .u64 (G t)):=fun t ht=>by rw [hG];exact hsr.out.cell t ht
         have hfw:∀t,t<m→wr_.frozen? ⟨blk,off+t,none⟩=false:=hsr.out.fz
         have HG:Hid (∀t,G t=d1[t]!):=hG
         have HSQ:=hsr
         clear hG
         have i1:jd<m:=by omega
         have i2:a<m:=by omega
         have HD:Hid (∀q,Sq w0 blk off m (wr_.drewN q) d1):=HSQ.out.drewN
         clear HSQ hsr
         cases hl:ltInt (G jd) (G a) with
         | false =>
          have HG2:Hid (scanDown (fun x=>!ltInt x d1[a]!) d1 I (jd-1)=scanDown (fun x=>!ltInt x d1[a]!) d1 I j0):=by show _=_;rw [Zho (by omega) hc (by simp only [← HG.out];simp [hl])];exact hO.out
          clear hO HG
          go_wp2_with fail
          go_quiet (first | (go_at_call 168;refine Calls.quiet_of_same (Zaf _ _ _)))
          go_wp2_with fail
          go_roundw
          case rel=>exact ⟨jd-1,by congr 1;omega,by omega,by omega,HD.out _,HG2⟩
          case measure=>simp only [intOf];omega
         | true =>
          have HE:Hid (jd=scanDown (fun x=>!ltInt x d1[a]!) d1 I j0):=by show _=_;rw [← hO.out,Zb8 (.inr (by simp only [← HG.out];simp [hl]))]
          clear hO HG
          go_wp2_with fail
          go_quiet (first | (go_at_call 168;refine Calls.quiet_of_same (Zaf _ _ _)))
          go_wp2_with fail
          go_meet
          case rel=>exact ⟨jd,rfl,HE,HD.out _⟩
       · have hcz:decide ((I:Int)≤(jd:Int))=false:=decide_eq_false (by omega)
         have HE:Hid (jd=scanDown (fun x=>!ltInt x d1[a]!) d1 I j0):=by show _=_;rw [← hO.out,Zb8 (.inl hc)]
         have HD:Hid (∀q,Sq w0 blk off m (wr_.drewN q) d1):=hsr.out.drewN
         clear hO hsr
         go_wp2_with fail
         go_quiet (first | (go_at_call 168;refine Calls.quiet_of_same (Zaf _ _ _)))
         go_wp2_with fail
         go_meet
         case rel=>exact ⟨jd,rfl,HE,HD.out _⟩
     case rest =>
      clear hs1
      obtain⟨J,rfl,HJ,hs1⟩:=hcut
      rw [← HJ.out] at HSC HEQ
      have k7:=HSC.out.2.2.1
      have k8:=HSC.out.2.2.2.1
      have k9:=HSC.out.2.2.2.2
      clear HSC
      by_cases hgt:J<I
      · have HV:Hid (R=(J,d1)):=by
         show _=_
         rw [HR2.out,HEQ.out,if_pos hgt]
        have hgz:(J:Int)<(I:Int):=by omega
        have k10:a≤J:=by omega
        clear HEQ HR2 k9
        go_upto_region 8 with fail
        go_cut [] from 66 (fun wx=>Hid (Sq w0 blk off m wx (swp d1 J a)))
        case first =>
         rename World=>wz
         obtain⟨G,hG⟩:∃G:Nat→Int,∀t,G t=d1[t]!:=⟨fun t=>d1[t]!,fun _=>rfl⟩
         have hcw:∀t,t<m→wz.cell? ⟨blk,off+t,none⟩=some (.int .u64 (G t)):=fun t ht=>by rw [hG];exact hs1.out.cell t ht
         have hfw:∀t,t<m→wz.frozen? ⟨blk,off+t,none⟩=false:=hs1.out.fz
         have HG:Hid (∀t,G t=d1[t]!):=hG
         have HSQ:=hs1
         clear hG
         have i1:J<m:=by omega
         have i2:a<m:=by omega
         by_cases hne:a<J
         · have HX:=hide (HSQ.out.swap 0 J a i1 i2).drew1
           rw [← HG.out,← HG.out] at HX
           clear HSQ hs1 HG
           go_region
           all_goals go_wp2_with fail
           go_meet
           case rel=>exact HX
         · obtain rfl:J=a:=by omega
           have HX:=hide (HSQ.out.swap 0 J J i1 i1).drew1
           rw [← HG.out] at HX
           clear HSQ hs1 HG
           go_region
           all_goals go_wp2_with fail
           go_meet
           case rel=>exact HX
        case rest =>
         have hs2:=hcut
         clear hs1
         go_wp2_with fail
         go_ret2
         rw [HV.out]
         exact⟨⟨true,rfl⟩,hs2.out⟩
      · have hgz:¬(J:Int)<(I:Int):=by omega
        have HV:Hid (partLoop ltInt a (I+1) (J-1) (swp d1 I J)=R):=by
         show _=_
         rw [HR2.out,HEQ.out,if_neg hgt]
        have k10:=k9 (by omega)
        obtain⟨G,hG⟩:∃G:Nat→Int,∀t,G t=d1[t]!:=⟨fun t=>d1[t]!,fun _=>rfl⟩
        have hcw:∀t,t<m→wc.cell? ⟨blk,off+t,none⟩=some (.int .u64 (G t)):=fun t ht=>by rw [hG];exact hs1.out.cell t ht
        have hfw:∀t,t<m→wc.frozen? ⟨blk,off+t,none⟩=false:=hs1.out.fz
        have HG:Hid (∀t,G t=d1[t]!):=hG
        have HSQ:=hs1
        clear hG
        have i1:I<m:=by omega
        have i2:J<m:=by omega
        have HX:=hide (HSQ.out.swap 0 I J i1 i2).drew1
        rw [← HG.out,← HG.out] at HX
        clear HSQ hs1 HG HEQ HR2 k9
        go_upto_region 10 with fail
        go_region
        all_goals go_wp2_with fail
        go_loopw [10,11] (fun vi vj wr=>∃(i j:Nat) (dk:Array Int),vi=.int .i64 (i:Nat)∧vj=.int .i64 (j:Nat)∧a<i∧i≤j+1∧j<b∧Hid (Sq w0 blk off m wr dk)∧Hid (partLoop ltInt a i j dk=R)) (fun vi vj _=>(intOf vj).toNat+1-(intOf vi).toNat)
        case atStart=>exact ⟨I+1,J-1,_,by go_num,by congr 1;omega,by omega,by omega,by omega,HX,HV⟩
        case round =>
         clear HX HV hcw hfw
         obtain⟨i,j,dk,rfl,rfl,m1,m2,m3,hs3,hO⟩:=hrel
         have m4:a≤j:=by omega
         go_upto_block 6 with fail
         go_cut [10] from 99 to 152 (fun iv wx=>∃I:Nat,iv=.int .i64 (I:Nat)∧Hid (I=scanUp (fun x=>ltInt x dk[a]!) dk j i)∧Hid (Sq w0 blk off m wx dk))
         case first =>
          go_wp2_with fail
          go_loopw [10] (fun vi wr_=>∃iu:Nat,vi=.int .i64 (iu:Nat)∧i≤iu∧iu≤j+1∧Hid (Sq w0 blk off m wr_ dk)∧Hid (scanUp (fun x=>ltInt x dk[a]!) dk j iu=scanUp (fun x=>ltInt x dk[a]!) dk j i)) (fun vi _=>j+1-(intOf vi).toNat)
          case atStart=>exact ⟨i,rfl,Nat.le_refl _,by omega,hs3,rfl⟩
          case round =>
           rename World=>wr_
           obtain⟨iu,rfl,hb1,hb2,hsr,hO⟩:=hrel
           by_cases hc:iu≤j
           · have hcz:(iu:Int)≤(j:Int):=by omega
             obtain⟨G,hG⟩:∃G:Nat→Int,∀t,G t=dk[t]!:=⟨fun t=>dk[t]!,fun _=>rfl⟩
             have hcw:∀t,t<m→wr_.cell? ⟨blk,off+t,none⟩=some (.int .u64 (G t)):=fun t ht=>by rw [hG];exact hsr.out.cell t ht
             have hfw:∀t,t<m→wr_.frozen? ⟨blk,off+t,none⟩=false:=hsr.out.fz
             have HG:Hid (∀t,G t=dk[t]!):=hG
             have HSQ:=hsr
             clear hG
             have i1:iu<m:=by omega
             have i2:a<m:=by omega
             have HD:Hid (∀q,Sq w0 blk off m (wr_.drewN q) dk):=HSQ.out.drewN
             clear HSQ hsr
             cases hl:ltInt (G iu) (G a) with
             | true =>
              have HG2:Hid (scanUp (fun x=>ltInt x dk[a]!) dk j (iu+1)=scanUp (fun x=>ltInt x dk[a]!) dk j i):=by show _=_;rw [ZnK hc (by simp only [← HG.out];simp [hl])];exact hO.out
              clear hO HG
              go_wp2_with fail
              go_quiet (first | (go_at_call 168;refine Calls.quiet_of_same (Zaf _ _ _)))
              go_wp2_with fail
              go_roundw
              case rel=>exact ⟨iu+1,by go_num,by omega,by omega,HD.out _,HG2⟩
              case measure=>simp only [intOf];omega
             | false =>
              have HE:Hid (iu=scanUp (fun x=>ltInt x dk[a]!) dk j i):=by show _=_;rw [← hO.out,ZdO (.inr (by simp only [← HG.out];simp [hl]))]
              clear hO HG
              go_wp2_with fail
              go_quiet (first | (go_at_call 168;refine Calls.quiet_of_same (Zaf _ _ _)))
              go_wp2_with fail
              go_meet
              case rel=>exact ⟨iu,rfl,HE,HD.out _⟩
           · have hcz:decide ((iu:Int)≤(j:Int))=false:=decide_eq_false (by omega)
             have HE:Hid (iu=scanUp (fun x=>ltInt x dk[a]!) dk j i):=by show _=_;rw [← hO.out,ZdO (.inl hc)]
             have HD:Hid (∀q,Sq w0 blk off m (wr_.drewN q) dk):=hsr.out.drewN
             clear hO hsr
             go_wp2_with fail
             go_quiet (first | (go_at_call 168;refine Calls.quiet_of_same (Zaf _ _ _)))
             go_wp2_with fail
             go_meet
             case rel=>exact ⟨iu,rfl,HE,HD.out _⟩
         case rest =>
          clear hs3
          obtain⟨I2,rfl,HI2,hs3⟩:=hcut
          have hsc:=scans (p:=fun x=>ltInt x dk[a]!) (q:=fun x=>!ltInt x dk[a]!) (fun x=>rfl) dk (i:=i) (j:=j) (by omega) m2
          have heq:=partLoop_eq ltInt a i j dk
          rw [hO.out,← HI2.out] at heq
          rw [← HI2.out] at hsc
          have HSC:=hide hsc
          have HEQ:=hide heq
          have m5:=hsc.1
          have m6:=hsc.2.1
          clear hsc heq hO
          go_upto_block 8 with fail
          go_cut [11] from 99 to 152 (fun jv wx=>∃J:Nat,jv=.int .i64 (J:Nat)∧Hid (J=scanDown (fun x=>!ltInt x dk[a]!) dk I2 j)∧Hid (Sq w0 blk off m wx dk))
          case first =>
           go_wp2_with fail
           go_loopw [11] (fun vi wr_=>∃jd:Nat,vi=.int .i64 (jd:Nat)∧I2≤jd+1∧jd≤j∧Hid (Sq w0 blk off m wr_ dk)∧Hid (scanDown (fun x=>!ltInt x dk[a]!) dk I2 jd=scanDown (fun x=>!ltInt x dk[a]!) dk I2 j)) (fun vi _=>(intOf vi).toNat)
           case atStart=>exact ⟨j,rfl,by omega,Nat.le_refl _,hs3,rfl⟩
           case round =>
            rename World=>wr_
            obtain⟨jd,rfl,hb1,hb2,hsr,hO⟩:=hrel
            by_cases hc:I2≤jd
            · have hcz:(I2:Int)≤(jd:Int):=by omega
              obtain⟨G,hG⟩:∃G:Nat→Int,∀t,G t=dk[t]!:=⟨fun t=>dk[t]!,fun _=>rfl⟩
              have hcw:∀t,t<m→wr_.cell? ⟨blk,off+t,none⟩=some (.int .u64 (G t)):=fun t ht=>by rw [hG];exact hsr.out.cell t ht
              have hfw:∀t,t<m→wr_.frozen? ⟨blk,off+t,none⟩=false:=hsr.out.fz
              have HG:Hid (∀t,G t=dk[t]!):=hG
              have HSQ:=hsr
              clear hG
              have i1:jd<m:=by omega
              have i2:a<m:=by omega
              have HD:Hid (∀q,Sq w0 blk off m (wr_.drewN q) dk):=HSQ.out.drewN
              clear HSQ hsr
              cases hl:ltInt (G jd) (G a) with
              | false =>
               have HG2:Hid (scanDown (fun x=>!ltInt x dk[a]!) dk I2 (jd-1)=scanDown (fun x=>!ltInt x dk[a]!) dk I2 j):=by show _=_;rw [Zho (by omega) hc (by simp only [← HG.out];simp [hl])];exact hO.out
               clear hO HG
               go_wp2_with fail
               go_quiet (first | (go_at_call 168;refine Calls.quiet_of_same (Zaf _ _ _)))
               go_wp2_with fail
               go_roundw
               case rel=>exact ⟨jd-1,by congr 1;omega,by omega,by omega,HD.out _,HG2⟩
               case measure=>simp only [intOf];omega
              | true =>
               have HE:Hid (jd=scanDown (fun x=>!ltInt x dk[a]!) dk I2 j):=by show _=_;rw [← hO.out,Zb8 (.inr (by simp only [← HG.out];simp [hl]))]
               clear hO HG
               go_wp2_with fail
               go_quiet (first | (go_at_call 168;refine Calls.quiet_of_same (Zaf _ _ _)))
               go_wp2_with fail
               go_meet
               case rel=>exact ⟨jd,rfl,HE,HD.out _⟩
            · have hcz:decide ((I2:Int)≤(jd:Int))=false:=decide_eq_false (by omega)
              have HE:Hid (jd=scanDown (fun x=>!ltInt x dk[a]!) dk I2 j):=by show _=_;rw [← hO.out,Zb8 (.inl hc)]
              have HD:Hid (∀q,Sq w0 blk off m (wr_.drewN q) dk):=hsr.out.drewN
              clear hO hsr
              go_wp2_with fail
              go_quiet (first | (go_at_call 168;refine Calls.quiet_of_same (Zaf _ _ _)))
              go_wp2_with fail
              go_meet
              case rel=>exact ⟨jd,rfl,HE,HD.out _⟩
          case rest =>
           clear hs3
           obtain⟨J2,rfl,HJ2,hs3⟩:=hcut
           rw [← HJ2.out] at HSC HEQ
           have m7:=HSC.out.2.2.1
           have m8:=HSC.out.2.2.2.1
           have m9:=HSC.out.2.2.2.2
           clear HSC
           by_cases hgt2:J2<I2
           · have HV:Hid (R=(J2,dk)):=by
              show _=_
              rw [HEQ.out,if_pos hgt2]
             have hgz2:(J2:Int)<(I2:Int):=by omega
             have k10:a≤J2:=by omega
             clear HEQ m9
             go_upto_region 21 with fail
             go_upto_region 21 with fail
             go_cut [] from 153 (fun wx=>Hid (Sq w0 blk off m wx (swp dk J2 a)))
             case first =>
              rename World=>wz
              obtain⟨G,hG⟩:∃G:Nat→Int,∀t,G t=dk[t]!:=⟨fun t=>dk[t]!,fun _=>rfl⟩
              have hcw:∀t,t<m→wz.cell? ⟨blk,off+t,none⟩=some (.int .u64 (G t)):=fun t ht=>by rw [hG];exact hs3.out.cell t ht
              have hfw:∀t,t<m→wz.frozen? ⟨blk,off+t,none⟩=false:=hs3.out.fz
              have HG:Hid (∀t,G t=dk[t]!):=hG
              have HSQ:=hs3
              clear hG
              have i1:J2<m:=by omega
              have i2:a<m:=by omega
              by_cases hne:a<J2
              · have HX:=hide (HSQ.out.swap 0 J2 a i1 i2).drew1
                rw [← HG.out,← HG.out] at HX
                clear HSQ hs3 HG
                go_region
                all_goals go_wp2_with fail
                go_meet
                case rel=>exact HX
              · obtain rfl:J2=a:=by omega
                have HX:=hide (HSQ.out.swap 0 J2 J2 i1 i1).drew1
                rw [← HG.out] at HX
                clear HSQ hs3 HG
                go_region
                all_goals go_wp2_with fail
                go_meet
                case rel=>exact HX
             case rest =>
              have hs4:=hcut
              clear hs3
              go_wp2_with fail
              go_ret2
              rw [HV.out]
              exact⟨⟨false,rfl⟩,hs4.out⟩
           · have hgz2:¬(J2:Int)<(I2:Int):=by omega
             have HV:Hid (partLoop ltInt a (I2+1) (J2-1) (swp dk I2 J2)=R):=by
              show _=_
              rw [HEQ.out,if_neg hgt2]
             have m10:=m9 (by omega)
             obtain⟨G,hG⟩:∃G:Nat→Int,∀t,G t=dk[t]!:=⟨fun t=>dk[t]!,fun _=>rfl⟩
             have hcw:∀t,t<m→wc.cell? ⟨blk,off+t,none⟩=some (.int .u64 (G t)):=fun t ht=>by rw [hG];exact hs3.out.cell t ht
             have hfw:∀t,t<m→wc.frozen? ⟨blk,off+t,none⟩=false:=hs3.out.fz
             have HG:Hid (∀t,G t=dk[t]!):=hG
             have HSQ:=hs3
             clear hG
             have i1:I2<m:=by omega
             have i2:J2<m:=by omega
             have HX:=hide (HSQ.out.swap 0 I2 J2 i1 i2).drew1
             rw [← HG.out,← HG.out] at HX
             clear HSQ hs3 HG HEQ m9
             go_upto_region 18 with fail
             go_region
             all_goals go_wp2_with fail
             go_roundw
             case rel=>exact ⟨I2+1,J2-1,_,by go_num,by congr 1;omega,by omega,by omega,by omega,HX,HV⟩
             case measure=>simp only [intOf];omega
theorem ZgX (w0 W:World)(blk off m cap a b pivot:Nat)(d:Array Int)(h:Sq w0 blk off m W d)(hap:a≤pivot)(hpb:pivot<b)(hb:b≤m)(hm:m<1000000) :
    Calls Tryz.prog 169 #[.slice (some ⟨blk,off,none⟩) m cap,.int .i64 (a:Nat),.int .i64 (b:Nat),.int .i64 (pivot:Nat)] W fun e W'=>e=.returned (.int .i64 ((partitionEqual ltInt d a b pivot).1:Nat))∧Sq w0 blk off m W' (partitionEqual ltInt d a b pivot).2:=by
  unfold partitionEqual
  obtain⟨d1,hd1⟩:∃d1,d1=swp d a pivot:=⟨_,rfl⟩
  rw [← hd1]
  obtain⟨R,hR⟩:∃R,R=partEqLoop ltInt a (a+1) (b-1) d1:=⟨_,rfl⟩
  rw [← hR]
  have HD1:=hide hd1
  have HR:=hide hR
  have HS:=hide h
  clear h hd1 hR
  go_enter Tryz.func169,Tryz.ntmps169
  go_upto_region 1 with fail
  go_cut [] from 11 (fun wx=>Hid (Sq w0 blk off m wx d1))
  case first =>
   obtain⟨G,hG⟩:∃G:Nat→Int,∀t,G t=d[t]!:=⟨fun t=>d[t]!,fun _=>rfl⟩
   have hcw:∀t,t<m→W.cell? ⟨blk,off+t,none⟩=some (.int .u64 (G t)):=fun t ht=>by rw [hG];exact HS.out.cell t ht
   have hfw:∀t,t<m→W.frozen? ⟨blk,off+t,none⟩=false:=HS.out.fz
   have HG:Hid (∀t,G t=d[t]!):=hG
   have HSQ:=HS
   clear hG
   have i1:a<m:=by omega
   have i2:pivot<m:=by omega
   by_cases hne:a<pivot
   · have HX:=hide (HSQ.out.swap 0 a pivot i1 i2).drew1
     rw [← HG.out,← HG.out,← HD1.out] at HX
     clear HSQ HS HG
     go_region
     all_goals go_wp2_with fail
     go_meet
     case rel=>exact HX
   · obtain rfl:pivot=a:=by omega
     have HX:=hide (HSQ.out.swap 0 pivot pivot i1 i1).drew1
     rw [← HG.out,← HD1.out] at HX
     clear HSQ HS HG
     go_region
     all_goals go_wp2_with fail
     go_meet
     case rel=>exact HX
  case rest =>
   have hs1:=hcut
   clear hcut HD1 HS
   go_wp2_with fail
   go_loopw [9,10] (fun vi vj wr=>∃(i j:Nat) (dk:Array Int),vi=.int .i64 (i:Nat)∧vj=.int .i64 (j:Nat)∧a<i∧i≤j+1∧j<b∧Hid (Sq w0 blk off m wr dk)∧Hid (partEqLoop ltInt a i j dk=R)) (fun vi vj _=>(intOf vj).toNat+1-(intOf vi).toNat)
   case atStart=>exact ⟨a+1,b-1,d1,by go_num,by congr 1;omega,by omega,by omega,by omega,hs1,hide HR.out.symm⟩
   case round =>
    clear hs1 HR
    obtain⟨i,j,dk,rfl,rfl,m1,m2,m3,hs3,hO⟩:=hrel
    have m4:a≤j:=by omega
    go_upto_block 2 with fail
    go_cut [9] from 29 to 82 (fun iv wx=>∃I:Nat,iv=.int .i64 (I:Nat)∧Hid (I=scanUp (fun x=>!ltInt dk[a]! x) dk j i)∧Hid (Sq w0 blk off m wx dk))
    case first =>
     go_wp2_with fail
     go_loopw [9] (fun vi wr_=>∃iu:Nat,vi=.int .i64 (iu:Nat)∧i≤iu∧iu≤j+1∧Hid (Sq w0 blk off m wr_ dk)∧Hid (scanUp (fun x=>!ltInt dk[a]! x) dk j iu=scanUp (fun x=>!ltInt dk[a]! x) dk j i)) (fun vi _=>j+1-(intOf vi).toNat)
     case atStart=>exact ⟨i,rfl,Nat.le_refl _,by omega,hs3,rfl⟩
     case round =>
      rename World=>wr_
      obtain⟨iu,rfl,hb1,hb2,hsr,hO⟩:=hrel
      by_cases hc:iu≤j
      · have hcz:(iu:Int)≤(j:Int):=by omega
        obtain⟨G,hG⟩:∃G:Nat→Int,∀t,G t=dk[t]!:=⟨fun t=>dk[t]!,fun _=>rfl⟩
        have hcw:∀t,t<m→wr_.cell? ⟨blk,off+t,none⟩=some (.int .u64 (G t)):=fun t ht=>by rw [hG];exact hsr.out.cell t ht
        have hfw:∀t,t<m→wr_.frozen? ⟨blk,off+t,none⟩=false:=hsr.out.fz
        have HG:Hid (∀t,G t=dk[t]!):=hG
        have HSQ:=hsr
        clear hG
        have i1:iu<m:=by omega
        have i2:a<m:=by omega
        have HD:Hid (∀q,Sq w0 blk off m (wr_.drewN q) dk):=HSQ.out.drewN
        clear HSQ hsr
        cases hl:ltInt (G a) (G iu) with
        | false =>
         have HG2:Hid (scanUp (fun x=>!ltInt dk[a]! x) dk j (iu+1)=scanUp (fun x=>!ltInt dk[a]! x) dk j i):=by show _=_;rw [ZnK hc (by simp only [← HG.out];simp [hl])];exact hO.out
         clear hO HG
         go_wp2_with fail
         go_quiet (first | (go_at_call 168;refine Calls.quiet_of_same (Zaf _ _ _)))
         go_wp2_with fail
         go_roundw
         case rel=>exact ⟨iu+1,by go_num,by omega,by omega,HD.out _,HG2⟩
         case measure=>simp only [intOf];omega
        | true =>
         have HE:Hid (iu=scanUp (fun x=>!ltInt dk[a]! x) dk j i):=by show _=_;rw [← hO.out,ZdO (.inr (by simp only [← HG.out];simp [hl]))]
         clear hO HG
         go_wp2_with fail
         go_quiet (first | (go_at_call 168;refine Calls.quiet_of_same (Zaf _ _ _)))
         go_wp2_with fail
         go_meet
         case rel=>exact ⟨iu,rfl,HE,HD.out _⟩
      · have hcz:decide ((iu:Int)≤(j:Int))=false:=decide_eq_false (by omega)
        have HE:Hid (iu=scanUp (fun x=>!ltInt dk[a]! x) dk j i):=by show _=_;rw [← hO.out,ZdO (.inl hc)]
        have HD:Hid (∀q,Sq w0 blk off m (wr_.drewN q) dk):=hsr.out.drewN
        clear hO hsr
        go_wp2_with fail
        go_quiet (first | (go_at_call 168;refine Calls.quiet_of_same (Zaf _ _ _)))
        go_wp2_with fail
        go_meet
        case rel=>exact ⟨iu,rfl,HE,HD.out _⟩
    case rest =>
     clear hs3
     obtain⟨I2,rfl,HI2,hs3⟩:=hcut
     have hsc:=scans (p:=fun x=>!ltInt dk[a]! x) (q:=fun x=>ltInt dk[a]! x) (fun x=>by simp) dk (i:=i) (j:=j) (by omega) m2
     have heq:=partEqLoop_eq ltInt a i j dk
     rw [hO.out,← HI2.out] at heq
     rw [← HI2.out] at hsc
     have HSC:=hide hsc
     have HEQ:=hide heq
     have m5:=hsc.1
     have m6:=hsc.2.1
     clear hsc heq hO
     go_upto_block 4 with fail
     go_cut [10] from 29 to 82 (fun jv wx=>∃J:Nat,jv=.int .i64 (J:Nat)∧Hid (J=scanDown (fun x=>ltInt dk[a]! x) dk I2 j)∧Hid (Sq w0 blk off m wx dk))
     case first =>
      go_wp2_with fail
      go_loopw [10] (fun vi wr_=>∃jd:Nat,vi=.int .i64 (jd:Nat)∧I2≤jd+1∧jd≤j∧Hid (Sq w0 blk off m wr_ dk)∧Hid (scanDown (fun x=>ltInt dk[a]! x) dk I2 jd=scanDown (fun x=>ltInt dk[a]! x) dk I2 j)) (fun vi _=>(intOf vi).toNat)
      case atStart=>exact ⟨j,rfl,by omega,Nat.le_refl _,hs3,rfl⟩
      case round =>
       rename World=>wr_
       obtain⟨jd,rfl,hb1,hb2,hsr,hO⟩:=hrel
       by_cases hc:I2≤jd
       · have hcz:(I2:Int)≤(jd:Int):=by omega
         obtain⟨G,hG⟩:∃G:Nat→Int,∀t,G t=dk[t]!:=⟨fun t=>dk[t]!,fun _=>rfl⟩
         have hcw:∀t,t<m→wr_.cell? ⟨blk,off+t,none⟩=some (.int .u64 (G t)):=fun t ht=>by rw [hG];exact hsr.out.cell t ht
         have hfw:∀t,t<m→wr_.frozen? ⟨blk,off+t,none⟩=false:=hsr.out.fz
         have HG:Hid (∀t,G t=dk[t]!):=hG
         have HSQ:=hsr
         clear hG
         have i1:jd<m:=by omega
         have i2:a<m:=by omega
         have HD:Hid (∀q,Sq w0 blk off m (wr_.drewN q) dk):=HSQ.out.drewN
         clear HSQ hsr
         cases hl:ltInt (G a) (G jd) with
         | true =>
          have HG2:Hid (scanDown (fun x=>ltInt dk[a]! x) dk I2 (jd-1)=scanDown (fun x=>ltInt dk[a]! x) dk I2 j):=by show _=_;rw [Zho (by omega) hc (by simp only [← HG.out];simp [hl])];exact hO.out
          clear hO HG
          go_wp2_with fail
          go_quiet (first | (go_at_call 168;refine Calls.quiet_of_same (Zaf _ _ _)))
          go_wp2_with fail
          go_roundw
          case rel=>exact ⟨jd-1,by congr 1;omega,by omega,by omega,HD.out _,HG2⟩
          case measure=>simp only [intOf];omega
         | false =>
          have HE:Hid (jd=scanDown (fun x=>ltInt dk[a]! x) dk I2 j):=by show _=_;rw [← hO.out,Zb8 (.inr (by simp only [← HG.out];simp [hl]))]
          clear hO HG
          go_wp2_with fail
          go_quiet (first | (go_at_call 168;refine Calls.quiet_of_same (Zaf _ _ _)))
          go_wp2_with fail
          go_meet
          case rel=>exact ⟨jd,rfl,HE,HD.out _⟩
       · have hcz:decide ((I2:Int)≤(jd:Int))=false:=decide_eq_false (by omega)
         have HE:Hid (jd=scanDown (fun x=>ltInt dk[a]! x) dk I2 j):=by show _=_;rw [← hO.out,Zb8 (.inl hc)]
         have HD:Hid (∀q,Sq w0 blk off m (wr_.drewN q) dk):=hsr.out.drewN
         clear hO hsr
         go_wp2_with fail
         go_quiet (first | (go_at_call 168;refine Calls.quiet_of_same (Zaf _ _ _)))
         go_wp2_with fail
         go_meet
         case rel=>exact ⟨jd,rfl,HE,HD.out _⟩
     case rest =>
      clear hs3
      obtain⟨J2,rfl,HJ2,hs3⟩:=hcut
      rw [← HJ2.out] at HSC HEQ
      have m7:=HSC.out.2.2.1
      have m8:=HSC.out.2.2.2.1
      have m9:=HSC.out.2.2.2.2
      clear HSC
      by_cases hgt2:J2<I2
      · have HV:Hid (R=(I2,dk)):=by
         show _=_
         rw [HEQ.out,if_pos hgt2]
        have hgz2:(J2:Int)<(I2:Int):=by omega
        clear HEQ m9
        go_wp2_with fail
        go_ret
        rw [HV.out]
        exact⟨rfl,hs3.out⟩
      · have hgz2:¬(J2:Int)<(I2:Int):=by omega
        have HV:Hid (partEqLoop ltInt a (I2+1) (J2-1) (swp dk I2 J2)=R):=by
         show _=_
         rw [HEQ.out,if_neg hgt2]
        have m10:=m9 (by omega)
        obtain⟨G,hG⟩:∃G:Nat→Int,∀t,G t=dk[t]!:=⟨fun t=>dk[t]!,fun _=>rfl⟩
        have hcw:∀t,t<m→wc.cell? ⟨blk,off+t,none⟩=some (.int .u64 (G t)):=fun t ht=>by rw [hG];exact hs3.out.cell t ht
        have hfw:∀t,t<m→wc.frozen? ⟨blk,off+t,none⟩=false:=hs3.out.fz
        have HG:Hid (∀t,G t=dk[t]!):=hG
        have HSQ:=hs3
        clear hG
        have i1:I2<m:=by omega
        have i2:J2<m:=by omega
        have HX:=hide (HSQ.out.swap 0 I2 J2 i1 i2).drew1
        rw [← HG.out,← HG.out] at HX
        clear HSQ hs3 HG HEQ m9
        go_upto_region 8 with fail
        go_region
        all_goals go_wp2_with fail
        go_roundw
        case rel=>exact ⟨I2+1,J2-1,_,by go_num,by congr 1;omega,by omega,by omega,by omega,HX,HV⟩
        case measure=>simp only [intOf];omega
theorem Zlb (w0 W:World)(blk off m cap a b:Nat)(d:Array Int)(h:Sq w0 blk off m W d)(hab:a<b)(hb:b≤m)(hm:m<1000000) :
    Calls Tryz.prog 166 #[.slice (some ⟨blk,off,none⟩) m cap,.int .i64 (a:Nat),.int .i64 (b:Nat)] W fun e W'=>e=.returned (.tuple #[])∧Sq w0 blk off m W' (reverseRange d a b):=by
  have HS:=hide h
  clear h
  unfold reverseRange
  go_enter Tryz.func166,Tryz.ntmps166
  go_wp2_with fail
  go_loopw [6,7] (fun vi vj wr=>∃(i j:Nat) (dk:Array Int),vi=.int .i64 (i:Nat)∧vj=.int .i64 (j:Nat)∧j<b∧Hid (Sq w0 blk off m wr dk)∧Hid (reverseLoop i j dk=reverseLoop a (b-1) d)) (fun vi vj _=>(intOf vj).toNat-(intOf vi).toNat)
  case atStart=>exact ⟨a,b-1,d,rfl,by congr 1;omega,by omega,HS,rfl⟩
  case round =>
   obtain⟨i,j,dk,rfl,rfl,m1,hs3,hO⟩:=hrel
   by_cases hij:i<j
   · have hz:(i:Int)<(j:Int):=by omega
     have HV:Hid (reverseLoop (i+1) (j-1) (swp dk i j)=reverseLoop a (b-1) d):=by
      show _=_
      rw [← hO.out]
      conv=>rhs;rw [reverseLoop]
      rw [if_pos hij]
     obtain⟨G,hG⟩:∃G:Nat→Int,∀t,G t=dk[t]!:=⟨fun t=>dk[t]!,fun _=>rfl⟩
     have hcw:∀t,t<m→wr.cell? ⟨blk,off+t,none⟩=some (.int .u64 (G t)):=fun t ht=>by rw [hG];exact hs3.out.cell t ht
     have hfw:∀t,t<m→wr.frozen? ⟨blk,off+t,none⟩=false:=hs3.out.fz
     have HG:Hid (∀t,G t=dk[t]!):=hG
     have HSQ:=hs3
     clear hG
     have i1:i<m:=by omega
     have i2:j<m:=by omega
     have HX:=hide (HSQ.out.swap 0 i j i1 i2).drew1
     rw [← HG.out,← HG.out] at HX
     clear HSQ hs3 HG hO
     go_wp2_with fail
     go_region
     all_goals go_wp2_with fail
     go_roundw
     case rel=>exact ⟨i+1,j-1,_,by go_num,by congr 1;omega,by omega,HX,HV⟩
     case measure=>simp only [intOf];omega
   · have hz:¬(i:Int)<(j:Int):=by omega
     have HV:Hid (dk=reverseLoop a (b-1) d):=by
      show _=_
      rw [← hO.out,reverseLoop,if_neg hij]
     go_wp2_with fail
     go_end0
     exact⟨rfl,by rw [← HV.out];exact hs3.out⟩
end Go.Proofs.YtdojdcncncgncaaGreat
