/-
  Lemmas.
-/
import Derived.Test.YtdojdcncncgncaaGreatKfbc
import Derived.Deep.CutBlock
namespace Go.Proofs.YtdojdcncncgncaaGreat
open Go.RowKit
set_option linter.unusedVariables false
set_option maxRecDepth 100000
set_option maxHeartbeats 4000000
variable {w w':World}{p k0 k1:Nat}{xs:List Nat}
def ZeR (w : World) (p : Nat) (k0 k1 : Nat) : Prop := w.heap[p]? = some (Obj.cells #[.float .f64 k0, .float .f64 k1] 24 (0, 0))
theorem ZeR.keep {w w' : World} {p k0 k1 : Nat} (h : ZeR w p k0 k1) (hb : Below w.heap.size w w') : ZeR w' p k0 k1 := (hb.block p (Array.getElem?_eq_some_iff.1 h).1).trans h
theorem ZeR.c0 {w : World} {p k0 k1 : Nat} (h : ZeR w p k0 k1) : w.cell? ⟨p, 0, none⟩ = some (.float .f64 k0) := by unfold ZeR at h; rw [cell_of_row _ _ _ _ _ _ h]; rfl
theorem ZeR.c1 {w : World} {p k0 k1 : Nat} (h : ZeR w p k0 k1) : w.cell? ⟨p, 1, none⟩ = some (.float .f64 k1) := by unfold ZeR at h; rw [cell_of_row _ _ _ _ _ _ h]; rfl
theorem ZjK (w : World) (k0 k1 : Nat) : ZeR (w.alloc (.cells #[.float .f64 k0, .float .f64 k1] 24)) w.heap.size k0 k1 := heap_alloc_new w _
theorem ZcV.form {l : List Lf} {k : Nat} {e : Ending} (h : ZcV w l k e w') : ∃ (x : Rx) (b : Bt) (t : Bool), e = .returned (.tuple #[x.val, btV b, .bool t]) ∧ Below w.heap.size w w' ∧ Fs w' x.a x.n x.c x.r.xs ∧ ((findH l k = none ∧ x.r = zeroR ∧ b = (0, 0) ∧ t = false) ∨ ∃ g, findH l k = some g ∧ x.r = g.r ∧ b = ((g.i : Int), (g.k : Int)) ∧ t = true) := by
 cases hf : findH l k with
 | none => exact ⟨Rx.zero, (0, 0), false, h.2.1 hf, h.1, ZdU w', .inl ⟨rfl, rfl, rfl, rfl⟩⟩
 | some g =>
  obtain ⟨_, x, hx, he, hc⟩ := h.2.2 g hf
  exact ⟨x, _, true, he, h.1, hc.fs, .inr ⟨g, rfl, hx, rfl, rfl⟩⟩
theorem Zen.form {l : List Lf} {b : Bt} {e : Ending} (h : Zen w l b e w') : ∃ (x : Rx) (t : Bool), e = .returned (.tuple #[x.val, .bool t]) ∧ Below w.heap.size w w' ∧ Fs w' x.a x.n x.c x.r.xs ∧ ((getH l b = none ∧ x.r = zeroR ∧ t = false) ∨ ∃ r, getH l b = some r ∧ x.r = r ∧ t = true) := by
 cases hg : getH l b with
 | none => exact ⟨Rx.zero, false, h.2.1 hg, h.1, ZdU w', .inl ⟨rfl, rfl, rfl⟩⟩
 | some r =>
  obtain ⟨_, x, hx, he, hc⟩ := h.2.2 r hg
  exact ⟨x, true, he, h.1, hc.fs, .inr ⟨r, rfl, hx, rfl⟩⟩
theorem ZnM {F:Prop}(HS:ZmP F)(w:World)(s:Sl)(L:List Lb)(h:InL w s L)(k0 k1:Nat)(hk0:k0<18446744073709551616)(hk1:k1<18446744073709551616)(y:Bt) :
    Calls Tryz.prog 3 #[s.val,.agg #[.float .f64 k0,.float .f64 k1],btV y] w fun e w'=>e=.returned (.bool true)∧Below w.heap.size w w':=by
  have hsf:∀(w:World) (a:Addr) (m:Mode) (x:Nat),(store a (.float .f64 x) m).run Tryz.prog w=stored Tryz.prog w a (.float .f64 x) m:=fun w a m x=>run_store Tryz.prog w a _ m rfl
  have hA1:=Zaa w (.cells #[.float .f64 k0,.float .f64 k1] 24)
  have hA2:=Zaa (w.alloc (.cells #[.float .f64 k0,.float .f64 k1] 24)) (.cells #[.int .i64 y.1,.int .i64 y.2] 26)
  have hK:=(ZjK w k0 k1).keep hA2
  have hY:BtBlk ((w.alloc (.cells #[.float .f64 k0,.float .f64 k1] 24)).alloc (.cells #[.int .i64 y.1,.int .i64 y.2] 26)) (w.heap.size+1) y:=by
   have:=Zax (w.alloc (.cells #[.float .f64 k0,.float .f64 k1] 24)) y
   rwa [Zae] at this
  have hA:=Zac hA1 hA2
  obtain⟨W0,hW0⟩:∃W0,W0=(w.alloc (.cells #[.float .f64 k0,.float .f64 k1] 24)).alloc (.cells #[.int .i64 y.1,.int .i64 y.2] 26):=⟨_,rfl⟩
  rw [← hW0] at hA hK hY
  have hs0:W0.heap.size=w.heap.size+2:=by rw [hW0,Zae,Zae]
  have HK:=hide hK
  have HY:=hide hY
  have HA:=hide hA
  have HH:=hide HS
  have hIn:InL W0 s L:=⟨h.len,h.nil,h.le,h.big,fun i hi=>by obtain ⟨b,off,ha,c0,c1⟩:=h.cell i hi;exact ⟨b,off,ha,Zaj c0 hA,Zaj c1 hA⟩,fun x hx=>⟨⟨(h.it x hx).1.len,(h.it x hx).1.nil,(h.it x hx).1.le,(h.it x hx).1.big,fun i hi=>by obtain ⟨b,off,ha,c0⟩:=(h.it x hx).1.cell i hi;exact ⟨b,off,ha,Zaj c0 hA⟩⟩,⟨(h.it x hx).2.len,(h.it x hx).2.nil,(h.it x hx).2.le,(h.it x hx).2.big,fun i hi=>by obtain ⟨b,off,ha,c0⟩:=(h.it x hx).2.cell i hi;exact ⟨b,off,ha,Zaj c0 hA⟩,fun q hq=>((h.it x hx).2.bs q hq).keep hA (Nat.le_refl _)⟩⟩⟩
  have HIN:=hide hIn
  have HLT:=hide (Zji W0 s L hIn)
  have HWE:=hide hW0
  have HK0:=hide hk0
  have HK1:=hide hk1
  obtain⟨a,len,cap⟩:=s
  clear h hA1 hA2 hA hK hY hIn HS hW0 hk0 hk1
  unfold Sl.val btV at *
  simp only at *
  go_enter Tryz.func3,Tryz.ntmps3
  go_wp2_with fail
  rw [← HWE.out]
  refine HLT.out.mono ?_
  rintro e w1 ⟨hl | ⟨hl8,hlp,hl⟩,hb1⟩
  · subst hl
    have HB1:=hide (Zac HA.out hb1)
    have HAW:=hide (Zd5 HH.out w1)
    clear hb1 HLT
    go_wp2_with fail
    refine HAW.out.mono ?_
    rintro e w2 ⟨rfl,hb2⟩
    have HB2:=hide (Zac HB1.out hb2)
    clear hb2
    go_wp2_with fail
    go_ret
    exact⟨rfl,HB2.out⟩
  · subst hl
    have HB1:=hide (Zac HA.out hb1)
    have HG:=hide (InL.gl HIN.out hl8 hlp)
    have hG1:=HG.out.below hb1 (Nat.le_refl _)
    have hK1:=HK.out.keep hb1
    have hY1:=HY.out.keep hb1
    have hs1:w.heap.size+2≤w1.heap.size:=by have:=hb1.size;omega
    have HG1:=hide hG1
    have HK1':=hide hK1
    have HY1:=hide hY1
    have c0:=hK1.c0
    clear hb1 HLT hl8 hlp HIN hG1 hK1 hY1
    by_cases hM:MayH (lfs L)
    · have HM:=hide hM
      have HF:=hide (HH.out.find w1 ⟨a,len,cap⟩ L k0 HG1.out HK0.out hM)
      clear hM
      unfold Sl.val at HF
      simp only at HF
      go_wp2_with fail
      refine HF.out.mono ?_
      intro e w2 ht
      obtain⟨x,b,t,he,hb2,hfx,hfc⟩:=ht.form
      subst he
      obtain⟨Wa,W3,hsa,hsb,hkx,hkb,hb3,hfk⟩:=ZfS w2 x b
      have HSA:=hide hsa
      have HSB:=hide hsb
      have HB3:=hide (Zac (Zac HB1.out hb2) hb3)
      have HKX:=hide hkx
      have HKB:=hide hkb
      have HFX:=hide (hfk hfx)
      have HFC:=hide hfc
      have HG3:=hide ((HG1.out.below hb2 (Nat.le_refl _)).below hb3 (Nat.le_refl _))
      have HK3:=hide ((HK1'.out.keep hb2).keep hb3)
      have HY3:=hide ((HY1.out.keep hb2).keep hb3)
      have y0:=HY3.out.c0
      have y1:=HY3.out.c1
      have hs3:w2.heap.size+2≤W3.heap.size:=by have:=hkb.lt;omega
      have HGT:=hide (HH.out.get W3 ⟨a,len,cap⟩ L y HG3.out HM.out)
      unfold Sl.val btV at HGT
      simp only at HGT
      clear ht hb2 hfx hfc hsa hsb hkx hkb hb3 hfk HF HG1 HK1' HY1 c0
      unfold Rx.val Rw.val btV
      go_wp2_with (first | refine Zab _ rfl rfl 33 (.tmp 7) (.tmp 27) rfl (.pointer (some ⟨w2.heap.size,0,none⟩)) (.agg #[.float .f64 x.r.key,.bool x.r.dead,.slice x.a x.n x.c,.int .i64 x.r.wr,.int .i64 x.r.cell,.int .i64 x.r.no]) rfl rfl Wa HSA.out ?_ | refine Zab _ rfl rfl 26 (.tmp 8) (.tmp 28) rfl (.pointer (some ⟨w2.heap.size+1,0,none⟩)) (.agg #[.int .i64 b.1,.int .i64 b.2]) rfl rfl W3 HSB.out ?_)
      refine HGT.out.mono ?_
      intro e w4 ht
      obtain⟨x4,t4,he,hb4,hfx4,hfc4⟩:=ht.form
      subst he
      obtain⟨W5,hsc,hkx4,hb5⟩:=Zhr w4 x4
      have hb45:=Zac hb4 hb5
      have HSC:=hide hsc
      have HB5:=hide (Zac HB3.out hb45)
      have HKX4:=hide hkx4
      have HFX4:=hide (hfx4.keep hb5 (Nat.le_refl _))
      have HFC4:=hide hfc4
      have HKX5:=hide (HKX.out.keep hb45)
      have HKB5:=hide (HKB.out.keep hb45)
      have HFX5:=hide (HFX.out.keep hb45 (Nat.le_refl _))
      have HG5:=hide (HG3.out.below hb45 (Nat.le_refl _))
      have HK5:=hide (HK3.out.keep hb45)
      have HY5:=hide (HY3.out.keep hb45)
      have c0:=HK5.out.c0
      have c1:=HK5.out.c1
      have hs5:W3.heap.size≤w4.heap.size:=hb4.size
      have hs5':w4.heap.size<W5.heap.size:=(Array.getElem?_eq_some_iff.1 hkx4).1
      have HRO:=hide (HH.out.rows W5 ⟨a,len,cap⟩ L k0 k1 HG5.out HK0.out HK1.out HM.out)
      unfold Sl.val at HRO
      simp only at HRO
      clear ht hb4 hfx4 hfc4 hsc hkx4 hb5 hb45 y0 y1 HG3 HK3 HY3 HKX HKB HFX HGT
      unfold Rx.val Rw.val
      go_wp2_with (refine Zab _ rfl rfl 33 (.tmp 10) (.tmp 34) rfl (.pointer (some ⟨w4.heap.size,0,none⟩)) (.agg #[.float .f64 x4.r.key,.bool x4.r.dead,.slice x4.a x4.n x4.c,.int .i64 x4.r.wr,.int .i64 x4.r.cell,.int .i64 x4.r.no]) rfl rfl W5 HSC.out ?_)
      refine HRO.out.mono ?_
      rintro e w6 ⟨hb6,⟨ra,rn,rc⟩,l6,rfl,hri,hrl⟩
      have HB6:=hide (Zac HB5.out hb6)
      have HRI:=hide hri
      have HRL:=hide hrl
      have HG6:=hide (HG5.out.below hb6 (Nat.le_refl _))
      have HMY:=hide (Zhb w6 ⟨a,len,cap⟩ L HG6.out)
      have HKX6:=hide (HKX5.out.keep hb6)
      have HKB6:=hide (HKB5.out.keep hb6)
      have HFX6:=hide (HFX5.out.keep hb6 (Nat.le_refl _))
      have HKX46:=hide (HKX4.out.keep hb6)
      have HFX46:=hide (HFX4.out.keep hb6 (Nat.le_refl _))
      have HK6:=hide (HK5.out.keep hb6)
      have HY6:=hide (HY5.out.keep hb6)
      have hs6:W5.heap.size≤w6.heap.size:=hb6.size
      unfold Sl.val at HMY
      simp only at HMY
      clear hb6 hri hrl HRO c0 c1 HKX5 HKB5 HFX5 HKX4 HFX4 HG5 HK5 HY5
      go_wp2_with fail
      refine HMY.out.mono ?_
      rintro e w7 ⟨⟨bm,rfl,hbm⟩,hb7⟩
      have hbt:bm=true:=hbm.2 HM.out
      subst hbt
      have HB7:=hide (Zac HB6.out hb7)
      have HG7:=hide (HG6.out.below hb7 (Nat.le_refl _))
      have HKX7:=hide (HKX6.out.keep hb7)
      have HKB7:=hide (HKB6.out.keep hb7)
      have HFX7:=hide (HFX6.out.keep hb7 (Nat.le_refl _))
      have HKX47:=hide (HKX46.out.keep hb7)
      have HFX47:=hide (HFX46.out.keep hb7 (Nat.le_refl _))
      have HK7:=hide (HK6.out.keep hb7)
      have HY7:=hide (HY6.out.keep hb7)
      have HRI7:=hide (HRI.out.keep hb7)
      have c0:=HK7.out.c0
      have hs7:w6.heap.size≤w7.heap.size:=hb7.size
      have HDF:=hide (Zjy w7 ⟨a,len,cap⟩ L HG7.out k0 HK0.out)
      unfold Sl.val at HDF
      simp only at HDF
      clear hbm hb7 HMY HKX6 HKB6 HFX6 HKX46 HFX46 HG6 HK6 HY6 HRI
      go_wp2_with fail
      refine HDF.out.mono ?_
      intro e w8 ht
      obtain⟨x8,b8,t8,he,hb8,hfx8,hfc8⟩:=ht.form
      subst he
      have hsame:x8.r=x.r∧b8=b∧t8=t:=by
       rcases HFC.out with ⟨h1,h2,h3,h4⟩ | ⟨g,h1,h2,h3,h4⟩
       · rcases hfc8 with ⟨q1,q2,q3,q4⟩ | ⟨g',q1,_⟩
         · exact⟨q2.trans h2.symm,q3.trans h3.symm,q4.trans h4.symm⟩
         · rw [h1] at q1;cases q1
       · rcases hfc8 with ⟨q1,_⟩ | ⟨g',q1,q2,q3,q4⟩
         · rw [h1] at q1;cases q1
         · rw [h1] at q1
           cases q1
           exact⟨q2.trans h2.symm,q3.trans h3.symm,q4.trans h4.symm⟩
      obtain⟨hxx,rfl,rfl⟩:=hsame
      obtain⟨Wd,W9,hsd,hse,hkx8,hkb8,hb9,hfk9⟩:=ZfS w8 x8 b8
      have hb89:=Zac hb8 hb9
      have HSD:=hide hsd
      have HSE:=hide hse
      have HXX:=hide hxx
      have HB9:=hide (Zac HB7.out hb89)
      have HKX8:=hide hkx8
      have HKB8:=hide hkb8
      have HFX8:=hide (hfk9 hfx8)
      have HG9:=hide (HG7.out.below hb89 (Nat.le_refl _))
      have HKX9:=hide (HKX7.out.keep hb89)
      have HKB9:=hide (HKB7.out.keep hb89)
      have HFX9:=hide (HFX7.out.keep hb89 (Nat.le_refl _))
      have HKX49:=hide (HKX47.out.keep hb89)
      have HFX49:=hide (HFX47.out.keep hb89 (Nat.le_refl _))
      have HK9:=hide (HK7.out.keep hb89)
      have HY9:=hide (HY7.out.keep hb89)
      have HRI9:=hide (HRI7.out.keep hb89)
      have y0:=HY9.out.c0
      have y1:=HY9.out.c1
      have hs8:w7.heap.size≤w8.heap.size:=hb8.size
      have HDG:=hide (Zlc W9 ⟨a,len,cap⟩ L HG9.out y)
      unfold Sl.val btV at HDG
      simp only at HDG
      clear ht hb8 hfx8 hfc8 hxx hsd hse hkx8 hkb8 hb9 hfk9 hb89 c0 HDF HKX7 HKB7 HFX7 HKX47 HFX47 HG7 HK7 HY7 HRI7
      unfold Rx.val Rw.val btV
      go_wp2_with (first | refine Zab _ rfl rfl 33 (.tmp 13) (.tmp 79) rfl (.pointer (some ⟨w8.heap.size,0,none⟩)) (.agg #[.float .f64 x8.r.key,.bool x8.r.dead,.slice x8.a x8.n x8.c,.int .i64 x8.r.wr,.int .i64 x8.r.cell,.int .i64 x8.r.no]) rfl rfl Wd HSD.out ?_ | refine Zab _ rfl rfl 26 (.tmp 14) (.tmp 80) rfl (.pointer (some ⟨w8.heap.size+1,0,none⟩)) (.agg #[.int .i64 b8.1,.int .i64 b8.2]) rfl rfl W9 HSE.out ?_)
      refine HDG.out.mono ?_
      intro e w10 ht
      obtain⟨x10,t10,he,hb10,hfx10,hfc10⟩:=ht.form
      subst he
      have hsame:x10.r=x4.r∧t10=t4:=by
       rcases HFC4.out with ⟨h1,h2,h4⟩ | ⟨g,h1,h2,h4⟩
       · rcases hfc10 with ⟨q1,q2,q4⟩ | ⟨g',q1,_⟩
         · exact⟨q2.trans h2.symm,q4.trans h4.symm⟩
         · rw [h1] at q1;cases q1
       · rcases hfc10 with ⟨q1,_⟩ | ⟨g',q1,q2,q4⟩
         · rw [h1] at q1;cases q1
         · rw [h1] at q1
           cases q1
           exact⟨q2.trans h2.symm,q4.trans h4.symm⟩
      obtain⟨hxx4,rfl⟩:=hsame
      obtain⟨W11,hsf',hkx10,hb11⟩:=Zhr w10 x10
      have hb01:=Zac hb10 hb11
      have HSF:=hide hsf'
      have HXX4:=hide hxx4
      have HB11:=hide (Zac HB9.out hb01)
      have HKX10:=hide hkx10
      have HFX10:=hide (hfx10.keep hb11 (Nat.le_refl _))
      have HG11:=hide (HG9.out.below hb01 (Nat.le_refl _))
      have HKX11:=hide (HKX9.out.keep hb01)
      have HKB11:=hide (HKB9.out.keep hb01)
      have HFX11:=hide (HFX9.out.keep hb01 (Nat.le_refl _))
      have HKX411:=hide (HKX49.out.keep hb01)
      have HFX411:=hide (HFX49.out.keep hb01 (Nat.le_refl _))
      have HKX811:=hide (HKX8.out.keep hb01)
      have HKB811:=hide (HKB8.out.keep hb01)
      have HFX811:=hide (HFX8.out.keep hb01 (Nat.le_refl _))
      have HK11:=hide (HK9.out.keep hb01)
      have HRI11:=hide (HRI9.out.keep hb01)
      have hs10:W9.heap.size≤w10.heap.size:=hb10.size
      have HCK:=hide (HH.out.check W11 ⟨a,len,cap⟩ L HG11.out)
      unfold Sl.val at HCK
      simp only at HCK
      clear ht hb10 hfx10 hfc10 hxx4 hsf' hkx10 hb11 hb01 y0 y1 HDG HKX9 HKB9 HFX9 HKX49 HFX49 HG9 HK9 HY9 HRI9 HKX8 HKB8 HFX8
      unfold Rx.val Rw.val
      go_wp2_with (refine Zab _ rfl rfl 33 (.tmp 16) (.tmp 86) rfl (.pointer (some ⟨w10.heap.size,0,none⟩)) (.agg #[.float .f64 x10.r.key,.bool x10.r.dead,.slice x10.a x10.n x10.c,.int .i64 x10.r.wr,.int .i64 x10.r.cell,.int .i64 x10.r.no]) rfl rfl W11 HSF.out ?_)
      refine HCK.out.mono ?_
      rintro e w12 ⟨⟨_,rfl⟩ | ⟨hmn,_⟩,hb12⟩
      case inr=>exact absurd HM.out hmn
      have HB12:=hide (Zac HB11.out hb12)
      have HXA:=HKX11.out.keep hb12
      have HXB:=HKX811.out.keep hb12
      have HBA:=HKB11.out.keep hb12
      have HBB:=HKB811.out.keep hb12
      have HXC:=HKX411.out.keep hb12
      have HXD:=HKX10.out.keep hb12
      have HK12:=HK11.out.keep hb12
      have HS1:=hide (ZbE (x:=x) (y:=x8) HXX.out.symm w12 (HFX11.out.keep hb12 (Nat.le_refl _)) (HFX811.out.keep hb12 (Nat.le_refl _)))
      have HKXA:=hide HXA
      have HKXB:=hide HXB
      have HKBA:=hide HBA
      have HKBB:=hide HBB
      have HKXC:=hide HXC
      have HKXD:=hide HXD
      have HK12':=hide HK12
      have HF4:=hide (HFX411.out.keep hb12 (Nat.le_refl _))
      have HF10:=hide (HFX10.out.keep hb12 (Nat.le_refl _))
      have HG12:=hide (HG11.out.below hb12 (Nat.le_refl _))
      have HRI12:=hide (HRI11.out.keep hb12)
      have a0:=HXA.c0
      have a1:=HXA.c1
      have a2:=HXA.c2
      have a3:=HXA.c3
      have a4:=HXA.c4
      have a5:=HXA.c5
      have b0:=HXB.c0
      have b1:=HXB.c1
      have b2:=HXB.c2
      have b3:=HXB.c3
      have b4:=HXB.c4
      have b5:=HXB.c5
      unfold Rx.val Rw.val at HS1
      clear hb12 HXA HXB HBA HBB HXC HXD HK12 HCK HKX11 HKX811 HKB11 HKB811 HKX411 HKX10 HK11 HFX11 HFX811 HFX411 HFX10 HG11 HRI11
      go_wp2_with fail
      refine HS1.out.mono ?_
      rintro e w13 ⟨rfl,hb13⟩
      have HB13:=hide (Zac HB12.out hb13)
      have p0:=(HKBA.out.keep hb13).c0
      have p1:=(HKBA.out.keep hb13).c1
      have q0:=(HKBB.out.keep hb13).c0
      have q1:=(HKBB.out.keep hb13).c1
      have HXC:=HKXC.out.keep hb13
      have HXD:=HKXD.out.keep hb13
      have a0:=HXC.c0
      have a1:=HXC.c1
      have a2:=HXC.c2
      have a3:=HXC.c3
      have a4:=HXC.c4
      have a5:=HXC.c5
      have b0:=HXD.c0
      have b1:=HXD.c1
      have b2:=HXD.c2
      have b3:=HXD.c3
      have b4:=HXD.c4
      have b5:=HXD.c5
      have HS2:=hide (ZbE (x:=x4) (y:=x10) HXX4.out.symm w13 (HF4.out.keep hb13 (Nat.le_refl _)) (HF10.out.keep hb13 (Nat.le_refl _)))
      have HK13:=hide (HK12'.out.keep hb13)
      have HG13:=hide (HG12.out.below hb13 (Nat.le_refl _))
      have HRI13:=hide (HRI12.out.keep hb13)
      unfold Rx.val Rw.val at HS2
      clear hb13 HXC HXD HS1 HKXA HKXB HKBA HKBB HKXC HKXD HK12' HF4 HF10 HG12 HRI12
      go_wp2_with fail
      refine HS2.out.mono ?_
      rintro e w14 ⟨rfl,hb14⟩
      have HB14:=hide (Zac HB13.out hb14)
      have HK14:=hide (HK13.out.keep hb14)
      have HG14:=hide (HG13.out.below hb14 (Nat.le_refl _))
      have HRI14:=hide (HRI13.out.keep hb14)
      have c0:=HK14.out.c0
      have c1:=HK14.out.c1
      have HDR:=hide (Zj4 w14 ⟨a,len,cap⟩ L HG14.out k0 k1 HK0.out HK1.out)
      unfold Sl.val at HDR
      simp only at HDR
      clear hb14 HS2 HK13 HG13 HRI13 a0 a1 a2 a3 a4 a5 b0 b1 b2 b3 b4 b5 p0 p1 q0 q1
      go_wp2_with fail
      refine HDR.out.mono ?_
      rintro e w15 ⟨hb15,⟨da,dn,dc⟩,l15,rfl,hri15,hrl15⟩
      have HB15:=hide (Zac HB14.out hb15)
      have hrn:rn≤1000000:=by
       have h1:=HRI14.out.rz.len
       have h2:=congrArg List.length HRL.out
       have h3:=Zjv k0 k1 (allH (lfs L))
       have h4:=HG14.out.allLen
       rw [Zb3] at h2
       simp only at h1
       omega
      have HRS:=hide (Zgk w15 ⟨ra,rn,rc⟩ ⟨da,dn,dc⟩ l6 l15 (HRI14.out.keep hb15) hri15 (HRL.out.trans hrl15.symm) hrn)
      simp only at HRS
      clear hb15 hri15 hrl15 HDR c0 c1
      go_wp2_with fail
      refine HRS.out.mono ?_
      rintro e w16 ⟨rfl,hb16⟩
      have HB16:=hide (Zac HB15.out hb16)
      have HAW:=hide (Zd5 HH.out w16)
      clear hb16 HRS
      go_wp2_with fail
      refine HAW.out.mono ?_
      rintro e w17 ⟨rfl,hb17⟩
      have HB17:=hide (Zac HB16.out hb17)
      clear hb17
      go_wp2_with fail
      go_ret
      exact⟨rfl,HB17.out⟩
    · have HM:=hide hM
      have HF:=hide (HH.out.findN w1 ⟨a,len,cap⟩ L k0 HG1.out HK0.out hM)
      unfold Sl.val at HF
      simp only at HF
      clear hM
      go_wp2_with fail
      refine HF.out.mono ?_
      rintro e w2 ⟨he,hb2⟩
      have he':e=.returned (.tuple #[Rx.zero.val,btV (0,0),.bool false]):=he
      clear he
      subst he'
      obtain⟨Wa,W3,hsa,hsb,hkx,hkb,hb3,hfk⟩:=ZfS w2 Rx.zero (0,0)
      have HSA:=hide hsa
      have HSB:=hide hsb
      have HB3:=hide (Zac (Zac HB1.out hb2) hb3)
      have HKX:=hide hkx
      have HG3:=hide ((HG1.out.below hb2 (Nat.le_refl _)).below hb3 (Nat.le_refl _))
      have HK3:=hide ((HK1'.out.keep hb2).keep hb3)
      have HY3:=hide ((HY1.out.keep hb2).keep hb3)
      have y0:=HY3.out.c0
      have y1:=HY3.out.c1
      have hs3:w2.heap.size+2≤W3.heap.size:=by have:=hkb.lt;omega
      have HGT:=hide (HH.out.getN W3 ⟨a,len,cap⟩ L y HG3.out HM.out)
      unfold Sl.val btV at HGT
      simp only at HGT
      clear hb2 hsa hsb hkx hkb hb3 hfk HF HG1 HK1' HY1 c0
      unfold Rx.val Rw.val btV
      go_wp2_with (first | refine Zab _ rfl rfl 33 (.tmp 7) (.tmp 27) rfl (.pointer (some ⟨w2.heap.size,0,none⟩)) (.agg #[.float .f64 Rx.zero.r.key,.bool Rx.zero.r.dead,.slice Rx.zero.a Rx.zero.n Rx.zero.c,.int .i64 Rx.zero.r.wr,.int .i64 Rx.zero.r.cell,.int .i64 Rx.zero.r.no]) rfl rfl Wa HSA.out ?_ | refine Zab _ rfl rfl 26 (.tmp 8) (.tmp 28) rfl (.pointer (some ⟨w2.heap.size+1,0,none⟩)) (.agg #[.int .i64 ((0,0):Bt).1,.int .i64 ((0,0):Bt).2]) rfl rfl W3 HSB.out ?_)
      refine HGT.out.mono ?_
      rintro e w4 ⟨he,hb4⟩
      have he':e=.returned (.tuple #[Rx.zero.val,.bool false]):=he
      clear he
      subst he'
      obtain⟨W5,hsc,hkx4,hb5⟩:=Zhr w4 Rx.zero
      have hb45:=Zac hb4 hb5
      have HSC:=hide hsc
      have HB5:=hide (Zac HB3.out hb45)
      have HKX4:=hide hkx4
      have HKX5:=hide (HKX.out.keep hb45)
      have HG5:=hide (HG3.out.below hb45 (Nat.le_refl _))
      have HK5:=hide (HK3.out.keep hb45)
      have c0:=HK5.out.c0
      have c1:=HK5.out.c1
      have hs5:W3.heap.size≤w4.heap.size:=hb4.size
      have hs5':w4.heap.size<W5.heap.size:=(Array.getElem?_eq_some_iff.1 hkx4).1
      have HRO:=hide (HH.out.rowsN W5 ⟨a,len,cap⟩ L k0 k1 HG5.out HK0.out HK1.out HM.out)
      unfold Sl.val at HRO
      simp only at HRO
      clear hb4 hsc hkx4 hb5 hb45 y0 y1 HG3 HK3 HY3 HKX HGT
      unfold Rx.val Rw.val
      go_wp2_with (refine Zab _ rfl rfl 33 (.tmp 10) (.tmp 34) rfl (.pointer (some ⟨w4.heap.size,0,none⟩)) (.agg #[.float .f64 Rx.zero.r.key,.bool Rx.zero.r.dead,.slice Rx.zero.a Rx.zero.n Rx.zero.c,.int .i64 Rx.zero.r.wr,.int .i64 Rx.zero.r.cell,.int .i64 Rx.zero.r.no]) rfl rfl W5 HSC.out ?_)
      refine HRO.out.mono ?_
      rintro e w6 ⟨hb6,⟨ra,rn,rc⟩,l6,rfl,hri,hrl⟩
      have hrn:rn=0:=by
       have h1:=hri.rz.len
       have h2:=congrArg List.length hrl
       rw [Zb3] at h2
       simp only [List.length_nil] at h1 h2
       omega
      subst hrn
      have HB6:=hide (Zac HB5.out hb6)
      have HG6:=hide (HG5.out.below hb6 (Nat.le_refl _))
      have HMY:=hide (Zhb w6 ⟨a,len,cap⟩ L HG6.out)
      have HKX6:=hide (HKX5.out.keep hb6)
      have HKX46:=hide (HKX4.out.keep hb6)
      unfold Sl.val at HMY
      simp only at HMY
      clear hb6 hri hrl HRO c0 c1 HKX5 HKX4 HG5 HK5
      go_wp2_with fail
      refine HMY.out.mono ?_
      rintro e w7 ⟨⟨bm,rfl,hbm⟩,hb7⟩
      have hbt:bm=false:=by
       cases bm with
       | false=>rfl
       | true=>exact absurd (hbm.1 rfl) HM.out
      subst hbt
      have HB7:=hide (Zac HB6.out hb7)
      have HG7:=hide (HG6.out.below hb7 (Nat.le_refl _))
      have HKX7:=hide (HKX6.out.keep hb7)
      have HKX47:=hide (HKX46.out.keep hb7)
      have HCK:=hide (HH.out.check w7 ⟨a,len,cap⟩ L HG7.out)
      unfold Sl.val at HCK
      simp only at HCK
      clear hbm hb7 HMY HKX6 HKX46 HG6
      go_wp2_with fail
      refine HCK.out.mono ?_
      rintro e w12 ⟨⟨hmn,_⟩ | ⟨_,rfl⟩,hb12⟩
      case inl=>exact absurd hmn HM.out
      have HB12:=hide (Zac HB7.out hb12)
      have HXA:=HKX7.out.keep hb12
      have a0:=HXA.c0
      have a1:=HXA.c1
      have a2:=HXA.c2
      have a3:=HXA.c3
      have a4:=HXA.c4
      have a5:=HXA.c5
      have HXC:=hide (HKX47.out.keep hb12)
      have HS1:=hide (ZbE (x:=Rx.zero) (y:=Rx.zero) rfl w12 (ZdU w12) (ZdU w12))
      unfold Rx.val Rw.val Rx.zero zeroR at HS1
      unfold Rx.zero zeroR at a0 a1 a2 a3 a4 a5
      simp only at HS1 a0 a1 a2 a3 a4 a5
      clear hb12 HXA HCK HKX7 HKX47 HG7
      go_wp2_with fail
      refine HS1.out.mono ?_
      rintro e w13 ⟨rfl,hb13⟩
      have HB13:=hide (Zac HB12.out hb13)
      have HXD:=HXC.out.keep hb13
      have b0:=HXD.c0
      have b1:=HXD.c1
      have b2:=HXD.c2
      have b3:=HXD.c3
      have b4:=HXD.c4
      have b5:=HXD.c5
      have HS2:=hide (ZbE (x:=Rx.zero) (y:=Rx.zero) rfl w13 (ZdU w13) (ZdU w13))
      unfold Rx.val Rw.val Rx.zero zeroR at HS2
      unfold Rx.zero zeroR at b0 b1 b2 b3 b4 b5
      simp only at HS2 b0 b1 b2 b3 b4 b5
      clear hb13 HXC HXD HS1 a0 a1 a2 a3 a4 a5
      go_wp2_with fail
      refine HS2.out.mono ?_
      rintro e w14 ⟨rfl,hb14⟩
      have HB14:=hide (Zac HB13.out hb14)
      have HAW:=hide (Zd5 HH.out w14)
      clear hb14 HS2 b0 b1 b2 b3 b4 b5
      go_wp2_with fail
      refine HAW.out.mono ?_
      rintro e w17 ⟨rfl,hb17⟩
      have HB17:=hide (Zac HB14.out hb17)
      clear hb17
      go_wp2_with fail
      go_ret
      exact⟨rfl,HB17.out⟩
open Go.ChangeShapes Go.WideShapes Go.ChangeAt Go.RowKit
section
variable {H : Type} {enc : TypeId × Value → H} {w : World} {base : Nat} {spare : Nat → Bool} {held : Bool}
theorem Zo5 {r:Reach}{b0:Nat}{v:Value}{d:DataW H}{p:List MemPlace}(hv:Value.okWide Tryz.prog w r b0 24 v)(h:DataW.Trod enc Tryz.prog w base spare held 24 v d p) :
    ∃x0 x1:Nat,v=.agg #[.float .f64 x0,.float .f64 x1]∧x0<18446744073709551616∧x1<18446744073709551616:=by
  have hu:Tryz.prog.underlying 24=some (.array 2 23):=by kernel_rfl
  have hC:Tryz.prog.cellsOf 24=2:=by kernel_rfl
  have h1:Tryz.prog.cellsOf 23=1:=by kernel_rfl
  simp only [Value.okWide,hu] at hv
  obtain⟨cs,rfl,hsz,_⟩:=hv
  rw [hC] at hsz
  obtain⟨l⟩:=cs
  match l,hsz with
  | [c0,c1],_ =>
   obtain⟨fuel,hf⟩:=h
   obtain⟨xs,m,_,_,_,hlen,hfd⟩:=DataW.trod_array hu hf
   match xs,hlen with
   | [y0,y1],_ =>
    have t0:DataW.trod enc Tryz.prog w base spare held m 23 [c0]=some y0:=by simpa [Value.cells,h1] using hfd 0 (by omega)
    obtain⟨k0,e0,l0⟩:=Zfb t0
    have t1:DataW.trod enc Tryz.prog w base spare held m 23 [c1]=some y1:=by simpa [Value.cells,h1] using hfd 1 (by omega)
    obtain⟨k1,e1,l1⟩:=Zfb t1
    subst e0 e1
    exact⟨k0,k1,rfl,l0,l1⟩
theorem ZnN {r:Reach}{b0:Nat}{v:Value}{d:DataW H}{p:List MemPlace}(hv:Value.okWide Tryz.prog w r b0 26 v)(h:DataW.Trod enc Tryz.prog w base spare held 26 v d p) :
    ∃y:Bt,v=btV y:=by
  have hC:Tryz.prog.cellsOf 26=2:=by kernel_rfl
  have h4:Tryz.prog.cellsOf 3=1:=by kernel_rfl
  obtain⟨cs,rfl,hsz⟩:=okWide_struct Tryz.underlying26 hv
  rw [hC] at hsz
  obtain⟨l⟩:=cs
  match l,hsz with
  | [c0,c1],_ =>
   obtain⟨fuel,hf⟩:=h
   obtain⟨xs,n,_,_,_,hlen,hfd⟩:=DataW.trod_struct Tryz.underlying26 hf
   match xs,hlen with
   | [y0,y1],_ =>
    have t0:DataW.trod enc Tryz.prog w base spare held n 3 [c0]=some y0:=by simpa [Value.cells,h4] using hfd 0 _ rfl
    have t1:DataW.trod enc Tryz.prog w base spare held n 3 [c1]=some y1:=by simpa [Value.cells,h4] using hfd 1 _ rfl
    obtain⟨k0,e0,_,w0⟩:=DataW.trod_int Tryz.underlying3 t0
    obtain⟨k1,e1,_,w1⟩:=DataW.trod_int Tryz.underlying3 t1
    simp only [List.cons.injEq,and_true] at e0 e1
    subst e0 e1
    exact⟨(k0,k1),rfl⟩
end
theorem ZlV (w : World) (x : Sl) (hx : x.len ≤ 1000000) : Calls Tryz.prog 92 #[x.val] w fun e w' => e = .returned (.bool (decide (x.len = 0))) ∧ w' = w := by
 obtain ⟨a, n, c⟩ := x
 unfold Sl.val
 simp only
 by_cases h : n = 0
 · subst h
   go_enter Tryz.func92, Tryz.ntmps92
   go_wp2_with fail
   go_ret
   exact ⟨rfl, rfl⟩
 · have i1 : ¬ (n : Int) = 0 := by omega
   have i2 : ((n : Int) == 0) = false := by simp [h]
   rw [decide_eq_false h]
   go_enter Tryz.func92, Tryz.ntmps92
   go_wp2_with fail
   go_ret
   exact ⟨by simp, rfl⟩
theorem Zku {D:Nat→Prop}(w:World)(v:Sl)(l:List Sb)(h:Gb D w v l) :
    Calls Tryz.prog 99 #[v.val,.func (.func 92) #[] #[]] w fun e w'=>e=.returned (.int .i64 (ixE (bss l)))∧w'=w:=by
  obtain⟨a,len,cap⟩:=v
  have HG:=hide h
  have HL:Hid ((bss l).length=len):=by show _=_;rw [Zah];exact h.len
  have hbig:len≤1000:=h.big
  clear h
  unfold Sl.val
  simp only
  go_enter Tryz.func99,Tryz.ntmps99
  go_wp2_with fail
  go_loopw [8] (fun iv wr=>wr=w∧∃i:Nat,i≤len∧iv=.int .i64 (i:Nat)∧Hid (∀j,j<i→(sl (bss l) j).length≠0)) (fun iv _=>len-(intOf iv).toNat)
  case atStart=>exact ⟨rfl,0,Nat.zero_le _,rfl,fun _ h=>absurd h (Nat.not_lt_zero _)⟩
  case round =>
   obtain⟨rfl,i,hi,rfl,hix⟩:=hrel
   rcases Nat.lt_or_ge i len with hlt | hge
   · have i1:(i:Int)<(len:Int):=by omega
     obtain⟨bb,oo,ha,c0⟩:=HG.out.cell i hlt
     replace ha:a=some ⟨bb,oo,none⟩:=ha
     subst ha
     obtain⟨_,hsl,h1000⟩:=HG.out.at hlt
     obtain⟨⟨sa,sn,sc⟩,hsb⟩:∃s,s=(l.getD i Sb.zero).s:=⟨_,rfl⟩
     rw [← hsb] at c0 hsl
     have HCL:=hide (ZlV wr ⟨sa,sn,sc⟩ (by show sn≤_;have:sn=_:=hsl;omega))
     unfold Sl.val at c0 HCL
     simp only at c0 hsl HCL
     have HS:=hide hsl
     clear hsb hsl h1000
     by_cases h0:sn=0
     · rw [decide_eq_true h0] at HCL
       have HE:Hid (ixE (bss l)=(i:Int)):=by
        have e:=ZhW (s:=bss l) (n:=i) hix.out (.inr ⟨by rw [HL.out];exact hlt,by rw [← HS.out];exact h0⟩)
        show _=_
        unfold ixE
        rw [e,if_neg (by rw [HL.out];omega)]
       clear hix HS h0
       go_wp2_with fail
       refine HCL.out.mono ?_
       rintro e w1 ⟨rfl,hw⟩
       obtain rfl:=hw.symm
       go_wp2_with fail
       go_ret
       exact⟨by rw [HE.out];rfl,rfl⟩
     · rw [decide_eq_false h0] at HCL
       have HE:Hid (∀j,j<i+1→(sl (bss l) j).length≠0):=by
        intro j hj
        by_cases e:j=i
        · rw [e,← HS.out];exact h0
        · exact hix.out j (by omega)
       clear hix HS h0
       go_wp2_with fail
       refine HCL.out.mono ?_
       rintro e w1 ⟨rfl,hw⟩
       obtain rfl:=hw.symm
       go_wp2_with fail
       go_roundw
       case rel=>exact ⟨trivial,i+1,by omega,by go_num,HE⟩
       case measure=>simp only [intOf];omega
   · have i1:¬(i:Int)<(len:Int):=by omega
     have HE:Hid (ixE (bss l) = -1):=by
      have e:=ZhW (s:=bss l) (n:=(bss l).length) (fun j hj=>hix.out j (by rw [HL.out] at hj;omega)) (.inl rfl)
      show _=_
      unfold ixE
      rw [if_pos e]
     clear hix
     go_wp2_with fail
     go_ret
     exact⟨by rw [HE.out];rfl,rfl⟩
theorem ZlX (w : World) (x : Nat) : Calls Tryz.prog 141 #[.int .u8 (x : Int)] w fun e w' => e = .returned (.bool (!(x == 0))) ∧ w' = w := by
 by_cases h : x = 0
 · subst h
   go_enter Tryz.func141, Tryz.ntmps141
   go_wp2_with fail
   go_ret
   exact ⟨rfl, rfl⟩
 · have i1 : ¬ (x : Int) = 0 := by omega
   have i2 : (x == 0) = false := by simp [h]
   rw [i2]
   go_enter Tryz.func141, Tryz.ntmps141
   go_wp2_with fail
   go_ret
   exact ⟨by simp [h], rfl⟩
theorem Zkv (w:World)(a:Option Addr)(len cap:Nat)(xs:List Nat)(h:Bs w a len xs)(hbig:len≤1000000) :
    Calls Tryz.prog 158 #[.slice a len cap,.func (.func 141) #[] #[]] w fun e w'=>(∃z,e=.returned (.int .i64 z)∧decide (0≤z) = !(nul xs))∧w'=w:=by
  have HG:=hide h
  have HL:=hide h.1
  clear h
  go_enter Tryz.func158,Tryz.ntmps158
  go_wp2_with fail
  go_loopw [8] (fun iv wr=>wr=w∧∃i:Nat,i≤len∧iv=.int .i64 (i:Nat)∧Hid (∀j,j<i→xs.getD j 0=0)) (fun iv _=>len-(intOf iv).toNat)
  case atStart=>exact ⟨rfl,0,Nat.zero_le _,rfl,fun _ h=>absurd h (Nat.not_lt_zero _)⟩
  case round =>
   obtain⟨rfl,i,hi,rfl,hix⟩:=hrel
   rcases Nat.lt_or_ge i len with hlt | hge
   · have i1:(i:Int)<(len:Int):=by omega
     obtain⟨bb,oo,ha,c0⟩:=HG.out.2.2 i hlt
     subst ha
     obtain⟨x,hx⟩:∃x,x=xs.getD i 0:=⟨_,rfl⟩
     rw [← hx] at c0
     have HX:=hide hx
     have HCL:=hide (ZlX wr x)
     clear hx
     by_cases h0:x=0
     · rw [h0] at HCL c0
       have HE:Hid (∀j,j<i+1→xs.getD j 0=0):=by
        intro j hj
        by_cases e:j=i
        · rw [e,← HX.out];exact h0
        · exact hix.out j (by omega)
       clear hix HX h0
       go_wp2_with fail
       refine HCL.out.mono ?_
       rintro e w1 ⟨rfl,hw⟩
       obtain rfl:=hw.symm
       go_wp2_with fail
       go_roundw
       case rel=>exact ⟨trivial,i+1,by omega,by go_num,HE⟩
       case measure=>simp only [intOf];omega
     · have hb:(!(x == 0))=true:=by simp [h0]
       rw [hb] at HCL
       have HE:Hid (decide (0≤(i:Int)) = !(nul xs)):=by
        show _=_
        rw [Zoo (i:=i) (by rw [HL.out];exact hlt) (by rw [← HX.out];exact h0)]
        simp
       clear hix HX h0 hb
       go_wp2_with fail
       refine HCL.out.mono ?_
       rintro e w1 ⟨rfl,hw⟩
       obtain rfl:=hw.symm
       go_wp2_with fail
       go_ret
       exact⟨⟨_,rfl,HE.out⟩,rfl⟩
   · have i1:¬(i:Int)<(len:Int):=by omega
     have HE:Hid (decide (0≤(-1:Int)) = !(nul xs)):=by
      show _=_
      rw [Znv (fun j hj=>hix.out j (by rw [HL.out] at hj;omega))]
      rfl
     clear hix
     go_wp2_with fail
     go_ret
     exact⟨⟨_,rfl,HE.out⟩,rfl⟩
theorem ZiH {D : Nat → Prop} (w : World) (v : Sl) (l : List Sb) (h : Gb D w v l) :
    Calls Tryz.prog 91 #[v.val, .func (.func 92) #[] #[]] w fun e w' => e = .returned (.bool (decide (0 ≤ ixE (bss l)))) ∧ w' = w := by
  have HX := hide (Zku w v l h)
  clear h
  generalize ixE (bss l) = z at *
  unfold Sl.val at *
  by_cases hz : 0 ≤ z
  · rw [decide_eq_true hz]
    go_enter Tryz.func91, Tryz.ntmps91
    go_wp2_with fail
    refine HX.out.mono ?_
    rintro e w1 ⟨rfl, hw⟩
    obtain rfl := hw.symm
    go_wp2_with fail
    go_ret
    exact ⟨by simp, rfl⟩
  · rw [decide_eq_false hz]
    go_enter Tryz.func91, Tryz.ntmps91
    go_wp2_with fail
    refine HX.out.mono ?_
    rintro e w1 ⟨rfl, hw⟩
    obtain rfl := hw.symm
    go_wp2_with fail
    go_ret
    exact ⟨by simp [hz], rfl⟩
theorem ZiI (w:World)(a:Option Addr)(len cap:Nat)(xs:List Nat)(h:Bs w a len xs)(hbig:len≤1000000) :
    Calls Tryz.prog 140 #[.slice a len cap,.func (.func 141) #[] #[]] w fun e w'=>e=.returned (.bool (!(nul xs)))∧w'=w:=by
  have HX:=hide (Zkv w a len cap xs h hbig)
  clear h
  generalize nul xs=n at *
  go_enter Tryz.func140,Tryz.ntmps140
  go_wp2_with fail
  refine HX.out.mono ?_
  rintro e w1 ⟨⟨z,rfl,hz⟩,hw⟩
  obtain rfl:=hw.symm
  have HZ:=hide hz
  clear HX hz
  go_wp2_with fail
  go_ret
  exact⟨by rw [← HZ.out];rfl,rfl⟩
def ZnP (f : Lf) (e : Ending) : Prop := (MayL f ∧ e = .returned (.bool false)) ∨ (¬ MayL f ∧ e = .returned (.bool true))
theorem Zjm {D:Nat→Prop}(w:World)(u v:Sl)(t:List Int)(l:List Sb)(hi:Gi D w u t)(hg:Gb D w v l) :
    Calls Tryz.prog 70 #[lfV u v] w fun e w'=>ZnP ⟨t,bss l⟩ e∧Below w.heap.size w w':=by
  have hA:=Zaa w (.cells #[u.val,v.val] 67)
  have hk:=Zao w u.val v.val
  have c0:=hk.c0
  have c1:=hk.c1
  have HC:=hide (ZdC _ u v t l (hi.below hA (Nat.le_refl _)) (hg.below hA (Nat.le_refl _)))
  have HA:=hide hA
  clear hi hg hA hk
  obtain⟨a,len,cap⟩:=v
  obtain⟨ua,ul,uc⟩:=u
  unfold lfV Sl.val at *
  simp only at *
  go_enter Tryz.func70,Tryz.ntmps70
  go_wp2_with fail
  refine HC.out.mono ?_
  rintro e w1 ⟨hck,hb⟩
  have HB:=hide (Zac HA.out hb)
  clear hb HC HA
  rcases hck with ⟨hm,rfl⟩ | ⟨hm,rfl⟩
  · have HM:=hide hm
    clear hm
    go_wp2_with fail
    go_ret
    exact⟨.inl ⟨HM.out,rfl⟩,HB.out⟩
  · have HM:=hide hm
    clear hm
    go_wp2_with fail
    go_ret
    exact⟨.inr ⟨HM.out,rfl⟩,HB.out⟩
def IxNl (l : List Lf) (e : Ending) : Prop := ((∀ f ∈ l, MayL f) ∧ e = .returned (.int .i64 (-1))) ∨ ((¬ ∀ f ∈ l, MayL f) ∧ ∃ i : Nat, e = .returned (.int .i64 (i : Nat)))
theorem Zkw (w:World)(s:Sl)(L:List Lb)(h:Gl (fun _=>True) w s L) :
    Calls Tryz.prog 47 #[s.val,.func (.func 70) #[] #[]] w fun e w'=>IxNl (lfs L) e∧Below w.heap.size w w':=by
  obtain⟨a,len,cap⟩:=s
  have HE:=hide h
  have hl:L.length=len:=h.len
  have hbig:len≤900:=h.big
  have H0:=hide (Below.refl w.heap.size w)
  clear h
  have HL:=hide hl
  clear hl
  unfold Sl.val
  simp only
  go_enter Tryz.func47,Tryz.ntmps47
  go_wp2_with fail
  go_loopw [8] (fun iv wr=>∃i:Nat,i≤len∧iv=.int .i64 (i:Nat)∧Hid (∀j,j<i→MayL (lf (lfs L) j))∧Hid (Below w.heap.size w wr)) (fun iv _=>len-(intOf iv).toNat)
  case atStart=>exact ⟨0,Nat.zero_le _,rfl,fun j hj=>absurd hj (Nat.not_lt_zero _),H0⟩
  case round =>
   obtain⟨i,hi,rfl,hix,hbr⟩:=hrel
   rcases Nat.lt_or_ge i len with hlt | hge
   · have i1:(i:Int)<(len:Int):=by omega
     have hr:=HE.out.below hbr.out (Nat.le_refl _)
     have hlt':i<(Sl.mk a len cap).len:=hlt
     obtain⟨b1,off,ha,c0,c1⟩:=hr.cell i hlt'
     replace ha:a=some ⟨b1,off,none⟩:=ha
     subst ha
     have hit:=hr.at hlt'
     have hfe:=Zcl L i
     obtain⟨x,hx⟩:∃x,x=L.getD i Lb.zero:=⟨_,rfl⟩
     rw [← hx] at c0 c1 hit hfe
     have HCL:=hide (Zjm wr x.u x.v x.t x.l hit.1 hit.2)
     have HLD:=hide (ZaZ (b:=b1) (o:=off+i*2) c0 c1)
     have HFE:Hid (lf (lfs L) i=⟨x.t,bss x.l⟩):=hfe
     clear c0 c1 hit hr hx hfe
     go_wp2_with (refine Zas _ rfl 67 (.tmp 14) rfl (.pointer (some ⟨b1,off+i*2,none⟩)) (lfV x.u x.v) rfl HLD.out ?_)
     refine HCL.out.mono ?_
     rintro e w1 ⟨hns,hb1⟩
     have HB1:=hide (Zac hbr.out hb1)
     clear hb1 HCL HLD
     rcases hns with ⟨hm,rfl⟩ | ⟨hm,rfl⟩
     · have HN:Hid (∀j,j<i+1→MayL (lf (lfs L) j)):=by
        intro j hj
        by_cases e:j=i
        · rw [e,HFE.out];exact hm
        · exact hix.out j (by omega)
       clear hm hix HFE
       go_wp2_with fail
       go_roundw
       case rel=>exact ⟨i+1,by omega,by go_num,HN,HB1⟩
       case measure=>simp only [intOf];omega
     · have HF:Hid (¬ ∀f∈lfs L,MayL f):=fun hh=>hm (by rw [← HFE.out];exact hh _ (Zby (by rw [Za6,HL.out];exact hlt)))
       clear hm hix HFE
       go_wp2_with fail
       go_ret
       exact⟨.inr ⟨HF.out,i,rfl⟩,HB1.out⟩
   · have i1:¬(i:Int)<(len:Int):=by omega
     have HF:Hid (∀f∈lfs L,MayL f):=by
      intro f hf
      obtain⟨j,hj,rfl⟩:=List.getElem_of_mem hf
      have:=hix.out j (by rw [Za6,HL.out] at hj;omega)
      rwa [Zdo hj] at this
     clear hix
     go_wp2_with fail
     go_ret
     exact⟨.inl ⟨HF.out,rfl⟩,hbr.out⟩
theorem ZiJ (w:World)(s:Sl)(L:List Lb)(h:Gl (fun _=>True) w s L) :
    Calls Tryz.prog 69 #[s.val,.func (.func 70) #[] #[]] w fun e w'=>(((∀f∈lfs L,MayL f)∧e=.returned (.bool false))∨((¬ ∀f∈lfs L,MayL f)∧e=.returned (.bool true)))∧Below w.heap.size w w':=by
  have HX:=hide (Zkw w s L h)
  clear h
  unfold Sl.val at *
  go_enter Tryz.func69,Tryz.ntmps69
  go_wp2_with fail
  refine HX.out.mono ?_
  rintro e w1 ⟨hx,hb⟩
  have HB:=hide hb
  clear hb HX
  rcases hx with ⟨hm,rfl⟩ | ⟨hm,i,rfl⟩
  · have HM:=hide hm
    clear hm
    go_wp2_with fail
    go_ret
    exact⟨.inl ⟨HM.out,rfl⟩,HB.out⟩
  · have HM:=hide hm
    have hi0:(0:Int)≤(i:Int):=by omega
    clear hm
    go_wp2_with fail
    go_ret
    exact⟨.inr ⟨HM.out,rfl⟩,HB.out⟩
theorem Zmt {f:Lf}(hm:MayL f)(h52:∀x∈f.slots,x ≠ []→x.length=52){y:List Nat}(hy:y.length=52) :
    (insA f.slots y).e=0↔if 0≤ixE f.slots then need f.slots+52≤508 else need f.slots+52<508:=by
  unfold insA
  rw [if_neg (by omega)]
  rcases Zcc f.slots with ⟨he,hall⟩ | ⟨he,hz,hbe⟩
  · have hx:ixE f.slots = -1:=by unfold ixE;rw [if_pos he]
    rw [hx,if_neg (show ¬(0:Int) ≤ -1 by decide)]
    have hins:insS f.slots y=f.slots ++ [y]:=by unfold insS;rw [if_pos he]
    have hn:need (f.slots ++ [y])=need f.slots+53:=by unfold need;rw [Zfw,hy];omega
    have hlen:needS f.slots=53*f.slots.length:=by
     have h:∀(s:List (List Nat)),(∀x∈s,x.length=52)→needS s=53*s.length:=by
      intro s
      induction s with
      | nil=>intro _;rfl
      | cons x t ih =>
       intro hh
       have h1:=hh x List.mem_cons_self
       have h2:=ih (fun z hz=>hh z (List.mem_cons_of_mem _ hz))
       simp only [needS,List.length_cons,h1,h2]
       omega
     refine h _ (fun x hx=>h52 x hx ?_)
     obtain⟨i,hi,rfl⟩:=List.getElem_of_mem hx
     have:=hall i hi
     rw [ZcI hi] at this
     intro e
     rw [e] at this
     exact this rfl
    have hneed:=hm.need
    have hd:need f.slots=18+needS f.slots:=rfl
    rw [hins,hn]
    simp only [List.length_append,List.length_cons,List.length_nil]
    by_cases hr:508<need f.slots+53
    · rw [if_pos (.inr hr)]
      constructor
      · intro h;exact absurd h (show ¬(7:Int)=0 by decide)
      · intro h;omega
    · rw [if_neg (by omega)]
      constructor
      · intro _;omega
      · intro _;rfl
  · have hx:ixE f.slots=((atE f.slots:Nat):Int):=by unfold ixE;rw [if_neg (by omega)]
    rw [hx,if_pos (show (0:Int)≤((atE f.slots:Nat):Int) by omega)]
    have hins:insS f.slots y=f.slots.set (atE f.slots) y:=by unfold insS;rw [if_neg (by omega)]
    have hset:=ZgR f.slots (atE f.slots) y he
    rw [hz,hy] at hset
    have hn:need (f.slots.set (atE f.slots) y)=need f.slots+52:=by unfold need;omega
    have hlen:=hm.slots.1
    rw [hins,hn,List.length_set]
    by_cases hr:508<need f.slots+52
    · rw [if_pos (.inr hr)]
      constructor
      · intro h;exact absurd h (show ¬(7:Int)=0 by decide)
      · intro h;omega
    · rw [if_neg (by omega)]
      constructor
      · intro _;omega
      · intro _;rfl
theorem Zht {D:Nat→Prop}(w:World)(u v:Sl)(t:List Int)(l:List Sb)(hi:Gi D w u t)(hg:Gb D w v l)(hm:MayL ⟨t,bss l⟩)(h52:∀x∈bss l,x ≠ []→x.length=52)(y:List Nat)(hy:y.length=52) :
    Calls Tryz.prog 48 #[lfV u v] w fun e w'=>e=.returned (.bool (decide ((insA (bss l) y).e=0)))∧Below w.heap.size w w':=by
  have hri:=Zmt hm h52 hy
  have hA:=Zaa w (.cells #[u.val,v.val] 67)
  have hk:=Zao w u.val v.val
  have c0:=hk.c0
  have c1:=hk.c1
  have HE:=hide (ZiH _ v l (hg.below hA (Nat.le_refl _)))
  have HR:=hide (Zmu _ u v t l (hi.below hA (Nat.le_refl _)) (hg.below hA (Nat.le_refl _)) hm)
  have HA:=hide hA
  have hn5:need (bss l)≤508:=hm.need
  obtain⟨n,hn⟩:∃n,n=need (bss l):=⟨_,rfl⟩
  have hri2:(insA (bss l) y).e=0↔if 0≤ixE (bss l) then need (bss l)+52≤508 else need (bss l)+52<508:=hri
  rw [← hn] at hri2 hn5 HR
  obtain⟨r,hr⟩:∃r:Bool,r=decide ((insA (bss l) y).e=0):=⟨_,rfl⟩
  rw [← hr]
  have HRI:Hid ((0≤ixE (bss l)→r=decide (n+52≤508))∧(¬0≤ixE (bss l)→r=decide (n+52<508))):=by
   refine⟨fun h=>?_,fun h=>?_⟩
   · rw [if_pos h] at hri2;rw [hr];exact decide_eq_decide.2 hri2
   · rw [if_neg h] at hri2;rw [hr];exact decide_eq_decide.2 hri2
  clear hi hg hA hk hri hri2 hn hr hm h52
  obtain⟨a,len,cap⟩:=v
  obtain⟨ua,ul,uc⟩:=u
  unfold lfV Sl.val at *
  simp only at *
  generalize ixE (bss l)=z at *
  by_cases hz:0≤z
  · rw [decide_eq_true hz] at HE
    have HR3:=hide (HRI.out.1 hz)
    clear HRI hz
    go_enter Tryz.func48,Tryz.ntmps48
    go_wp2_with fail
    refine HE.out.mono ?_
    rintro e w1 ⟨rfl,hw⟩
    obtain rfl:=hw.symm
    go_wp2_with fail
    refine HR.out.mono ?_
    rintro e w2 ⟨rfl,hb⟩
    have HB:=hide (Zac HA.out hb)
    clear hb
    go_wp2_with fail
    go_ret
    refine⟨?_,HB.out⟩
    rw [HR3.out]
    refine congrArg (fun b=>Ending.returned (Value.bool b)) (?_:decide ((52:Int)≤508-(n:Int))=_)
    exact decide_eq_decide.2 (by omega)
  · rw [decide_eq_false hz] at HE
    have HR3:=hide (HRI.out.2 hz)
    clear HRI hz
    go_enter Tryz.func48,Tryz.ntmps48
    go_wp2_with fail
    refine HE.out.mono ?_
    rintro e w1 ⟨rfl,hw⟩
    obtain rfl:=hw.symm
    go_wp2_with fail
    refine HR.out.mono ?_
    rintro e w2 ⟨rfl,hb⟩
    have HB:=hide (Zac HA.out hb)
    clear hb
    go_wp2_with fail
    go_ret
    refine⟨?_,HB.out⟩
    rw [HR3.out]
    refine congrArg (fun b=>Ending.returned (Value.bool b)) (?_:decide ((52:Int)<508-(n:Int))=_)
    exact decide_eq_decide.2 (by omega)
def rmI : Option Nat → Int
  | none => -1
  | some i => i
theorem Zkx (w:World)(s:Sl)(L:List Lb)(h:Gl (fun _=>True) w s L)(hm:MayH (lfs L))(y:List Nat)(hy:y.length=52) :
    Calls Tryz.prog 47 #[s.val,.func (.func 48) #[] #[]] w fun e w'=>e=.returned (.int .i64 (rmI (roomH y (lfs L) 0)))∧Below w.heap.size w w':=by
  obtain⟨a,len,cap⟩:=s
  have HE:=hide h
  have hl:L.length=len:=h.len
  have hbig:len≤900:=h.big
  have H0:=hide (Below.refl w.heap.size w)
  clear h
  have HL:=hide hl
  have HM:Hid (∀f∈lfs L,MayL f∧∀x∈f.slots,x ≠ []→x.length=52):=fun f hf=>⟨hm.leaf f hf,fun x hx hn=>by
   cases hd:decH x with
   | none=>exact absurd hd (hm.rows f hf x hx hn)
   | some r=>exact (Zdb hd).1⟩
  clear hl hm
  obtain⟨R,hR⟩:∃R,R=rmI (roomH y (lfs L) 0):=⟨_,rfl⟩
  rw [← hR]
  have HR:=hide hR
  clear hR
  unfold Sl.val
  simp only
  go_enter Tryz.func47,Tryz.ntmps47
  go_wp2_with fail
  go_loopw [8] (fun iv wr=>∃i:Nat,i≤len∧iv=.int .i64 (i:Nat)∧Hid (∀j,j<i→(insA (lf (lfs L) j).slots y).e≠0)∧Hid (Below w.heap.size w wr)) (fun iv _=>len-(intOf iv).toNat)
  case atStart=>exact ⟨0,Nat.zero_le _,rfl,fun j hj=>absurd hj (Nat.not_lt_zero _),H0⟩
  case round =>
   obtain⟨i,hi,rfl,hix,hbr⟩:=hrel
   rcases Nat.lt_or_ge i len with hlt | hge
   · have i1:(i:Int)<(len:Int):=by omega
     have hr:=HE.out.below hbr.out (Nat.le_refl _)
     have hlt':i<(Sl.mk a len cap).len:=hlt
     obtain⟨b1,off,ha,c0,c1⟩:=hr.cell i hlt'
     replace ha:a=some ⟨b1,off,none⟩:=ha
     subst ha
     have hit:=hr.at hlt'
     have hfe:=Zcl L i
     obtain⟨x,hx⟩:∃x,x=L.getD i Lb.zero:=⟨_,rfl⟩
     rw [← hx] at c0 c1 hit hfe
     have HFE:Hid (lf (lfs L) i=⟨x.t,bss x.l⟩):=hfe
     have hmf:=HM.out _ (Zby (l:=lfs L) (i:=i) (by rw [Za6,HL.out];exact hlt))
     rw [HFE.out] at hmf
     have HCL:=hide (Zht wr x.u x.v x.t x.l hit.1 hit.2 hmf.1 hmf.2 y hy)
     have HLD:=hide (ZaZ (b:=b1) (o:=off+i*2) c0 c1)
     clear c0 c1 hit hr hx hfe hmf
     cases hon:decide ((insA (bss x.l) y).e=0) with
     | true =>
      rw [hon] at HCL
      have HF:Hid (R=(i:Int)):=by
       show _=_
       rw [HR.out,Zms (l:=lfs L) (j:=i) (by rw [Za6,HL.out];exact hlt) (by rw [HFE.out];exact of_decide_eq_true hon) (fun k hk=>hix.out k hk)]
       rfl
      clear hix HFE hon
      go_wp2_with (refine Zas _ rfl 67 (.tmp 14) rfl (.pointer (some ⟨b1,off+i*2,none⟩)) (lfV x.u x.v) rfl HLD.out ?_)
      refine HCL.out.mono ?_
      rintro e w1 ⟨rfl,hb1⟩
      have HB1:=hide (Zac hbr.out hb1)
      clear hb1 HCL HLD
      go_wp2_with fail
      go_ret
      exact⟨by rw [HF.out];rfl,HB1.out⟩
     | false =>
      rw [hon] at HCL
      have HN:Hid (∀j,j<i+1→(insA (lf (lfs L) j).slots y).e≠0):=by
       intro j hj
       by_cases e:j=i
       · rw [e,HFE.out];exact of_decide_eq_false hon
       · exact hix.out j (by omega)
      clear hix HFE hon
      go_wp2_with (refine Zas _ rfl 67 (.tmp 14) rfl (.pointer (some ⟨b1,off+i*2,none⟩)) (lfV x.u x.v) rfl HLD.out ?_)
      refine HCL.out.mono ?_
      rintro e w1 ⟨rfl,hb1⟩
      have HB1:=hide (Zac hbr.out hb1)
      clear hb1 HCL HLD
      go_wp2_with fail
      go_roundw
      case rel=>exact ⟨i+1,by omega,by go_num,HN,HB1⟩
      case measure=>simp only [intOf];omega
   · have i1:¬(i:Int)<(len:Int):=by omega
     have HF:Hid (R = -1):=by
      show _=_
      rw [HR.out,Zc7.2 (fun k hk=>hix.out k (by rw [Za6,HL.out] at hk;omega))]
      rfl
     clear hix
     go_wp2_with fail
     go_ret
     exact⟨by rw [HF.out];rfl,hbr.out⟩
theorem Zon (h : nul xs = true) : xs = List.replicate xs.length 0 := by
 rw [List.eq_replicate_iff]
 refine ⟨rfl, fun x hx => ?_⟩
 unfold nul at h
 have := List.all_eq_true.1 h x hx
 simpa using this
theorem Zjn (n : Nat) : nul (List.replicate n 0) = true := by
 unfold nul
 rw [List.all_eq_true]
 intro x hx
 rw [(List.mem_replicate.1 hx).2]
 rfl
theorem ZmY (hn:nul (xs.drop (20+8*xs.getD 19 0))=false):decH xs=none:=by
 cases hd:decH xs with
 | none=>rfl
 | some r =>
  obtain⟨h1,h2,h3,h4⟩:=Zdb hd
  have hm:=Zee h3
  have h19:=Zkr hm
  rw [h4] at h19
  have hl:=Zb5 r
  have:xs.drop (20+8*xs.getD 19 0)=List.replicate (52-r.bytes.length) 0:=by
   rw [h19,← h4,← hl]
   unfold hpB
   rw [List.drop_left]
  rw [this,Zjn] at hn
  cases hn
theorem ZnS (hx : Bytes xs) (h1 : xs.length = 52) (h4 : xs.getD 19 0 ≤ 4) (hn : nul (xs.drop (20 + 8 * xs.getD 19 0)) = true) {r : Rw} (h : decB (xs.take (20 + 8 * xs.getD 19 0)) = some r) : decH xs = some r := by
 refine Zih h1 h4 h ?_
 have hc := Zg1 (fun x hh => hx x (List.mem_of_mem_take hh)) h
 have hz := Zon hn
 unfold hpB
 rw [hc, List.length_take, Nat.min_eq_left (by omega)]
 rw [List.length_drop, h1] at hz
 rw [← hz, List.take_append_drop]
theorem Zlg (a:Option Addr)(len cap:Nat)(xs:List Nat)(w:World)(h:Came w a len cap xs)(hl:len≠52) :
    Calls Tryz.prog 110 #[.slice a len cap] w (ZaX xs w):=by
  have hsf:∀(w:World) (a:Addr) (m:Mode) (x:Nat),(store a (.float .f64 x) m).run Tryz.prog w=stored Tryz.prog w a (.float .f64 x) m:=fun w a m x=>run_store Tryz.prog w a _ m rfl
  have HZ:=hide (Zag w zeroR (.slice none 0 0))
  have HW:=hide (Zaa w (.cells #[.float .f64 0,.bool false,.slice none 0 0,.int .i64 0,.int .i64 0,.int .i64 0] 33))
  have HN:=hide (Zgy (xs:=xs) (by rw [h.bs.1];exact hl))
  have i1:¬(len:Int)=52:=by omega
  have i2:((len:Int) == 52)=false:=beq_eq_false_iff_ne.2 i1
  clear h
  go_enter Tryz.func110,Tryz.ntmps110
  go_wp2_with fail
  refine bodyPost_ret (ZaD rfl HZ.out _ _ rfl rfl ⟨_,_,_,rfl⟩) rfl ?_
  exact ZaX.no HN.out HW.out
theorem Zj1 (a:Option Addr)(cap:Nat)(xs:List Nat)(w:World)(h:Came w a 52 cap xs)(h4:4<xs.getD 19 0) :
    Calls Tryz.prog 110 #[.slice a 52 cap] w (ZaX xs w):=by
  have hsf:∀(w:World) (a:Addr) (m:Mode) (x:Nat),(store a (.float .f64 x) m).run Tryz.prog w=stored Tryz.prog w a (.float .f64 x) m:=fun w a m x=>run_store Tryz.prog w a _ m rfl
  have HZ:=hide (Zag w zeroR (.slice none 0 0))
  have HW:=hide (Zaa w (.cells #[.float .f64 0,.bool false,.slice none 0 0,.int .i64 0,.int .i64 0,.int .i64 0] 33))
  have HN:=hide (Zgz (xs:=xs) h4)
  have hb:xs.getD 19 0<256:=by
   have hl:=h.bs.1
   have:=h.bs.2.1 (xs.getD 19 0) (by simp [List.getD,show 19<xs.length by omega])
   omega
  obtain⟨b,off,rfl,c19⟩:=(h.bs.keep HW.out (Nat.le_refl _)).2.2 19 (by omega)
  generalize xs.getD 19 0=n at *
  have i2:(52:Int)<20+8*(n:Int):=by omega
  have hw1:IntKind.i64.wrap (8*(n:Int))=8*(n:Int):=by rw [IntKind.wrap_i64];omega
  have hw2:IntKind.i64.wrap (20+8*(n:Int))=20+8*(n:Int):=by rw [IntKind.wrap_i64];omega
  have hw3:IntKind.i64.wrap (n:Int)=(n:Int):=by rw [IntKind.wrap_i64];omega
  clear h
  go_enter Tryz.func110,Tryz.ntmps110
  go_wp2_with fail
  refine bodyPost_ret (ZaD rfl HZ.out _ _ rfl rfl ⟨_,_,_,rfl⟩) rfl ?_
  exact ZaX.no HN.out HW.out
theorem Zj2 (a:Option Addr)(cap:Nat)(xs:List Nat)(w:World)(h:Came w a 52 cap xs)(h4:xs.getD 19 0≤4) :
    Calls Tryz.prog 110 #[.slice a 52 cap] w (ZaX xs w):=by
  have hsf:∀(w:World) (a:Addr) (m:Mode) (x:Nat),(store a (.float .f64 x) m).run Tryz.prog w=stored Tryz.prog w a (.float .f64 x) m:=fun w a m x=>run_store Tryz.prog w a _ m rfl
  have HZ:=hide (Zag w zeroR (.slice none 0 0))
  have HW:=hide (Zaa w (.cells #[.float .f64 0,.bool false,.slice none 0 0,.int .i64 0,.int .i64 0,.int .i64 0] 33))
  have HXL:Hid (xs.length=52):=h.bs.1
  have HXB:=hide h.bs.2.1
  have HC:=hide h
  have HNO:=hide (ZjY (xs:=xs))
  have HNZ:=hide (ZmY (xs:=xs))
  have HYES:Hid (nul (xs.drop (20+8*xs.getD 19 0))=true→∀r,decB (xs.take (20+8*xs.getD 19 0))=some r→decH xs=some r):=fun hn r hr=>ZnS HXB.out HXL.out h4 hn hr
  have hbs:=h.bs.keep HW.out (Nat.le_refl _)
  have hfrom:=hbs.from (cap:=cap) (k:=20+8*xs.getD 19 0) (by omega) h.le
  have HCN:=hide (ZiI _ _ _ (cap-(20+8*xs.getD 19 0)) _ hfrom (by omega))
  obtain⟨b,off,rfl,c19⟩:=hbs.2.2 19 (by omega)
  have HT:=hide ((HC.out.keep HW.out (Nat.le_refl _)).top (k:=20+8*xs.getD 19 0) (by omega))
  clear hbs hfrom
  generalize xs.getD 19 0=n at *
  have i2:¬(52:Int)<20+8*(n:Int):=by omega
  have hfa:fromA (some ⟨b,off,none⟩) cap 0=some ⟨b,off,none⟩:=by unfold fromA;have:=HC.out.le;rw [if_neg (by omega)];rfl
  rw [hfa] at HT
  have HD:=hide (ZiL (some ⟨b,off,none⟩) (20+8*n) cap (xs.take (20+8*n)) _ HT.out (by omega))
  have hcap:52≤cap:=HC.out.le
  have hsl:∀w:World,(Instr.sliceAt 56 (.slice (some ⟨b,off,none⟩) 52 cap) none (some (.int .i64 (20+8*(n:Int)))) none).run Tryz.prog w=.ok (.slice (some ⟨b,off,none⟩) (20+8*n) cap) w:=by
   intro w
   have:=Zf8 (some ⟨b,off,none⟩) 52 cap (20+8*n) (by omega) w
   rw [hfa,show ((20+8*n:Nat):Int)=20+8*(n:Int) by omega] at this
   exact this
  obtain⟨fa,hfe⟩:∃fa,fa=fromA (some ⟨b,off,none⟩) cap (20+8*n):=⟨_,rfl⟩
  obtain⟨fl,hfl⟩:∃fl,fl=52-(20+8*n):=⟨_,rfl⟩
  obtain⟨fc,hfc⟩:∃fc,fc=cap-(20+8*n):=⟨_,rfl⟩
  have hsf2:∀w:World,(Instr.sliceAt 56 (.slice (some ⟨b,off,none⟩) 52 cap) (some (.int .i64 (20+8*(n:Int)))) none none).run Tryz.prog w=.ok (.slice fa fl fc) w:=by
   intro w
   have:=Zc9 (some ⟨b,off,none⟩) 52 cap (20+8*n) (by omega) w
   rw [← hfe,← hfl,← hfc,show ((20+8*n:Nat):Int)=20+8*(n:Int) by omega] at this
   exact this
  rw [← hfe,← hfl,← hfc] at HCN
  have hw1:IntKind.i64.wrap (8*(n:Int))=8*(n:Int):=by rw [IntKind.wrap_i64];omega
  have hw2:IntKind.i64.wrap (20+8*(n:Int))=20+8*(n:Int):=by rw [IntKind.wrap_i64];omega
  have hw3:IntKind.i64.wrap (n:Int)=(n:Int):=by rw [IntKind.wrap_i64];omega
  clear h hfa HT hfe hfl hfc
  cases hnu:nul (xs.drop (20+8*n)) with
  | false =>
   rw [hnu] at HCN
   have HN:=hide (HNZ.out hnu)
   clear hnu HNZ HYES HNO HD
   go_enter Tryz.func110,Tryz.ntmps110
   go_wp2_with fail
   refine HCN.out.mono ?_
   rintro e w1 ⟨rfl,hw⟩
   obtain rfl:=hw.symm
   go_wp2_with fail
   refine bodyPost_ret (ZaD rfl HZ.out _ _ rfl rfl ⟨_,_,_,rfl⟩) rfl ?_
   exact ZaX.no HN.out HW.out
  | true =>
   rw [hnu] at HCN
   have HYES2:=hide (HYES.out hnu)
   clear hnu HNZ HYES
   go_enter Tryz.func110,Tryz.ntmps110
   go_wp2_with fail
   refine HCN.out.mono ?_
   rintro e w1 ⟨rfl,hw⟩
   obtain rfl:=hw.symm
   go_wp2_with fail
   refine HD.out.mono ?_
   intro e w1 hr
   have HB1:=hide (Zac HW.out hr.1)
   have HZ1:=hide (HZ.out.keep hr.1)
   cases hd:decB (xs.take (20+8*n)) with
   | none =>
    have HN:=hide (HNO.out hd)
    have hre:=hr.2.1 hd
    subst hre
    have HBN:=hide (Zaa w1 (.cells #[.float .f64 zeroR.key,.bool zeroR.dead,.slice none 0 0,.int .i64 zeroR.wr,.int .i64 zeroR.cell,.int .i64 zeroR.no] 33))
    clear hr hd HNO HYES2 HD c19 HCN
    unfold ZcF
    have HBX:Hid (Below w.heap.size w (w1.alloc (.cells #[.float .f64 zeroR.key,.bool zeroR.dead,.slice none 0 0,.int .i64 zeroR.wr,.int .i64 zeroR.cell,.int .i64 zeroR.no] 33))):=Zac HB1.out HBN.out
    have HZX:=hide (HZ1.out.keep HBN.out)
    unfold zeroR at HBX HZX HBN
    simp only at HBX HZX HBN
    have HXN:=hide (Zag w1 zeroR (.slice none 0 0))
    unfold zeroR at HXN
    simp only at HXN
    generalize hWX:w1.alloc (.cells #[.float .f64 0,.bool false,.slice none 0 0,.int .i64 0,.int .i64 0,.int .i64 0] 33)=WX at HBX HZX HXN
    have HWX:=hide hWX
    clear hWX
    have z0:=HZX.out.c0
    have z1:=HZX.out.c1
    have z2:=HZX.out.c2
    have z3:=HZX.out.c3
    have z4:=HZX.out.c4
    have z5:=HZX.out.c5
    have f0:=HZX.out.fz
    have x0:=HXN.out.c0
    have x1:=HXN.out.c1
    have x2:=HXN.out.c2
    have x3:=HXN.out.c3
    have x4:=HXN.out.c4
    have x5:=HXN.out.c5
    simp only at z0 z1 z3 z4 z5 x0 x1 x3 x4 x5
    go_upto_region 7 with fail
    rw [HWX.out]
    go_wp2_with fail
    show bodyPost Tryz.prog Tryz.f110 _ Exit.ret _ (setRw WX w.heap.size zeroR (.slice none 0 0))
    refine ZbU rfl HZX.out zeroR (.slice none 0 0) (.bool false) ⟨_,_,_,rfl⟩ (by rfl) (by rfl) (by rfl) ?_
    exact ZaX.no HN.out (Zam HBX.out (Nat.le_refl _) _ _)
   | some r =>
    obtain⟨hrf,ra,rl,rc,hre,hfs,hown⟩:=hr.2.2 r hd
    subst hre
    have HY:=hide (HYES2.out r hd)
    have HFit:=hide hrf
    have hbn:=Zaa w1 (.cells #[.float .f64 r.key,.bool r.dead,.slice ra rl rc,.int .i64 r.wr,.int .i64 r.cell,.int .i64 r.no] 33)
    have HBX:=hide (Zac HB1.out hbn)
    have HZX:=hide (HZ1.out.keep hbn)
    have HXN:=hide (Zag w1 r (.slice ra rl rc))
    have HON:=hide ((hown.lower (b':=w.heap.size) HW.out.size).keep hbn (Nat.le_refl _))
    have hmay:=Zee hd
    have hx4:=(Rw.may_parts hmay).2.1
    have hxl5:rl=r.xs.length:=(hfs.len).symm
    have HXL5:Hid (r.xs.length≤100):=by show _≤_;omega
    unfold Rw.val
    generalize hWX:w1.alloc (.cells #[.float .f64 r.key,.bool r.dead,.slice ra rl rc,.int .i64 r.wr,.int .i64 r.cell,.int .i64 r.no] 33)=WX at HBX HZX HXN HON
    have HWX:=hide hWX
    clear hWX hr hd HNO HYES2 HD c19 HCN hrf hfs hown hbn hmay hx4 hxl5
    have z0:=HZX.out.c0
    have z1:=HZX.out.c1
    have z2:=HZX.out.c2
    have z3:=HZX.out.c3
    have z4:=HZX.out.c4
    have z5:=HZX.out.c5
    have f0:=HZX.out.fz
    simp only [zeroR] at z0 z1 z3 z4 z5
    have x0:=HXN.out.c0
    have x1:=HXN.out.c1
    have x2:=HXN.out.c2
    have x3:=HXN.out.c3
    have x4:=HXN.out.c4
    have x5:=HXN.out.c5
    go_upto_region 7 with fail
    rw [HWX.out]
    go_wp2_with fail
    show bodyPost Tryz.prog Tryz.f110 _ Exit.ret _ (setRw WX w.heap.size r (.slice ra rl rc))
    refine ZbU rfl HZX.out r (.slice ra rl rc) (.bool true) ⟨_,_,_,rfl⟩ (by rfl) (by rfl) (by rfl) ?_
    refine⟨Zam HBX.out (Nat.le_refl _) _ _,(fun h=>by rw [HY.out] at h;cases h),fun q h=>?_⟩
    rw [HY.out] at h
    simp only [Option.some.injEq] at h
    subst h
    exact⟨HFit.out,ra,rl,rc,rfl,(HON.out.setRw HZX.out _ _).fsAt HFit.out.xs (by have:=HXL5.out;omega),HON.out.setRw HZX.out _ _⟩
theorem Zlf (a : Option Addr) (len cap : Nat) (xs : List Nat) (w : World) (h : Came w a len cap xs) :
    Calls Tryz.prog 110 #[.slice a len cap] w (ZaX xs w) := by
  by_cases hl : len = 52
  · subst hl
    rcases Nat.lt_or_ge 4 (xs.getD 19 0) with h4 | h4
    · exact Zj1 a cap xs w h h4
    · exact Zj2 a cap xs w h h4
  · exact Zlg a len cap xs w h hl
end Go.Proofs.YtdojdcncncgncaaGreat
