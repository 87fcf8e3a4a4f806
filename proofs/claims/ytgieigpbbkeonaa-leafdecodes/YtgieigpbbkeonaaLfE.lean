/-
  Layer 8: the document's Same.
-/
import Derived.Test.YtgieigpbbkeonaaLfD
namespace Go.Proofs.Ytgieigpbbkeonaa
open Go.RowKit

/-- Are leaves alike? -/
def sameLB (t : List Int) (s : List (List Nat)) (t2 : List Int) (s2 : List (List Nat)) : Bool := decide (t = t2) && decide (s = s2)
theorem sameLB_iff {t t2 : List Int} {s s2 : List (List Nat)} : sameLB t s t2 s2 = true ↔ t = t2 ∧ s = s2 := by unfold sameLB; simp
theorem sameLB_no {t t2 : List Int} {s s2 : List (List Nat)} (h : ¬ (t = t2 ∧ s = s2)) : sameLB t s t2 s2 = false := by
  cases hh : sameLB t s t2 s2 with
  | false => rfl
  | true => exact absurd (sameLB_iff.1 hh) h
theorem ints_ext {t t2 : List Int} (hl : t.length = t2.length) (h : ∀ i, i < t.length → t.getD i 0 = t2.getD i 0) : t = t2 := by
  apply List.ext_getElem hl
  intro i h1 h2
  have := h i h1
  simpa [List.getD, h1, h2] using this
theorem str_is {xs ys : List Nat} (hx : Bytes xs) (hy : Bytes ys) : ((bstr xs).toList == (bstr ys).toList) = decide (xs = ys) := by
  by_cases h : xs = ys
  · rw [h, decide_eq_true rfl]
    simp
  · rw [str_ne hx hy h, decide_eq_false h]

set_option maxHeartbeats 8000000 in
set_option maxRecDepth 100000 in
theorem rlsame_any {D E : Nat → Prop} (w : World) (u v : Sl) (t : List Int) (l : List Sb) (hi : Gi D w u t) (hg : Gb D w v l) (u2 v2 : Sl) (t2 : List Int) (l2 : List Sb) (hi2 : Gi E w u2 t2) (hg2 : Gb E w v2 l2) :
    Calls Try.prog 17 #[lfV u v, lfV u2 v2] w fun e w' => e = .returned (.bool (sameLB t (bss l) t2 (bss l2))) ∧ Below w.heap.size w w' := by
  obtain ⟨a, len, cap⟩ := v
  obtain ⟨ua, ul, uc⟩ := u
  obtain ⟨a2, len2, cap2⟩ := v2
  obtain ⟨ua2, ul2, uc2⟩ := u2
  have hl : l.length = len := hg.len
  have hl2 : l2.length = len2 := hg2.len
  have ht : t.length = ul := hi.len
  have ht2 : t2.length = ul2 := hi2.len
  have hb1 : len ≤ 1000 := hg.big
  have hb2 : len2 ≤ 1000 := hg2.big
  have hb3 : ul ≤ 1000000 := hi.big
  have hb4 : ul2 ≤ 1000000 := hi2.big
  have hA1 := below_alloc w (.cells #[.slice ua ul uc, .slice a len cap] 25)
  have hA2 := below_alloc (w.alloc (.cells #[.slice ua ul uc, .slice a len cap] 25)) (.cells #[.slice ua2 ul2 uc2, .slice a2 len2 cap2] 25)
  have hA := rBelow hA1 hA2
  have HA := hide hA
  have HK := hide ((lfBlk_new w (.slice ua ul uc) (.slice a len cap)).below hA2)
  have HK2 := hide (lfBlk_new (w.alloc (.cells #[.slice ua ul uc, .slice a len cap] 25)) (.slice ua2 ul2 uc2) (.slice a2 len2 cap2))
  rw [alloc_size] at HK2
  have HG := hide (hg.below hA (Nat.le_refl _))
  have HG2 := hide (hg2.below hA (Nat.le_refl _))
  have HI := hide (hi.below hA (Nat.le_refl _))
  have HI2 := hide (hi2.below hA (Nat.le_refl _))
  by_cases hne : ul = ul2 ∧ len = len2
  · obtain ⟨e1, e2⟩ := hne
    subst e1
    subst e2
    have HL := hide hl
    have HL2 := hide hl2
    have HT := hide ht
    have HT2 := hide ht2
    have H0I : Hid (∀ j, j < 0 → t.getD j 0 = t2.getD j 0) := fun j hj => absurd hj (Nat.not_lt_zero _)
    clear hg hg2 hi hi2 hl hl2 ht ht2 hA1 hA2 hA hb2 hb4
    unfold lfV Sl.val
    simp only
    go_enter Try.func17, Try.ntmps17
    go_wp2_with fail
    generalize (w.alloc (.cells #[.slice ua ul uc, .slice a len cap] 25)).alloc (.cells #[.slice ua2 ul uc2, .slice a2 len cap2] 25) = W at *
    have H0 := hide (Below.refl W.heap.size W)
    go_loopw [5] (fun iv wr => ∃ i : Nat, i ≤ ul ∧ iv = .int .i64 (i : Nat) ∧ Hid (Below W.heap.size W wr) ∧ Hid (∀ j, j < i → t.getD j 0 = t2.getD j 0)) (fun iv _ => ul - (intOf iv).toNat)
    case atStart => exact ⟨0, Nat.zero_le _, rfl, H0, H0I⟩
    case round =>
      obtain ⟨i, hi, rfl, hbr, hix⟩ := hrel
      have hkb := HK.out.below hbr.out
      have c0 := hkb.c0
      have HKB := hide hkb
      have HKB2 := hide (HK2.out.below hbr.out)
      rcases Nat.lt_or_ge i ul with hlt | hge
      · have i1 : ((i : Nat) : Int) < ((ul : Nat) : Int) := by omega
        clear hkb
        obtain ⟨bb, oo, ha, hcx⟩ := (HI.out.below hbr.out (Nat.le_refl _)).cell i hlt
        replace ha : ua = some ⟨bb, oo, none⟩ := ha
        subst ha
        obtain ⟨bb2, oo2, ha2, hcy⟩ := (HI2.out.below hbr.out (Nat.le_refl _)).cell i hlt
        replace ha2 : ua2 = some ⟨bb2, oo2, none⟩ := ha2
        subst ha2
        have HCX := hide hcx
        have HCY := hide hcy
        clear hcx hcy
        by_cases hxy : t.getD i 0 = t2.getD i 0
        · have HIX : Hid (∀ j, j < i + 1 → t.getD j 0 = t2.getD j 0) := by
            intro j hj
            by_cases e : j = i
            · rw [e]; exact hxy
            · exact hix.out j (by omega)
          have HXY := hide hxy
          clear hxy hix
          go_wp2_with fail
          refine Pl.region_is (ops := Pl.find 6 ((Try.f17.body).getD .skip)) (by kernel_rfl) ?_
          refine lsame6E _ w.heap.size (w.heap.size + 1) bb oo ul uc bb2 oo2 ul uc2 i _ _ (t.getD i 0) (t2.getD i 0) hlt hlt HKB.out HKB2.out HCX.out HCY.out (fun h => h HXY.out) (by rfl) rfl (by rfl) (by rfl) (by rfl) ?_
          intro u1 w2 hb2
          simp only [Act.put, List.setIfInBounds_toArray, List.set_cons_zero, List.set_cons_succ]
          have HB2 := hide (rBelow hbr.out hb2)
          clear hb2 HCX HCY HKB HKB2
          go_wp2_with fail
          go_roundw
          case rel => exact ⟨i + 1, by omega, by go_num, HB2, HIX⟩
          case measure => simp only [intOf]; omega
        · have HE := hide (sameLB_no (t := t) (t2 := t2) (s := bss l) (s2 := bss l2) (fun h => hxy (by rw [h.1])))
          have HXY := hide hxy
          clear hxy hix
          go_wp2_with fail
          refine Pl.region_is (ops := Pl.find 6 ((Try.f17.body).getD .skip)) (by kernel_rfl) ?_
          refine lsame6N _ w.heap.size (w.heap.size + 1) bb oo ul uc bb2 oo2 ul uc2 i _ _ (t.getD i 0) (t2.getD i 0) hlt hlt HKB.out HKB2.out HCX.out HCY.out HXY.out (by rfl) rfl (by rfl) (by rfl) (by rfl) ?_
          intro u1 w2 hb2
          simp only [Act.put, List.setIfInBounds_toArray, List.set_cons_zero, List.set_cons_succ]
          have HB2 := hide (rBelow HA.out (rBelow hbr.out hb2))
          clear hb2 HCX HCY HKB HKB2
          go_wp2_with fail
          go_ret
          exact ⟨by rw [HE.out]; rfl, HB2.out⟩
      · have i1 : ¬ ((i : Nat) : Int) < ((ul : Nat) : Int) := by omega
        have HTE : Hid (t = t2) := ints_ext (by rw [HT.out, HT2.out]) (fun j hj => hix.out j (by rw [HT.out] at hj; omega))
        have c1 := hkb.c1
        clear hkb hix
        go_wp2_with fail
        go_loopw [6] (fun iv wz => ∃ k : Nat, k ≤ len ∧ iv = .int .i64 (k : Nat) ∧ Hid (Below W.heap.size W wz) ∧ Hid (∀ j, j < k → sl (bss l) j = sl (bss l2) j)) (fun iv _ => len - (intOf iv).toNat)
        case atStart => exact ⟨0, Nat.zero_le _, rfl, hbr, fun _ h => absurd h (Nat.not_lt_zero _)⟩
        case round =>
          rename World => wo
          obtain ⟨k, hkl, rfl, hbz, hsx⟩ := hrel
          have hkz := HK.out.below hbz.out
          have d1 := hkz.c1
          have HKz := hide hkz
          have HKz2 := hide (HK2.out.below hbz.out)
          clear hkz
          rcases Nat.lt_or_ge k len with hlk | hgk
          · have i2 : ((k : Nat) : Int) < ((len : Nat) : Int) := by omega
            have hgz := HG.out.below hbz.out (Nat.le_refl _)
            have hgz2 := HG2.out.below hbz.out (Nat.le_refl _)
            obtain ⟨bb, oo, ha, hcx⟩ := hgz.cell k hlk
            replace ha : a = some ⟨bb, oo, none⟩ := ha
            subst ha
            obtain ⟨bb2, oo2, ha2, hcy⟩ := hgz2.cell k hlk
            replace ha2 : a2 = some ⟨bb2, oo2, none⟩ := ha2
            subst ha2
            have hm := (hgz.at hlk).1
            have hm2 := (hgz2.at hlk).1
            have HST := hide (str_is hm.came.bs.2.1 hm2.came.bs.2.1)
            have HCX := hide hcx
            have HCY := hide hcy
            have HM1 := hide hm.came.bs
            have HM2 := hide hm2.came.bs
            clear hgz hgz2 hcx hcy hm hm2
            by_cases hxy : sl (bss l) k = sl (bss l2) k
            · have HRR := HST
              rw [decide_eq_true hxy] at HRR
              have HSX : Hid (∀ j, j < k + 1 → sl (bss l) j = sl (bss l2) j) := by
                intro j hj
                by_cases e : j = k
                · rw [e]; exact hxy
                · exact hsx.out j (by omega)
              clear hxy hsx HST
              go_wp2_with fail
              refine Pl.region_is (ops := Pl.find 11 ((Try.f17.body).getD .skip)) (by kernel_rfl) ?_
              refine lsame11 _ w.heap.size (w.heap.size + 1) bb oo len cap bb2 oo2 len cap2 k _ _ (l.getD k Sb.zero).s (l2.getD k Sb.zero).s (sl (bss l) k) (sl (bss l2) k) hlk hlk HKz.out HKz2.out HCX.out HCY.out HM1.out HM2.out true HRR.out (by rfl) rfl (by rfl) (by rfl) (by rfl) ?_
              intro u1 w2 hb2
              simp only [Act.put, List.setIfInBounds_toArray, List.set_cons_zero, List.set_cons_succ]
              have HB2 := hide (rBelow hbz.out hb2)
              clear hb2 HCX HCY HM1 HM2 HKz HKz2 HRR
              go_wp2_with fail
              go_roundw
              case rel => exact ⟨k + 1, by omega, by go_num, HB2, HSX⟩
              case measure => simp only [intOf]; omega
            · have HRR := HST
              rw [decide_eq_false hxy] at HRR
              have HE := hide (sameLB_no (t := t) (t2 := t2) (s := bss l) (s2 := bss l2) (fun h => hxy (by rw [h.2])))
              clear hxy hsx HST
              go_wp2_with fail
              refine Pl.region_is (ops := Pl.find 11 ((Try.f17.body).getD .skip)) (by kernel_rfl) ?_
              refine lsame11 _ w.heap.size (w.heap.size + 1) bb oo len cap bb2 oo2 len cap2 k _ _ (l.getD k Sb.zero).s (l2.getD k Sb.zero).s (sl (bss l) k) (sl (bss l2) k) hlk hlk HKz.out HKz2.out HCX.out HCY.out HM1.out HM2.out false HRR.out (by rfl) rfl (by rfl) (by rfl) (by rfl) ?_
              intro u1 w2 hb2
              simp only [Act.put, List.setIfInBounds_toArray, List.set_cons_zero, List.set_cons_succ]
              have HB2 := hide (rBelow HA.out (rBelow hbz.out hb2))
              clear hb2 HCX HCY HM1 HM2 HKz HKz2 HRR
              go_wp2_with fail
              go_ret
              exact ⟨by rw [HE.out]; rfl, HB2.out⟩
          · have i2 : ¬ ((k : Nat) : Int) < ((len : Nat) : Int) := by omega
            have HE : Hid (sameLB t (bss l) t2 (bss l2) = true) := sameLB_iff.2 ⟨HTE.out, sl_ext (by rw [bss_length, bss_length, HL.out, HL2.out]) (fun j hj => hsx.out j (by rw [bss_length, HL.out] at hj; omega))⟩
            have HB2 := hide (rBelow HA.out hbz.out)
            clear hsx
            go_wp2_with fail
            go_ret
            exact ⟨by rw [HE.out]; rfl, HB2.out⟩
  · have HE : Hid (sameLB t (bss l) t2 (bss l2) = false) := sameLB_no (fun h => hne ⟨by rw [← ht, ← ht2, h.1], by rw [← hl, ← hl2, ← bss_length, ← bss_length, h.2]⟩)
    clear hg hg2 hi hi2 hl hl2 ht ht2 hA1 hA2 hA
    unfold lfV Sl.val
    simp only
    by_cases hu : ul = ul2
    · subst hu
      have i1 : ¬ ((len : Nat) : Int) = ((len2 : Nat) : Int) := by omega
      clear hne
      go_enter Try.func17, Try.ntmps17
      go_wp2_with fail
      go_ret
      exact ⟨by rw [HE.out]; rfl, HA.out⟩
    · have i1 : ¬ ((ul : Nat) : Int) = ((ul2 : Nat) : Int) := by omega
      clear hne
      go_enter Try.func17, Try.ntmps17
      go_wp2_with fail
      go_ret
      exact ⟨by rw [HE.out]; rfl, HA.out⟩
end Go.Proofs.Ytgieigpbbkeonaa
