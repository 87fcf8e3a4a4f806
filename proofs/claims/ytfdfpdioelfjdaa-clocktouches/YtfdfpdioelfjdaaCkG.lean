/-
  Layer 7: the document's May, Same and set.
-/
import Derived.Test.YtfdfpdioelfjdaaCkF
namespace Go.Proofs.Ytfdfpdioelfjdaa
open Go.RowKit

theorem at_first {l : List Sp} {i : Nat} (hi : i < l.length) (h : seenB l i (fr l i).page.toNat = false) (hp : 0 ≤ (fr l i).page) : ixP l (fr l i).page = ((i : Nat) : Int) := by
  have hs : (l.take i).any (onP (fr l i).page) = false := by
    unfold seenB at h
    rwa [Int.toNat_of_nonneg hp] at h
  rcases ixP_cases l (fr l i).page with ⟨_, h2⟩ | ⟨k, hk, h1, h2, h3⟩
  · exact absurd rfl (h2 i hi)
  · rw [h1]
    rcases Nat.lt_trichotomy k i with hlt | rfl | hlt
    · have := (any_take (Nat.le_of_lt hi) (fr l i).page).2 ⟨k, hlt, h2⟩
      rw [this] at hs
      cases hs
    · rfl
    · exact absurd rfl (h3 i hlt)
theorem at_twice {l : List Sp} {i : Nat} (hi : i < l.length) (h : seenB l i (fr l i).page.toNat = true) (hp : 0 ≤ (fr l i).page) : ixP l (fr l i).page ≠ ((i : Nat) : Int) := by
  unfold seenB at h
  rw [Int.toNat_of_nonneg hp] at h
  obtain ⟨j, hj, e⟩ := (any_take (Nat.le_of_lt hi) _).1 h
  rcases ixP_cases l (fr l i).page with ⟨h1, h2⟩ | ⟨k, hk, h1, h2, h3⟩
  · rw [h1]; omega
  · rw [h1]
    intro e2
    have : k = i := by omega
    subst this
    exact h3 j hj e

set_option maxHeartbeats 8000000 in
set_option maxRecDepth 100000 in
theorem rmay_any {D : Nat → Prop} (w : World) (v : Sl) (h : Int) (l : List Sp) (hg : Gs D w v l) :
    Calls Try.prog 11 #[ckV v h] w fun e w' => e = .returned (.bool (may l h)) ∧ Below w.heap.size w w' := by
  obtain ⟨a, len, cap⟩ := v
  have hl : l.length = len := hg.len
  have hbig : len ≤ 1000000 := hg.big
  have hA := below_alloc w (.cells #[.slice a len cap, .int .i64 h] 24)
  have HA := hide hA
  have HK := hide (ckBlk_new w (.slice a len cap) h)
  have HL := hide hl
  have HG := hide (hg.below hA (Nat.le_refl _))
  have HI : Hid (∀ j, j < 0 → gdB l j = true) := fun j hj => absurd hj (Nat.not_lt_zero _)
  clear hg hl hA
  unfold ckV Sl.val
  simp only
  go_enter Try.func11, Try.ntmps11
  go_wp2_with fail
  generalize w.alloc (.cells #[.slice a len cap, .int .i64 h] 24) = W at *
  have H0 := hide (Below.refl W.heap.size W)
  go_loopw [3] (fun iv wr => ∃ i : Nat, i ≤ len ∧ iv = .int .i64 (i : Nat) ∧ Hid (∀ j, j < i → gdB l j = true) ∧ Hid (Below W.heap.size W wr)) (fun iv _ => len - (intOf iv).toNat)
  case atStart => exact ⟨0, Nat.zero_le _, rfl, HI, H0⟩
  case round =>
    obtain ⟨i, hi, rfl, hix, hbr⟩ := hrel
    have hkb := HK.out.below hbr.out
    have d0 := hkb.c0
    have d1 := hkb.c1
    rcases Nat.lt_or_ge i len with hlt | hge
    · have i5 : ((i : Nat) : Int) < ((len : Nat) : Int) := by omega
      have hil : i < l.length := by rw [HL.out]; exact hlt
      obtain ⟨bb, oo, ha, c0, c1, c2⟩ := (HG.out.below hbr.out (Nat.le_refl _)).cell i hlt
      replace ha : a = some ⟨bb, oo, none⟩ := ha
      subst ha
      obtain ⟨x, hx⟩ : ∃ x, x = fr l i := ⟨_, rfl⟩
      rw [← hx] at c0 c1 c2
      have hAW := below_alloc wr (.cells #[.int .i64 x.page, .bool x.used, .bool x.pin] 38)
      have HAW := hide hAW
      have HB2 := hide (rBelow hbr.out hAW)
      have g0 := (hkb.below hAW).c0
      have g1 := (hkb.below hAW).c1
      have HAT := hide (at_any _ ⟨some ⟨bb, oo, none⟩, len, cap⟩ h l (HG.out.below (rBelow hbr.out hAW) (Nat.le_refl _)) x.page)
      unfold ckV Sl.val at HAT
      simp only at HAT
      cases hon : x.beq Sp.none with
      | true =>
        have HIX : Hid (∀ j, j < i + 1 → gdB l j = true) := by
          intro j hj
          by_cases e : j = i
          · rw [e]; exact gd_none (by rw [← hx]; exact hon)
          · exact hix.out j (by omega)
        obtain rfl := Sp.beq_iff.1 hon
        clear hon hx hil hix hAW hkb
        unfold Sp.none at *
        simp only at *
        go_wp2_with fail
        go_roundw
        case rel => exact ⟨i + 1, by omega, by go_num, HIX, HB2⟩
        case measure => simp only [intOf]; omega
      | false =>
        have hpin : ¬ (x.page = -1 ∧ x.used = false ∧ x.pin = false) := by
          rintro ⟨e1, e2, e3⟩
          rw [Sp.beq_not] at hon
          apply hon
          obtain ⟨p, u, q⟩ := x
          simp only at e1 e2 e3
          rw [e1, e2, e3]
          rfl
        by_cases hp0 : x.page < 0
        · have HMF := hide (may_not (h := h) hil (gd_not (by rw [← hx]; exact hon) (by rw [← hx]; unfold isPg; rw [decide_eq_false (by omega)]; rfl)))
          obtain ⟨p, u, q⟩ := x
          simp only at *
          clear hon hx hil hix hAW hkb HAT
          by_cases hm : p = -1
          · subst hm
            cases u with
            | true =>
              clear hpin
              go_wp2_with fail
              go_ret
              exact ⟨by rw [HMF.out]; rfl, rBelow HA.out HB2.out⟩
            | false =>
              cases q with
              | true =>
                clear hpin
                go_wp2_with fail
                go_ret
                exact ⟨by rw [HMF.out]; rfl, rBelow HA.out HB2.out⟩
              | false => exact absurd ⟨rfl, rfl, rfl⟩ hpin
          · clear hpin
            go_wp2_with fail
            go_ret
            exact ⟨by rw [HMF.out]; rfl, rBelow HA.out HB2.out⟩
        by_cases hp1 : 63 < x.page
        · have HMF := hide (may_not (h := h) hil (gd_not (by rw [← hx]; exact hon) (by rw [← hx]; unfold isPg; rw [decide_eq_false (show ¬ x.page < 64 by omega), Bool.and_false])))
          have hm : ¬ x.page = -1 := by omega
          clear hon hx hil hix hAW hkb HAT hpin
          go_wp2_with fail
          go_ret
          exact ⟨by rw [HMF.out]; rfl, rBelow HA.out HB2.out⟩
        have hm : ¬ x.page = -1 := by omega
        have hq : x.page = ((x.page.toNat : Nat) : Int) := (Int.toNat_of_nonneg (by omega)).symm
        cases hse : seenB l i x.page.toNat with
        | true =>
          have HMF := hide (may_not (h := h) hil (gd_twice (q := x.page.toNat) (by rw [← hx]; exact hon) (by rw [← hx]; exact hq) hse))
          have hne : ¬ ixP l x.page = ((i : Nat) : Int) := by
            rw [hx] at hse ⊢
            exact at_twice hil hse (by rw [← hx]; omega)
          clear hon hx hil hix hAW hkb hpin hq hse
          go_wp2_with fail
          refine HAT.out.mono ?_
          rintro e w1 ⟨rfl, hb1⟩
          have HB3 := hide (rBelow HB2.out hb1)
          clear hb1 HB2
          go_wp2_with fail
          go_ret
          exact ⟨by rw [HMF.out]; rfl, rBelow HA.out HB3.out⟩
        | false =>
          have HIX : Hid (∀ j, j < i + 1 → gdB l j = true) := by
            intro j hj
            by_cases e : j = i
            · rw [e]; exact gd_page (q := x.page.toNat) (by rw [← hx]; exact hq) (by omega) hse
            · exact hix.out j (by omega)
          have hne : ixP l x.page = ((i : Nat) : Int) := by
            rw [hx] at hse ⊢
            exact at_first hil hse (by rw [← hx]; omega)
          rw [hne] at HAT
          clear hon hx hil hix hAW hkb hpin hq hse hne
          go_wp2_with fail
          refine HAT.out.mono ?_
          rintro e w1 ⟨rfl, hb1⟩
          have HB3 := hide (rBelow HB2.out hb1)
          clear hb1 HB2
          go_wp2_with fail
          go_roundw
          case rel => exact ⟨i + 1, by omega, by go_num, HIX, HB3⟩
          case measure => simp only [intOf]; omega
    · have i5 : ¬ ((i : Nat) : Int) < ((len : Nat) : Int) := by omega
      have hgd : ∀ j, j < l.length → Gd l j := fun j hj => (gdB_iff hj).1 (hix.out j (by rw [HL.out] at hj; omega))
      by_cases hok : 1 ≤ len ∧ len ≤ 64 ∧ 0 ≤ h ∧ h < len
      · have HE : Hid (may l h = true) := may_iff.2 ⟨by rw [HL.out]; omega, by rw [HL.out]; omega, by omega, by rw [HL.out]; omega, hgd⟩
        obtain ⟨h1, h2, h3, h4⟩ := hok
        have j1 : (1 : Int) ≤ ((len : Nat) : Int) := by omega
        have j2 : ((len : Nat) : Int) ≤ 64 := by omega
        clear hix hgd hkb h1 h2
        go_wp2_with fail
        go_ret
        exact ⟨by rw [HE.out]; rfl, rBelow HA.out hbr.out⟩
      · have HE := hide (may_false (l := l) (h := h) (by rw [HL.out]; exact hok))
        clear hix hgd hkb
        by_cases h1 : 1 ≤ len
        · by_cases h2 : len ≤ 64
          · have j1 : (1 : Int) ≤ ((len : Nat) : Int) := by omega
            have j2 : ((len : Nat) : Int) ≤ 64 := by omega
            by_cases h3 : 0 ≤ h
            · have j4 : ¬ h < ((len : Nat) : Int) := by omega
              clear hok
              go_wp2_with fail
              go_ret
              exact ⟨by rw [HE.out]; rfl, rBelow HA.out hbr.out⟩
            · clear hok
              go_wp2_with fail
              go_ret
              exact ⟨by rw [HE.out]; rfl, rBelow HA.out hbr.out⟩
          · have j1 : (1 : Int) ≤ ((len : Nat) : Int) := by omega
            have j2 : ¬ ((len : Nat) : Int) ≤ 64 := by omega
            clear hok
            go_wp2_with fail
            go_ret
            exact ⟨by rw [HE.out]; rfl, rBelow HA.out hbr.out⟩
        · have j1 : ¬ (1 : Int) ≤ ((len : Nat) : Int) := by omega
          clear hok
          go_wp2_with fail
          go_ret
          exact ⟨by rw [HE.out]; rfl, rBelow HA.out hbr.out⟩

set_option maxHeartbeats 4000000 in
theorem rsame_any {D E : Nat → Prop} (w : World) (v : Sl) (h : Int) (l : List Sp) (hg : Gs D w v l) (u : Sl) (k : Int) (m : List Sp) (hu : Gs E w u m) :
    Calls Try.prog 13 #[ckV v h, ckV u k] w fun e w' => e = .returned (.bool (sameC l h m k)) ∧ Below w.heap.size w w' := by
  obtain ⟨a, len, cap⟩ := v
  obtain ⟨a2, len2, cap2⟩ := u
  have hl : l.length = len := hg.len
  have hm : m.length = len2 := hu.len
  have hbig : len ≤ 1000000 := hg.big
  have hbig2 : len2 ≤ 1000000 := hu.big
  have hA1 := below_alloc w (.cells #[.slice a len cap, .int .i64 h] 24)
  have hA2 := below_alloc (w.alloc (.cells #[.slice a len cap, .int .i64 h] 24)) (.cells #[.slice a2 len2 cap2, .int .i64 k] 24)
  have hA := rBelow hA1 hA2
  have HA := hide hA
  by_cases hh : h = k
  · subst hh
    have e : sameC l h m h = eqL l m := by unfold sameC; simp
    rw [e]
    clear e
    by_cases hne : len = len2
    · subst hne
      have HL := hide hl
      have HM := hide hm
      have HG := hide (hg.below hA (Nat.le_refl _))
      have HU := hide (hu.below hA (Nat.le_refl _))
      have HK1 := hide ((ckBlk_new w (.slice a len cap) h).below hA2)
      have HK2 := hide (ckBlk_new (w.alloc (.cells #[.slice a len cap, .int .i64 h] 24)) (.slice a2 len cap2) h)
      rw [alloc_size] at HK2
      have HI : Hid (∀ j, j < 0 → (fr l j).beq (fr m j) = true) := fun j hj => absurd hj (Nat.not_lt_zero _)
      clear hg hu hl hm hbig2 hA1 hA2 hA
      unfold ckV Sl.val
      simp only
      go_enter Try.func13, Try.ntmps13
      go_wp2_with fail
      generalize (w.alloc (.cells #[.slice a len cap, .int .i64 h] 24)).alloc (.cells #[.slice a2 len cap2, .int .i64 h] 24) = W at *
      have H0 := hide (Below.refl W.heap.size W)
      go_loopw [5] (fun iv wr => ∃ i : Nat, i ≤ len ∧ iv = .int .i64 (i : Nat) ∧ Hid (∀ j, j < i → (fr l j).beq (fr m j) = true) ∧ Hid (Below W.heap.size W wr)) (fun iv _ => len - (intOf iv).toNat)
      case atStart => exact ⟨0, Nat.zero_le _, rfl, HI, H0⟩
      case round =>
        obtain ⟨i, hi, rfl, hix, hbr⟩ := hrel
        have hkb := HK1.out.below hbr.out
        have d0 := hkb.c0
        have HKB := hide hkb
        have HKB2 := hide (HK2.out.below hbr.out)
        clear hkb
        rcases Nat.lt_or_ge i len with hlt | hge
        · have i1 : ((i : Nat) : Int) < ((len : Nat) : Int) := by omega
          obtain ⟨bb, oo, ha, c0, c1, c2⟩ := (HG.out.below hbr.out (Nat.le_refl _)).cell i hlt
          replace ha : a = some ⟨bb, oo, none⟩ := ha
          subst ha
          obtain ⟨b2, o2, ha2, e0, e1, e2⟩ := (HU.out.below hbr.out (Nat.le_refl _)).cell i hlt
          replace ha2 : a2 = some ⟨b2, o2, none⟩ := ha2
          subst ha2
          have HC3 : Hid (Cell3 wr bb (oo + i * 3) (fr l i)) := ⟨c0, c1, c2⟩
          have HD3 : Hid (Cell3 wr b2 (o2 + i * 3) (fr m i)) := ⟨e0, e1, e2⟩
          clear c0 c1 c2 e0 e1 e2
          cases hon : (fr l i).beq (fr m i) with
          | false =>
            have HE := hide (eqL_false hon)
            have HON := hide hon
            clear hix hon
            go_wp2_with fail
            refine Pl.region_is (ops := Pl.find 6 ((Try.f13.body).getD .skip)) (by kernel_rfl) ?_
            refine rsame6 _ bb oo len cap b2 o2 len cap2 i w.heap.size (w.heap.size + 1) h h (fr l i) (fr m i) false hlt hlt HKB.out HKB2.out HC3.out HD3.out HON.out (by rfl) rfl (by rfl) (by rfl) (by rfl) ?_
            intro u w1 hb1
            simp only [Act.put, List.setIfInBounds_toArray, List.set_cons_zero, List.set_cons_succ]
            have HB1 := hide (rBelow hbr.out hb1)
            clear hb1 HC3 HD3
            go_wp2_with fail
            go_ret
            exact ⟨by rw [HE.out]; rfl, rBelow HA.out HB1.out⟩
          | true =>
            have HE : Hid (∀ j, j < i + 1 → (fr l j).beq (fr m j) = true) := by
              intro j hj
              by_cases e : j = i
              · rw [e]; exact hon
              · exact hix.out j (by omega)
            have HON := hide hon
            clear hix hon
            go_wp2_with fail
            refine Pl.region_is (ops := Pl.find 6 ((Try.f13.body).getD .skip)) (by kernel_rfl) ?_
            refine rsame6 _ bb oo len cap b2 o2 len cap2 i w.heap.size (w.heap.size + 1) h h (fr l i) (fr m i) true hlt hlt HKB.out HKB2.out HC3.out HD3.out HON.out (by rfl) rfl (by rfl) (by rfl) (by rfl) ?_
            intro u w1 hb1
            simp only [Act.put, List.setIfInBounds_toArray, List.set_cons_zero, List.set_cons_succ]
            have HB1 := hide (rBelow hbr.out hb1)
            clear hb1 HC3 HD3
            go_wp2_with fail
            go_roundw
            case rel => exact ⟨i + 1, by omega, by go_num, HE, HB1⟩
            case measure => simp only [intOf]; omega
        · have HE : Hid (eqL l m = true) := eqL_true (by rw [HL.out, HM.out]) (fun j hj => hix.out j (by rw [HL.out] at hj; omega))
          have i1 : ¬ ((i : Nat) : Int) < ((len : Nat) : Int) := by omega
          clear hix
          go_wp2_with fail
          go_ret
          exact ⟨by rw [HE.out]; rfl, rBelow HA.out hbr.out⟩
    · have HE := hide (eqL_len (l := l) (m := m) (by rw [hl, hm]; exact hne))
      have i1 : ¬ ((len : Nat) : Int) = ((len2 : Nat) : Int) := by omega
      clear hg hu hl hm hA1 hA2 hA
      unfold ckV Sl.val
      simp only
      go_enter Try.func13, Try.ntmps13
      go_wp2_with fail
      go_ret
      exact ⟨by rw [HE.out]; rfl, HA.out⟩
  · have e : sameC l h m k = false := by unfold sameC; simp [hh]
    rw [e]
    clear e hg hu hl hm hA1 hA2 hA
    unfold ckV Sl.val
    simp only
    go_enter Try.func13, Try.ntmps13
    go_wp2_with fail
    go_ret
    exact ⟨rfl, HA.out⟩
end Go.Proofs.Ytfdfpdioelfjdaa
