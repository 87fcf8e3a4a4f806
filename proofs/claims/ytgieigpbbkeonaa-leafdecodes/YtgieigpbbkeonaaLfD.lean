/-
  Layer 8: the document's May.
-/
import Derived.Test.YtgieigpbbkeonaaLfC
namespace Go.Proofs.Ytgieigpbbkeonaa
open Go.RowKit

/-- What May tells. -/
def MaySays (l : Lf) (e : Ending) : Prop := ∃ r : Bool, e = .returned (.bool r) ∧ (r = true ↔ MayL l)
theorem says_no {l : Lf} (h : ¬ MayL l) : MaySays l (.returned (.bool false)) := ⟨false, rfl, by simp [h]⟩

set_option maxHeartbeats 8000000 in
set_option maxRecDepth 100000 in
theorem rmay_says {D : Nat → Prop} (w : World) (u v : Sl) (t : List Int) (l : List Sb) (hi : Gi D w u t) (hg : Gb D w v l) :
    Calls Try.prog 11 #[lfV u v] w fun e w' => MaySays ⟨t, bss l⟩ e ∧ Below w.heap.size w w' := by
  obtain ⟨a, len, cap⟩ := v
  obtain ⟨ua, ul, uc⟩ := u
  have hl : l.length = len := hg.len
  have htl : t.length = ul := hi.len
  have hbig : len ≤ 1000 := hg.big
  have hubig : ul ≤ 1000000 := hi.big
  have hA := below_alloc w (.cells #[.slice ua ul uc, .slice a len cap] 25)
  have HK := hide (lfBlk_new w (.slice ua ul uc) (.slice a len cap))
  have HG := hide (hg.below hA (Nat.le_refl _))
  have HI := hide (hi.below hA (Nat.le_refl _))
  have HA := hide hA
  have HL : Hid ((bss l).length = len) := by show _ = _; rw [bss_length]; exact hl
  have HTL := hide htl
  have HND := hide (fun W (hW : Gb D W ⟨a, len, cap⟩ l) => rneed_any W ⟨ua, ul, uc⟩ _ l hW)
  clear hg hi hl htl hA
  unfold lfV Sl.val at *
  simp only at *
  by_cases h4 : ul = 4 ∧ len ≤ 64
  · obtain ⟨h4, h64⟩ := h4
    subst h4
    have j1 : ¬ (64 : Int) < ((len : Nat) : Int) := by omega
    go_enter Try.func11, Try.ntmps11
    go_wp2_with fail
    generalize w.alloc (.cells #[.slice ua 4 uc, .slice a len cap] 25) = W at *
    have H0 := hide (Below.refl W.heap.size W)
    obtain ⟨ub, uo, hua, _⟩ := HI.out.cell 0 (by show 0 < 4; omega)
    replace hua : ua = some ⟨ub, uo, none⟩ := hua
    subst hua
    have HCI : Hid (∀ i, i < 4 → W.cell? ⟨ub, uo + i, none⟩ = some (.int .i64 (t.getD i 0))) := by
      intro i hi
      obtain ⟨b', o', ha, hc⟩ := HI.out.cell i hi
      simp only [Option.some.injEq, Addr.mk.injEq, and_true] at ha
      obtain ⟨rfl, rfl⟩ := ha
      exact hc
    go_loopw [3] (fun iv wr => ∃ i : Nat, i ≤ 4 ∧ iv = .int .i64 (i : Nat) ∧ Hid (Below W.heap.size W wr) ∧ Hid (∀ j, j < i → 0 ≤ t.getD j 0 ∧ t.getD j 0 ≤ 2147483647) ∧ Hid (∀ j, j < i → ∀ k, k < j → t.getD k 0 ≠ 0 → t.getD k 0 ≠ t.getD j 0)) (fun iv _ => 4 - (intOf iv).toNat)
    case atStart => exact ⟨0, by omega, rfl, H0, fun _ h => absurd h (Nat.not_lt_zero _), fun _ h => absurd h (Nat.not_lt_zero _)⟩
    case round =>
      obtain ⟨i, hi4, rfl, hbr, hrg, hdi⟩ := hrel
      rcases Nat.lt_or_ge i 4 with hlt | hge
      · have i1 : ((i : Nat) : Int) < 4 := by omega
        have hk := HK.out.below hbr.out
        have c0 := hk.c0
        have ci := cell_below (HCI.out i hlt) hbr.out
        obtain ⟨y, hy⟩ : ∃ y, y = t.getD i 0 := ⟨_, rfl⟩
        rw [← hy] at ci
        by_cases hr : 0 ≤ y ∧ y ≤ 2147483647
        · obtain ⟨hr0, hr1⟩ := hr
          have HY := hide hy
          have HK2 := hide hk
          clear hy hk
          go_wp2_with fail
          go_loopw [4] (fun kv wz => ∃ k : Nat, k ≤ i ∧ kv = .int .i64 (k : Nat) ∧ Hid (Below W.heap.size W wz) ∧ Hid (∀ j, j < k → t.getD j 0 ≠ 0 → t.getD j 0 ≠ y)) (fun kv _ => i - (intOf kv).toNat)
          case atStart => exact ⟨0, Nat.zero_le _, rfl, hbr, fun _ h => absurd h (Nat.not_lt_zero _)⟩
          case round =>
            rename World => wo
            obtain ⟨k, hki, rfl, hbz, hdk⟩ := hrel
            rcases Nat.lt_or_ge k i with hlk | hgk
            · have i2 : ((k : Nat) : Int) < ((i : Nat) : Int) := by omega
              have HKz := hide (HK.out.below hbz.out)
              have HCx := hide (cell_below (HCI.out k (by omega)) hbz.out)
              have HCy : Hid (wo.cell? ⟨ub, uo + i, none⟩ = some (.int .i64 y)) := by rw [HY.out]; exact cell_below (HCI.out i hlt) hbz.out
              by_cases hx0 : t.getD k 0 = 0
              · have HDK : Hid (∀ j, j < k + 1 → t.getD j 0 ≠ 0 → t.getD j 0 ≠ y) := by
                  intro j hj hne
                  by_cases e : j = k
                  · rw [e] at hne; exact absurd hx0 hne
                  · exact hdk.out j (by omega) hne
                have HX0 := hide hx0
                clear hx0 hdk
                go_wp2_with fail
                refine Pl.region_is (ops := Pl.find 11 ((Try.f11.body).getD .skip)) (by kernel_rfl) ?_
                refine may11A _ w.heap.size ub uo 4 uc i k _ (t.getD k 0) (by omega) HKz.out HCx.out (fun h => h HX0.out) (by rfl) rfl (by rfl) (by rfl) (by rfl) ?_
                intro u1 w2 hb2
                simp only [Act.put, List.setIfInBounds_toArray, List.set_cons_zero, List.set_cons_succ]
                have HB2 := hide (rBelow hbz.out hb2)
                clear hb2 HKz HCx HCy
                go_wp2_with fail
                go_roundw
                case rel => exact ⟨k + 1, by omega, by go_num, HB2, HDK⟩
                case measure => simp only [intOf]; omega
              · by_cases hxy : t.getD k 0 = y
                · have HNO : Hid (¬ MayL ⟨t, bss l⟩) := fun m => m.itl.2.2 i hlt k hlk hx0 (by rw [← HY.out]; exact hxy)
                  have HX0 := hide hx0
                  have HXY := hide hxy
                  clear hx0 hxy hdk
                  go_wp2_with fail
                  refine Pl.region_is (ops := Pl.find 11 ((Try.f11.body).getD .skip)) (by kernel_rfl) ?_
                  refine may11B _ w.heap.size ub uo 4 uc i k _ (t.getD k 0) y hlt (by omega) HKz.out HCx.out HCy.out HX0.out HXY.out (by rfl) rfl (by rfl) (by rfl) (by rfl) ?_
                  intro u1 w2 hb2
                  simp only [Act.put, List.setIfInBounds_toArray, List.set_cons_zero, List.set_cons_succ]
                  have HB2 := hide (rBelow HA.out (rBelow hbz.out hb2))
                  clear hb2 HKz HCx HCy
                  go_wp2_with fail
                  go_ret
                  exact ⟨says_no HNO.out, HB2.out⟩
                · have HDK : Hid (∀ j, j < k + 1 → t.getD j 0 ≠ 0 → t.getD j 0 ≠ y) := by
                    intro j hj hne
                    by_cases e : j = k
                    · rw [e]; exact hxy
                    · exact hdk.out j (by omega) hne
                  have HX0 := hide hx0
                  have HXY := hide hxy
                  clear hx0 hxy hdk
                  go_wp2_with fail
                  refine Pl.region_is (ops := Pl.find 11 ((Try.f11.body).getD .skip)) (by kernel_rfl) ?_
                  refine may11C _ w.heap.size ub uo 4 uc i k _ (t.getD k 0) y hlt (by omega) HKz.out HCx.out HCy.out HX0.out HXY.out (by rfl) rfl (by rfl) (by rfl) (by rfl) ?_
                  intro u1 w2 hb2
                  simp only [Act.put, List.setIfInBounds_toArray, List.set_cons_zero, List.set_cons_succ]
                  have HB2 := hide (rBelow hbz.out hb2)
                  clear hb2 HKz HCx HCy
                  go_wp2_with fail
                  go_roundw
                  case rel => exact ⟨k + 1, by omega, by go_num, HB2, HDK⟩
                  case measure => simp only [intOf]; omega
            · have i2 : ¬ ((k : Nat) : Int) < ((i : Nat) : Int) := by omega
              have HRG : Hid (∀ j, j < i + 1 → 0 ≤ t.getD j 0 ∧ t.getD j 0 ≤ 2147483647) := by
                intro j hj
                by_cases e : j = i
                · rw [e, ← HY.out]; exact ⟨hr0, hr1⟩
                · exact hrg.out j (by omega)
              have HDI : Hid (∀ j, j < i + 1 → ∀ k, k < j → t.getD k 0 ≠ 0 → t.getD k 0 ≠ t.getD j 0) := by
                intro j hj k' hk' hne
                by_cases e : j = i
                · rw [e, ← HY.out]; exact hdk.out k' (by omega) hne
                · exact hdi.out j (by omega) k' hk' hne
              go_wp2_with fail
              go_roundw
              case rel => exact ⟨i + 1, by omega, by go_num, hbz, HRG, HDI⟩
              case measure => simp only [intOf]; omega
        · have HNO : Hid (¬ MayL ⟨t, bss l⟩) := fun m => hr (by rw [hy]; exact m.itl.2.1 i hlt)
          have HB2 := hide (rBelow HA.out hbr.out)
          by_cases hr0 : y < 0
          · clear hr hy hk
            go_wp2_with fail
            go_ret
            exact ⟨says_no HNO.out, HB2.out⟩
          · have hr1 : 2147483647 < y := by omega
            clear hr hy hk
            go_wp2_with fail
            go_ret
            exact ⟨says_no HNO.out, HB2.out⟩
      · have i1 : ¬ ((i : Nat) : Int) < 4 := by omega
        have HITL : Hid (ItlOk t) := ⟨HTL.out, fun j hj => hrg.out j (by omega), fun j hj k hk => hdi.out j (by omega) k hk⟩
        have hk := HK.out.below hbr.out
        have HKb := hide hk
        have c1 := hk.c1
        clear hk hrg hdi
        go_wp2_with fail
        go_loopw [5] (fun iv wz => wz = wr ∧ ∃ k : Nat, k ≤ len ∧ iv = .int .i64 (k : Nat) ∧ Hid (∀ j, j < k → (sl (bss l) j).length ≤ 255) ∧ Hid (∀ j, j < k → j = len - 1 → sl (bss l) j ≠ [])) (fun iv _ => len - (intOf iv).toNat)
        case atStart => exact ⟨rfl, 0, Nat.zero_le _, rfl, fun _ h => absurd h (Nat.not_lt_zero _), fun _ h => absurd h (Nat.not_lt_zero _)⟩
        case round =>
          rename World => wo
          obtain ⟨hwo, k, hkl, rfl, h255, hlast⟩ := hrel
          subst hwo
          rcases Nat.lt_or_ge k len with hlk | hgk
          · have i2 : ((k : Nat) : Int) < ((len : Nat) : Int) := by omega
            obtain ⟨bb, oo, ha, d0⟩ := (HG.out.below hbr.out (Nat.le_refl _)).cell k hlk
            replace ha : a = some ⟨bb, oo, none⟩ := ha
            subst ha
            obtain ⟨_, hsl, h1000⟩ := HG.out.at (i := k) hlk
            obtain ⟨⟨sa, sn, sc⟩, hsb⟩ : ∃ s, s = (l.getD k Sb.zero).s := ⟨_, rfl⟩
            rw [← hsb] at d0 hsl
            unfold Sl.val at d0
            simp only at d0 hsl
            have HSL := hide hsl
            clear hsb hsl
            by_cases hb : 255 < sn
            · have HNO : Hid (¬ MayL ⟨t, bss l⟩) := fun m => by have := m.slots.2.1 k (by rw [HL.out]; exact hlk); rw [← HSL.out] at this; omega
              have HB2 := hide (rBelow HA.out hbr.out)
              have i3 : (255 : Int) < ((sn : Nat) : Int) := by omega
              clear h255 hlast h1000
              go_wp2_with fail
              go_ret
              exact ⟨says_no HNO.out, HB2.out⟩
            · have i3 : ¬ (255 : Int) < ((sn : Nat) : Int) := by omega
              have H255 : Hid (∀ j, j < k + 1 → (sl (bss l) j).length ≤ 255) := by
                intro j hj
                by_cases e : j = k
                · rw [e, ← HSL.out]; omega
                · exact h255.out j (by omega)
              by_cases hla : k = len - 1
              · have i4 : ((k : Nat) : Int) = ((len : Nat) : Int) - 1 := by omega
                by_cases hs0 : sn = 0
                · have HNO : Hid (¬ MayL ⟨t, bss l⟩) := fun m => by
                    have h9 := m.slots.2.2 (fun x => by have h8 := HL.out; have h7 : bss l = [] := x; rw [h7] at h8; simp at h8; omega)
                    apply h9
                    apply List.eq_nil_of_length_eq_zero
                    show (sl (bss l) ((bss l).length - 1)).length = 0
                    rw [HL.out, ← hla, ← HSL.out, hs0]
                  have HB2 := hide (rBelow HA.out hbr.out)
                  obtain ⟨m, rfl⟩ : ∃ m, len = m + 1 := ⟨len - 1, by omega⟩
                  obtain rfl : k = m := by omega
                  subst hs0
                  clear h255 hlast h1000 i4 hla H255 HSL
                  go_wp2_with fail
                  go_ret
                  exact ⟨says_no HNO.out, HB2.out⟩
                · have HLA : Hid (∀ j, j < k + 1 → j = len - 1 → sl (bss l) j ≠ []) := by
                    intro j hj hj2
                    by_cases e : j = k
                    · rw [e]; intro x; apply hs0; rw [HSL.out, x]; rfl
                    · exact hlast.out j (by omega) hj2
                  have i5 : ¬ ((sn : Nat) : Int) = 0 := by omega
                  obtain ⟨m, rfl⟩ : ∃ m, len = m + 1 := ⟨len - 1, by omega⟩
                  obtain rfl : k = m := by omega
                  clear h255 hlast h1000 i4 hla HSL
                  go_wp2_with fail
                  go_roundw
                  case rel => exact ⟨trivial, k + 1, by omega, by go_num, H255, HLA⟩
                  case measure => simp only [intOf]; omega
              · have i4 : ¬ ((k : Nat) : Int) = ((len : Nat) : Int) - 1 := by omega
                have HLA : Hid (∀ j, j < k + 1 → j = len - 1 → sl (bss l) j ≠ []) := by
                  intro j hj hj2
                  exact hlast.out j (by omega) hj2
                clear h255 hlast h1000 hla HSL
                go_wp2_with fail
                go_roundw
                case rel => exact ⟨trivial, k + 1, by omega, by go_num, H255, HLA⟩
                case measure => simp only [intOf]; omega
          · have i2 : ¬ ((k : Nat) : Int) < ((len : Nat) : Int) := by omega
            have HSO : Hid (SlotsOk (bss l)) := ⟨by rw [HL.out]; omega, fun j hj => h255.out j (by rw [HL.out] at hj; omega), fun hne => by
              have h0 : 0 < len := by
                rcases Nat.eq_zero_or_pos len with h | h
                · exfalso
                  apply hne
                  apply List.eq_nil_of_length_eq_zero
                  rw [HL.out, h]
                · exact h
              rw [HL.out]
              exact hlast.out (len - 1) (by omega) rfl⟩
            have HN2 := hide (HND.out _ (HG.out.below hbr.out (Nat.le_refl _)))
            have e0 := HKb.out.c0
            have HB2 := hide (rBelow HA.out hbr.out)
            clear h255 hlast
            by_cases hnd : need (bss l) ≤ 508
            · have HYES : Hid (MayL ⟨t, bss l⟩) := ⟨HITL.out, HSO.out, hnd⟩
              have i5 : ((need (bss l) : Nat) : Int) ≤ 508 := by omega
              generalize need (bss l) = nd at *
              go_wp2_with fail
              refine HN2.out.mono ?_
              rintro e w3 ⟨rfl, hb3⟩
              have HB3 := hide (rBelow HB2.out hb3)
              clear hb3
              go_wp2_with fail
              go_ret
              exact ⟨⟨true, rfl, by simp [HYES.out]⟩, HB3.out⟩
            · have HNO : Hid (¬ MayL ⟨t, bss l⟩) := fun m => hnd m.need
              have i5 : ¬ ((need (bss l) : Nat) : Int) ≤ 508 := by omega
              generalize need (bss l) = nd at *
              go_wp2_with fail
              refine HN2.out.mono ?_
              rintro e w3 ⟨rfl, hb3⟩
              have HB3 := hide (rBelow HB2.out hb3)
              clear hb3
              go_wp2_with fail
              go_ret
              refine ⟨?_, HB3.out⟩
              show MaySays _ (.returned (.bool (decide (((nd : Nat) : Int) ≤ 508))))
              rw [decide_eq_false (Int.not_le.2 i5)]
              exact says_no HNO.out
  · have HNO : Hid (¬ MayL ⟨t, bss l⟩) := fun m => h4 ⟨by have h8 : t.length = 4 := m.itl.1; have h9 := HTL.out; omega, by have h9 := HL.out; have h8 : (bss l).length ≤ 64 := m.slots.1; omega⟩
    by_cases hu : ul = 4
    · have j1 : (64 : Int) < ((len : Nat) : Int) := by omega
      subst hu
      clear h4
      go_enter Try.func11, Try.ntmps11
      go_wp2_with fail
      go_ret
      exact ⟨says_no HNO.out, HA.out⟩
    · have j1 : ¬ ((ul : Nat) : Int) = 4 := by omega
      clear h4
      go_enter Try.func11, Try.ntmps11
      go_wp2_with fail
      go_ret
      exact ⟨says_no HNO.out, HA.out⟩

theorem rmay_yes {D : Nat → Prop} (w : World) (u v : Sl) (t : List Int) (l : List Sb) (hi : Gi D w u t) (hg : Gb D w v l) (h : MayL ⟨t, bss l⟩) :
    Calls Try.prog 11 #[lfV u v] w fun e w' => e = .returned (.bool true) ∧ Below w.heap.size w w' := by
  refine (rmay_says w u v t l hi hg).mono ?_
  rintro e w' ⟨⟨r, rfl, hr⟩, hb⟩
  rw [hr.2 h]
  exact ⟨rfl, hb⟩
theorem rmay_no {D : Nat → Prop} (w : World) (u v : Sl) (t : List Int) (l : List Sb) (hi : Gi D w u t) (hg : Gb D w v l) (h : ¬ MayL ⟨t, bss l⟩) :
    Calls Try.prog 11 #[lfV u v] w fun e w' => e = .returned (.bool false) ∧ Below w.heap.size w w' := by
  refine (rmay_says w u v t l hi hg).mono ?_
  rintro e w' ⟨⟨r, rfl, hr⟩, hb⟩
  cases r with
  | true => exact absurd (hr.1 rfl) h
  | false => exact ⟨rfl, hb⟩
end Go.Proofs.Ytgieigpbbkeonaa
