/-
  The document's May.
-/
import Derived.Test.YtpdkeghmpnanpaaUdJ
namespace Go.Proofs.Ytpdkeghmpnanpaa
open Go.RowKit

set_option maxHeartbeats 4000000 in
set_option maxRecDepth 100000 in
theorem rMay_any (a : Option Addr) (n cap : Nat) (l : List Ux) (w : World) (h : Us w a n l) (hbig : n ≤ 1000000) :
    Calls Try.prog 11 #[.slice a n cap] w fun e w' => e = .returned (.bool (MayU (uns l))) ∧ Below w.heap.size w w' := by
  have HUL : Hid ((uns l).length = n) := by show _ = _; rw [uns_len, h.len]
  have HE := hide h
  have H0 := hide (Below.refl w.heap.size w)
  clear h
  go_enter Try.func11, Try.ntmps11
  go_wp2_with fail
  go_loopw [3] (fun iv wr => ∃ i : Nat, i ≤ n ∧ iv = .int .i64 (i : Nat) ∧ Hid (SeenU (uns l) i) ∧ Hid (Below w.heap.size w wr)) (fun iv _ => n - (intOf iv).toNat)
  case atStart => exact ⟨0, Nat.zero_le _, rfl, (fun j hj => absurd hj (Nat.not_lt_zero _)), H0⟩
  case round =>
    obtain ⟨i, hi, rfl, hsn, hbr⟩ := hrel
    rcases Nat.lt_or_ge i n with hlt | hge
    · have i1 : ((i : Nat) : Int) < ((n : Nat) : Int) := by omega
      have hr := HE.out.keep hbr.out (Nat.le_refl _)
      obtain ⟨b1, off, rfl, hat⟩ := hr.at' i hlt
      have hmem := hr.mem hlt
      have hcol := hr.cols _ hmem
      have HFT := hide (hr.fits _ hmem)
      have hyu : (uns l).getD i zeroU = (l.getD i Ux.zero).u := uns_get l i
      generalize l.getD i Ux.zero = y at *
      have HLD := hide (load_unAt b1 (off + i * 12) y _ hat)
      have HAT := hide hat
      have HCOL := hide hcol
      have HYU := hide hyu
      clear hat hr hyu hmem
      cases hon : y.u.emp with
      | true =>
        have HCL := hide (empty_is hon _ hcol)
        have HN : Hid (SeenU (uns l) (i + 1)) := by
          intro j hj
          by_cases e : j = i
          · rw [e, HYU.out]; exact .inl hon
          · exact hsn.out j (by omega)
        clear hsn HYU hon hcol
        go_wp2_with (refine wpList_load _ rfl 30 (.tmp 13) rfl (.pointer (some ⟨b1, off + i * 12, none⟩)) y.val rfl HLD.out ?_)
        refine HCL.out.mono ?_
        rintro e w1 ⟨rfl, hb1⟩
        have HB1 := hide (rBelow hbr.out hb1)
        clear hb1
        go_wp2_with fail
        go_roundw
        case rel => exact ⟨i + 1, by omega, by go_num, HN, HB1⟩
        case measure => simp only [intOf]; omega
      | false =>
        have HCL := hide (empty_is hon _ hcol)
        have HON := hide hon
        clear hon hcol
        go_wp2_with (refine wpList_load _ rfl 30 (.tmp 13) rfl (.pointer (some ⟨b1, off + i * 12, none⟩)) y.val rfl HLD.out ?_)
        refine HCL.out.mono ?_
        rintro e w1 ⟨rfl, hb1⟩
        have HB1 := hide (rBelow hbr.out hb1)
        have HLD1 := hide (load_unAt b1 (off + i * 12) y w1 (HAT.out.keep hb1 (Nat.le_refl _)))
        have HMY := hide (refMayU_any y.u y.a y.n y.c w1 (HCOL.out.keep hb1 (Nat.le_refl _)) HFT.out.row)
        have hval : y.u.val (.slice y.a y.n y.c) = y.val := rfl
        rw [hval] at HMY
        clear hb1 hval HLD HCL HAT HCOL
        cases hmy : y.u.may with
        | false =>
          rw [hmy] at HMY
          have HN : Hid (MayU (uns l) = false) := unseen_no (i := i) (by rw [HUL.out]; exact hlt) (by rw [HYU.out]; exact HON.out) (.inl (by rw [HYU.out]; exact hmy))
          clear hmy
          go_wp2_with (refine wpList_load _ rfl 30 (.tmp 18) rfl (.pointer (some ⟨b1, off + i * 12, none⟩)) y.val rfl HLD1.out ?_)
          refine HMY.out.mono ?_
          rintro e w2 ⟨rfl, hb2⟩
          have HB2 := hide (rBelow HB1.out hb2)
          clear hb2
          go_wp2_with fail
          go_ret
          exact ⟨by rw [HN.out]; rfl, HB2.out⟩
        | true =>
          rw [hmy] at HMY
          have HMT := hide hmy
          clear hmy
          go_wp2_with (refine wpList_load _ rfl 30 (.tmp 18) rfl (.pointer (some ⟨b1, off + i * 12, none⟩)) y.val rfl HLD1.out ?_)
          refine HMY.out.mono ?_
          rintro e w2 ⟨rfl, hb2⟩
          have HB2 := hide (rBelow HB1.out hb2)
          clear hb2 HMY HLD1 HB1
          go_wp2_with fail
          go_loopw [4] (fun jv ws => ∃ j : Nat, j ≤ i ∧ jv = .int .i64 (j : Nat) ∧ Hid (∀ t, t < j → ((uns l).getD t zeroU).no ≠ y.u.no) ∧ Hid (Below w.heap.size w ws)) (fun jv _ => i - (intOf jv).toNat)
          case atStart => exact ⟨0, Nat.zero_le _, rfl, (fun t ht => absurd ht (Nat.not_lt_zero _)), HB2⟩
          case round =>
            obtain ⟨j, hj, rfl, hdj, hbs⟩ := hrel
            rcases Nat.lt_or_ge j i with hjl | hjg
            · have j1 : ((j : Nat) : Int) < ((i : Nat) : Int) := by omega
              have hrs := HE.out.keep hbs.out (Nat.le_refl _)
              obtain ⟨b2, o2, hbo, hat2⟩ := hrs.at' j (by omega)
              obtain ⟨b3, o3, hbo3, hat3⟩ := hrs.at' i hlt
              have hxu : (uns l).getD j zeroU = (l.getD j Ux.zero).u := uns_get l j
              have hyu3 : (uns l).getD i zeroU = (l.getD i Ux.zero).u := uns_get l i
              generalize l.getD j Ux.zero = x at *
              generalize l.getD i Ux.zero = y3 at *
              simp only [Option.some.injEq, Addr.mk.injEq, and_true] at hbo hbo3
              obtain ⟨rfl, rfl⟩ := hbo
              obtain ⟨rfl, rfl⟩ := hbo3
              have hy3 : y3.u = y.u := hyu3.symm.trans HYU.out
              have HA2 := hide hat2
              have HA3 := hide hat3
              have HXU := hide hxu
              clear hat2 hat3 hxu hyu3 hrs
              go_wp2_with fail
              refine Pl.region_is (ops := Pl.find 10 ((Try.f11.body).getD .skip)) (by kernel_rfl) ?_
              by_cases hno : x.u.no = y3.u.no
              · refine may10T _ _ b1 off cap n i j hlt (by omega) x y3 HA2.out HA3.out hno (Below.refl _ _) (by rfl) (by rfl) (by rfl) (by rfl) (by rfl) ?_
                intro u w4 hb4
                simp only [Act.put, List.setIfInBounds_toArray, List.set_cons_zero, List.set_cons_succ]
                have HB4 := hide (rBelow hbs.out hb4)
                have HN : Hid (MayU (uns l) = false) := unseen_no (i := i) (by rw [HUL.out]; exact hlt) (by rw [HYU.out]; exact HON.out) (.inr ⟨j, hjl, by rw [HXU.out, HYU.out, hno, hy3]⟩)
                clear hb4 hno hy3
                go_wp2_with fail
                go_ret
                exact ⟨by rw [HN.out]; rfl, HB4.out⟩
              · refine may10F _ _ b1 off cap n i j hlt (by omega) x y3 HA2.out HA3.out hno (Below.refl _ _) (by rfl) (by rfl) (by rfl) (by rfl) (by rfl) ?_
                intro u w4 hb4
                simp only [Act.put, List.setIfInBounds_toArray, List.set_cons_zero, List.set_cons_succ]
                have HB4 := hide (rBelow hbs.out hb4)
                have HN : Hid (∀ t, t < j + 1 → ((uns l).getD t zeroU).no ≠ y.u.no) := by
                  intro t ht
                  by_cases e : t = j
                  · rw [e, HXU.out, ← hy3]; exact hno
                  · exact hdj.out t (by omega)
                clear hb4 hno hy3 hdj
                go_wp2_with fail
                go_roundw
                case rel => exact ⟨j + 1, by omega, by go_num, HN, HB4⟩
                case measure => simp only [intOf]; omega
            · have j1 : ¬ ((j : Nat) : Int) < ((i : Nat) : Int) := by omega
              have HN : Hid (SeenU (uns l) (i + 1)) := by
                intro t ht
                by_cases e : t = i
                · rw [e, HYU.out]
                  exact .inr ⟨HMT.out, fun q hq => hdj.out q (by omega)⟩
                · exact hsn.out t (by omega)
              clear hdj hsn
              go_wp2_with fail
              go_roundw
              case rel => exact ⟨i + 1, by omega, by go_num, HN, hbs⟩
              case measure => simp only [intOf]; omega
    · have i1 : ¬ ((i : Nat) : Int) < ((n : Nat) : Int) := by omega
      have hin : i = n := by omega
      have hse : SeenU (uns l) (uns l).length := by rw [HUL.out, ← hin]; exact hsn.out
      have hml : MayU (uns l) = (decide (6 ≤ n) && decide (n ≤ 378) && decide (n % 6 = 0)) := by rw [seen_may hse, HUL.out]; rfl
      have htm : ((n : Nat) : Int).tmod 6 = ((n % 6 : Nat) : Int) := by rw [Int.ofNat_tmod]; rfl
      clear hsn hse hin
      by_cases h6 : 6 ≤ n
      · have h6' : (6 : Int) ≤ ((n : Nat) : Int) := by omega
        by_cases h7 : n ≤ 378
        · have h7' : ((n : Nat) : Int) ≤ 378 := by omega
          by_cases hm : n % 6 = 0
          · have hm' : ((((n % 6 : Nat) : Int)) == 0) = true := by simp [hm]
            have HN : Hid (MayU (uns l) = true) := by show _ = _; rw [hml]; simp [h6, h7, hm]
            have HM : Hid ((((n : Nat) : Int) % 6 == 0) = true) := by show _ = _; simp; omega
            clear h6 h7 hm hml
            go_wp2_with fail
            go_ret
            refine ⟨?_, hbr.out⟩
            rw [HN.out, ← HM.out]
            rfl
          · have hm' : ((((n % 6 : Nat) : Int)) == 0) = false := beq_eq_false_iff_ne.2 (by omega)
            have HN : Hid (MayU (uns l) = false) := by show _ = _; rw [hml]; simp [hm]
            have HM : Hid ((((n : Nat) : Int) % 6 == 0) = false) := beq_eq_false_iff_ne.2 (by omega)
            clear h6 h7 hm hml
            go_wp2_with fail
            go_ret
            refine ⟨?_, hbr.out⟩
            rw [HN.out, ← HM.out]
            rfl
        · have h7' : ¬ ((n : Nat) : Int) ≤ 378 := by omega
          have HN : Hid (MayU (uns l) = false) := by show _ = _; rw [hml]; simp [h7]
          clear h6 h7 hml
          go_wp2_with fail
          go_ret
          exact ⟨by rw [HN.out]; rfl, hbr.out⟩
      · have h6' : ¬ (6 : Int) ≤ ((n : Nat) : Int) := by omega
        have HN : Hid (MayU (uns l) = false) := by show _ = _; rw [hml]; simp [h6]
        clear h6 hml
        go_wp2_with fail
        go_ret
        exact ⟨by rw [HN.out]; rfl, hbr.out⟩

end Go.Proofs.Ytpdkeghmpnanpaa
