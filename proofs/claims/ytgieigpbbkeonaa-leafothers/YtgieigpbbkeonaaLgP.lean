/-
  Layer 8: LeafOthers' walk.
-/
import Derived.Test.YtgieigpbbkeonaaLgO
namespace Go.Proofs.Ytgieigpbbkeonaa
open Go.RowKit

set_option maxHeartbeats 32000000 in
set_option maxRecDepth 100000 in
theorem others_walk (w : World) (u v : Sl) (t : List Int) (l : List Sb) (hI : InI w u t) (hg0 : InS w v l) (r : Sl) (rows : List Sb) (hR0 : InS w r rows) (xa : Option Addr) (xl xc : Nat) (ats : List Nat) (hA0 : Came w xa xl xc ats) :
    Calls Try.prog 6 #[lfV u v, r.val, .slice xa xl xc] w fun e w' => e = .returned (.bool true) ∧ Below w.heap.size w w' := by
  have hA := below_alloc w (.cells #[u.val, v.val] 25)
  have HKB := hide (lfBlk_new w u.val v.val)
  have HIN : Hid (∀ W, Below w.heap.size w W → InS W v l) := fun W hb => ⟨hg0.len, hg0.nil, hg0.le, hg0.big, fun i hi => by
    obtain ⟨b, off, ha, hc⟩ := hg0.cell i hi
    exact ⟨b, off, ha, cell_below hc hb⟩, fun x hx => ⟨(hg0.bs x hx).bs.keep hb (Nat.le_refl _), (hg0.bs x hx).nil, (hg0.bs x hx).le, (hg0.bs x hx).big⟩⟩
  have HL := hide (light_any _ u v l (HIN.out _ hA) hI.big)
  have HA := hide hA
  have HW := hide awake_any
  have HII := hide hI
  have HRR := hide hR0
  have HAA := hide hA0
  have hrb : r.len ≤ 9223372036854775807 := hR0.big
  have hxb : xl ≤ 9223372036854775807 := hA0.big
  clear hI hg0 hA hR0 hA0
  obtain ⟨a, len, cap⟩ := v
  obtain ⟨ua, ul, uc⟩ := u
  obtain ⟨ra, rl, rc⟩ := r
  unfold lfV Sl.val at *
  simp only at *
  go_enter Try.func6, Try.ntmps6
  go_wp2_with fail
  refine HL.out.mono ?_
  rintro e w1 ⟨hs | ⟨hP, hs⟩, hb⟩
  · subst hs
    have HB := hide (rBelow HA.out hb)
    clear hb HL
    go_wp2_with fail
    refine (HW.out w1).mono ?_
    rintro e w2 ⟨rfl, hb2⟩
    have HB2 := hide (rBelow HB.out hb2)
    clear hb2
    go_wp2_with fail
    go_ret
    exact ⟨rfl, HB2.out⟩
  · subst hs
    have HB1 := hide (rBelow HA.out hb)
    have hk1 := HKB.out.below hb
    have c0 := hk1.c0
    have c1 := hk1.c1
    have HK1 := hide hk1
    have hi := HII.out.gi (by have := hP.2.1; simp only at this ⊢; omega)
    have hg := (HIN.out w (Below.refl _ _)).gb (by have := hP.1; simp only at this ⊢; omega) (fun x hx => by have := hP.2.2 x hx; omega)
    have HI := hide hi
    have HG := hide hg
    have HMS := hide (rmay_says w1 ⟨ua, ul, uc⟩ ⟨a, len, cap⟩ t l (hi.below HB1.out (Nat.le_refl _)) (hg.below HB1.out (Nat.le_refl _)))
    clear hb HL hk1 HKB hi hg hP HIN HII HA
    unfold lfV Sl.val at *
    simp only at *
    go_wp2_with fail
    refine HMS.out.mono ?_
    rintro e w2 ⟨⟨rr, rfl, hrr⟩, hb2⟩
    have HB2 := hide (rBelow HB1.out hb2)
    cases rr with
    | false =>
      clear hb2 hrr HMS c0 c1
      go_wp2_with fail
      refine (HW.out w2).mono ?_
      rintro e w3 ⟨rfl, hb3⟩
      have HB3 := hide (rBelow HB2.out hb3)
      clear hb3
      go_wp2_with fail
      go_ret
      exact ⟨rfl, HB3.out⟩
    | true =>
      have HM := hide (hrr.1 rfl)
      have hk2 := HK1.out.below hb2
      have d0 := hk2.c0
      have d1 := hk2.c1
      obtain ⟨W3, hst3, k3, hb3⟩ := box_new w2 ⟨ua, ul, uc⟩ ⟨a, len, cap⟩
      have HST3 := hide hst3
      have hBW := rBelow HB2.out hb3
      have hlt2 := HB2.out.size
      have HBX : Hid (∃ u' v' l', Bx w W3 w2.heap.size u' v' t l' ∧ MayL ⟨t, bss l'⟩) := ⟨_, _, _, ⟨k3, (HI.out.tight.below hBW (Nat.le_refl _)).wide (fun k hk => by omega), (HG.out.tight.below hBW (Nat.le_refl _)).wide (fun k hk => by omega), hBW, hlt2⟩, HM.out⟩
      obtain ⟨g, hgg⟩ : ∃ g, g = w2.heap.size := ⟨_, rfl⟩
      clear hb2 hrr HMS c0 c1 hk2 k3 hb3 hst3 hBW hlt2 HK1 HB1
      unfold lfV Sl.val at *
      simp only at *
      go_wp2_with (first | refine wpList_alloc _ rfl 25 rfl (.pointer (some ⟨w2.heap.size, 0, none⟩)) (w2.alloc (.cells #[.slice none 0 0, .slice none 0 0] 25)) (alloc_lf w2) ?_ | refine wpList_store _ rfl rfl 25 (.tmp 7) (.tmp 22) rfl (.pointer (some ⟨w2.heap.size, 0, none⟩)) (.agg #[.slice ua ul uc, .slice a len cap]) rfl rfl W3 HST3.out ?_)
      rw [← hgg] at HBX
      rw [← hgg]
      clear hgg HST3 d0 d1 HB2 HI HG HM
      go_loopw [8] (fun iv wr => ∃ i : Nat, i ≤ rl ∧ i ≤ xl ∧ i ≤ 40 ∧ iv = .int .i64 (i : Nat) ∧ Hid (∃ u' v' l', Bx w wr g u' v' t l' ∧ MayL ⟨t, bss l'⟩)) (fun iv _ => 40 - (intOf iv).toNat)
      case atStart => exact ⟨0, Nat.zero_le _, Nat.zero_le _, Nat.zero_le _, rfl, HBX⟩
      case round =>
        obtain ⟨i, hir, hix, hi40, rfl, hbx⟩ := hrel
        obtain ⟨⟨a2, n2, c2⟩, ⟨a5, n5, c5⟩, l', bx, hm⟩ := hbx.out
        have hn1000 : n5 ≤ 1000 := bx.gb.big
        rcases Nat.lt_or_ge i rl with h1 | h1
        · have i1 : ((i : Nat) : Int) < ((rl : Nat) : Int) := by omega
          rcases Nat.lt_or_ge i xl with h2 | h2
          · have i2 : ((i : Nat) : Int) < ((xl : Nat) : Int) := by omega
            rcases Nat.lt_or_ge i 40 with h3 | h3
            · have i3 : ((i : Nat) : Int) < 40 := by omega
              obtain ⟨rb, ro, hra, hrc⟩ := HRR.out.cell i h1
              replace hra : ra = some ⟨rb, ro, none⟩ := hra
              subst hra
              have hrm := HRR.out.bs _ (getD_memB (l := rows) (i := i) (by rw [HRR.out.len]; exact h1))
              obtain ⟨⟨⟨sa, sn, sc⟩, sbs⟩, hx⟩ : ∃ x, x = rows.getD i Sb.zero := ⟨_, rfl⟩
              rw [← hx] at hrc hrm
              have HRC : Hid (∀ W, Below w.heap.size w W → W.cell? ⟨rb, ro + i, none⟩ = some (.slice sa sn sc)) := fun W hW => cell_below hrc hW
              have HRM := hide hrm
              have hrc2 := HRC.out wr bx.e
              have hsnb : sn ≤ 9223372036854775807 := hrm.big
              by_cases h300 : 300 < sn
              · have i4 : (300 : Int) < ((sn : Nat) : Int) := by omega
                clear hrc hrm hx bx hm HRC HRM
                unfold Sl.val at *
                try simp only at *
                go_wp2_with fail
                go_roundw
                case rel => exact ⟨i + 1, by omega, by omega, by omega, by go_num, hbx⟩
                case measure => simp only [intOf]; omega
              · have i4 : ¬ (300 : Int) < ((sn : Nat) : Int) := by omega
                obtain ⟨xb, xo, hxa, hxc⟩ := HAA.out.bs.2.2 i h2
                subst hxa
                have hx256 := getD_lt HAA.out.bs.2.1 i
                obtain ⟨y, hy⟩ : ∃ y, y = ats.getD i 0 := ⟨_, rfl⟩
                rw [← hy] at hxc hx256
                have hxc2 : wr.cell? ⟨xb, xo + i, none⟩ = some (.int .u8 ((y : Nat) : Int)) := cell_below hxc bx.e
                obtain ⟨W5, hst5, b2, hb5⟩ := B2.start bx
                have hxc5 : W5.cell? ⟨xb, xo + i, none⟩ = some (.int .u8 ((y : Nat) : Int)) := cell_below hxc2 hb5
                have HST5 := hide hst5
                have HB2s := hide b2
                have HMM := hide hm
                have v0 := bx.k.c0
                have v1 := bx.k.c1
                have f0 := b2.k7.c0
                have f1 := b2.k7.c1
                have hrow5 := HRC.out W5 b2.e
                clear hrc hrm hx bx hm hxc hy hst5 b2 hb5 hbx HBX
                unfold lfV Sl.val at *
                simp only at *
                obtain ⟨h, hhh⟩ : ∃ h, h = wr.heap.size := ⟨_, rfl⟩
                rw [← hhh] at HB2s
                have HRW : Hid (∀ W, Frm (fun k => k = h) W5 W → W.cell? ⟨rb, ro + i, none⟩ = some (.slice sa sn sc)) := by
                  intro W hW
                  have hE := HB2s.out.e.trans (hW.below HB2s.out.e.size (fun k hk => by have := HB2s.out.le10; omega))
                  exact HRC.out W hE
                have HXR : Hid (∀ W, Below W5.heap.size W5 W → Cm (fun _ => True) W ⟨sa, sn, sc⟩ sbs) := fun W hW => ⟨⟨HRM.out.bs.keep (rBelow HB2s.out.e hW) (Nat.le_refl _), HRM.out.nil, HRM.out.le, HRM.out.big⟩, fun _ _ _ => trivial⟩
                have HOP : Hid (∀ W, Below W5.heap.size W5 W → Gi (fun _ => True) W ⟨a2, n2, c2⟩ t ∧ Gb (fun _ => True) W ⟨a5, n5, c5⟩ l') := fun W hW => ⟨(HB2s.out.below hW).gi.wide (fun _ _ => trivial), (HB2s.out.below hW).gb.wide (fun _ _ => trivial)⟩
                clear HRC HRM hsnb hrow5
                go_wp2_with (first | refine wpList_alloc _ rfl 25 rfl (.pointer (some ⟨wr.heap.size, 0, none⟩)) (wr.alloc (.cells #[.slice none 0 0, .slice none 0 0] 25)) (alloc_lf wr) ?_ | refine wpList_store _ rfl rfl 25 (.tmp 10) (.tmp 52) rfl (.pointer (some ⟨wr.heap.size, 0, none⟩)) (.agg #[.slice a2 n2 c2, .slice a5 n5 c5]) rfl rfl W5 HST5.out ?_)
                · rw [← hhh]
                  generalize ((y : Nat) : Int) / 3 % 66 = z
                  have hgo := HOP.out W5 (Below.refl _ _)
                  obtain ⟨c, hcc⟩ : ∃ c, c = (setA (bss l') z sbs).e := ⟨_, rfl⟩
                  have HO : Hid (∀ W, Below W5.heap.size W5 W → Calls Try.prog 22 #[lfV ⟨a2, n2, c2⟩ ⟨a5, n5, c5⟩, .int .i64 z, Sl.val ⟨sa, sn, sc⟩] W fun e w' => Told W t (setA (bss l') z sbs).s (mk2 c) e w') := by
                    intro W hW
                    rw [hcc]
                    exact set_any W _ _ _ l' (HOP.out W hW).1 (HOP.out W hW).2 HMM.out z ⟨⟨sa, sn, sc⟩, sbs⟩ (HXR.out W hW)
                  have htn := tn_set HMM.out z sbs
                  rw [← hcc] at htn
                  clear hgo HOP HXR hhh hcc
                  refine Pl.region_is (ops := Pl.find 13 ((Try.f6.body).getD .skip)) (by kernel_rfl) ?_
                  refine others13 W5 g h rb ro rl rc i ⟨a2, n2, c2⟩ ⟨a5, n5, c5⟩ ⟨sa, sn, sc⟩ _ _ z c t (setA (bss l') z sbs).s h1 HB2s.out.k7 HB2s.out.k10 HB2s.out.ne HRW.out HO.out (by rfl) rfl (by rfl) (by rfl) (by rfl) (by rfl) (by rfl) ?_
                  rintro q W6 e2 m2 d2 e5 m5 d5 l2 ⟨xb6, hbe⟩
                  simp only [Act.put, List.setIfInBounds_toArray, List.set_cons_zero, List.set_cons_succ]
                  have b3 := HB2s.out.turn xb6
                  clear xb6 HB2s HO HRW
                  have HTN := hide htn
                  have HBE := hide hbe
                  by_cases hc : c = 0
                  · subst hc
                    have HB2 := hide b3
                    obtain ⟨WQ, hWQ⟩ : ∃ W, W = W6 := ⟨_, rfl⟩
                    rw [← hWQ] at HB2
                    rw [← hWQ]
                    clear b3 htn hbe hWQ
                    have d0 := HB2.out.k7.c0
                    have d1 := HB2.out.k7.c1
                    have H0 := hide (Below.refl WQ.heap.size WQ)
                    unfold Sl.val at *
                    try simp only at *
                    go_wp2_with (fail)
                    go_loopw [12] (fun iv wr => ∃ k : Nat, k ≤ n5 ∧ iv = .int .i64 (k : Nat) ∧ Hid (Below WQ.heap.size WQ wr)) (fun iv _ => n5 - (intOf iv).toNat)
                    case atStart => exact ⟨0, Nat.zero_le _, rfl, H0⟩
                    case round =>
                      obtain ⟨k, hkn, rfl, hbr⟩ := hrel
                      have hR := HB2.out.below hbr.out
                      have e0 := hR.k7.c0
                      have e1 := hR.k7.c1
                      rcases Nat.lt_or_ge k n5 with hklt | hkge
                      · have j1 : ((k : Nat) : Int) < ((n5 : Nat) : Int) := by omega
                        have HR := hide hR
                        clear hR
                        unfold Sl.val at *
                        simp only at *
                        by_cases hz : ((k : Nat) : Int) ≠ z
                        · obtain ⟨b, o, ha, hcx⟩ := HR.out.gb.cell k hklt
                          replace ha : a5 = some ⟨b, o, none⟩ := ha
                          subst ha
                          have hat := HR.out.gb.at hklt
                          obtain ⟨⟨sa, sn, sc⟩, hsx⟩ : ∃ s, s = (l'.getD k Sb.zero).s := ⟨_, rfl⟩
                          rw [← hsx] at hcx hat
                          rcases Nat.eq_zero_or_pos sn with h0 | h0
                          · subst h0
                            have HCX := hide hcx
                            clear hcx hat hsx
                            go_wp2_with fail
                            refine Pl.region_is (ops := Pl.find 21 ((Try.f6.body).getD .skip)) (by kernel_rfl) ?_
                            refine others21B wr g h k b o n5 c5 (.slice a2 n2 c2) sa sc z hklt hz HR.out.k7 HCX.out (by rfl) rfl (by rfl) (by rfl) (by rfl) (by rfl) ?_
                            intro q w5 hb5
                            simp only [Act.put, List.setIfInBounds_toArray, List.set_cons_zero, List.set_cons_succ]
                            have HB5 := hide (rBelow hbr.out hb5)
                            clear hb5 HCX HR hz e0 e1
                            go_wp2_with fail
                            go_roundw
                            case rel => exact ⟨k + 1, by omega, by go_num, HB5⟩
                            case measure => simp only [intOf]; omega
                          · have hlen : sn = (sl (bss l') k).length := hat.2.1
                            have hne : sl (bss l') k ≠ [] := fun e => by rw [e] at hlen; simp at hlen; omega
                            have hrest := HTN.out.rest k (by rw [bss_length, HR.out.gb.len]; exact hklt) hz hne
                            rw [← HBE.out] at hrest
                            have hk2 : k < m5 := by have := hrest.1; rw [bss_length, HR.out.gb2.len] at this; exact this
                            obtain ⟨b2, o2, ha2, hcy⟩ := HR.out.gb2.cell k hk2
                            replace ha2 : e5 = some ⟨b2, o2, none⟩ := ha2
                            subst ha2
                            have hat2 := HR.out.gb2.at hk2
                            rw [hrest.2] at hat2
                            obtain ⟨⟨sa2, sn2, sc2⟩, hsy⟩ : ∃ s, s = (l2.getD k Sb.zero).s := ⟨_, rfl⟩
                            rw [← hsy] at hcy hat2
                            have HCX := hide hcx
                            have HCY := hide hcy
                            have HX1 := hide hat.1.came.bs
                            have HX2 := hide hat2.1.came.bs
                            clear hcx hcy hat hat2 hsx hsy hrest hne hlen
                            go_wp2_with fail
                            refine Pl.region_is (ops := Pl.find 21 ((Try.f6.body).getD .skip)) (by kernel_rfl) ?_
                            refine others21C wr g h k b o n5 c5 b2 o2 m5 d5 (.slice a2 n2 c2) (.slice e2 m2 d2) sa sn sc sa2 sn2 sc2 z (sl (bss l') k) hklt hk2 hz h0 HR.out.k7 HR.out.k10 HCX.out HCY.out HX1.out HX2.out (by rfl) rfl (by rfl) (by rfl) (by rfl) (by rfl) ?_
                            intro q w5 hb5
                            simp only [Act.put, List.setIfInBounds_toArray, List.set_cons_zero, List.set_cons_succ]
                            have HB5 := hide (rBelow hbr.out hb5)
                            clear hb5 HCX HCY HX1 HX2 HR hz h0 e0 e1 hk2
                            go_wp2_with fail
                            go_roundw
                            case rel => exact ⟨k + 1, by omega, by go_num, HB5⟩
                            case measure => simp only [intOf]; omega
                        · go_wp2_with fail
                          refine Pl.region_is (ops := Pl.find 21 ((Try.f6.body).getD .skip)) (by kernel_rfl) ?_
                          refine others21A wr g h k z hz (by rfl) rfl (by rfl) (by rfl) (by rfl) (by rfl) ?_
                          intro q w5 hb5
                          simp only [Act.put, List.setIfInBounds_toArray, List.set_cons_zero, List.set_cons_succ]
                          have HB5 := hide (rBelow hbr.out hb5)
                          clear hb5 HR hz e0 e1
                          go_wp2_with fail
                          go_roundw
                          case rel => exact ⟨k + 1, by omega, by go_num, HB5⟩
                          case measure => simp only [intOf]; omega
                      · have j1 : ¬ ((k : Nat) : Int) < ((n5 : Nat) : Int) := by omega
                        have p0 := hR.k10.c0
                        have p1 := hR.k10.c1
                        obtain ⟨W9, hst9, bx9⟩ := hR.fin
                        have HST9 := hide hst9
                        have hm9 : MayL ⟨t, bss l2⟩ := by rw [HBE.out]; exact HTN.out.may
                        have H9 : Hid (∃ u' v' l', Bx w W9 g u' v' t l' ∧ MayL ⟨t, bss l'⟩) := ⟨_, _, _, bx9, hm9⟩
                        clear hst9 bx9 hm9 hR HTN HBE hbr H0
                        unfold lfV Sl.val at *
                        simp only at *
                        go_wp2_with (refine wpList_store _ rfl rfl 25 (.tmp 7) (.tmp 137) rfl (.pointer (some ⟨g, 0, none⟩)) (.agg #[.slice e2 m2 d2, .slice e5 m5 d5]) rfl rfl W9 HST9.out ?_)
                        go_roundw
                        case rel => exact ⟨i + 1, by omega, by omega, by omega, by go_num, H9⟩
                        case measure => simp only [intOf]; omega
                  · have hs : bss l2 = bss l' := by rw [hbe]; exact htn.err hc
                    have hsm := rlsame_any W6 ⟨e2, m2, d2⟩ ⟨e5, m5, d5⟩ t l2 b3.gi2 b3.gb2 ⟨a2, n2, c2⟩ ⟨a5, n5, c5⟩ t l' b3.gi b3.gb
                    rw [sameLB_iff.2 ⟨rfl, hs⟩] at hsm
                    have HSM := hide hsm
                    have q0 := b3.k7.c0
                    have q1 := b3.k7.c1
                    have q2 := b3.k10.c0
                    have q3 := b3.k10.c1
                    have HB3 := hide b3
                    have hc2 : (c != 0) = true := by simp [hc]
                    clear b3 htn hbe hs hsm
                    unfold lfV Sl.val at *
                    try simp only at *
                    go_wp2_with (fail)
                    refine HSM.out.mono ?_
                    rintro e WQ ⟨rfl, hbq⟩
                    have HB2 := hide (HB3.out.below hbq)
                    clear hbq HSM HB3 q0 q1 q2 q3
                    have d0 := HB2.out.k7.c0
                    have d1 := HB2.out.k7.c1
                    have H0 := hide (Below.refl WQ.heap.size WQ)
                    unfold Sl.val at *
                    try simp only at *
                    go_wp2_with (fail)
                    go_loopw [12] (fun iv wr => ∃ k : Nat, k ≤ n5 ∧ iv = .int .i64 (k : Nat) ∧ Hid (Below WQ.heap.size WQ wr)) (fun iv _ => n5 - (intOf iv).toNat)
                    case atStart => exact ⟨0, Nat.zero_le _, rfl, H0⟩
                    case round =>
                      obtain ⟨k, hkn, rfl, hbr⟩ := hrel
                      have hR := HB2.out.below hbr.out
                      have e0 := hR.k7.c0
                      have e1 := hR.k7.c1
                      rcases Nat.lt_or_ge k n5 with hklt | hkge
                      · have j1 : ((k : Nat) : Int) < ((n5 : Nat) : Int) := by omega
                        have HR := hide hR
                        clear hR
                        unfold Sl.val at *
                        simp only at *
                        by_cases hz : ((k : Nat) : Int) ≠ z
                        · obtain ⟨b, o, ha, hcx⟩ := HR.out.gb.cell k hklt
                          replace ha : a5 = some ⟨b, o, none⟩ := ha
                          subst ha
                          have hat := HR.out.gb.at hklt
                          obtain ⟨⟨sa, sn, sc⟩, hsx⟩ : ∃ s, s = (l'.getD k Sb.zero).s := ⟨_, rfl⟩
                          rw [← hsx] at hcx hat
                          rcases Nat.eq_zero_or_pos sn with h0 | h0
                          · subst h0
                            have HCX := hide hcx
                            clear hcx hat hsx
                            go_wp2_with fail
                            refine Pl.region_is (ops := Pl.find 21 ((Try.f6.body).getD .skip)) (by kernel_rfl) ?_
                            refine others21B wr g h k b o n5 c5 (.slice a2 n2 c2) sa sc z hklt hz HR.out.k7 HCX.out (by rfl) rfl (by rfl) (by rfl) (by rfl) (by rfl) ?_
                            intro q w5 hb5
                            simp only [Act.put, List.setIfInBounds_toArray, List.set_cons_zero, List.set_cons_succ]
                            have HB5 := hide (rBelow hbr.out hb5)
                            clear hb5 HCX HR hz e0 e1
                            go_wp2_with fail
                            go_roundw
                            case rel => exact ⟨k + 1, by omega, by go_num, HB5⟩
                            case measure => simp only [intOf]; omega
                          · have hlen : sn = (sl (bss l') k).length := hat.2.1
                            have hne : sl (bss l') k ≠ [] := fun e => by rw [e] at hlen; simp at hlen; omega
                            have hrest := HTN.out.rest k (by rw [bss_length, HR.out.gb.len]; exact hklt) hz hne
                            rw [← HBE.out] at hrest
                            have hk2 : k < m5 := by have := hrest.1; rw [bss_length, HR.out.gb2.len] at this; exact this
                            obtain ⟨b2, o2, ha2, hcy⟩ := HR.out.gb2.cell k hk2
                            replace ha2 : e5 = some ⟨b2, o2, none⟩ := ha2
                            subst ha2
                            have hat2 := HR.out.gb2.at hk2
                            rw [hrest.2] at hat2
                            obtain ⟨⟨sa2, sn2, sc2⟩, hsy⟩ : ∃ s, s = (l2.getD k Sb.zero).s := ⟨_, rfl⟩
                            rw [← hsy] at hcy hat2
                            have HCX := hide hcx
                            have HCY := hide hcy
                            have HX1 := hide hat.1.came.bs
                            have HX2 := hide hat2.1.came.bs
                            clear hcx hcy hat hat2 hsx hsy hrest hne hlen
                            go_wp2_with fail
                            refine Pl.region_is (ops := Pl.find 21 ((Try.f6.body).getD .skip)) (by kernel_rfl) ?_
                            refine others21C wr g h k b o n5 c5 b2 o2 m5 d5 (.slice a2 n2 c2) (.slice e2 m2 d2) sa sn sc sa2 sn2 sc2 z (sl (bss l') k) hklt hk2 hz h0 HR.out.k7 HR.out.k10 HCX.out HCY.out HX1.out HX2.out (by rfl) rfl (by rfl) (by rfl) (by rfl) (by rfl) ?_
                            intro q w5 hb5
                            simp only [Act.put, List.setIfInBounds_toArray, List.set_cons_zero, List.set_cons_succ]
                            have HB5 := hide (rBelow hbr.out hb5)
                            clear hb5 HCX HCY HX1 HX2 HR hz h0 e0 e1 hk2
                            go_wp2_with fail
                            go_roundw
                            case rel => exact ⟨k + 1, by omega, by go_num, HB5⟩
                            case measure => simp only [intOf]; omega
                        · go_wp2_with fail
                          refine Pl.region_is (ops := Pl.find 21 ((Try.f6.body).getD .skip)) (by kernel_rfl) ?_
                          refine others21A wr g h k z hz (by rfl) rfl (by rfl) (by rfl) (by rfl) (by rfl) ?_
                          intro q w5 hb5
                          simp only [Act.put, List.setIfInBounds_toArray, List.set_cons_zero, List.set_cons_succ]
                          have HB5 := hide (rBelow hbr.out hb5)
                          clear hb5 HR hz e0 e1
                          go_wp2_with fail
                          go_roundw
                          case rel => exact ⟨k + 1, by omega, by go_num, HB5⟩
                          case measure => simp only [intOf]; omega
                      · have j1 : ¬ ((k : Nat) : Int) < ((n5 : Nat) : Int) := by omega
                        have p0 := hR.k10.c0
                        have p1 := hR.k10.c1
                        obtain ⟨W9, hst9, bx9⟩ := hR.fin
                        have HST9 := hide hst9
                        have hm9 : MayL ⟨t, bss l2⟩ := by rw [HBE.out]; exact HTN.out.may
                        have H9 : Hid (∃ u' v' l', Bx w W9 g u' v' t l' ∧ MayL ⟨t, bss l'⟩) := ⟨_, _, _, bx9, hm9⟩
                        clear hst9 bx9 hm9 hR HTN HBE hbr H0
                        unfold lfV Sl.val at *
                        simp only at *
                        go_wp2_with (refine wpList_store _ rfl rfl 25 (.tmp 7) (.tmp 137) rfl (.pointer (some ⟨g, 0, none⟩)) (.agg #[.slice e2 m2 d2, .slice e5 m5 d5]) rfl rfl W9 HST9.out ?_)
                        go_roundw
                        case rel => exact ⟨i + 1, by omega, by omega, by omega, by go_num, H9⟩
                        case measure => simp only [intOf]; omega
                · rw [← hhh]
                  generalize ((y : Nat) : Int) / 3 % 66 = z
                  have hgo := HOP.out W5 (Below.refl _ _)
                  have HD := hide (drop_any W5 _ _ _ l' hgo.1 hgo.2 HMM.out z)
                  clear hgo HOP HXR HRW hhh
                  refine HD.out.mono ?_
                  rintro e w6 td
                  obtain ⟨e2, m2, d2, e5, m5, d5, l2, W6, rfl, hst6, xb6, hbe⟩ := xb_lay HB2s.out.k10 (Below.refl _ _) td
                  have htn := tn_drop HMM.out z
                  have b3 := HB2s.out.turn xb6
                  have HST6 := hide hst6
                  obtain ⟨c, hcc⟩ : ∃ c, c = (dropA (bss l') z).e := ⟨_, rfl⟩
                  rw [← hcc] at htn
                  rw [← hcc]
                  clear td hst6 xb6 HB2s HD hcc
                  unfold mk2
                  have HTN := hide htn
                  have HBE := hide hbe
                  by_cases hc : c = 0
                  · subst hc
                    have HB2 := hide b3
                    obtain ⟨WQ, hWQ⟩ : ∃ W, W = W6 := ⟨_, rfl⟩
                    rw [← hWQ] at HB2
                    rw [← hWQ] at HST6
                    clear b3 htn hbe hWQ
                    have d0 := HB2.out.k7.c0
                    have d1 := HB2.out.k7.c1
                    have H0 := hide (Below.refl WQ.heap.size WQ)
                    unfold Sl.val at *
                    try simp only at *
                    go_wp2_with (refine wpList_store _ rfl rfl 25 (.tmp 10) (.tmp 86) rfl (.pointer (some ⟨h, 0, none⟩)) (.agg #[.slice e2 m2 d2, .slice e5 m5 d5]) rfl rfl WQ HST6.out ?_)
                    go_loopw [12] (fun iv wr => ∃ k : Nat, k ≤ n5 ∧ iv = .int .i64 (k : Nat) ∧ Hid (Below WQ.heap.size WQ wr)) (fun iv _ => n5 - (intOf iv).toNat)
                    case atStart => exact ⟨0, Nat.zero_le _, rfl, H0⟩
                    case round =>
                      obtain ⟨k, hkn, rfl, hbr⟩ := hrel
                      have hR := HB2.out.below hbr.out
                      have e0 := hR.k7.c0
                      have e1 := hR.k7.c1
                      rcases Nat.lt_or_ge k n5 with hklt | hkge
                      · have j1 : ((k : Nat) : Int) < ((n5 : Nat) : Int) := by omega
                        have HR := hide hR
                        clear hR
                        unfold Sl.val at *
                        simp only at *
                        by_cases hz : ((k : Nat) : Int) ≠ z
                        · obtain ⟨b, o, ha, hcx⟩ := HR.out.gb.cell k hklt
                          replace ha : a5 = some ⟨b, o, none⟩ := ha
                          subst ha
                          have hat := HR.out.gb.at hklt
                          obtain ⟨⟨sa, sn, sc⟩, hsx⟩ : ∃ s, s = (l'.getD k Sb.zero).s := ⟨_, rfl⟩
                          rw [← hsx] at hcx hat
                          rcases Nat.eq_zero_or_pos sn with h0 | h0
                          · subst h0
                            have HCX := hide hcx
                            clear hcx hat hsx
                            go_wp2_with fail
                            refine Pl.region_is (ops := Pl.find 21 ((Try.f6.body).getD .skip)) (by kernel_rfl) ?_
                            refine others21B wr g h k b o n5 c5 (.slice a2 n2 c2) sa sc z hklt hz HR.out.k7 HCX.out (by rfl) rfl (by rfl) (by rfl) (by rfl) (by rfl) ?_
                            intro q w5 hb5
                            simp only [Act.put, List.setIfInBounds_toArray, List.set_cons_zero, List.set_cons_succ]
                            have HB5 := hide (rBelow hbr.out hb5)
                            clear hb5 HCX HR hz e0 e1
                            go_wp2_with fail
                            go_roundw
                            case rel => exact ⟨k + 1, by omega, by go_num, HB5⟩
                            case measure => simp only [intOf]; omega
                          · have hlen : sn = (sl (bss l') k).length := hat.2.1
                            have hne : sl (bss l') k ≠ [] := fun e => by rw [e] at hlen; simp at hlen; omega
                            have hrest := HTN.out.rest k (by rw [bss_length, HR.out.gb.len]; exact hklt) hz hne
                            rw [← HBE.out] at hrest
                            have hk2 : k < m5 := by have := hrest.1; rw [bss_length, HR.out.gb2.len] at this; exact this
                            obtain ⟨b2, o2, ha2, hcy⟩ := HR.out.gb2.cell k hk2
                            replace ha2 : e5 = some ⟨b2, o2, none⟩ := ha2
                            subst ha2
                            have hat2 := HR.out.gb2.at hk2
                            rw [hrest.2] at hat2
                            obtain ⟨⟨sa2, sn2, sc2⟩, hsy⟩ : ∃ s, s = (l2.getD k Sb.zero).s := ⟨_, rfl⟩
                            rw [← hsy] at hcy hat2
                            have HCX := hide hcx
                            have HCY := hide hcy
                            have HX1 := hide hat.1.came.bs
                            have HX2 := hide hat2.1.came.bs
                            clear hcx hcy hat hat2 hsx hsy hrest hne hlen
                            go_wp2_with fail
                            refine Pl.region_is (ops := Pl.find 21 ((Try.f6.body).getD .skip)) (by kernel_rfl) ?_
                            refine others21C wr g h k b o n5 c5 b2 o2 m5 d5 (.slice a2 n2 c2) (.slice e2 m2 d2) sa sn sc sa2 sn2 sc2 z (sl (bss l') k) hklt hk2 hz h0 HR.out.k7 HR.out.k10 HCX.out HCY.out HX1.out HX2.out (by rfl) rfl (by rfl) (by rfl) (by rfl) (by rfl) ?_
                            intro q w5 hb5
                            simp only [Act.put, List.setIfInBounds_toArray, List.set_cons_zero, List.set_cons_succ]
                            have HB5 := hide (rBelow hbr.out hb5)
                            clear hb5 HCX HCY HX1 HX2 HR hz h0 e0 e1 hk2
                            go_wp2_with fail
                            go_roundw
                            case rel => exact ⟨k + 1, by omega, by go_num, HB5⟩
                            case measure => simp only [intOf]; omega
                        · go_wp2_with fail
                          refine Pl.region_is (ops := Pl.find 21 ((Try.f6.body).getD .skip)) (by kernel_rfl) ?_
                          refine others21A wr g h k z hz (by rfl) rfl (by rfl) (by rfl) (by rfl) (by rfl) ?_
                          intro q w5 hb5
                          simp only [Act.put, List.setIfInBounds_toArray, List.set_cons_zero, List.set_cons_succ]
                          have HB5 := hide (rBelow hbr.out hb5)
                          clear hb5 HR hz e0 e1
                          go_wp2_with fail
                          go_roundw
                          case rel => exact ⟨k + 1, by omega, by go_num, HB5⟩
                          case measure => simp only [intOf]; omega
                      · have j1 : ¬ ((k : Nat) : Int) < ((n5 : Nat) : Int) := by omega
                        have p0 := hR.k10.c0
                        have p1 := hR.k10.c1
                        obtain ⟨W9, hst9, bx9⟩ := hR.fin
                        have HST9 := hide hst9
                        have hm9 : MayL ⟨t, bss l2⟩ := by rw [HBE.out]; exact HTN.out.may
                        have H9 : Hid (∃ u' v' l', Bx w W9 g u' v' t l' ∧ MayL ⟨t, bss l'⟩) := ⟨_, _, _, bx9, hm9⟩
                        clear hst9 bx9 hm9 hR HTN HBE hbr H0
                        unfold lfV Sl.val at *
                        simp only at *
                        go_wp2_with (refine wpList_store _ rfl rfl 25 (.tmp 7) (.tmp 137) rfl (.pointer (some ⟨g, 0, none⟩)) (.agg #[.slice e2 m2 d2, .slice e5 m5 d5]) rfl rfl W9 HST9.out ?_)
                        go_roundw
                        case rel => exact ⟨i + 1, by omega, by omega, by omega, by go_num, H9⟩
                        case measure => simp only [intOf]; omega
                  · have hs : bss l2 = bss l' := by rw [hbe]; exact htn.err hc
                    have hsm := rlsame_any W6 ⟨e2, m2, d2⟩ ⟨e5, m5, d5⟩ t l2 b3.gi2 b3.gb2 ⟨a2, n2, c2⟩ ⟨a5, n5, c5⟩ t l' b3.gi b3.gb
                    rw [sameLB_iff.2 ⟨rfl, hs⟩] at hsm
                    have HSM := hide hsm
                    have q0 := b3.k7.c0
                    have q1 := b3.k7.c1
                    have q2 := b3.k10.c0
                    have q3 := b3.k10.c1
                    have HB3 := hide b3
                    have hc2 : (c != 0) = true := by simp [hc]
                    clear b3 htn hbe hs hsm
                    unfold lfV Sl.val at *
                    try simp only at *
                    go_wp2_with (refine wpList_store _ rfl rfl 25 (.tmp 10) (.tmp 86) rfl (.pointer (some ⟨h, 0, none⟩)) (.agg #[.slice e2 m2 d2, .slice e5 m5 d5]) rfl rfl W6 HST6.out ?_)
                    refine HSM.out.mono ?_
                    rintro e WQ ⟨rfl, hbq⟩
                    have HB2 := hide (HB3.out.below hbq)
                    clear hbq HSM HB3 q0 q1 q2 q3
                    have d0 := HB2.out.k7.c0
                    have d1 := HB2.out.k7.c1
                    have H0 := hide (Below.refl WQ.heap.size WQ)
                    unfold Sl.val at *
                    try simp only at *
                    go_wp2_with (fail)
                    go_loopw [12] (fun iv wr => ∃ k : Nat, k ≤ n5 ∧ iv = .int .i64 (k : Nat) ∧ Hid (Below WQ.heap.size WQ wr)) (fun iv _ => n5 - (intOf iv).toNat)
                    case atStart => exact ⟨0, Nat.zero_le _, rfl, H0⟩
                    case round =>
                      obtain ⟨k, hkn, rfl, hbr⟩ := hrel
                      have hR := HB2.out.below hbr.out
                      have e0 := hR.k7.c0
                      have e1 := hR.k7.c1
                      rcases Nat.lt_or_ge k n5 with hklt | hkge
                      · have j1 : ((k : Nat) : Int) < ((n5 : Nat) : Int) := by omega
                        have HR := hide hR
                        clear hR
                        unfold Sl.val at *
                        simp only at *
                        by_cases hz : ((k : Nat) : Int) ≠ z
                        · obtain ⟨b, o, ha, hcx⟩ := HR.out.gb.cell k hklt
                          replace ha : a5 = some ⟨b, o, none⟩ := ha
                          subst ha
                          have hat := HR.out.gb.at hklt
                          obtain ⟨⟨sa, sn, sc⟩, hsx⟩ : ∃ s, s = (l'.getD k Sb.zero).s := ⟨_, rfl⟩
                          rw [← hsx] at hcx hat
                          rcases Nat.eq_zero_or_pos sn with h0 | h0
                          · subst h0
                            have HCX := hide hcx
                            clear hcx hat hsx
                            go_wp2_with fail
                            refine Pl.region_is (ops := Pl.find 21 ((Try.f6.body).getD .skip)) (by kernel_rfl) ?_
                            refine others21B wr g h k b o n5 c5 (.slice a2 n2 c2) sa sc z hklt hz HR.out.k7 HCX.out (by rfl) rfl (by rfl) (by rfl) (by rfl) (by rfl) ?_
                            intro q w5 hb5
                            simp only [Act.put, List.setIfInBounds_toArray, List.set_cons_zero, List.set_cons_succ]
                            have HB5 := hide (rBelow hbr.out hb5)
                            clear hb5 HCX HR hz e0 e1
                            go_wp2_with fail
                            go_roundw
                            case rel => exact ⟨k + 1, by omega, by go_num, HB5⟩
                            case measure => simp only [intOf]; omega
                          · have hlen : sn = (sl (bss l') k).length := hat.2.1
                            have hne : sl (bss l') k ≠ [] := fun e => by rw [e] at hlen; simp at hlen; omega
                            have hrest := HTN.out.rest k (by rw [bss_length, HR.out.gb.len]; exact hklt) hz hne
                            rw [← HBE.out] at hrest
                            have hk2 : k < m5 := by have := hrest.1; rw [bss_length, HR.out.gb2.len] at this; exact this
                            obtain ⟨b2, o2, ha2, hcy⟩ := HR.out.gb2.cell k hk2
                            replace ha2 : e5 = some ⟨b2, o2, none⟩ := ha2
                            subst ha2
                            have hat2 := HR.out.gb2.at hk2
                            rw [hrest.2] at hat2
                            obtain ⟨⟨sa2, sn2, sc2⟩, hsy⟩ : ∃ s, s = (l2.getD k Sb.zero).s := ⟨_, rfl⟩
                            rw [← hsy] at hcy hat2
                            have HCX := hide hcx
                            have HCY := hide hcy
                            have HX1 := hide hat.1.came.bs
                            have HX2 := hide hat2.1.came.bs
                            clear hcx hcy hat hat2 hsx hsy hrest hne hlen
                            go_wp2_with fail
                            refine Pl.region_is (ops := Pl.find 21 ((Try.f6.body).getD .skip)) (by kernel_rfl) ?_
                            refine others21C wr g h k b o n5 c5 b2 o2 m5 d5 (.slice a2 n2 c2) (.slice e2 m2 d2) sa sn sc sa2 sn2 sc2 z (sl (bss l') k) hklt hk2 hz h0 HR.out.k7 HR.out.k10 HCX.out HCY.out HX1.out HX2.out (by rfl) rfl (by rfl) (by rfl) (by rfl) (by rfl) ?_
                            intro q w5 hb5
                            simp only [Act.put, List.setIfInBounds_toArray, List.set_cons_zero, List.set_cons_succ]
                            have HB5 := hide (rBelow hbr.out hb5)
                            clear hb5 HCX HCY HX1 HX2 HR hz h0 e0 e1 hk2
                            go_wp2_with fail
                            go_roundw
                            case rel => exact ⟨k + 1, by omega, by go_num, HB5⟩
                            case measure => simp only [intOf]; omega
                        · go_wp2_with fail
                          refine Pl.region_is (ops := Pl.find 21 ((Try.f6.body).getD .skip)) (by kernel_rfl) ?_
                          refine others21A wr g h k z hz (by rfl) rfl (by rfl) (by rfl) (by rfl) (by rfl) ?_
                          intro q w5 hb5
                          simp only [Act.put, List.setIfInBounds_toArray, List.set_cons_zero, List.set_cons_succ]
                          have HB5 := hide (rBelow hbr.out hb5)
                          clear hb5 HR hz e0 e1
                          go_wp2_with fail
                          go_roundw
                          case rel => exact ⟨k + 1, by omega, by go_num, HB5⟩
                          case measure => simp only [intOf]; omega
                      · have j1 : ¬ ((k : Nat) : Int) < ((n5 : Nat) : Int) := by omega
                        have p0 := hR.k10.c0
                        have p1 := hR.k10.c1
                        obtain ⟨W9, hst9, bx9⟩ := hR.fin
                        have HST9 := hide hst9
                        have hm9 : MayL ⟨t, bss l2⟩ := by rw [HBE.out]; exact HTN.out.may
                        have H9 : Hid (∃ u' v' l', Bx w W9 g u' v' t l' ∧ MayL ⟨t, bss l'⟩) := ⟨_, _, _, bx9, hm9⟩
                        clear hst9 bx9 hm9 hR HTN HBE hbr H0
                        unfold lfV Sl.val at *
                        simp only at *
                        go_wp2_with (refine wpList_store _ rfl rfl 25 (.tmp 7) (.tmp 137) rfl (.pointer (some ⟨g, 0, none⟩)) (.agg #[.slice e2 m2 d2, .slice e5 m5 d5]) rfl rfl W9 HST9.out ?_)
                        go_roundw
                        case rel => exact ⟨i + 1, by omega, by omega, by omega, by go_num, H9⟩
                        case measure => simp only [intOf]; omega
                · rw [← hhh]
                  have hgo := HOP.out W5 (Below.refl _ _)
                  obtain ⟨c, hcc⟩ : ∃ c, c = (insA (bss l') sbs).e := ⟨_, rfl⟩
                  obtain ⟨z, hzz⟩ : ∃ z, z = (insA (bss l') sbs).at_ := ⟨_, rfl⟩
                  have HO : Hid (∀ W, Below W5.heap.size W5 W → Calls Try.prog 24 #[lfV ⟨a2, n2, c2⟩ ⟨a5, n5, c5⟩, Sl.val ⟨sa, sn, sc⟩] W fun e w' => Told W t (insA (bss l') sbs).s (mk3 z c) e w') := by
                    intro W hW
                    rw [hcc, hzz]
                    exact ins_any W _ _ _ l' (HOP.out W hW).1 (HOP.out W hW).2 HMM.out ⟨⟨sa, sn, sc⟩, sbs⟩ (HXR.out W hW)
                  have htn := tn_ins HMM.out sbs
                  rw [← hcc, ← hzz] at htn
                  clear hgo HOP HXR hhh hcc hzz
                  refine Pl.region_is (ops := Pl.find 11 ((Try.f6.body).getD .skip)) (by kernel_rfl) ?_
                  refine others11 W5 g h rb ro rl rc i ⟨a2, n2, c2⟩ ⟨a5, n5, c5⟩ ⟨sa, sn, sc⟩ _ _ z c t (insA (bss l') sbs).s h1 HB2s.out.k7 HB2s.out.k10 HB2s.out.ne HRW.out HO.out (by rfl) rfl (by rfl) (by rfl) (by rfl) (by rfl) ?_
                  rintro q W6 e2 m2 d2 e5 m5 d5 l2 ⟨xb6, hbe⟩
                  simp only [Act.put, List.setIfInBounds_toArray, List.set_cons_zero, List.set_cons_succ]
                  have b3 := HB2s.out.turn xb6
                  clear xb6 HB2s HO HRW
                  have HTN := hide htn
                  have HBE := hide hbe
                  by_cases hc : c = 0
                  · subst hc
                    have HB2 := hide b3
                    obtain ⟨WQ, hWQ⟩ : ∃ W, W = W6 := ⟨_, rfl⟩
                    rw [← hWQ] at HB2
                    rw [← hWQ]
                    clear b3 htn hbe hWQ
                    have d0 := HB2.out.k7.c0
                    have d1 := HB2.out.k7.c1
                    have H0 := hide (Below.refl WQ.heap.size WQ)
                    unfold Sl.val at *
                    try simp only at *
                    go_wp2_with (fail)
                    go_loopw [12] (fun iv wr => ∃ k : Nat, k ≤ n5 ∧ iv = .int .i64 (k : Nat) ∧ Hid (Below WQ.heap.size WQ wr)) (fun iv _ => n5 - (intOf iv).toNat)
                    case atStart => exact ⟨0, Nat.zero_le _, rfl, H0⟩
                    case round =>
                      obtain ⟨k, hkn, rfl, hbr⟩ := hrel
                      have hR := HB2.out.below hbr.out
                      have e0 := hR.k7.c0
                      have e1 := hR.k7.c1
                      rcases Nat.lt_or_ge k n5 with hklt | hkge
                      · have j1 : ((k : Nat) : Int) < ((n5 : Nat) : Int) := by omega
                        have HR := hide hR
                        clear hR
                        unfold Sl.val at *
                        simp only at *
                        by_cases hz : ((k : Nat) : Int) ≠ z
                        · obtain ⟨b, o, ha, hcx⟩ := HR.out.gb.cell k hklt
                          replace ha : a5 = some ⟨b, o, none⟩ := ha
                          subst ha
                          have hat := HR.out.gb.at hklt
                          obtain ⟨⟨sa, sn, sc⟩, hsx⟩ : ∃ s, s = (l'.getD k Sb.zero).s := ⟨_, rfl⟩
                          rw [← hsx] at hcx hat
                          rcases Nat.eq_zero_or_pos sn with h0 | h0
                          · subst h0
                            have HCX := hide hcx
                            clear hcx hat hsx
                            go_wp2_with fail
                            refine Pl.region_is (ops := Pl.find 21 ((Try.f6.body).getD .skip)) (by kernel_rfl) ?_
                            refine others21B wr g h k b o n5 c5 (.slice a2 n2 c2) sa sc z hklt hz HR.out.k7 HCX.out (by rfl) rfl (by rfl) (by rfl) (by rfl) (by rfl) ?_
                            intro q w5 hb5
                            simp only [Act.put, List.setIfInBounds_toArray, List.set_cons_zero, List.set_cons_succ]
                            have HB5 := hide (rBelow hbr.out hb5)
                            clear hb5 HCX HR hz e0 e1
                            go_wp2_with fail
                            go_roundw
                            case rel => exact ⟨k + 1, by omega, by go_num, HB5⟩
                            case measure => simp only [intOf]; omega
                          · have hlen : sn = (sl (bss l') k).length := hat.2.1
                            have hne : sl (bss l') k ≠ [] := fun e => by rw [e] at hlen; simp at hlen; omega
                            have hrest := HTN.out.rest k (by rw [bss_length, HR.out.gb.len]; exact hklt) hz hne
                            rw [← HBE.out] at hrest
                            have hk2 : k < m5 := by have := hrest.1; rw [bss_length, HR.out.gb2.len] at this; exact this
                            obtain ⟨b2, o2, ha2, hcy⟩ := HR.out.gb2.cell k hk2
                            replace ha2 : e5 = some ⟨b2, o2, none⟩ := ha2
                            subst ha2
                            have hat2 := HR.out.gb2.at hk2
                            rw [hrest.2] at hat2
                            obtain ⟨⟨sa2, sn2, sc2⟩, hsy⟩ : ∃ s, s = (l2.getD k Sb.zero).s := ⟨_, rfl⟩
                            rw [← hsy] at hcy hat2
                            have HCX := hide hcx
                            have HCY := hide hcy
                            have HX1 := hide hat.1.came.bs
                            have HX2 := hide hat2.1.came.bs
                            clear hcx hcy hat hat2 hsx hsy hrest hne hlen
                            go_wp2_with fail
                            refine Pl.region_is (ops := Pl.find 21 ((Try.f6.body).getD .skip)) (by kernel_rfl) ?_
                            refine others21C wr g h k b o n5 c5 b2 o2 m5 d5 (.slice a2 n2 c2) (.slice e2 m2 d2) sa sn sc sa2 sn2 sc2 z (sl (bss l') k) hklt hk2 hz h0 HR.out.k7 HR.out.k10 HCX.out HCY.out HX1.out HX2.out (by rfl) rfl (by rfl) (by rfl) (by rfl) (by rfl) ?_
                            intro q w5 hb5
                            simp only [Act.put, List.setIfInBounds_toArray, List.set_cons_zero, List.set_cons_succ]
                            have HB5 := hide (rBelow hbr.out hb5)
                            clear hb5 HCX HCY HX1 HX2 HR hz h0 e0 e1 hk2
                            go_wp2_with fail
                            go_roundw
                            case rel => exact ⟨k + 1, by omega, by go_num, HB5⟩
                            case measure => simp only [intOf]; omega
                        · go_wp2_with fail
                          refine Pl.region_is (ops := Pl.find 21 ((Try.f6.body).getD .skip)) (by kernel_rfl) ?_
                          refine others21A wr g h k z hz (by rfl) rfl (by rfl) (by rfl) (by rfl) (by rfl) ?_
                          intro q w5 hb5
                          simp only [Act.put, List.setIfInBounds_toArray, List.set_cons_zero, List.set_cons_succ]
                          have HB5 := hide (rBelow hbr.out hb5)
                          clear hb5 HR hz e0 e1
                          go_wp2_with fail
                          go_roundw
                          case rel => exact ⟨k + 1, by omega, by go_num, HB5⟩
                          case measure => simp only [intOf]; omega
                      · have j1 : ¬ ((k : Nat) : Int) < ((n5 : Nat) : Int) := by omega
                        have p0 := hR.k10.c0
                        have p1 := hR.k10.c1
                        obtain ⟨W9, hst9, bx9⟩ := hR.fin
                        have HST9 := hide hst9
                        have hm9 : MayL ⟨t, bss l2⟩ := by rw [HBE.out]; exact HTN.out.may
                        have H9 : Hid (∃ u' v' l', Bx w W9 g u' v' t l' ∧ MayL ⟨t, bss l'⟩) := ⟨_, _, _, bx9, hm9⟩
                        clear hst9 bx9 hm9 hR HTN HBE hbr H0
                        unfold lfV Sl.val at *
                        simp only at *
                        go_wp2_with (refine wpList_store _ rfl rfl 25 (.tmp 7) (.tmp 137) rfl (.pointer (some ⟨g, 0, none⟩)) (.agg #[.slice e2 m2 d2, .slice e5 m5 d5]) rfl rfl W9 HST9.out ?_)
                        go_roundw
                        case rel => exact ⟨i + 1, by omega, by omega, by omega, by go_num, H9⟩
                        case measure => simp only [intOf]; omega
                  · have hs : bss l2 = bss l' := by rw [hbe]; exact htn.err hc
                    have hsm := rlsame_any W6 ⟨e2, m2, d2⟩ ⟨e5, m5, d5⟩ t l2 b3.gi2 b3.gb2 ⟨a2, n2, c2⟩ ⟨a5, n5, c5⟩ t l' b3.gi b3.gb
                    rw [sameLB_iff.2 ⟨rfl, hs⟩] at hsm
                    have HSM := hide hsm
                    have q0 := b3.k7.c0
                    have q1 := b3.k7.c1
                    have q2 := b3.k10.c0
                    have q3 := b3.k10.c1
                    have HB3 := hide b3
                    have hc2 : (c != 0) = true := by simp [hc]
                    clear b3 htn hbe hs hsm
                    unfold lfV Sl.val at *
                    try simp only at *
                    go_wp2_with (fail)
                    refine HSM.out.mono ?_
                    rintro e WQ ⟨rfl, hbq⟩
                    have HB2 := hide (HB3.out.below hbq)
                    clear hbq HSM HB3 q0 q1 q2 q3
                    have d0 := HB2.out.k7.c0
                    have d1 := HB2.out.k7.c1
                    have H0 := hide (Below.refl WQ.heap.size WQ)
                    unfold Sl.val at *
                    try simp only at *
                    go_wp2_with (fail)
                    go_loopw [12] (fun iv wr => ∃ k : Nat, k ≤ n5 ∧ iv = .int .i64 (k : Nat) ∧ Hid (Below WQ.heap.size WQ wr)) (fun iv _ => n5 - (intOf iv).toNat)
                    case atStart => exact ⟨0, Nat.zero_le _, rfl, H0⟩
                    case round =>
                      obtain ⟨k, hkn, rfl, hbr⟩ := hrel
                      have hR := HB2.out.below hbr.out
                      have e0 := hR.k7.c0
                      have e1 := hR.k7.c1
                      rcases Nat.lt_or_ge k n5 with hklt | hkge
                      · have j1 : ((k : Nat) : Int) < ((n5 : Nat) : Int) := by omega
                        have HR := hide hR
                        clear hR
                        unfold Sl.val at *
                        simp only at *
                        by_cases hz : ((k : Nat) : Int) ≠ z
                        · obtain ⟨b, o, ha, hcx⟩ := HR.out.gb.cell k hklt
                          replace ha : a5 = some ⟨b, o, none⟩ := ha
                          subst ha
                          have hat := HR.out.gb.at hklt
                          obtain ⟨⟨sa, sn, sc⟩, hsx⟩ : ∃ s, s = (l'.getD k Sb.zero).s := ⟨_, rfl⟩
                          rw [← hsx] at hcx hat
                          rcases Nat.eq_zero_or_pos sn with h0 | h0
                          · subst h0
                            have HCX := hide hcx
                            clear hcx hat hsx
                            go_wp2_with fail
                            refine Pl.region_is (ops := Pl.find 21 ((Try.f6.body).getD .skip)) (by kernel_rfl) ?_
                            refine others21B wr g h k b o n5 c5 (.slice a2 n2 c2) sa sc z hklt hz HR.out.k7 HCX.out (by rfl) rfl (by rfl) (by rfl) (by rfl) (by rfl) ?_
                            intro q w5 hb5
                            simp only [Act.put, List.setIfInBounds_toArray, List.set_cons_zero, List.set_cons_succ]
                            have HB5 := hide (rBelow hbr.out hb5)
                            clear hb5 HCX HR hz e0 e1
                            go_wp2_with fail
                            go_roundw
                            case rel => exact ⟨k + 1, by omega, by go_num, HB5⟩
                            case measure => simp only [intOf]; omega
                          · have hlen : sn = (sl (bss l') k).length := hat.2.1
                            have hne : sl (bss l') k ≠ [] := fun e => by rw [e] at hlen; simp at hlen; omega
                            have hrest := HTN.out.rest k (by rw [bss_length, HR.out.gb.len]; exact hklt) hz hne
                            rw [← HBE.out] at hrest
                            have hk2 : k < m5 := by have := hrest.1; rw [bss_length, HR.out.gb2.len] at this; exact this
                            obtain ⟨b2, o2, ha2, hcy⟩ := HR.out.gb2.cell k hk2
                            replace ha2 : e5 = some ⟨b2, o2, none⟩ := ha2
                            subst ha2
                            have hat2 := HR.out.gb2.at hk2
                            rw [hrest.2] at hat2
                            obtain ⟨⟨sa2, sn2, sc2⟩, hsy⟩ : ∃ s, s = (l2.getD k Sb.zero).s := ⟨_, rfl⟩
                            rw [← hsy] at hcy hat2
                            have HCX := hide hcx
                            have HCY := hide hcy
                            have HX1 := hide hat.1.came.bs
                            have HX2 := hide hat2.1.came.bs
                            clear hcx hcy hat hat2 hsx hsy hrest hne hlen
                            go_wp2_with fail
                            refine Pl.region_is (ops := Pl.find 21 ((Try.f6.body).getD .skip)) (by kernel_rfl) ?_
                            refine others21C wr g h k b o n5 c5 b2 o2 m5 d5 (.slice a2 n2 c2) (.slice e2 m2 d2) sa sn sc sa2 sn2 sc2 z (sl (bss l') k) hklt hk2 hz h0 HR.out.k7 HR.out.k10 HCX.out HCY.out HX1.out HX2.out (by rfl) rfl (by rfl) (by rfl) (by rfl) (by rfl) ?_
                            intro q w5 hb5
                            simp only [Act.put, List.setIfInBounds_toArray, List.set_cons_zero, List.set_cons_succ]
                            have HB5 := hide (rBelow hbr.out hb5)
                            clear hb5 HCX HCY HX1 HX2 HR hz h0 e0 e1 hk2
                            go_wp2_with fail
                            go_roundw
                            case rel => exact ⟨k + 1, by omega, by go_num, HB5⟩
                            case measure => simp only [intOf]; omega
                        · go_wp2_with fail
                          refine Pl.region_is (ops := Pl.find 21 ((Try.f6.body).getD .skip)) (by kernel_rfl) ?_
                          refine others21A wr g h k z hz (by rfl) rfl (by rfl) (by rfl) (by rfl) (by rfl) ?_
                          intro q w5 hb5
                          simp only [Act.put, List.setIfInBounds_toArray, List.set_cons_zero, List.set_cons_succ]
                          have HB5 := hide (rBelow hbr.out hb5)
                          clear hb5 HR hz e0 e1
                          go_wp2_with fail
                          go_roundw
                          case rel => exact ⟨k + 1, by omega, by go_num, HB5⟩
                          case measure => simp only [intOf]; omega
                      · have j1 : ¬ ((k : Nat) : Int) < ((n5 : Nat) : Int) := by omega
                        have p0 := hR.k10.c0
                        have p1 := hR.k10.c1
                        obtain ⟨W9, hst9, bx9⟩ := hR.fin
                        have HST9 := hide hst9
                        have hm9 : MayL ⟨t, bss l2⟩ := by rw [HBE.out]; exact HTN.out.may
                        have H9 : Hid (∃ u' v' l', Bx w W9 g u' v' t l' ∧ MayL ⟨t, bss l'⟩) := ⟨_, _, _, bx9, hm9⟩
                        clear hst9 bx9 hm9 hR HTN HBE hbr H0
                        unfold lfV Sl.val at *
                        simp only at *
                        go_wp2_with (refine wpList_store _ rfl rfl 25 (.tmp 7) (.tmp 137) rfl (.pointer (some ⟨g, 0, none⟩)) (.agg #[.slice e2 m2 d2, .slice e5 m5 d5]) rfl rfl W9 HST9.out ?_)
                        go_roundw
                        case rel => exact ⟨i + 1, by omega, by omega, by omega, by go_num, H9⟩
                        case measure => simp only [intOf]; omega
            · have i3 : ¬ ((i : Nat) : Int) < 40 := by omega
              have HBE := hide bx.e
              clear hbx bx hm HBX
              go_wp2_with fail
              refine (HW.out wr).mono ?_
              rintro e w6 ⟨rfl, hb6⟩
              have HB6 := hide (rBelow HBE.out hb6)
              clear hb6
              go_wp2_with fail
              go_ret
              exact ⟨rfl, HB6.out⟩
          · have i2 : ¬ ((i : Nat) : Int) < ((xl : Nat) : Int) := by omega
            have HBE := hide bx.e
            clear hbx bx hm HBX
            go_wp2_with fail
            refine (HW.out wr).mono ?_
            rintro e w6 ⟨rfl, hb6⟩
            have HB6 := hide (rBelow HBE.out hb6)
            clear hb6
            go_wp2_with fail
            go_ret
            exact ⟨rfl, HB6.out⟩
        · have i1 : ¬ ((i : Nat) : Int) < ((rl : Nat) : Int) := by omega
          have HBE := hide bx.e
          clear hbx bx hm HBX
          go_wp2_with fail
          refine (HW.out wr).mono ?_
          rintro e w6 ⟨rfl, hb6⟩
          have HB6 := hide (rBelow HBE.out hb6)
          clear hb6
          go_wp2_with fail
          go_ret
          exact ⟨rfl, HB6.out⟩
end Go.Proofs.Ytgieigpbbkeonaa
