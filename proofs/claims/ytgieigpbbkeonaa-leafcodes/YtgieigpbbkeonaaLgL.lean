/-
  Layer 8: LeafJoins' walk.
-/
import Derived.Test.YtgieigpbbkeonaaLgK
namespace Go.Proofs.Ytgieigpbbkeonaa
open Go.RowKit

/-- A leaf in a new box. -/
theorem box_new (w2 : World) (u v : Sl) : ∃ W3, (Instr.storeAt 25 (.pointer (some ⟨w2.heap.size, 0, none⟩)) (lfV u v)).run Try.prog (w2.alloc (.cells #[.slice none 0 0, .slice none 0 0] 25)) = .ok () W3 ∧ LfBlk W3 w2.heap.size u.val v.val ∧ Below w2.heap.size w2 W3 := by
  have hA := below_alloc w2 (.cells #[.slice none 0 0, .slice none 0 0] 25)
  obtain ⟨W3, hst, k3, f⟩ := st_lf _ _ _ _ (lfBlk_new w2 (.slice none 0 0) (.slice none 0 0)) u v
  exact ⟨W3, hst, k3, hA.trans (f.below hA.size (fun k hk => by omega))⟩
theorem joinI_may {t : List Int} {s : List (List Nat)} (h : MayL ⟨t, s⟩) (p : Int) (live : List Int) : MayL ⟨(joinI t p live).t, s⟩ := ⟨joinI_ok h.itl p live, h.slots, h.need⟩

set_option maxHeartbeats 8000000 in
set_option maxRecDepth 100000 in
theorem joins_far (w : World) (u v : Sl) (l : List Sb) (hg : InS w v l) (hu : u.len ≤ 9223372036854775807) (p : Int) (r : Sl) (hr : r.len ≤ 9223372036854775807) (hK : LightP u v l → r.len ≤ 40 → Calls Try.prog 5 #[lfV u v, .int .i64 p, r.val] w fun e w' => e = .returned (.bool true) ∧ Below w.heap.size w w') :
    Calls Try.prog 5 #[lfV u v, .int .i64 p, r.val] w fun e w' => e = .returned (.bool true) ∧ Below w.heap.size w w' := by
  by_cases hok : LightP u v l ∧ r.len ≤ 40
  · exact hK hok.1 hok.2
  · have hA := below_alloc w (.cells #[u.val, v.val] 25)
    have hg' : InS (w.alloc (.cells #[u.val, v.val] 25)) v l := ⟨hg.len, hg.nil, hg.le, hg.big, fun i hi => by
      obtain ⟨b, off, ha, hc⟩ := hg.cell i hi
      exact ⟨b, off, ha, cell_below hc hA⟩, fun x hx => ⟨(hg.bs x hx).bs.keep hA (Nat.le_refl _), (hg.bs x hx).nil, (hg.bs x hx).le, (hg.bs x hx).big⟩⟩
    have HL := hide (light_any _ u v l hg' hu)
    have HA := hide hA
    have HW := hide awake_any
    have HOK := hide hok
    clear hg hg' hA hok hK
    obtain ⟨a, len, cap⟩ := v
    obtain ⟨ua, ul, uc⟩ := u
    obtain ⟨ra, rl, rc⟩ := r
    unfold lfV Sl.val at *
    simp only at *
    go_enter Try.func5, Try.ntmps5
    go_wp2_with fail
    refine HL.out.mono ?_
    rintro e w1 ⟨hs | ⟨hp, hs⟩, hb⟩
    · subst hs
      have HB := hide (rBelow HA.out hb)
      clear hb HL
      go_wp2_with fail
      refine (HW.out w1).mono ?_
      rintro e w2 ⟨rfl, hb2⟩
      have HB2 := hide (rBelow HB.out hb2)
      clear hb2
      go_wp2_with fail
      go_ret
      exact ⟨rfl, HB2.out⟩
    · subst hs
      have HB := hide (rBelow HA.out hb)
      have h40 : 40 < rl := by
        rcases Nat.lt_or_ge 40 rl with h | h
        · exact h
        · exact absurd ⟨hp, h⟩ HOK.out
      have i40 : (40 : Int) < ((rl : Nat) : Int) := by omega
      clear hb HL hp HOK
      go_wp2_with fail
      refine (HW.out w1).mono ?_
      rintro e w2 ⟨rfl, hb2⟩
      have HB2 := hide (rBelow HB.out hb2)
      clear hb2
      go_wp2_with fail
      go_ret
      exact ⟨rfl, HB2.out⟩

set_option maxHeartbeats 8000000 in
set_option maxRecDepth 100000 in
theorem joins_near (w : World) (u v : Sl) (t : List Int) (l : List Sb) (hI : InI w u t) (hg0 : InS w v l) (p : Int) (r : Sl) (live : List Int) (hR : InI w r live) (hP : LightP u v l) (h40 : r.len ≤ 40) :
    Calls Try.prog 5 #[lfV u v, .int .i64 p, r.val] w fun e w' => e = .returned (.bool true) ∧ Below w.heap.size w w' := by
  have hA := below_alloc w (.cells #[u.val, v.val] 25)
  have hi := hI.gi (by have := hP.2.1; omega)
  have hr := hR.gi (by omega)
  have hg := hg0.gb (by have := hP.1; omega) (fun x hx => by have := hP.2.2 x hx; omega)
  have hg' : InS (w.alloc (.cells #[u.val, v.val] 25)) v l := ⟨hg0.len, hg0.nil, hg0.le, hg0.big, fun i hi => by
    obtain ⟨b, off, ha, hc⟩ := hg0.cell i hi
    exact ⟨b, off, ha, cell_below hc hA⟩, fun x hx => ⟨(hg0.bs x hx).bs.keep hA (Nat.le_refl _), (hg0.bs x hx).nil, (hg0.bs x hx).le, (hg0.bs x hx).big⟩⟩
  have HL := hide (light_any _ u v l hg' hI.big)
  have HA := hide hA
  have HKB := hide (lfBlk_new w u.val v.val)
  have HW := hide awake_any
  have i40 : ¬ (40 : Int) < ((r.len : Nat) : Int) := by omega
  have HI := hide hi
  have HG := hide hg
  have HR := hide hr
  clear hI hg0 hR hP hA hg' hi hg hr
  by_cases hm : MayL ⟨t, bss l⟩
  · have HM := hide hm
    have HJ : Hid (∀ W, Below w.heap.size w W → Calls Try.prog 19 #[lfV u v, .int .i64 p, r.val] W fun e w' => Told W (joinI t p live).t (bss l) (mk2 (joinI t p live).e) e w') := fun W hW => join_any W u v t l (HI.out.below hW (Nat.le_refl _)) (HG.out.below hW (Nat.le_refl _)) HM.out p r live (HR.out.below hW (Nat.le_refl _))
    have HMY : Hid (∀ W, Below w.heap.size w W → Calls Try.prog 11 #[lfV u v] W fun e w' => e = .returned (.bool true) ∧ Below W.heap.size W w') := fun W hW => rmay_yes W u v t l (HI.out.below hW (Nat.le_refl _)) (HG.out.below hW (Nat.le_refl _)) HM.out
    have HRJ : Hid (∀ W, Below w.heap.size w W → Calls Try.prog 21 #[lfV u v, .int .i64 p, r.val] W fun e w' => JnIs (fun _ => True) W l (joinI t p live) e w') := fun W hW => rjoin_any W u v t l (HI.out.below hW (Nat.le_refl _)) (HG.out.below hW (Nat.le_refl _)) p r live (HR.out.below hW (Nat.le_refl _)) (by rw [← HI.out.len]; exact HM.out.itl.1)
    have HMJ := hide (joinI_may HM.out p live)
    obtain ⟨⟨jt, je⟩, hj⟩ : ∃ j, j = joinI t p live := ⟨_, rfl⟩
    rw [← hj] at HJ HRJ HMJ
    clear hj hm
    obtain ⟨a, len, cap⟩ := v
    obtain ⟨ua, ul, uc⟩ := u
    obtain ⟨ra, rl, rc⟩ := r
    unfold lfV Sl.val at *
    simp only at *
    go_enter Try.func5, Try.ntmps5
    go_wp2_with fail
    refine HL.out.mono ?_
    rintro e w1 ⟨hs | ⟨_, hs⟩, hb⟩
    · subst hs
      have HB := hide (rBelow HA.out hb)
      clear hb HL
      go_wp2_with fail
      refine (HW.out w1).mono ?_
      rintro e w2 ⟨rfl, hb2⟩
      have HB2 := hide (rBelow HB.out hb2)
      clear hb2
      go_wp2_with fail
      go_ret
      exact ⟨rfl, HB2.out⟩
    · subst hs
      have HB1 := hide (rBelow HA.out hb)
      have hk1 := HKB.out.below hb
      have HK1 := hide hk1
      have c0 := hk1.c0
      have c1 := hk1.c1
      clear hb HL hk1 HKB
      go_wp2_with fail
      refine (HJ.out w1 HB1.out).mono ?_
      rintro e w2 td
      have hbT := td.1
      obtain ⟨a2, n2, c2, a5, n5, c5, l2, W3, rfl, hst3, bx3, hbs3⟩ := Bx.start HB1.out td
      have hb3 : Below w1.heap.size w1 W3 := rBelow hbT (by
        obtain ⟨W3', hst3', _, hb3'⟩ := box_new w2 ⟨a2, n2, c2⟩ ⟨a5, n5, c5⟩
        rw [hst3] at hst3'
        cases hst3'
        exact hb3')
      have HST3 := hide hst3
      have HBX3 := hide bx3
      have hk3 := HK1.out.below hb3
      have d0 := hk3.c0
      have d1 := hk3.c1
      have HK3 := hide hk3
      have HBS := hide hbs3
      have HMY3 := hide (HMY.out W3 bx3.e)
      clear c0 c1 hk3 hb3 bx3 hst3 td hbT hbs3 HJ HMY HK1
      unfold lfV mk2 Sl.val at *
      simp only at *
      go_wp2_with (first | refine wpList_alloc _ rfl 25 rfl (.pointer (some ⟨w2.heap.size, 0, none⟩)) (w2.alloc (.cells #[.slice none 0 0, .slice none 0 0] 25)) (alloc_lf w2) ?_ | refine wpList_store _ rfl rfl 25 (.tmp 7) (.tmp 25) rfl (.pointer (some ⟨w2.heap.size, 0, none⟩)) (.agg #[.slice a2 n2 c2, .slice a5 n5 c5]) rfl rfl W3 HST3.out ?_)
      refine HMY3.out.mono ?_
      rintro e w4 ⟨rfl, hb4⟩
      have bx4 := HBX3.out.below hb4
      have hk4 := HK3.out.below hb4
      have HBX4 := hide bx4
      have c0 := hk4.c0
      have c1 := hk4.c1
      have HRJ4 := hide (HRJ.out w4 bx4.e)
      clear d0 d1 HMY3 HBX3 HK3 hb4 hk4 bx4 HRJ HST3
      unfold Sl.val at *
      simp only at *
      go_wp2_with fail
      refine HRJ4.out.mono ?_
      rintro e w5 ⟨hb5, ⟨a6, n6, c6⟩, ⟨a7, n7, c7⟩, rfl, gi5, gb5⟩
      have bx5 := HBX4.out.below hb5
      obtain ⟨W6, hst6, k6, hb6⟩ := box_new w5 ⟨a6, n6, c6⟩ ⟨a7, n7, c7⟩
      have bx6 := bx5.below hb6
      have HST6 := hide hst6
      have d0 := bx6.k.c0
      have d1 := bx6.k.c1
      have e0 := k6.c0
      have e1 := k6.c1
      have HSM := hide (rlsame_any W6 ⟨a2, n2, c2⟩ ⟨a5, n5, c5⟩ jt l2 bx6.gi bx6.gb ⟨a6, n6, c6⟩ ⟨a7, n7, c7⟩ jt l (gi5.below hb6 (Nat.le_refl _)) (gb5.below hb6 (Nat.le_refl _)))
      have hsame : sameLB jt (bss l2) jt (bss l) = true := sameLB_iff.2 ⟨rfl, HBS.out⟩
      rw [hsame] at HSM
      have HBX6 := hide bx6
      clear hsame c0 c1 hb5 gi5 gb5 bx5 hst6 k6 hb6 bx6 HRJ4 HBX4
      unfold lfV Sl.val at *
      simp only at *
      go_wp2_with (first | refine wpList_alloc _ rfl 25 rfl (.pointer (some ⟨w5.heap.size, 0, none⟩)) (w5.alloc (.cells #[.slice none 0 0, .slice none 0 0] 25)) (alloc_lf w5) ?_ | refine wpList_store _ rfl rfl 25 (.tmp 9) (.tmp 41) rfl (.pointer (some ⟨w5.heap.size, 0, none⟩)) (.agg #[.slice a6 n6 c6, .slice a7 n7 c7]) rfl rfl W6 HST6.out ?_)
      refine HSM.out.mono ?_
      rintro e w7 ⟨rfl, hb7⟩
      have bx7 := HBX6.out.below hb7
      have q0 := bx7.k.c0
      have q1 := bx7.k.c1
      have HB7 := hide bx7.e
      have hmj : MayL ⟨jt, bss l2⟩ := by rw [HBS.out]; exact HMJ.out
      have HMY7 := hide (rmay_yes w7 ⟨a2, n2, c2⟩ ⟨a5, n5, c5⟩ jt l2 bx7.gi bx7.gb hmj)
      clear d0 d1 e0 e1 hb7 bx7 hmj HSM HBX6 HST6
      unfold lfV Sl.val at *
      simp only at *
      go_wp2_with fail
      refine HMY7.out.mono ?_
      rintro e w8 ⟨rfl, hb8⟩
      have HB8 := hide (rBelow HB7.out hb8)
      clear hb8 HMY7 q0 q1
      go_wp2_with fail
      refine (HW.out w8).mono ?_
      rintro e w9 ⟨rfl, hb9⟩
      have HB9 := hide (rBelow HB8.out hb9)
      clear hb9
      go_wp2_with fail
      go_ret
      exact ⟨rfl, HB9.out⟩
  · have HM := hide hm
    have HJ : Hid (∀ W, Below w.heap.size w W → Calls Try.prog 19 #[lfV u v, .int .i64 p, r.val] W fun e w' => Told W [] [] (mk2 1) e w') := fun W hW => join_no W u v t l (HI.out.below hW (Nat.le_refl _)) (HG.out.below hW (Nat.le_refl _)) HM.out p r
    have HMY : Hid (∀ W, Below w.heap.size w W → Calls Try.prog 11 #[lfV u v] W fun e w' => e = .returned (.bool false) ∧ Below W.heap.size W w') := fun W hW => rmay_no W u v t l (HI.out.below hW (Nat.le_refl _)) (HG.out.below hW (Nat.le_refl _)) HM.out
    clear hm
    obtain ⟨a, len, cap⟩ := v
    obtain ⟨ua, ul, uc⟩ := u
    obtain ⟨ra, rl, rc⟩ := r
    unfold lfV Sl.val at *
    simp only at *
    go_enter Try.func5, Try.ntmps5
    go_wp2_with fail
    refine HL.out.mono ?_
    rintro e w1 ⟨hs | ⟨_, hs⟩, hb⟩
    · subst hs
      have HB := hide (rBelow HA.out hb)
      clear hb HL
      go_wp2_with fail
      refine (HW.out w1).mono ?_
      rintro e w2 ⟨rfl, hb2⟩
      have HB2 := hide (rBelow HB.out hb2)
      clear hb2
      go_wp2_with fail
      go_ret
      exact ⟨rfl, HB2.out⟩
    · subst hs
      have HB1 := hide (rBelow HA.out hb)
      have hk1 := HKB.out.below hb
      have HK1 := hide hk1
      have c0 := hk1.c0
      have c1 := hk1.c1
      clear hb HL hk1 HKB
      go_wp2_with fail
      refine (HJ.out w1 HB1.out).mono ?_
      rintro e w2 td
      have hbT := td.1
      obtain ⟨a2, n2, c2, a5, n5, c5, l2, W3, rfl, hst3, bx3, hbs3⟩ := Bx.start HB1.out td
      have hb3 : Below w1.heap.size w1 W3 := rBelow hbT (by
        obtain ⟨W3', hst3', _, hb3'⟩ := box_new w2 ⟨a2, n2, c2⟩ ⟨a5, n5, c5⟩
        rw [hst3] at hst3'
        cases hst3'
        exact hb3')
      have HST3 := hide hst3
      have HBX3 := hide bx3
      have hk3 := HK1.out.below hb3
      have d0 := hk3.c0
      have d1 := hk3.c1
      have HBS := hide hbs3
      have HMY3 := hide (HMY.out W3 bx3.e)
      clear c0 c1 hk3 hb3 bx3 hst3 td hbT hbs3 HJ HMY HK1
      unfold lfV mk2 Sl.val at *
      simp only at *
      go_wp2_with (first | refine wpList_alloc _ rfl 25 rfl (.pointer (some ⟨w2.heap.size, 0, none⟩)) (w2.alloc (.cells #[.slice none 0 0, .slice none 0 0] 25)) (alloc_lf w2) ?_ | refine wpList_store _ rfl rfl 25 (.tmp 7) (.tmp 25) rfl (.pointer (some ⟨w2.heap.size, 0, none⟩)) (.agg #[.slice a2 n2 c2, .slice a5 n5 c5]) rfl rfl W3 HST3.out ?_)
      refine HMY3.out.mono ?_
      rintro e w4 ⟨rfl, hb4⟩
      have bx4 := HBX3.out.below hb4
      have HB4 := hide bx4.e
      have c0 := bx4.k.c0
      have c1 := bx4.k.c1
      have hl2 : l2 = [] := List.eq_nil_of_length_eq_zero (by rw [← bss_length, HBS.out]; rfl)
      subst hl2
      have HNN := hide (none_yes w4 ⟨a2, n2, c2⟩ ⟨a5, n5, c5⟩ bx4.gi bx4.gb)
      clear d0 d1 HMY3 HBX3 hb4 bx4 HST3
      unfold lfV Sl.val at *
      simp only at *
      go_wp2_with fail
      refine HNN.out.mono ?_
      rintro e w5 ⟨rfl, hb5⟩
      have HB5 := hide (rBelow HB4.out hb5)
      clear hb5 HNN c0 c1
      go_wp2_with fail
      refine (HW.out w5).mono ?_
      rintro e w6 ⟨rfl, hb6⟩
      have HB6 := hide (rBelow HB5.out hb6)
      clear hb6
      go_wp2_with fail
      go_ret
      exact ⟨rfl, HB6.out⟩
end Go.Proofs.Ytgieigpbbkeonaa
