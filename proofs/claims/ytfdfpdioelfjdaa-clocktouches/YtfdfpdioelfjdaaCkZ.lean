/-
  Layer 7: any page used in any clock, pinned, and dropped.
-/
import Derived.Test.YtfdfpdioelfjdaaCkY
import Derived.Test.YtfdfpdioelfjdaaCkIn
namespace Go.Proofs.Ytfdfpdioelfjdaa
open Go.RowKit

set_option maxHeartbeats 8000000 in
set_option maxRecDepth 100000 in
theorem touches_far (w : World) (s : Sl) (h p : Int) (on : Bool) (hl : 100 < s.len) (hb : s.len ≤ 9223372036854775807) :
    Calls Try.prog 3 #[ckV s h, .int .i64 p, .bool on] w fun e w' => e = .returned (.bool true) ∧ Below w.heap.size w w' := by
  obtain ⟨a, len, cap⟩ := s
  replace hl : 100 < len := hl
  replace hb : len ≤ 9223372036854775807 := hb
  have i1 : (100 : Int) < ((len : Nat) : Int) := by omega
  have HA := hide awake_any
  have HB := hide (below_alloc w (.cells #[.slice a len cap, .int .i64 h] 24))
  unfold ckV Sl.val
  simp only
  go_enter Try.func3, Try.ntmps3
  go_wp2_with fail
  refine (HA.out _).mono ?_
  rintro e w2 ⟨rfl, hb2⟩
  have HB2 := hide (rBelow HB.out hb2)
  clear hb2
  go_wp2_with fail
  go_ret
  exact ⟨rfl, HB2.out⟩

theorem sameC_self (l : List Sp) (h : Int) : sameC l h l h = true := sameC_iff.2 ⟨rfl, rfl⟩

set_option maxHeartbeats 8000000 in
set_option maxRecDepth 100000 in
theorem touches_bad {D : Nat → Prop} (w : World) (v : Sl) (h : Int) (l : List Sp) (hg : Gs D w v l) (p : Int) (on : Bool) (hl : v.len ≤ 100) (hm : may l h = false) :
    Calls Try.prog 3 #[ckV v h, .int .i64 p, .bool on] w fun e w' => e = .returned (.bool true) ∧ Below w.heap.size w w' := by
  have HA := hide awake_any
  have hB0 := below_alloc w (.cells #[v.val, .int .i64 h] 24)
  have hK0 := ckBlk_new w v.val h
  have hG0 := hg.below hB0 (Nat.le_refl _)
  obtain ⟨a, len, cap⟩ := v
  replace hl : len ≤ 100 := hl
  have i1 : ¬ (100 : Int) < ((len : Nat) : Int) := by omega
  have HT := hide (touch_bad _ _ h l hG0 p hm)
  have HK0 := hide hK0
  have HG0 := hide hG0
  have HB0 := hide hB0
  have c0 := hK0.c0
  have c1 := hK0.c1
  have HM := hide hm
  have HSM : Hid (∀ W, Calls Try.prog 13 #[ckV Sl.nil 0, ckV Sl.nil 0] W fun e w' => e = .returned (.bool true) ∧ Below W.heap.size W w') := fun W => rsame_any W Sl.nil 0 [] (Gs.none (D := fun _ => True)) Sl.nil 0 [] (Gs.none (D := fun _ => True))
  clear hB0 hK0 hG0 hg hm
  unfold ckV Sl.val at *
  simp only [Sl.nil] at *
  go_enter Try.func3, Try.ntmps3
  go_wp2_with fail
  refine HT.out.mono ?_
  rintro e w1 ⟨hb1, rfl⟩
  have hA1 := below_alloc w1 (.cells #[.slice none 0 0, .int .i64 0] 24)
  have hE1 := rBelow hb1 hA1
  have hK1 := HK0.out.below hE1
  have hX1 := ckBlk_new w1 (.slice none 0 0) 0
  have HP := hide (pin_bad _ _ h l (HG0.out.below hE1 (Nat.le_refl _)) p on HM.out)
  have HE1 := hide hE1
  have HX1 := hide hX1
  have d0 := hK1.c0
  have d1 := hK1.c1
  clear hb1 hA1 hE1 hK1 hX1 HT c0 c1
  unfold ckV Sl.val at *
  simp only [Sl.nil] at *
  go_wp2_with fail
  generalize w1.alloc (.cells #[.slice none 0 0, .int .i64 0] 24) = V1 at *
  refine HP.out.mono ?_
  rintro e w2 ⟨hb2, rfl⟩
  have hA2 := below_alloc w2 (.cells #[.slice none 0 0, .int .i64 0] 24)
  have hb2' := rBelow hb2 hA2
  have hE2 := rBelow HE1.out hb2'
  have hK2 := HK0.out.below hE2
  have HX2 := hide (HX1.out.below hb2')
  have HP2 := hide (ckBlk_new w2 (.slice none 0 0) 0)
  have HD := hide (drop_bad _ _ h l (HG0.out.below hE2 (Nat.le_refl _)) p HM.out)
  have HE2 := hide hE2
  have e0 := hK2.c0
  have e1 := hK2.c1
  clear hb2 hA2 hb2' hE2 hK2 HP HX1 HE1 d0 d1
  unfold ckV Sl.val at *
  simp only [Sl.nil] at *
  go_wp2_with fail
  generalize w2.alloc (.cells #[.slice none 0 0, .int .i64 0] 24) = V2 at *
  refine HD.out.mono ?_
  rintro e w3 ⟨hb3, rfl⟩
  have hA3 := below_alloc w3 (.cells #[.slice none 0 0, .int .i64 0] 24)
  have hb3' := rBelow hb3 hA3
  have hE3 := rBelow HE2.out hb3'
  have hK3 := HK0.out.below hE3
  have HX3 := hide (HX2.out.below hb3')
  have HP3 := hide (HP2.out.below hb3')
  have HD3 := hide (ckBlk_new w3 (.slice none 0 0) 0)
  have HMY := hide (rmay_any _ _ h l (HG0.out.below hE3 (Nat.le_refl _)))
  rw [HM.out] at HMY
  have HE3 := hide hE3
  have f0 := hK3.c0
  have f1 := hK3.c1
  clear hb3 hA3 hb3' hE3 hK3 HD HX2 HP2 HE2 e0 e1
  unfold ckV Sl.val at *
  simp only at *
  go_wp2_with fail
  generalize w3.alloc (.cells #[.slice none 0 0, .int .i64 0] 24) = V3 at *
  refine HMY.out.mono ?_
  rintro e w4 ⟨rfl, hb4⟩
  have hA4 := below_alloc w4 (.cells #[.slice none 0 0, .int .i64 0] 24)
  have hb4' := rBelow hb4 hA4
  have hE4 := rBelow HE3.out hb4'
  have hK4 := HK0.out.below hE4
  have HX4 := hide (HX3.out.below hb4')
  have HP4 := hide (HP3.out.below hb4')
  have HD4 := hide (HD3.out.below hb4')
  have HZ4 := hide (ckBlk_new w4 (.slice none 0 0) 0)
  have HCK := hide (check_any _ _ h l (HG0.out.below hE4 (Nat.le_refl _)))
  rw [chk_no HM.out] at HCK
  have HE4 := hide hE4
  have g0 := hK4.c0
  have g1 := hK4.c1
  clear hb4 hA4 hb4' hE4 hK4 HMY HX3 HP3 HD3 HE3 f0 f1
  unfold ckV Sl.val at *
  simp only at *
  go_wp2_with fail
  generalize w4.alloc (.cells #[.slice none 0 0, .int .i64 0] 24) = V4 at *
  refine HCK.out.mono ?_
  rintro e w5 ⟨rfl, hb5⟩
  have HX5 := hide (HX4.out.below hb5)
  have HP5 := hide (HP4.out.below hb5)
  have HD5 := hide (HD4.out.below hb5)
  have HZ5 := hide (HZ4.out.below hb5)
  have HE5 := hide (rBelow HE4.out hb5)
  have k0 := HX5.out.c0
  have k1 := HX5.out.c1
  have k2 := HZ5.out.c0
  have k3 := HZ5.out.c1
  clear hb5 HX4 HP4 HD4 HZ4 HE4 HCK g0 g1
  go_wp2_with fail
  refine (HSM.out _).mono ?_
  rintro e w6 ⟨rfl, hb6⟩
  have HP6 := hide (HP5.out.below hb6)
  have HD6 := hide (HD5.out.below hb6)
  have HZ6 := hide (HZ5.out.below hb6)
  have HE6 := hide (rBelow HE5.out hb6)
  have k0 := HP6.out.c0
  have k1 := HP6.out.c1
  have k2 := HZ6.out.c0
  have k3 := HZ6.out.c1
  clear hb6 HX5 HP5 HD5 HZ5 HE5
  go_wp2_with fail
  refine (HSM.out _).mono ?_
  rintro e w7 ⟨rfl, hb7⟩
  have HD7 := hide (HD6.out.below hb7)
  have HZ7 := hide (HZ6.out.below hb7)
  have HE7 := hide (rBelow HE6.out hb7)
  have k0 := HD7.out.c0
  have k1 := HD7.out.c1
  have k2 := HZ7.out.c0
  have k3 := HZ7.out.c1
  clear hb7 HP6 HD6 HZ6 HE6
  go_wp2_with fail
  refine (HSM.out _).mono ?_
  rintro e w8 ⟨rfl, hb8⟩
  have HE8 := hide (rBelow HE7.out hb8)
  clear hb8 HD7 HZ7 HE7
  go_wp2_with fail
  refine (HA.out _).mono ?_
  rintro e w9 ⟨rfl, hb9⟩
  have HE9 := hide (rBelow HB0.out (rBelow HE8.out hb9))
  clear hb9
  go_wp2_with fail
  go_ret
  exact ⟨rfl, HE9.out⟩

set_option maxHeartbeats 16000000 in
set_option maxRecDepth 100000 in
theorem touches_good {D : Nat → Prop} (w : World) (v : Sl) (h : Int) (l : List Sp) (hg : Gs D w v l) (p : Int) (on : Bool) (hl : v.len ≤ 100) (hm : may l h = true) :
    Calls Try.prog 3 #[ckV v h, .int .i64 p, .bool on] w fun e w' => e = .returned (.bool true) ∧ Below w.heap.size w w' := by
  have HA := hide awake_any
  have hB0 := below_alloc w (.cells #[v.val, .int .i64 h] 24)
  have hC0 := Hc.mk' (ckBlk_new w v.val h) (hg.below hB0 (Nat.le_refl _))
  obtain ⟨a, len, cap⟩ := v
  replace hl : len ≤ 100 := hl
  have i1 : ¬ (100 : Int) < ((len : Nat) : Int) := by omega
  have HM := hide hm
  have HTM := hide (touch_may (p := p) hm)
  have HT := hide (touch_any _ _ h l hC0.sp p hm)
  have HRT : Hid (∀ (E : Nat → Prop) (W : World), Gs E W ⟨a, len, cap⟩ l → Calls Try.prog 14 #[.agg #[.slice a len cap, .int .i64 h], .int .i64 p] W fun e w' => Below W.heap.size W w' ∧ ∃ s : Sl, e = .returned (.tuple #[.agg #[.slice s.a s.len s.cap, .int .i64 (touch l h p).h], .int .i64 (touch l h p).at_, .int .i64 (touch l h p).was, .int .i64 (touch l h p).e]) ∧ Gs (Old E W) w' s (touch l h p).l) := fun E W hW => rtouch_any W ⟨a, len, cap⟩ h l hW p hm
  generalize touch l h p = t at *
  obtain ⟨tl, th, ta, tw, te⟩ := t
  have HC0 := hide hC0
  have HB0 := hide hB0
  have c0 := hC0.k.c0
  have c1 := hC0.k.c1
  clear hB0 hC0 hg hm
  unfold ckV Sl.val at *
  simp only at *
  go_enter Try.func3, Try.ntmps3
  go_wp2_with fail
  generalize w.alloc (.cells #[.slice a len cap, .int .i64 h] 24) = V0 at *
  refine HT.out.mono ?_
  rintro e w1 ⟨hb1, s1, rfl, hg1⟩
  have hA1 := below_alloc w1 (.cells #[s1.val, .int .i64 th] 24)
  have hE1 := rBelow hb1 hA1
  have hC1 := (HC0.out.below hE1).up hE1.size
  have hX1 := Hc.mk' (ckBlk_new w1 s1.val th) (hg1.below hA1 (Nat.le_refl _))
  have HP := hide (pin_any _ _ h l hC1.sp p on HM.out)
  have HE1 := hide hE1
  have HC1 := hide hC1
  have HX1 := hide hX1
  have d0 := hC1.k.c0
  have d1 := hC1.k.c1
  clear hb1 hg1 hA1 hE1 hC1 hX1 HT c0 c1 HC0
  obtain ⟨a1, l1, p1⟩ := s1
  unfold ckV Sl.val at *
  simp only at *
  go_wp2_with fail
  generalize w1.alloc (.cells #[.slice a1 l1 p1, .int .i64 th] 24) = V1 at *
  refine HP.out.mono ?_
  rintro e w2 ⟨hb2, s2, rfl, hg2⟩
  have hA2 := below_alloc w2 (.cells #[s2.val, .int .i64 h] 24)
  have hb2' := rBelow hb2 hA2
  have hC2 := (HC1.out.below hb2').up hb2'.size
  have HX2 := hide ((HX1.out.below hb2').up hb2'.size)
  have HP2 := hide (Hc.mk' (ckBlk_new w2 s2.val h) (hg2.below hA2 (Nat.le_refl _)))
  have HD := hide (drop_any _ _ h l hC2.sp p HM.out)
  have HE2 := hide (rBelow HE1.out hb2')
  have HC2 := hide hC2
  have e0 := hC2.k.c0
  have e1 := hC2.k.c1
  clear hb2 hg2 hA2 hb2' hC2 HP HX1 HE1 HC1 d0 d1
  obtain ⟨a2, l2, p2⟩ := s2
  unfold ckV Sl.val at *
  simp only at *
  go_wp2_with fail
  generalize w2.alloc (.cells #[.slice a2 l2 p2, .int .i64 h] 24) = V2 at *
  refine HD.out.mono ?_
  rintro e w3 ⟨hb3, s3, rfl, hg3⟩
  have hA3 := below_alloc w3 (.cells #[s3.val, .int .i64 h] 24)
  have hb3' := rBelow hb3 hA3
  have hC3 := (HC2.out.below hb3').up hb3'.size
  have HX3 := hide ((HX2.out.below hb3').up hb3'.size)
  have HP3 := hide ((HP2.out.below hb3').up hb3'.size)
  have HD3 := hide (Hc.mk' (ckBlk_new w3 s3.val h) (hg3.below hA3 (Nat.le_refl _)))
  have HMY := hide (rmay_any _ _ h l hC3.sp)
  rw [HM.out] at HMY
  have HE3 := hide (rBelow HE2.out hb3')
  have HC3 := hide hC3
  have f0 := hC3.k.c0
  have f1 := hC3.k.c1
  clear hb3 hg3 hA3 hb3' hC3 HD HX2 HP2 HE2 HC2 e0 e1
  obtain ⟨a3, l3, p3⟩ := s3
  unfold ckV Sl.val at *
  simp only at *
  go_wp2_with fail
  generalize w3.alloc (.cells #[.slice a3 l3 p3, .int .i64 h] 24) = V3 at *
  refine HMY.out.mono ?_
  rintro e w4 ⟨rfl, hb4⟩
  have hC4 := HC3.out.below hb4
  have HX4 := hide (HX3.out.below hb4)
  have HP4 := hide (HP3.out.below hb4)
  have HD4 := hide (HD3.out.below hb4)
  have HE4 := hide (rBelow HE3.out hb4)
  have HC4 := hide hC4
  have g0 := hC4.k.c0
  have g1 := hC4.k.c1
  have HRT4 := hide (HRT.out _ _ hC4.sp)
  have HSZ4 : Hid (V3.heap.size ≤ w4.heap.size) := hb4.size
  clear hb4 hC4 HMY HX3 HP3 HD3 HE3 HC3 HRT f0 f1
  unfold Sl.val at g0
  simp only at g0
  go_wp2_with fail
  refine HRT4.out.mono ?_
  rintro e w5 ⟨hb5, s5, rfl, hg5⟩
  have hA5 := below_alloc w5 (.cells #[s5.val, .int .i64 th] 24)
  have hb5' := rBelow hb5 hA5
  have hle5 : V3.heap.size ≤ w5.heap.size := Nat.le_trans HSZ4.out hb5.size
  have hC5 := (HC4.out.below hb5').up hle5
  have HX5 := hide ((HX4.out.below hb5').up hle5)
  have HP5 := hide ((HP4.out.below hb5').up hle5)
  have HD5 := hide ((HD4.out.below hb5').up hle5)
  have HE5 := hide (rBelow HE4.out hb5')
  have HY5 : Hid (Yc (w5.alloc (.cells #[s5.val, .int .i64 th] 24)) w5.heap.size s5 th tl) := ⟨ckBlk_new w5 s5.val th, (hg5.mono (fun k _ hlt => (by omega : k ≠ w5.heap.size))).below hA5 (Nat.le_refl _)⟩
  have HCK := hide (check_any _ _ h l hC5.sp)
  rw [chk_ok HM.out] at HCK
  have HC5 := hide hC5
  have k0 := hC5.k.c0
  have k1 := hC5.k.c1
  clear hb5 hg5 hA5 hb5' hle5 hC5 HRT4 HX4 HP4 HD4 HE4 HC4 HSZ4 g0 g1
  obtain ⟨a5, l5, p5⟩ := s5
  unfold ckV Sl.val at *
  simp only at *
  go_wp2_with fail
  generalize w5.alloc (.cells #[.slice a5 l5 p5, .int .i64 th] 24) = V5 at *
  refine HCK.out.mono ?_
  rintro e w6 ⟨rfl, hb6⟩
  have HC6 := hide (HC5.out.below hb6)
  have hX6 := HX5.out.below hb6
  have HX6 := hide hX6
  have HP6 := hide (HP5.out.below hb6)
  have HD6 := hide (HD5.out.below hb6)
  have hY6 := HY5.out.below hb6
  have HY6 := hide hY6
  have HE6 := hide (rBelow HE5.out hb6)
  have m0 := hX6.k.c0
  have m1 := hX6.k.c1
  have m2 := hY6.k.c0
  have m3 := hY6.k.c1
  have HSM := hide (rsame_any w6 _ th tl hX6.sp _ th tl hY6.sp)
  rw [sameC_self] at HSM
  clear hb6 hX6 hY6 HCK HC5 HX5 HP5 HD5 HY5 HE5 k0 k1
  unfold ckV Sl.val at *
  simp only at *
  go_wp2_with fail
  refine HSM.out.mono ?_
  rintro e w7 ⟨rfl, hb7⟩
  have HC7 := hide (HC6.out.below hb7)
  have hX7 := HX6.out.below hb7
  have HX7 := hide hX7
  have HP7 := hide (HP6.out.below hb7)
  have HD7 := hide (HD6.out.below hb7)
  have HY7 := hide (HY6.out.below hb7)
  have HE7 := hide (rBelow HE6.out hb7)
  have n0 := hX7.k.c0
  have n1 := hX7.k.c1
  have HMX := hide (rmay_any w7 _ th tl hX7.sp)
  rw [HTM.out] at HMX
  clear hb7 hX7 HSM HC6 HX6 HP6 HD6 HY6 HE6 m0 m1 m2 m3
  unfold ckV Sl.val at *
  simp only at *
  go_wp2_with fail
  refine HMX.out.mono ?_
  rintro e w8 ⟨rfl, hb8⟩
  have hC8 := HC7.out.below hb8
  have HC8 := hide hC8
  have HX8 := hide (HX7.out.below hb8)
  have HP8 := hide (HP7.out.below hb8)
  have HD8 := hide (HD7.out.below hb8)
  have HY8 := hide (HY7.out.below hb8)
  have HE8 := hide (rBelow HE7.out hb8)
  have q0 := hC8.k.c0
  have q1 := hC8.k.c1
  have HRP := hide (rpin_any w8 _ h l hC8.sp p on)
  clear hb8 hC8 HMX HC7 HX7 HP7 HD7 HY7 HE7 n0 n1
  unfold ckV Sl.val at *
  simp only at *
  go_wp2_with fail
  refine HRP.out.mono ?_
  rintro e w9 ⟨hb9, s9, rfl, hg9⟩
  obtain ⟨W10, hst10, hY10, f10⟩ := HY8.out.store hb9 (Nat.le_refl _) hg9 h
  have HC10 := hide ((HC8.out.below hb9).off f10 (Nat.le_refl _))
  have HX10 := hide ((HX8.out.below hb9).off f10 (Nat.le_refl _))
  have hP10 := (HP8.out.below hb9).off f10 (Nat.le_refl _)
  have HP10 := hide hP10
  have HD10 := hide ((HD8.out.below hb9).off f10 (Nat.le_refl _))
  have HY10 := hide hY10
  have hw5 : w.heap.size ≤ w5.heap.size := Nat.le_of_lt HC8.out.lt
  have hE9 := rBelow (rBelow HB0.out HE8.out) hb9
  have HE10 := hide (Below.more hE9 f10 hE9.size hw5)
  have HST10 := hide hst10
  have m0 := hP10.k.c0
  have m1 := hP10.k.c1
  have m2 := hY10.k.c0
  have m3 := hY10.k.c1
  have HSM := hide (rsame_any W10 _ h _ hP10.sp _ h _ hY10.sp)
  rw [sameC_self] at HSM
  clear hb9 hg9 hst10 hY10 f10 hP10 hE9 HRP HC8 HX8 HP8 HD8 HY8 HE8 q0 q1
  obtain ⟨a9, l9, p9⟩ := s9
  unfold ckV Sl.val at *
  simp only at *
  go_wp2_with (refine wpList_store _ rfl rfl 24 (.tmp 16) (.tmp 133) rfl (.pointer (some ⟨w5.heap.size, 0, none⟩)) (.agg #[.slice a9 l9 p9, .int .i64 h]) rfl rfl W10 HST10.out ?_)
  refine HSM.out.mono ?_
  rintro e w11 ⟨rfl, hb11⟩
  have hC11 := HC10.out.below hb11
  have HC11 := hide hC11
  have HX11 := hide (HX10.out.below hb11)
  have HD11 := hide (HD10.out.below hb11)
  have HY11 := hide (HY10.out.below hb11)
  have HE11 := hide (rBelow HE10.out hb11)
  have q0 := hC11.k.c0
  have q1 := hC11.k.c1
  have HRD := hide (rdrop_any w11 _ h l hC11.sp p)
  clear hb11 hC11 HSM HC10 HX10 HP10 HD10 HY10 HE10 HST10 m0 m1 m2 m3
  unfold ckV Sl.val at *
  simp only at *
  go_wp2_with fail
  refine HRD.out.mono ?_
  rintro e w12 ⟨hb12, s12, rfl, hg12⟩
  obtain ⟨W13, hst13, hY13, f13⟩ := HY11.out.store hb12 (Nat.le_refl _) hg12 h
  have hC13 := (HC11.out.below hb12).off f13 (Nat.le_refl _)
  have hX13 := (HX11.out.below hb12).off f13 (Nat.le_refl _)
  have hD13 := (HD11.out.below hb12).off f13 (Nat.le_refl _)
  have hE12 := rBelow HE11.out hb12
  have HE13 := hide (Below.more hE12 f13 hE12.size hw5)
  have HST13 := hide hst13
  have HTCS : Hid (TcS w.heap.size w1.heap.size w3.heap.size w5.heap.size ⟨a, len, cap⟩ ⟨a1, l1, p1⟩ ⟨a3, l3, p3⟩ s12 h th h h W13) := ⟨hC13.k, hX13.k, hD13.k, hY13.k⟩
  have HS1 : Hid (∀ W, Below W13.heap.size W13 W → Calls Try.prog 13 #[ckV ⟨a3, l3, p3⟩ h, ckV s12 h] W fun e w' => e = .returned (.bool true) ∧ Below W.heap.size W w') := fun W hW => by
    have := rsame_any W _ h _ (hD13.sp.below hW (Nat.le_refl _)) _ h _ (hY13.sp.below hW (Nat.le_refl _))
    rwa [sameC_self] at this
  have HS2 : Hid (∀ W, Below W13.heap.size W13 W → Calls Try.prog 17 #[ckV ⟨a, len, cap⟩ h, ckV ⟨a1, l1, p1⟩ th] W fun e w' => e = .returned (.bool (sameC l h tl th)) ∧ Below W.heap.size W w') := fun W hW => same_any W _ h _ (hC13.sp.below hW (Nat.le_refl _)) _ th _ (hX13.sp.below hW (Nat.le_refl _))
  have HS3 : Hid (∀ W, Below W13.heap.size W13 W → Calls Try.prog 13 #[ckV ⟨a, len, cap⟩ h, ckV ⟨a1, l1, p1⟩ th] W fun e w' => e = .returned (.bool (sameC l h tl th)) ∧ Below W.heap.size W w') := fun W hW => rsame_any W _ h _ (hC13.sp.below hW (Nat.le_refl _)) _ th _ (hX13.sp.below hW (Nat.le_refl _))
  have HS4 : Hid (∀ W, Below W13.heap.size W13 W → Calls Try.prog 7 #[] W fun e w' => e = .returned (.bool true) ∧ Below W.heap.size W w') := fun W _ => HA.out W
  clear hb12 hg12 hst13 hY13 f13 hC13 hX13 hD13 hE12 HRD HC11 HX11 HD11 HY11 HE11 q0 q1
  obtain ⟨a12, l12, p12⟩ := s12
  unfold Sl.val at *
  simp only at *
  generalize sameC l h tl th = bb at *
  go_wp2_with (refine wpList_store _ rfl rfl 24 (.tmp 16) (.tmp 148) rfl (.pointer (some ⟨w5.heap.size, 0, none⟩)) (.agg #[.slice a12 l12 p12, .int .i64 h]) rfl rfl W13 HST13.out ?_)
  refine Pl.region_is (ops := Pl.find 16 ((Try.f3.body).getD .skip)) (by kernel_rfl) ?_
  refine touches16 W13 w.heap.size w1.heap.size w3.heap.size w5.heap.size ⟨a, len, cap⟩ ⟨a1, l1, p1⟩ ⟨a3, l3, p3⟩ ⟨a12, l12, p12⟩ h th h h _ bb HTCS.out HS1.out HS2.out HS3.out HS4.out (by rfl) rfl (by rfl) (by rfl) (by rfl) (by rfl) (by rfl) (by rfl) ?_
  intro u w14 hb14
  simp only [Act.put, List.setIfInBounds_toArray, List.set_cons_zero, List.set_cons_succ]
  have HE14 := hide (rBelow HE13.out hb14)
  clear hb14 HTCS HS1 HS2 HS3 HS4
  go_wp2_with fail
  go_ret
  exact ⟨rfl, HE14.out⟩
end Go.Proofs.Ytfdfpdioelfjdaa
