/-
  What num.Add, num.Of and num.Next hand back, call by call.
-/
import Derived.Test.YtpnacdjmjicanaaLeaves
namespace Go.Proofs.Ytpnacdjmjicanaa
open Go.RowKit

/-- A sum that is no number: the word that the tape gives is one of a NaN. -/
theorem cut_nan (x y t : Nat) : Fl.isn ((Question.nanBits .f64 x y).cut t) = true ∧ (Question.nanBits .f64 x y).cut t < 18446744073709551616 := by
  have e : (Question.nanBits .f64 x y).cut t = (t % 2) * 2 ^ 63 + 0x7ff0000000000000 + 1 + (t / 2) % (2 ^ 52 - 1) := rfl
  have h1 : t / 2 % (2 ^ 52 - 1) < 4503599627370495 := Nat.mod_lt _ (by omega)
  have h2 : t % 2 = 0 ∨ t % 2 = 1 := by omega
  rw [e, Fl.isn_iff]
  generalize t / 2 % (2 ^ 52 - 1) = m at *
  rcases h2 with h2 | h2 <;> rw [h2] <;> constructor <;> omega

theorem run_add_some (t : TypeId) (a b r : Nat) (h : Ieee.double.add a b = some r) (w : World) : (binOp .add t (.float .f64 a) (.float .f64 b)).run Try.prog w = .ok (.float .f64 r) w :=
  run_float_arith w .add t .f64 a b r h
theorem run_add_none (t : TypeId) (a b : Nat) (h : Ieee.double.add a b = none) (w : World) : (binOp .add t (.float .f64 a) (.float .f64 b)).run Try.prog w = .ok (.float .f64 ((Question.nanBits .f64 a b).cut (w.tape w.drawn (.nanBits .f64 a b)))) w.drew := by
  have h' : FloatKind.f64.format.add a b = none := h
  simp [binOp, Op.floatArith, h', Question.forced]

set_option maxHeartbeats 400000 in
theorem add_any (a b : Nat) (w : World) :
    Calls Try.prog 26 #[.float .f64 a, .float .f64 b] w fun e w' => e = .returned (.float .f64 (Fl.addv a b)) ∧ Grown w w' := by
  cases h : Ieee.double.add a b with
  | some r =>
    have e1 : Fl.addv a b = Fl.val r := by unfold Fl.addv; rw [h]
    have h1 := run_add_some 22 a b r h
    have hr := Fl.add_fits h
    rw [e1]
    clear e1 h
    have H : Hid _ := hr
    clear hr
    go_enter Try.func26, Try.ntmps26
    go_wp2_with fail
    refine (value_any r H.out _).mono ?_
    rintro e w' ⟨rfl, rfl⟩
    go_wp2_with fail
    go_ret
    exact ⟨rfl, Grown.refl _⟩
  | none =>
    have e1 : Fl.addv a b = 9221120237041090561 := by unfold Fl.addv; rw [h]
    have h1 := run_add_none 22 a b h w
    have hc := cut_nan a b (w.tape w.drawn (.nanBits .f64 a b))
    rw [e1]
    clear e1 h
    generalize (Question.nanBits .f64 a b).cut (w.tape w.drawn (.nanBits .f64 a b)) = r at *
    have H : Hid _ := hc
    clear hc
    go_enter Try.func26, Try.ntmps26
    go_wp2_with fail
    refine (value_any r H.out.2 _).mono ?_
    rintro e w' ⟨rfl, rfl⟩
    go_wp2_with fail
    go_ret
    refine ⟨?_, (Grown.refl _).drew⟩
    simp [Fl.val, H.out.1]

theorem of_tail (o k : Nat) : (o == k) = decide (k = o) := by
  rw [Bool.eq_iff_iff, beq_iff_eq, decide_eq_true_eq]; omega

set_option maxHeartbeats 400000 in
theorem of_any (r : Nat) (hr : r < 18446744073709551616) (w : World) :
    Calls Try.prog 22 #[.int .u64 r] w fun e w' => e = .returned (.tuple #[.float .f64 (if Fl.key (Fl.ofRank r) = Fl.ofRank r then Fl.ofRank r else 0), .int .i64 (if Fl.key (Fl.ofRank r) = Fl.ofRank r then 0 else 1)]) ∧ w' = w := by
  have hf := from_call
  have hs := Fl.and_sign r hr
  have hn := Fl.not_word r hr
  have ha := Fl.andNot_sign r hr
  have H1 : Hid _ := key_any (Fl.ofRank r) (Fl.ofRank_lt hr)
  have H2 : Hid _ := same_any (Fl.ofRank r) (Fl.key (Fl.ofRank r))
  by_cases hb : 9223372036854775808 ≤ r
  · rw [decide_eq_true hb] at hs
    have ho : Fl.ofRank r = r % 9223372036854775808 := by unfold Fl.ofRank; rw [if_pos hb]; omega
    rw [← ho] at ha
    clear hb hn ho hr
    generalize Fl.ofRank r = o at *
    generalize Fl.key o = k at *
    by_cases hk : k = o
    · have h3 : Hid ((o == k) = true) := by show (o == k) = true; rw [of_tail]; exact decide_eq_true hk
      rw [if_pos hk, if_pos hk]
      clear hk
      go_enter Try.func22, Try.ntmps22
      go_wp2_with fail
      refine (H1.out _).mono ?_
      rintro e w' ⟨rfl, rfl⟩
      go_wp2_with fail
      refine (H2.out _).mono ?_
      rintro e w' ⟨rfl, rfl⟩
      rw [h3.out]
      go_wp2_with fail
      go_ret2
      exact ⟨rfl, rfl⟩
    · have h3 : Hid ((o == k) = false) := by show (o == k) = false; rw [of_tail]; exact decide_eq_false hk
      rw [if_neg hk, if_neg hk]
      clear hk
      go_enter Try.func22, Try.ntmps22
      go_wp2_with fail
      refine (H1.out _).mono ?_
      rintro e w' ⟨rfl, rfl⟩
      go_wp2_with fail
      refine (H2.out _).mono ?_
      rintro e w' ⟨rfl, rfl⟩
      rw [h3.out]
      go_wp2_with fail
      go_ret2
      exact ⟨rfl, rfl⟩
  · rw [decide_eq_false hb] at hs
    have ho : Fl.ofRank r = 18446744073709551615 - r := by unfold Fl.ofRank; rw [if_neg hb]
    rw [← ho, ← max_u64] at hn
    clear hb ha ho hr
    generalize Fl.ofRank r = o at *
    generalize Fl.key o = k at *
    by_cases hk : k = o
    · have h3 : Hid ((o == k) = true) := by show (o == k) = true; rw [of_tail]; exact decide_eq_true hk
      rw [if_pos hk, if_pos hk]
      clear hk
      go_enter Try.func22, Try.ntmps22
      go_wp2_with fail
      refine (H1.out _).mono ?_
      rintro e w' ⟨rfl, rfl⟩
      go_wp2_with fail
      refine (H2.out _).mono ?_
      rintro e w' ⟨rfl, rfl⟩
      rw [h3.out]
      go_wp2_with fail
      go_ret2
      exact ⟨rfl, rfl⟩
    · have h3 : Hid ((o == k) = false) := by show (o == k) = false; rw [of_tail]; exact decide_eq_false hk
      rw [if_neg hk, if_neg hk]
      clear hk
      go_enter Try.func22, Try.ntmps22
      go_wp2_with fail
      refine (H1.out _).mono ?_
      rintro e w' ⟨rfl, rfl⟩
      go_wp2_with fail
      refine (H2.out _).mono ?_
      rintro e w' ⟨rfl, rfl⟩
      rw [h3.out]
      go_wp2_with fail
      go_ret2
      exact ⟨rfl, rfl⟩

/-! ### math.IsInf, math.Inf, math.Copysign, math.Nextafter, as num.Next calls them -/
set_option maxHeartbeats 400000 in
theorem inf_any (w : World) :
    Calls Try.prog 33 #[.int .i64 1] w fun e w' => e = .returned (.float .f64 9218868437227405312) ∧ w' = w := by
  have hf := from_call
  go_enter Try.func33, Try.ntmps33
  go_wp2_with fail
  go_ret
  exact ⟨rfl, rfl⟩

theorem max_order (x : Nat) (hx : x < 18446744073709551616) : (FloatKind.f64.format.order x 9218868437227405311 == some .gt) = decide (x = 9218868437227405312) := by
  rw [f64_format, Fl.gt_order x _ hx (by omega), Bool.eq_iff_iff, show Fl.isn 9218868437227405311 = false from by decide]
  have c1 := Fl.sv_cases x
  have c2 := Fl.sv_cases 9218868437227405311
  cases h : Fl.isn x
  · have h' := (Fl.isn_not x).1 h
    simp only [Bool.not_false, Bool.true_and, decide_eq_true_eq]
    omega
  · have h' := (Fl.isn_iff x).1 h
    simp only [Bool.not_true, Bool.false_and, Bool.false_eq_true, decide_eq_true_eq, false_iff]
    omega

set_option maxHeartbeats 400000 in
theorem isInf_any (x : Nat) (hx : x < 18446744073709551616) (w : World) :
    Calls Try.prog 31 #[.float .f64 x, .int .i64 1] w fun e w' => e = .returned (.bool (decide (x = 9218868437227405312))) ∧ w' = w := by
  rw [← max_order x hx]
  go_enter Try.func31, Try.ntmps31
  go_wp2_with fail
  go_ret
  exact ⟨rfl, rfl⟩

set_option maxHeartbeats 400000 in
theorem copysign_any (w : World) :
    Calls Try.prog 36 #[.float .f64 1, .float .f64 9218868437227405312] w fun e w' => e = .returned (.float .f64 1) ∧ w' = w := by
  have hf := from_call
  have hb := bits_call
  have h1 : bits .andNot .u64 1 9223372036854775808 = 1 := by decide +kernel
  have h2 : bits .and .u64 9218868437227405312 9223372036854775808 = 0 := by decide +kernel
  have h3 : bits .or .u64 1 0 = 1 := by decide +kernel
  go_enter Try.func36, Try.ntmps36
  go_wp2_with fail
  go_ret
  exact ⟨rfl, rfl⟩

theorem inf_eq (x : Nat) (hx : x < 18446744073709551616) (hi : x ≠ 9218868437227405312) : (FloatKind.f64.format.order x 9218868437227405312 == some .eq) = false := by
  rw [f64_format, Fl.eq_order x _ hx (by omega), show Fl.isn 9218868437227405312 = false from by decide]
  have c1 := Fl.sv_cases x
  have c2 := Fl.sv_cases 9218868437227405312
  rw [Bool.eq_false_iff]
  simp only [ne_eq, Bool.not_false, Bool.and_true, Bool.and_eq_true, decide_eq_true_eq]
  omega
theorem inf_gt (x : Nat) (hx : x < 18446744073709551616) (hn : Fl.isn x = false) (hi : x ≠ 9218868437227405312) : (FloatKind.f64.format.order 9218868437227405312 x == some .gt) = true := by
  rw [f64_format, Fl.gt_order _ x (by omega) hx, show Fl.isn 9218868437227405312 = false from by decide, hn]
  have c1 := Fl.sv_cases x
  have c2 := Fl.sv_cases 9218868437227405312
  have h' := (Fl.isn_not x).1 hn
  simp only [Bool.not_false, Bool.and_true, Bool.true_and, decide_eq_true_eq]
  omega
theorem nought_gt (x : Nat) (hx : x < 18446744073709551616) (hn : Fl.isn x = false) (h0 : ¬ (x = 0 ∨ x = 9223372036854775808)) : (FloatKind.f64.format.order x 0 == some .gt) = decide (x < 9223372036854775808) := by
  rw [f64_format, Fl.gt_order x 0 hx (by omega), show Fl.isn 0 = false from by decide, hn, Bool.eq_iff_iff]
  have c1 := Fl.sv_cases x
  have c2 := Fl.sv_cases 0
  simp only [Bool.not_false, Bool.true_and, decide_eq_true_eq]
  omega
theorem up_word (x : Nat) (hx : x < 9223372036854775808) : (IntKind.u64.wrap ((x : Int) + 1)).toNat = x + 1 := by
  rw [IntKind.wrap_u64]; omega
theorem down_word (x : Nat) (hx : x < 18446744073709551616) (h0 : 9223372036854775808 ≤ x) : (IntKind.u64.wrap ((x : Int) - 1)).toNat = x - 1 := by
  rw [IntKind.wrap_u64]; omega

set_option maxHeartbeats 400000 in
theorem nextafter_any (x : Nat) (hx : x < 18446744073709551616) (hn : Fl.isn x = false) (hi : x ≠ 9218868437227405312) (w : World) :
    Calls Try.prog 32 #[.float .f64 x, .float .f64 9218868437227405312] w fun e w' => e = .returned (.float .f64 (Fl.nextUp x)) ∧ w' = w := by
  have hf := from_call
  have hb := bits_call
  have t1 := inf_eq x hx hi
  have t2 := Fl.eq_nought x hx
  have t3 := inf_gt x hx hn hi
  rw [← f64_format] at t2
  have N1 := isNaN_any x hx
  have N2 := isNaN_any 9218868437227405312 (by omega)
  rw [hn] at N1
  rw [show Fl.isn 9218868437227405312 = false from by decide] at N2
  have H1 : Hid _ := N1
  have H2 : Hid _ := N2
  have H3 : Hid _ := copysign_any
  clear N1 N2
  by_cases h0 : x = 0 ∨ x = 9223372036854775808
  · rw [decide_eq_true h0] at t2
    have hu : Fl.nextUp x = 1 := by unfold Fl.nextUp; rw [if_pos h0]
    rw [hu]
    clear hu h0 hi hn hx t3
    go_enter Try.func32, Try.ntmps32
    go_wp2_with fail
    refine (H1.out _).mono ?_
    rintro e w' ⟨rfl, rfl⟩
    go_wp2_with fail
    refine (H2.out _).mono ?_
    rintro e w' ⟨rfl, rfl⟩
    go_wp2_with fail
    refine (H3.out _).mono ?_
    rintro e w' ⟨rfl, rfl⟩
    go_wp2_with fail
    go_ret
    exact ⟨rfl, rfl⟩
  · rw [decide_eq_false h0] at t2
    have t4 := nought_gt x hx hn h0
    by_cases hp : x < 9223372036854775808
    · rw [decide_eq_true hp] at t4
      have hu : Fl.nextUp x = (IntKind.u64.wrap ((x : Int) + 1)).toNat := by unfold Fl.nextUp; rw [if_neg h0, if_pos hp, up_word x hp]
      rw [hu]
      clear hu h0 hi hn hx hp
      go_enter Try.func32, Try.ntmps32
      go_wp2_with fail
      refine (H1.out _).mono ?_
      rintro e w' ⟨rfl, rfl⟩
      go_wp2_with fail
      refine (H2.out _).mono ?_
      rintro e w' ⟨rfl, rfl⟩
      go_wp2_with fail
      go_ret
      exact ⟨rfl, rfl⟩
    · rw [decide_eq_false hp] at t4
      have hu : Fl.nextUp x = (IntKind.u64.wrap ((x : Int) - 1)).toNat := by unfold Fl.nextUp; rw [if_neg h0, if_neg hp, down_word x hx (by omega)]
      rw [hu]
      clear hu h0 hi hn hx hp
      go_enter Try.func32, Try.ntmps32
      go_wp2_with fail
      refine (H1.out _).mono ?_
      rintro e w' ⟨rfl, rfl⟩
      go_wp2_with fail
      refine (H2.out _).mono ?_
      rintro e w' ⟨rfl, rfl⟩
      go_wp2_with fail
      go_ret
      exact ⟨rfl, rfl⟩

/-- The least key above one. -/
def nx (x : Nat) : Nat := if x = 9218868437227405312 then 9221120237041090561 else Fl.key (Fl.nextUp x)

set_option maxHeartbeats 400000 in
theorem next_any (x : Nat) (hx : x < 18446744073709551616) (w : World) :
    Calls Try.prog 24 #[.float .f64 x] w fun e w' => e = .returned (.tuple #[.float .f64 (if Fl.isn x then 0 else nx x), .bool (!Fl.isn x)]) ∧ w' = w := by
  have N1 := isNaN_any x hx
  have N2 := isInf_any x hx
  have H3 : Hid _ := theNaN_any
  have H4 : Hid _ := inf_any
  cases hn : Fl.isn x
  · rw [hn] at N1
    have H1 : Hid _ := N1
    by_cases hi : x = 9218868437227405312
    · rw [decide_eq_true hi] at N2
      have H2 : Hid _ := N2
      have e1 : nx x = 9221120237041090561 := by unfold nx; rw [if_pos hi]
      rw [e1]
      clear e1 hi N1 N2 hx hn
      go_enter Try.func24, Try.ntmps24
      go_wp2_with fail
      refine (H1.out _).mono ?_
      rintro e w' ⟨rfl, rfl⟩
      go_wp2_with fail
      refine (H2.out _).mono ?_
      rintro e w' ⟨rfl, rfl⟩
      go_wp2_with fail
      refine (H3.out _).mono ?_
      rintro e w' ⟨rfl, rfl⟩
      go_wp2_with fail
      go_ret2
      exact ⟨rfl, rfl⟩
    · rw [decide_eq_false hi] at N2
      have H2 : Hid _ := N2
      have H5 : Hid _ := nextafter_any x hx hn hi
      have H6 : Hid _ := key_any (Fl.nextUp x) (Fl.nextUp_lt hx)
      have e1 : nx x = Fl.key (Fl.nextUp x) := by unfold nx; rw [if_neg hi]
      rw [e1]
      clear e1 hi N1 N2 hx hn
      go_enter Try.func24, Try.ntmps24
      go_wp2_with fail
      refine (H1.out _).mono ?_
      rintro e w' ⟨rfl, rfl⟩
      go_wp2_with fail
      refine (H2.out _).mono ?_
      rintro e w' ⟨rfl, rfl⟩
      go_wp2_with fail
      refine (H4.out _).mono ?_
      rintro e w' ⟨rfl, rfl⟩
      go_wp2_with fail
      refine (H5.out _).mono ?_
      rintro e w' ⟨rfl, rfl⟩
      go_wp2_with fail
      refine (H6.out _).mono ?_
      rintro e w' ⟨rfl, rfl⟩
      go_wp2_with fail
      go_ret2
      exact ⟨rfl, rfl⟩
  · rw [hn] at N1
    have H1 : Hid _ := N1
    clear N1 N2 hx hn
    go_enter Try.func24, Try.ntmps24
    go_wp2_with fail
    refine (H1.out _).mono ?_
    rintro e w' ⟨rfl, rfl⟩
    go_wp2_with fail
    go_ret2
    exact ⟨rfl, rfl⟩

end Go.Proofs.Ytpnacdjmjicanaa
