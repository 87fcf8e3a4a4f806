/-
  What the small functions of layer 1 hand back, call by call: each is a plain function of the words that it is handed.
-/
import Derived.Test.YtpnacdjmjicanaaRows
import Derived.Test.YtpnacdjmjicanaaFloat
import Derived.WalkKit
import Derived.WalkSpells
import Derived.WalkLawsBesides
import Derived.Laws.Externs
import Derived.Laws.BitsAllLaws
namespace Go.Proofs.Ytpnacdjmjicanaa
open Go.RowKit

theorem bits_call (b : Nat) (w : World) : (callFunc 11 #[.float .f64 b]).run Try.prog w = .ok (.value (.int .u64 (b : Int))) w := by
  rw [run_callFunc_extern (e := Extern.MathFloatBits.float64bits) Try.func11 (by kernel_rfl) (by kernel_rfl) (by kernel_rfl) (by kernel_rfl)]
  rfl
theorem from_call (n : Int) (w : World) : (callFunc 23 #[.int .u64 n]).run Try.prog w = .ok (.value (.float .f64 n.toNat)) w := by
  rw [run_callFunc_extern (e := Extern.MathFloatBits.float64frombits) Try.func23 (by kernel_rfl) (by kernel_rfl) (by kernel_rfl) (by kernel_rfl)]
  rfl

theorem f64_format : FloatKind.f64.format = Ieee.double := rfl

theorem ne_self (x : Nat) (hx : x < 18446744073709551616) : (Ieee.double.order x x != some .eq) = Fl.isn x := by
  rw [Fl.order_eq x x hx hx]
  cases h : Fl.isn x
  · simp
  · simp

set_option maxHeartbeats 400000 in
theorem isNaN_any (x : Nat) (hx : x < 18446744073709551616) (w : World) :
    Calls Try.prog 28 #[.float .f64 x] w fun e w' => e = .returned (.bool (Fl.isn x)) ∧ w' = w := by
  go_enter Try.func28, Try.ntmps28
  go_wp2
  go_ret
  refine ⟨?_, rfl⟩
  rw [f64_format, ne_self x hx]
  rfl

set_option maxHeartbeats 400000 in
theorem theNaN_any (w : World) :
    Calls Try.prog 29 #[] w fun e w' => e = .returned (.float .f64 9221120237041090561) ∧ w' = w := by
  have h1 := from_call
  go_enter Try.func29, Try.ntmps29
  go_wp2
  go_ret
  exact ⟨rfl, rfl⟩

set_option maxHeartbeats 400000 in
theorem value_any (x : Nat) (hx : x < 18446744073709551616) (w : World) :
    Calls Try.prog 10 #[.float .f64 x] w fun e w' => e = .returned (.float .f64 (Fl.val x)) ∧ w' = w := by
  go_enter Try.func10, Try.ntmps10
  go_wp2_with fail
  refine (isNaN_any x hx _).mono ?_
  rintro e w' ⟨rfl, rfl⟩
  cases h : Fl.isn x
  · go_wp2_with fail
    go_ret
    exact ⟨by simp [Fl.val, h], rfl⟩
  · go_wp2_with fail
    refine (theNaN_any _).mono ?_
    rintro e w' ⟨rfl, rfl⟩
    go_wp2_with fail
    go_ret
    exact ⟨by simp [Fl.val, h], rfl⟩

set_option maxHeartbeats 400000 in
theorem key_any (x : Nat) (hx : x < 18446744073709551616) (w : World) :
    Calls Try.prog 9 #[.float .f64 x] w fun e w' => e = .returned (.float .f64 (Fl.key x)) ∧ w' = w := by
  have hz := Fl.eq_nought x hx
  by_cases h0 : x = 0 ∨ x = 9223372036854775808
  · rw [decide_eq_true h0, ← f64_format] at hz
    have hk : Fl.key x = 0 := by rcases h0 with rfl | rfl <;> decide
    clear h0
    go_enter Try.func9, Try.ntmps9
    go_wp2_with fail
    go_ret
    exact ⟨by rw [hk]; rfl, rfl⟩
  · rw [decide_eq_false h0, ← f64_format] at hz
    have hk : Fl.key x = Fl.val x := by unfold Fl.key; rw [if_neg (fun h => h0 (Or.inr h))]
    rw [hk]
    clear h0 hk
    go_enter Try.func9, Try.ntmps9
    go_wp2_with fail
    refine (value_any x hx _).mono ?_
    rintro e w' ⟨rfl, rfl⟩
    go_wp2_with fail
    go_ret
    exact ⟨rfl, rfl⟩

theorem beq_cast (a b : Nat) : ((a : Int) == (b : Int)) = (a == b) := by
  rw [Bool.eq_iff_iff, beq_iff_eq, beq_iff_eq]; omega
theorem bne_cast (a b : Nat) : ((a : Int) != (b : Int)) = (a != b) := by
  rw [Bool.eq_iff_iff, bne_iff_ne, bne_iff_ne]; omega

set_option maxHeartbeats 400000 in
theorem same_any (a b : Nat) (w : World) :
    Calls Try.prog 16 #[.float .f64 a, .float .f64 b] w fun e w' => e = .returned (.bool (a == b)) ∧ w' = w := by
  have h1 := bits_call
  go_enter Try.func16, Try.ntmps16
  go_wp2_with fail
  go_ret
  exact ⟨by simp [beq_cast], rfl⟩

set_option maxHeartbeats 400000 in
theorem refSame_any (a b : Nat) (w : World) :
    Calls Try.prog 21 #[.float .f64 a, .float .f64 b] w fun e w' => e = .returned (.bool (a == b)) ∧ w' = w := by
  have h1 := bits_call
  go_enter Try.func21, Try.ntmps21
  go_wp2_with fail
  go_ret
  exact ⟨by simp [beq_cast], rfl⟩

theorem isn_shift (b : Nat) (_hb : b < 18446744073709551616) (h : (b : Int) / 4503599627370496 % 2048 = 2047) : (IntKind.u64.wrap ((b : Int) * 4096) != 0) = Fl.isn b := by
  rw [IntKind.wrap_u64, Bool.eq_iff_iff, bne_iff_ne, Fl.isn_iff]
  omega
theorem isn_shift' (b : Nat) (h : ¬ (b : Int) / 4503599627370496 % 2048 = 2047) : Fl.isn b = false := by
  rw [Fl.isn_not]
  omega

set_option maxHeartbeats 400000 in
theorem refNan_any (b : Nat) (hb : b < 18446744073709551616) (w : World) :
    Calls Try.prog 25 #[.int .u64 b] w fun e w' => e = .returned (.bool (Fl.isn b)) ∧ w' = w := by
  go_enter Try.func25, Try.ntmps25
  go_wp2_with fail
  · rename_i h
    go_ret
    exact ⟨by rw [← isn_shift b hb h]; rfl, rfl⟩
  · rename_i h
    go_ret
    exact ⟨by rw [isn_shift' b h]; rfl, rfl⟩

theorem max_u64 : IntKind.u64.max = 18446744073709551615 := by decide

set_option maxHeartbeats 400000 in
theorem rank_any (x : Nat) (hx : x < 18446744073709551616) (w : World) :
    Calls Try.prog 14 #[.float .f64 x] w fun e w' => e = .returned (.int .u64 (Fl.rk x : Nat)) ∧ w' = w := by
  have h1 := bits_call
  have hk := Fl.key_lt hx
  have hr := Fl.rk_cases x
  have hs := Fl.and_sign (Fl.key x) hk
  by_cases hb : 9223372036854775808 ≤ Fl.key x
  · rw [decide_eq_true hb] at hs
    have hr : Fl.rk x = 18446744073709551615 - Fl.key x := by omega
    rw [hr, ← Fl.not_word _ hk, ← max_u64]
    clear hr
    go_enter Try.func14, Try.ntmps14
    go_wp2_with fail
    refine (key_any x hx _).mono ?_
    rintro e w' ⟨rfl, rfl⟩
    go_wp2_with fail
    go_ret
    exact ⟨rfl, rfl⟩
  · rw [decide_eq_false hb] at hs
    have hr : Fl.rk x = Fl.key x + 9223372036854775808 := by omega
    rw [hr, ← Fl.or_sign _ (by omega)]
    clear hr
    go_enter Try.func14, Try.ntmps14
    go_wp2_with fail
    refine (key_any x hx _).mono ?_
    rintro e w' ⟨rfl, rfl⟩
    go_wp2_with fail
    go_ret
    exact ⟨rfl, rfl⟩

set_option maxHeartbeats 400000 in
theorem refValue_any (x : Nat) (hx : x < 18446744073709551616) (w : World) :
    Calls Try.prog 13 #[.float .f64 x] w fun e w' => e = .returned (.int .u64 (Fl.val x : Nat)) ∧ w' = w := by
  have h1 := bits_call
  go_enter Try.func13, Try.ntmps13
  go_wp2_with fail
  refine (refNan_any x hx _).mono ?_
  rintro e w' ⟨rfl, rfl⟩
  cases h : Fl.isn x
  · go_wp2_with fail
    go_ret
    exact ⟨by simp [Fl.val, h], rfl⟩
  · go_wp2_with fail
    go_ret
    exact ⟨by simp [Fl.val, h], rfl⟩

set_option maxHeartbeats 400000 in
theorem refKey_any (x : Nat) (hx : x < 18446744073709551616) (w : World) :
    Calls Try.prog 12 #[.float .f64 x] w fun e w' => e = .returned (.int .u64 (Fl.key x : Nat)) ∧ w' = w := by
  by_cases h0 : x = 9223372036854775808
  · have hv : Fl.val x = 9223372036854775808 := by rw [h0]; decide
    have hk : Fl.key x = 0 := by rw [h0]; decide
    have hb : (((Fl.val x : Nat) : Int) == 9223372036854775808) = true := by rw [hv]; decide
    rw [hk]
    clear h0 hv hk
    go_enter Try.func12, Try.ntmps12
    go_wp2_with fail
    refine (refValue_any x hx _).mono ?_
    rintro e w' ⟨rfl, rfl⟩
    go_wp2_with fail
    go_ret
    exact ⟨rfl, rfl⟩
  · have hv : Fl.val x ≠ 9223372036854775808 := by
      unfold Fl.val; split
      · omega
      · exact h0
    have hk : Fl.key x = Fl.val x := by unfold Fl.key; rw [if_neg h0]
    have hb : (((Fl.val x : Nat) : Int) == 9223372036854775808) = false := by rw [beq_eq_false_iff_ne]; omega
    rw [hk]
    clear h0 hv hk
    go_enter Try.func12, Try.ntmps12
    go_wp2_with fail
    refine (refValue_any x hx _).mono ?_
    rintro e w' ⟨rfl, rfl⟩
    go_wp2_with fail
    go_ret
    exact ⟨rfl, rfl⟩

theorem rk_sub (k : Nat) (hk : k < 18446744073709551616) : IntKind.u64.wrap (18446744073709551615 - (k : Int)) = ((18446744073709551615 - k : Nat) : Int) := by
  rw [IntKind.wrap_u64]; omega
theorem rk_add (k : Nat) (hk : k < 9223372036854775808) : IntKind.u64.wrap ((k : Int) + 9223372036854775808) = ((k + 9223372036854775808 : Nat) : Int) := by
  rw [IntKind.wrap_u64]; omega

set_option maxHeartbeats 400000 in
theorem refRank_any (x : Nat) (hx : x < 18446744073709551616) (w : World) :
    Calls Try.prog 15 #[.float .f64 x] w fun e w' => e = .returned (.int .u64 (Fl.rk x : Nat)) ∧ w' = w := by
  have hk := Fl.key_lt hx
  have hr := Fl.rk_cases x
  have hc := refKey_any x hx
  by_cases hb : 9223372036854775808 ≤ Fl.key x
  · have hr2 : Fl.rk x = 18446744073709551615 - Fl.key x := by omega
    rw [hr2, ← rk_sub _ hk]
    have hb2 : decide ((9223372036854775808 : Int) ≤ ((Fl.key x : Nat) : Int)) = true := decide_eq_true (by omega)
    clear hr hr2 hk hb
    generalize Fl.key x = k at *
    have H : Hid _ := hc
    clear hc
    go_enter Try.func15, Try.ntmps15
    go_wp2_with fail
    refine (H.out _).mono ?_
    rintro e w' ⟨rfl, rfl⟩
    go_wp2_with fail
    go_ret
    exact ⟨rfl, rfl⟩
  · have hr2 : Fl.rk x = Fl.key x + 9223372036854775808 := by omega
    rw [hr2, ← rk_add _ (by omega)]
    have hb2 : decide ((9223372036854775808 : Int) ≤ ((Fl.key x : Nat) : Int)) = false := decide_eq_false (by omega)
    clear hr hr2 hk hb
    generalize Fl.key x = k at *
    have H : Hid _ := hc
    clear hc
    go_enter Try.func15, Try.ntmps15
    go_wp2_with fail
    refine (H.out _).mono ?_
    rintro e w' ⟨rfl, rfl⟩
    go_wp2_with fail
    go_ret
    exact ⟨rfl, rfl⟩

set_option maxHeartbeats 400000 in
theorem awake_any (w : World) :
    Calls Try.prog 17 #[] w fun e w' => e = .returned (.bool true) ∧ w' = w := by
  have r0 : Fl.rk 0 = 9223372036854775808 := by decide
  have v1 : Fl.val 4607182418800017408 = 4607182418800017408 := by decide
  have c1 := rank_any 0 (by omega)
  have c2 := value_any 4607182418800017408 (by omega)
  have c3 := same_any 4607182418800017408 4607182418800017408
  rw [r0] at c1
  rw [v1] at c2
  have H1 : Hid _ := c1
  have H2 : Hid _ := c2
  have H3 : Hid _ := c3
  clear c1 c2 c3 r0 v1
  go_enter Try.func17, Try.ntmps17
  go_wp2_with fail
  refine (H1.out _).mono ?_
  rintro e w' ⟨rfl, rfl⟩
  go_wp2_with fail
  refine (H2.out _).mono ?_
  rintro e w' ⟨rfl, rfl⟩
  go_wp2_with fail
  refine (H3.out _).mono ?_
  rintro e w' ⟨rfl, rfl⟩
  go_wp2_with fail
  go_ret
  exact ⟨by simp, rfl⟩

set_option maxHeartbeats 400000 in
theorem isAhead_any (a b : Nat) (ha : a < 18446744073709551616) (hb : b < 18446744073709551616) (w : World) :
    Calls Try.prog 30 #[.float .f64 a, .float .f64 b] w fun e w' => e = .returned (.bool (Fl.less a b)) ∧ w' = w := by
  have hl := Fl.lt_order a b ha hb
  rw [← f64_format] at hl
  cases h : Fl.isn b
  · have e1 : Fl.less a b = (FloatKind.f64.format.order a b == some .lt) := by
      rw [hl, h]; unfold Fl.less; rw [h]; simp
    rw [e1]
    clear hl e1
    go_enter Try.func30, Try.ntmps30
    go_wp2_with fail
    refine (isNaN_any b hb _).mono ?_
    rintro e w' ⟨rfl, rfl⟩
    go_wp2_with fail
    go_ret
    exact ⟨rfl, rfl⟩
  · have e1 : Fl.less a b = !Fl.isn a := by unfold Fl.less; rw [h]; simp
    rw [e1]
    clear hl e1
    go_enter Try.func30, Try.ntmps30
    go_wp2_with fail
    refine (isNaN_any b hb _).mono ?_
    rintro e w' ⟨rfl, rfl⟩
    go_wp2_with fail
    refine (isNaN_any a ha _).mono ?_
    rintro e w' ⟨rfl, rfl⟩
    go_wp2_with fail
    go_ret
    exact ⟨rfl, rfl⟩

def cmp (a b : Nat) : Int := if Fl.less a b then -1 else if Fl.less b a then 1 else 0

set_option maxHeartbeats 400000 in
theorem compare_any (a b : Nat) (ha : a < 18446744073709551616) (hb : b < 18446744073709551616) (w : World) :
    Calls Try.prog 18 #[.float .f64 a, .float .f64 b] w fun e w' => e = .returned (.int .i64 (cmp a b)) ∧ w' = w := by
  have e1 : cmp a b = if Fl.less a b then -1 else if Fl.less b a then 1 else 0 := rfl
  rw [e1]
  clear e1
  have H1 : Hid _ := isAhead_any a b ha hb
  have H2 : Hid _ := isAhead_any b a hb ha
  generalize Fl.less a b = p at *
  generalize Fl.less b a = q at *
  go_enter Try.func18, Try.ntmps18
  go_wp2_with fail
  refine (H1.out _).mono ?_
  rintro e w' ⟨rfl, rfl⟩
  cases p
  · go_wp2_with fail
    refine (H2.out _).mono ?_
    rintro e w' ⟨rfl, rfl⟩
    cases q
    · go_wp2_with fail
      go_ret
      exact ⟨rfl, rfl⟩
    · go_wp2_with fail
      go_ret
      exact ⟨rfl, rfl⟩
  · go_wp2_with fail
    go_ret
    exact ⟨rfl, rfl⟩

set_option maxHeartbeats 400000 in
theorem between_any (x a b : Nat) (hx : x < 18446744073709551616) (ha : a < 18446744073709551616) (hb : b < 18446744073709551616) (w : World) :
    Calls Try.prog 27 #[.float .f64 x, .float .f64 a, .float .f64 b] w fun e w' => e = .returned (.bool (!Fl.less x a && Fl.less x b)) ∧ w' = w := by
  have H1 : Hid _ := isAhead_any x a hx ha
  have H2 : Hid _ := isAhead_any x b hx hb
  generalize Fl.less x a = p at *
  generalize Fl.less x b = q at *
  go_enter Try.func27, Try.ntmps27
  go_wp2_with fail
  refine (H1.out _).mono ?_
  rintro e w' ⟨rfl, rfl⟩
  cases p
  · go_wp2_with fail
    refine (H2.out _).mono ?_
    rintro e w' ⟨rfl, rfl⟩
    go_wp2_with fail
    go_ret
    exact ⟨by simp, rfl⟩
  · go_wp2_with fail
    go_ret
    exact ⟨rfl, rfl⟩

set_option maxHeartbeats 400000 in
theorem refAlike_any (a b : Nat) (ha : a < 18446744073709551616) (hb : b < 18446744073709551616) (w : World) :
    Calls Try.prog 20 #[.float .f64 a, .float .f64 b] w fun e w' => e = .returned (.bool (Fl.key a == Fl.key b)) ∧ w' = w := by
  have H1 : Hid _ := refKey_any a ha
  have H2 : Hid _ := refKey_any b hb
  generalize Fl.key a = p at *
  generalize Fl.key b = q at *
  go_enter Try.func20, Try.ntmps20
  go_wp2_with fail
  refine (H1.out _).mono ?_
  rintro e w' ⟨rfl, rfl⟩
  go_wp2_with fail
  refine (H2.out _).mono ?_
  rintro e w' ⟨rfl, rfl⟩
  go_wp2_with fail
  go_ret
  exact ⟨by simp [beq_cast], rfl⟩

set_option maxHeartbeats 400000 in
theorem refLess_any (a b : Nat) (ha : a < 18446744073709551616) (hb : b < 18446744073709551616) (w : World) :
    Calls Try.prog 19 #[.float .f64 a, .float .f64 b] w fun e w' => e = .returned (.bool (Fl.less a b)) ∧ w' = w := by
  have hf := from_call
  have H1 : Hid _ := refKey_any a ha
  have H2 : Hid _ := refKey_any b hb
  have H3 : Hid _ := refNan_any (Fl.key a) (Fl.key_lt ha)
  have H4 : Hid _ := refNan_any (Fl.key b) (Fl.key_lt hb)
  have hl : Hid _ := Fl.lt_order (Fl.key a) (Fl.key b) (Fl.key_lt ha) (Fl.key_lt hb)
  rw [← Fl.less_key a b]
  have hd : Hid (Fl.less (Fl.key a) (Fl.key b) = (!Fl.isn (Fl.key a) && (Fl.isn (Fl.key b) || decide (Fl.sv (Fl.key a) < Fl.sv (Fl.key b))))) := rfl
  generalize Fl.less (Fl.key a) (Fl.key b) = r at *
  generalize Fl.key a = p at *
  generalize Fl.key b = q at *
  go_enter Try.func19, Try.ntmps19
  go_wp2_with fail
  refine (H1.out _).mono ?_
  rintro e w' ⟨rfl, rfl⟩
  go_wp2_with fail
  refine (H2.out _).mono ?_
  rintro e w' ⟨rfl, rfl⟩
  go_wp2_with fail
  refine (H1.out _).mono ?_
  rintro e w' ⟨rfl, rfl⟩
  go_wp2_with fail
  refine (H3.out _).mono ?_
  rintro e w' ⟨rfl, rfl⟩
  cases hp : Fl.isn p
  · go_wp2_with fail
    refine (H2.out _).mono ?_
    rintro e w' ⟨rfl, rfl⟩
    go_wp2_with fail
    refine (H4.out _).mono ?_
    rintro e w' ⟨rfl, rfl⟩
    cases hq : Fl.isn q
    · go_wp2_with fail
      go_ret
      refine ⟨?_, rfl⟩
      rw [hd.out, hp, hq]
      have := hl.out
      rw [hp, hq] at this
      simp [f64_format, this]
    · go_wp2_with fail
      go_ret
      refine ⟨?_, rfl⟩
      rw [hd.out, hp, hq]; rfl
  · go_wp2_with fail
    go_ret
    refine ⟨?_, rfl⟩
    rw [hd.out, hp]; rfl

end Go.Proofs.Ytpnacdjmjicanaa
