/-
  What the small functions of layer 1 hand back, call by call: each is a plain function of the words that it is handed.
-/
import Derived.Test.YtpdkeghmpnanpaaRows
import Derived.Test.YtpdkeghmpnanpaaFloat
import Derived.WalkKit
import Derived.WalkSpells
import Derived.WalkLawsBesides
import Derived.Laws.Externs
import Derived.Laws.BitsAllLaws
namespace Go.Proofs.Ytpdkeghmpnanpaa
open Go.RowKit

theorem bits_call (b : Nat) (w : World) : (callFunc 52 #[.float .f64 b]).run Try.prog w = .ok (.value (.int .u64 (b : Int))) w := by
  rw [run_callFunc_extern (e := Extern.MathFloatBits.float64bits) Try.func52 (by kernel_rfl) (by kernel_rfl) (by kernel_rfl) (by kernel_rfl)]
  rfl
theorem from_call (n : Int) (w : World) : (callFunc 87 #[.int .u64 n]).run Try.prog w = .ok (.value (.float .f64 n.toNat)) w := by
  rw [run_callFunc_extern (e := Extern.MathFloatBits.float64frombits) Try.func87 (by kernel_rfl) (by kernel_rfl) (by kernel_rfl) (by kernel_rfl)]
  rfl

theorem f64_format : FloatKind.f64.format = Ieee.double := rfl

theorem ne_self (x : Nat) (hx : x < 18446744073709551616) : (Ieee.double.order x x != some .eq) = Fl.isn x := by
  rw [Fl.order_eq x x hx hx]
  cases h : Fl.isn x
  · simp
  · simp

set_option maxHeartbeats 400000 in
theorem isNaN_any (x : Nat) (hx : x < 18446744073709551616) (w : World) :
    Calls Try.prog 85 #[.float .f64 x] w fun e w' => e = .returned (.bool (Fl.isn x)) ∧ w' = w := by
  go_enter Try.func85, Try.ntmps85
  go_wp2
  go_ret
  refine ⟨?_, rfl⟩
  rw [f64_format, ne_self x hx]
  rfl

set_option maxHeartbeats 400000 in
theorem theNaN_any (w : World) :
    Calls Try.prog 86 #[] w fun e w' => e = .returned (.float .f64 9221120237041090561) ∧ w' = w := by
  have h1 := from_call
  go_enter Try.func86, Try.ntmps86
  go_wp2
  go_ret
  exact ⟨rfl, rfl⟩

set_option maxHeartbeats 400000 in
theorem value_any (x : Nat) (hx : x < 18446744073709551616) (w : World) :
    Calls Try.prog 83 #[.float .f64 x] w fun e w' => e = .returned (.float .f64 (Fl.val x)) ∧ w' = w := by
  go_enter Try.func83, Try.ntmps83
  go_wp2_with fail
  refine (isNaN_any x hx _).mono ?_
  rintro e w' ⟨rfl, rfl⟩
  cases h : Fl.isn x
  · go_wp2_with fail
    go_ret
    exact ⟨by simp [Fl.val, h], rfl⟩
  · go_wp2_with fail
    refine (theNaN_any _).mono ?_
    rintro e w' ⟨rfl, rfl⟩
    go_wp2_with fail
    go_ret
    exact ⟨by simp [Fl.val, h], rfl⟩

set_option maxHeartbeats 400000 in
theorem key_any (x : Nat) (hx : x < 18446744073709551616) (w : World) :
    Calls Try.prog 75 #[.float .f64 x] w fun e w' => e = .returned (.float .f64 (Fl.key x)) ∧ w' = w := by
  have hz := Fl.eq_nought x hx
  by_cases h0 : x = 0 ∨ x = 9223372036854775808
  · rw [decide_eq_true h0, ← f64_format] at hz
    have hk : Fl.key x = 0 := by rcases h0 with rfl | rfl <;> decide
    clear h0
    go_enter Try.func75, Try.ntmps75
    go_wp2_with fail
    go_ret
    exact ⟨by rw [hk]; rfl, rfl⟩
  · rw [decide_eq_false h0, ← f64_format] at hz
    have hk : Fl.key x = Fl.val x := by unfold Fl.key; rw [if_neg (fun h => h0 (Or.inr h))]
    rw [hk]
    clear h0 hk
    go_enter Try.func75, Try.ntmps75
    go_wp2_with fail
    refine (value_any x hx _).mono ?_
    rintro e w' ⟨rfl, rfl⟩
    go_wp2_with fail
    go_ret
    exact ⟨rfl, rfl⟩

theorem beq_cast (a b : Nat) : ((a : Int) == (b : Int)) = (a == b) := by
  rw [Bool.eq_iff_iff, beq_iff_eq, beq_iff_eq]; omega
theorem bne_cast (a b : Nat) : ((a : Int) != (b : Int)) = (a != b) := by
  rw [Bool.eq_iff_iff, bne_iff_ne, bne_iff_ne]; omega

set_option maxHeartbeats 400000 in
theorem same_any (a b : Nat) (w : World) :
    Calls Try.prog 57 #[.float .f64 a, .float .f64 b] w fun e w' => e = .returned (.bool (a == b)) ∧ w' = w := by
  have h1 := bits_call
  go_enter Try.func57, Try.ntmps57
  go_wp2_with fail
  go_ret
  exact ⟨by simp [beq_cast], rfl⟩

set_option maxHeartbeats 400000 in
theorem refSame_any (a b : Nat) (w : World) :
    Calls Try.prog 48 #[.float .f64 a, .float .f64 b] w fun e w' => e = .returned (.bool (a == b)) ∧ w' = w := by
  have h1 := bits_call
  go_enter Try.func48, Try.ntmps48
  go_wp2_with fail
  go_ret
  exact ⟨by simp [beq_cast], rfl⟩

theorem isn_shift (b : Nat) (_hb : b < 18446744073709551616) (h : (b : Int) / 4503599627370496 % 2048 = 2047) : (IntKind.u64.wrap ((b : Int) * 4096) != 0) = Fl.isn b := by
  rw [IntKind.wrap_u64, Bool.eq_iff_iff, bne_iff_ne, Fl.isn_iff]
  omega
theorem isn_shift' (b : Nat) (h : ¬ (b : Int) / 4503599627370496 % 2048 = 2047) : Fl.isn b = false := by
  rw [Fl.isn_not]
  omega

set_option maxHeartbeats 400000 in
theorem refNan_any (b : Nat) (hb : b < 18446744073709551616) (w : World) :
    Calls Try.prog 63 #[.int .u64 b] w fun e w' => e = .returned (.bool (Fl.isn b)) ∧ w' = w := by
  go_enter Try.func63, Try.ntmps63
  go_wp2_with fail
  · rename_i h
    go_ret
    exact ⟨by rw [← isn_shift b hb h]; rfl, rfl⟩
  · rename_i h
    go_ret
    exact ⟨by rw [isn_shift' b h]; rfl, rfl⟩

theorem max_u64 : IntKind.u64.max = 18446744073709551615 := by decide

set_option maxHeartbeats 400000 in
theorem refValue_any (x : Nat) (hx : x < 18446744073709551616) (w : World) :
    Calls Try.prog 54 #[.float .f64 x] w fun e w' => e = .returned (.int .u64 (Fl.val x : Nat)) ∧ w' = w := by
  have h1 := bits_call
  go_enter Try.func54, Try.ntmps54
  go_wp2_with fail
  refine (refNan_any x hx _).mono ?_
  rintro e w' ⟨rfl, rfl⟩
  cases h : Fl.isn x
  · go_wp2_with fail
    go_ret
    exact ⟨by simp [Fl.val, h], rfl⟩
  · go_wp2_with fail
    go_ret
    exact ⟨by simp [Fl.val, h], rfl⟩

set_option maxHeartbeats 400000 in
theorem refKey_any (x : Nat) (hx : x < 18446744073709551616) (w : World) :
    Calls Try.prog 53 #[.float .f64 x] w fun e w' => e = .returned (.int .u64 (Fl.key x : Nat)) ∧ w' = w := by
  by_cases h0 : x = 9223372036854775808
  · have hv : Fl.val x = 9223372036854775808 := by rw [h0]; decide
    have hk : Fl.key x = 0 := by rw [h0]; decide
    have hb : (((Fl.val x : Nat) : Int) == 9223372036854775808) = true := by rw [hv]; decide
    rw [hk]
    clear h0 hv hk
    go_enter Try.func53, Try.ntmps53
    go_wp2_with fail
    refine (refValue_any x hx _).mono ?_
    rintro e w' ⟨rfl, rfl⟩
    go_wp2_with fail
    go_ret
    exact ⟨rfl, rfl⟩
  · have hv : Fl.val x ≠ 9223372036854775808 := by
      unfold Fl.val; split
      · omega
      · exact h0
    have hk : Fl.key x = Fl.val x := by unfold Fl.key; rw [if_neg h0]
    have hb : (((Fl.val x : Nat) : Int) == 9223372036854775808) = false := by rw [beq_eq_false_iff_ne]; omega
    rw [hk]
    clear h0 hv hk
    go_enter Try.func53, Try.ntmps53
    go_wp2_with fail
    refine (refValue_any x hx _).mono ?_
    rintro e w' ⟨rfl, rfl⟩
    go_wp2_with fail
    go_ret
    exact ⟨rfl, rfl⟩

theorem rk_sub (k : Nat) (hk : k < 18446744073709551616) : IntKind.u64.wrap (18446744073709551615 - (k : Int)) = ((18446744073709551615 - k : Nat) : Int) := by
  rw [IntKind.wrap_u64]; omega
theorem rk_add (k : Nat) (hk : k < 9223372036854775808) : IntKind.u64.wrap ((k : Int) + 9223372036854775808) = ((k + 9223372036854775808 : Nat) : Int) := by
  rw [IntKind.wrap_u64]; omega

def cmp (a b : Nat) : Int := if Fl.less a b then -1 else if Fl.less b a then 1 else 0

end Go.Proofs.Ytpdkeghmpnanpaa
