/-
  What the small functions of layer 1 hand back, call by call: each is a plain function of the words that it is handed.
-/
import Derived.Test.YtdbgbldmjgonjaaRows
import Derived.Test.YtdbgbldmjgonjaaFloat
import Derived.WalkKit
import Derived.WalkSpells
import Derived.WalkLawsBesides
import Derived.Laws.Externs
import Derived.Laws.BitsAllLaws
namespace Go.Proofs.Ytdbgbldmjgonjaa
open Go.RowKit

theorem bits_call (b : Nat) (w : World) : (callFunc 73 #[.float .f64 b]).run Try.prog w = .ok (.value (.int .u64 (b : Int))) w := by
  rw [run_callFunc_extern (e := Extern.MathFloatBits.float64bits) Try.func73 (by kernel_rfl) (by kernel_rfl) (by kernel_rfl) (by kernel_rfl)]
  rfl
theorem from_call (n : Int) (w : World) : (callFunc 69 #[.int .u64 n]).run Try.prog w = .ok (.value (.float .f64 n.toNat)) w := by
  rw [run_callFunc_extern (e := Extern.MathFloatBits.float64frombits) Try.func69 (by kernel_rfl) (by kernel_rfl) (by kernel_rfl) (by kernel_rfl)]
  rfl

theorem f64_format : FloatKind.f64.format = Ieee.double := rfl

theorem ne_self (x : Nat) (hx : x < 18446744073709551616) : (Ieee.double.order x x != some .eq) = Fl.isn x := by
  rw [Fl.order_eq x x hx hx]
  cases h : Fl.isn x
  · simp
  · simp

set_option maxHeartbeats 400000 in
theorem isNaN_any (x : Nat) (hx : x < 18446744073709551616) (w : World) :
    Calls Try.prog 88 #[.float .f64 x] w fun e w' => e = .returned (.bool (Fl.isn x)) ∧ w' = w := by
  go_enter Try.func88, Try.ntmps88
  go_wp2
  go_ret
  refine ⟨?_, rfl⟩
  rw [f64_format, ne_self x hx]
  rfl

set_option maxHeartbeats 400000 in
theorem theNaN_any (w : World) :
    Calls Try.prog 89 #[] w fun e w' => e = .returned (.float .f64 9221120237041090561) ∧ w' = w := by
  have h1 := from_call
  go_enter Try.func89, Try.ntmps89
  go_wp2
  go_ret
  exact ⟨rfl, rfl⟩

set_option maxHeartbeats 400000 in
theorem value_any (x : Nat) (hx : x < 18446744073709551616) (w : World) :
    Calls Try.prog 74 #[.float .f64 x] w fun e w' => e = .returned (.float .f64 (Fl.val x)) ∧ w' = w := by
  go_enter Try.func74, Try.ntmps74
  go_wp2_with fail
  refine (isNaN_any x hx _).mono ?_
  rintro e w' ⟨rfl, rfl⟩
  cases h : Fl.isn x
  · go_wp2_with fail
    go_ret
    exact ⟨by simp [Fl.val, h], rfl⟩
  · go_wp2_with fail
    refine (theNaN_any _).mono ?_
    rintro e w' ⟨rfl, rfl⟩
    go_wp2_with fail
    go_ret
    exact ⟨by simp [Fl.val, h], rfl⟩

theorem beq_cast (a b : Nat) : ((a : Int) == (b : Int)) = (a == b) := by
  rw [Bool.eq_iff_iff, beq_iff_eq, beq_iff_eq]; omega
theorem bne_cast (a b : Nat) : ((a : Int) != (b : Int)) = (a != b) := by
  rw [Bool.eq_iff_iff, bne_iff_ne, bne_iff_ne]; omega

set_option maxHeartbeats 400000 in
theorem same_any (a b : Nat) (w : World) :
    Calls Try.prog 86 #[.float .f64 a, .float .f64 b] w fun e w' => e = .returned (.bool (a == b)) ∧ w' = w := by
  have h1 := bits_call
  go_enter Try.func86, Try.ntmps86
  go_wp2_with fail
  go_ret
  exact ⟨by simp [beq_cast], rfl⟩

set_option maxHeartbeats 400000 in
theorem refSame_any (a b : Nat) (w : World) :
    Calls Try.prog 83 #[.float .f64 a, .float .f64 b] w fun e w' => e = .returned (.bool (a == b)) ∧ w' = w := by
  have h1 := bits_call
  go_enter Try.func83, Try.ntmps83
  go_wp2_with fail
  go_ret
  exact ⟨by simp [beq_cast], rfl⟩

theorem isn_shift (b : Nat) (_hb : b < 18446744073709551616) (h : (b : Int) / 4503599627370496 % 2048 = 2047) : (IntKind.u64.wrap ((b : Int) * 4096) != 0) = Fl.isn b := by
  rw [IntKind.wrap_u64, Bool.eq_iff_iff, bne_iff_ne, Fl.isn_iff]
  omega
theorem isn_shift' (b : Nat) (h : ¬ (b : Int) / 4503599627370496 % 2048 = 2047) : Fl.isn b = false := by
  rw [Fl.isn_not]
  omega

set_option maxHeartbeats 400000 in
theorem refNan_any (b : Nat) (hb : b < 18446744073709551616) (w : World) :
    Calls Try.prog 97 #[.int .u64 b] w fun e w' => e = .returned (.bool (Fl.isn b)) ∧ w' = w := by
  go_enter Try.func97, Try.ntmps97
  go_wp2_with fail
  · rename_i h
    go_ret
    exact ⟨by rw [← isn_shift b hb h]; rfl, rfl⟩
  · rename_i h
    go_ret
    exact ⟨by rw [isn_shift' b h]; rfl, rfl⟩

theorem max_u64 : IntKind.u64.max = 18446744073709551615 := by decide

set_option maxHeartbeats 400000 in
theorem refValue_any (x : Nat) (hx : x < 18446744073709551616) (w : World) :
    Calls Try.prog 85 #[.float .f64 x] w fun e w' => e = .returned (.int .u64 (Fl.val x : Nat)) ∧ w' = w := by
  have h1 := bits_call
  go_enter Try.func85, Try.ntmps85
  go_wp2_with fail
  refine (refNan_any x hx _).mono ?_
  rintro e w' ⟨rfl, rfl⟩
  cases h : Fl.isn x
  · go_wp2_with fail
    go_ret
    exact ⟨by simp [Fl.val, h], rfl⟩
  · go_wp2_with fail
    go_ret
    exact ⟨by simp [Fl.val, h], rfl⟩

theorem rk_sub (k : Nat) (hk : k < 18446744073709551616) : IntKind.u64.wrap (18446744073709551615 - (k : Int)) = ((18446744073709551615 - k : Nat) : Int) := by
  rw [IntKind.wrap_u64]; omega
theorem rk_add (k : Nat) (hk : k < 9223372036854775808) : IntKind.u64.wrap ((k : Int) + 9223372036854775808) = ((k + 9223372036854775808 : Nat) : Int) := by
  rw [IntKind.wrap_u64]; omega

def cmp (a b : Nat) : Int := if Fl.less a b then -1 else if Fl.less b a then 1 else 0

end Go.Proofs.Ytdbgbldmjgonjaa
