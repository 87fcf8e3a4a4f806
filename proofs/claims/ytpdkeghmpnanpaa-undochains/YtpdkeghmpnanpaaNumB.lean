/-
  What num.Add, num.Of and num.Next hand back, call by call.
-/
import Derived.Test.YtpdkeghmpnanpaaNumA
namespace Go.Proofs.Ytpdkeghmpnanpaa
open Go.RowKit

/-- A sum that is no number: the word that the tape gives is one of a NaN. -/
theorem cut_nan (x y t : Nat) : Fl.isn ((Question.nanBits .f64 x y).cut t) = true ∧ (Question.nanBits .f64 x y).cut t < 18446744073709551616 := by
  have e : (Question.nanBits .f64 x y).cut t = (t % 2) * 2 ^ 63 + 0x7ff0000000000000 + 1 + (t / 2) % (2 ^ 52 - 1) := rfl
  have h1 : t / 2 % (2 ^ 52 - 1) < 4503599627370495 := Nat.mod_lt _ (by omega)
  have h2 : t % 2 = 0 ∨ t % 2 = 1 := by omega
  rw [e, Fl.isn_iff]
  generalize t / 2 % (2 ^ 52 - 1) = m at *
  rcases h2 with h2 | h2 <;> rw [h2] <;> constructor <;> omega

theorem run_add_some (t : TypeId) (a b r : Nat) (h : Ieee.double.add a b = some r) (w : World) : (binOp .add t (.float .f64 a) (.float .f64 b)).run Try.prog w = .ok (.float .f64 r) w :=
  run_float_arith w .add t .f64 a b r h
theorem run_add_none (t : TypeId) (a b : Nat) (h : Ieee.double.add a b = none) (w : World) : (binOp .add t (.float .f64 a) (.float .f64 b)).run Try.prog w = .ok (.float .f64 ((Question.nanBits .f64 a b).cut (w.tape w.drawn (.nanBits .f64 a b)))) w.drew := by
  have h' : FloatKind.f64.format.add a b = none := h
  simp [binOp, Op.floatArith, h', Question.forced]

theorem of_tail (o k : Nat) : (o == k) = decide (k = o) := by
  rw [Bool.eq_iff_iff, beq_iff_eq, decide_eq_true_eq]; omega

theorem max_order (x : Nat) (hx : x < 18446744073709551616) : (FloatKind.f64.format.order x 9218868437227405311 == some .gt) = decide (x = 9218868437227405312) := by
  rw [f64_format, Fl.gt_order x _ hx (by omega), Bool.eq_iff_iff, show Fl.isn 9218868437227405311 = false from by decide]
  have c1 := Fl.sv_cases x
  have c2 := Fl.sv_cases 9218868437227405311
  cases h : Fl.isn x
  · have h' := (Fl.isn_not x).1 h
    simp only [Bool.not_false, Bool.true_and, decide_eq_true_eq]
    omega
  · have h' := (Fl.isn_iff x).1 h
    simp only [Bool.not_true, Bool.false_and, Bool.false_eq_true, decide_eq_true_eq, false_iff]
    omega

theorem inf_eq (x : Nat) (hx : x < 18446744073709551616) (hi : x ≠ 9218868437227405312) : (FloatKind.f64.format.order x 9218868437227405312 == some .eq) = false := by
  rw [f64_format, Fl.eq_order x _ hx (by omega), show Fl.isn 9218868437227405312 = false from by decide]
  have c1 := Fl.sv_cases x
  have c2 := Fl.sv_cases 9218868437227405312
  rw [Bool.eq_false_iff]
  simp only [ne_eq, Bool.not_false, Bool.and_true, Bool.and_eq_true, decide_eq_true_eq]
  omega
theorem inf_gt (x : Nat) (hx : x < 18446744073709551616) (hn : Fl.isn x = false) (hi : x ≠ 9218868437227405312) : (FloatKind.f64.format.order 9218868437227405312 x == some .gt) = true := by
  rw [f64_format, Fl.gt_order _ x (by omega) hx, show Fl.isn 9218868437227405312 = false from by decide, hn]
  have c1 := Fl.sv_cases x
  have c2 := Fl.sv_cases 9218868437227405312
  have h' := (Fl.isn_not x).1 hn
  simp only [Bool.not_false, Bool.and_true, Bool.true_and, decide_eq_true_eq]
  omega
theorem nought_gt (x : Nat) (hx : x < 18446744073709551616) (hn : Fl.isn x = false) (h0 : ¬ (x = 0 ∨ x = 9223372036854775808)) : (FloatKind.f64.format.order x 0 == some .gt) = decide (x < 9223372036854775808) := by
  rw [f64_format, Fl.gt_order x 0 hx (by omega), show Fl.isn 0 = false from by decide, hn, Bool.eq_iff_iff]
  have c1 := Fl.sv_cases x
  have c2 := Fl.sv_cases 0
  simp only [Bool.not_false, Bool.true_and, decide_eq_true_eq]
  omega
theorem up_word (x : Nat) (hx : x < 9223372036854775808) : (IntKind.u64.wrap ((x : Int) + 1)).toNat = x + 1 := by
  rw [IntKind.wrap_u64]; omega
theorem down_word (x : Nat) (hx : x < 18446744073709551616) (h0 : 9223372036854775808 ≤ x) : (IntKind.u64.wrap ((x : Int) - 1)).toNat = x - 1 := by
  rw [IntKind.wrap_u64]; omega

/-- The least key above one. -/
def nx (x : Nat) : Nat := if x = 9218868437227405312 then 9221120237041090561 else Fl.key (Fl.nextUp x)

end Go.Proofs.Ytpdkeghmpnanpaa
