/-
  Lemmas.
-/
import Derived.Laws.FloatBits
import Derived.Laws.FloatArith
import Derived.Laws.BitsAllLaws
import Derived.Test.YtdojdcncncgncaaGreatRows
import Derived.WalkKit
import Derived.WalkSpells
import Derived.WalkLawsBesides
import Derived.Laws.Externs
namespace Go.Proofs.YtdojdcncncgncaaGreat
open Go.RowKit
set_option linter.unusedVariables false
set_option maxRecDepth 100000
set_option maxHeartbeats 4000000
variable {x:Nat}
namespace Fl
def isn (x : Nat) : Bool := decide (9218868437227405312 < x % 9223372036854775808)
def sv (x : Nat) : Int := if x < 9223372036854775808 then (x : Int) else 9223372036854775808 - (x : Int)
def mag (r : Nat) : Nat := if r < 4503599627370496 then r else (4503599627370496 + r % 4503599627370496) * 2 ^ (r / 4503599627370496 - 1)
theorem mag_lt {r s:Nat}(h:r<s):mag r<mag s:=by
 unfold mag
 by_cases hr:r<4503599627370496
 · by_cases hs:s<4503599627370496
   · simp [hr,hs,h]
   · simp only [hr,hs,if_true,if_false]
     have:0<2 ^ (s / 4503599627370496-1):=Nat.two_pow_pos _
     calc r<4503599627370496*1:=by omega
      _≤(4503599627370496+s % 4503599627370496)*2 ^ (s / 4503599627370496-1):=Nat.mul_le_mul (by omega) this
 · have hs:¬s<4503599627370496:=by omega
   simp only [hr,hs,if_false]
   by_cases he:r / 4503599627370496=s / 4503599627370496
   · rw [he]
     exact Nat.mul_lt_mul_of_pos_right (by omega) (Nat.two_pow_pos _)
   · have hlt:r / 4503599627370496<s / 4503599627370496:=by omega
     have hp:0<2 ^ (r / 4503599627370496-1):=Nat.two_pow_pos _
     have e1:r / 4503599627370496-1+1≤s / 4503599627370496-1:=by omega
     calc (4503599627370496+r % 4503599627370496)*2 ^ (r / 4503599627370496-1)
         < (4503599627370496*2)*2 ^ (r / 4503599627370496-1):=Nat.mul_lt_mul_of_pos_right (by omega) hp
       _=4503599627370496*2 ^ (r / 4503599627370496-1+1):=by rw [Nat.pow_succ,Nat.mul_assoc,Nat.mul_comm 2]
       _≤4503599627370496*2 ^ (s / 4503599627370496-1):=Nat.mul_le_mul_left _ (Nat.pow_le_pow_right (by omega) e1)
       _≤(4503599627370496+s % 4503599627370496)*2 ^ (s / 4503599627370496-1):=Nat.mul_le_mul_right _ (by omega)
theorem mag_lt_iff {r s : Nat} : mag r < mag s ↔ r < s := by
 constructor
 · intro h
   by_cases h1 : r < s
   · exact h1
   · by_cases h2 : s < r
     · have := mag_lt h2; omega
     · have : r = s := by omega
       subst this; omega
 · exact mag_lt
theorem mag_zero : mag 0 = 0 := by simp [mag]
def smag (neg : Bool) (r : Nat) : Int := if neg then -((mag r : Nat) : Int) else ((mag r : Nat) : Int)
theorem read_eq (x : Nat) (hx : x < 18446744073709551616) : Ieee.double.read x =
    (if x % 9223372036854775808 < 4503599627370496 then Ieee.Datum.number (decide (9223372036854775808 ≤ x)) (x % 9223372036854775808) (-1074)
     else if x % 9223372036854775808 < 9218868437227405312 then
      Ieee.Datum.number (decide (9223372036854775808 ≤ x)) (4503599627370496 + x % 9223372036854775808 % 4503599627370496) (-1074 + ((x % 9223372036854775808 / 4503599627370496 - 1 : Nat) : Int))
     else if x % 9223372036854775808 = 9218868437227405312 then Ieee.Datum.infinity (decide (9223372036854775808 ≤ x))
     else Ieee.Datum.nan (decide (9223372036854775808 ≤ x)) (x % 9223372036854775808 - 9218868437227405312)) := by
  have e1 : Ieee.double.signWeight = 9223372036854775808 := by decide
  have e2 : Ieee.double.binade = 4503599627370496 := by decide
  have e3 : Ieee.double.infRung = 9218868437227405312 := by decide
  have e4 : Ieee.double.leastPlace = -1074 := by decide
  have en : (x / 9223372036854775808 % 2 == 1) = decide (9223372036854775808 ≤ x) := by
   rw [Bool.eq_iff_iff]; simp only [beq_iff_eq, decide_eq_true_eq]; omega
  unfold Ieee.Format.read
  simp only [e1, e2, e3, e4, en]
theorem read_number (x : Nat) (hx : x < 18446744073709551616) (hf : x % 9223372036854775808 < 9218868437227405312) :
    ∃ m k : Nat, Ieee.double.read x = Ieee.Datum.number (decide (9223372036854775808 ≤ x)) m (-1074 + (k : Int)) ∧ m * 2 ^ k = mag (x % 9223372036854775808) := by
  rw [read_eq x hx]
  by_cases h1 : x % 9223372036854775808 < 4503599627370496
  · exact ⟨x % 9223372036854775808, 0, by simp [h1], by simp [mag, h1]⟩
  · refine ⟨4503599627370496 + x % 9223372036854775808 % 4503599627370496, x % 9223372036854775808 / 4503599627370496 - 1, ?_, ?_⟩
    · rw [if_neg h1, if_pos hf]
    · simp only [mag, h1, if_false]
theorem cmp_congr {a b c d : Int} (h1 : a < b ↔ c < d) (h2 : a = b ↔ c = d) : compare a b = compare c d := by
 simp only [compare, compareOfLessAndEq]
 simp only [h1, h2]
theorem signed_scale (s : Bool) (m a c : Nat) (h : c ≤ a) : Ieee.signed s m (a - c) * (2 ^ c : Nat) = (if s then -((m * 2 ^ a : Nat) : Int) else ((m * 2 ^ a : Nat) : Int)) := by
 have e : m <<< (a - c) * 2 ^ c = m * 2 ^ a := by
  rw [Nat.shiftLeft_eq, Nat.mul_assoc, ← Nat.pow_add]
  congr 2; omega
 unfold Ieee.signed
 cases s
 · simp only [Bool.false_eq_true, if_false]; rw [← Int.natCast_mul, e]
 · simp only [if_true]; rw [Int.neg_mul, ← Int.natCast_mul, e]
theorem smag_lt_iff (x y : Nat) (hx : x < 18446744073709551616) (hy : y < 18446744073709551616) :
    smag (decide (9223372036854775808 ≤ x)) (x % 9223372036854775808) < smag (decide (9223372036854775808 ≤ y)) (y % 9223372036854775808) ↔ sv x < sv y := by
  have a1 := @mag_lt_iff (x % 9223372036854775808) (y % 9223372036854775808)
  have a2 := @mag_lt_iff (y % 9223372036854775808) (x % 9223372036854775808)
  have a3 := @mag_lt_iff 0 (x % 9223372036854775808)
  have a4 := @mag_lt_iff 0 (y % 9223372036854775808)
  rw [mag_zero] at a3 a4
  unfold smag sv
  by_cases c1 : x < 9223372036854775808
  · have e1 : decide (9223372036854775808 ≤ x) = false := decide_eq_false (by omega)
    by_cases c2 : y < 9223372036854775808
    · have e2 : decide (9223372036854775808 ≤ y) = false := decide_eq_false (by omega)
      simp only [e1, e2, c1, c2, if_true, Bool.false_eq_true, if_false]; omega
    · have e2 : decide (9223372036854775808 ≤ y) = true := decide_eq_true (by omega)
      simp only [e1, e2, c1, c2, if_true, Bool.false_eq_true, if_false]; omega
  · have e1 : decide (9223372036854775808 ≤ x) = true := decide_eq_true (by omega)
    by_cases c2 : y < 9223372036854775808
    · have e2 : decide (9223372036854775808 ≤ y) = false := decide_eq_false (by omega)
      simp only [e1, e2, c1, c2, if_true, Bool.false_eq_true, if_false]; omega
    · have e2 : decide (9223372036854775808 ≤ y) = true := decide_eq_true (by omega)
      simp only [e1, e2, c1, c2, if_true, if_false]; omega
theorem int_tri {a b c d : Int} (h1 : a < b ↔ c < d) (h2 : b < a ↔ d < c) : a = b ↔ c = d := by omega
theorem order_eq (x y : Nat) (hx : x < 18446744073709551616) (hy : y < 18446744073709551616) :
    Ieee.double.order x y = if isn x || isn y then none else some (compare (sv x) (sv y)) := by
  unfold Ieee.Format.order
  by_cases nx : isn x = true
  · have nx' : 9218868437227405312 < x % 9223372036854775808 := by simpa [isn] using nx
    rw [nx, Bool.true_or, if_pos rfl, read_eq x hx, if_neg (by omega), if_neg (by omega), if_neg (by omega)]
    rfl
  · have nx' : x % 9223372036854775808 ≤ 9218868437227405312 := by simpa [isn] using nx
    by_cases ny : isn y = true
    · have ny' : 9218868437227405312 < y % 9223372036854775808 := by simpa [isn] using ny
      rw [ny, Bool.or_true, if_pos rfl, read_eq y hy, if_neg (by omega), if_neg (by omega), if_neg (by omega)]
      cases Ieee.double.read x <;> rfl
    · have ny' : y % 9223372036854775808 ≤ 9218868437227405312 := by simpa [isn] using ny
      rw [Bool.eq_false_iff.2 nx, Bool.eq_false_iff.2 ny]
      simp only [Bool.or_self, Bool.false_eq_true, if_false]
      by_cases fx : x % 9223372036854775808 = 9218868437227405312
      · have rx : Ieee.double.read x = .infinity (decide (9223372036854775808 ≤ x)) := by
         rw [read_eq x hx, if_neg (by omega), if_neg (by omega), if_pos fx]
        by_cases fy : y % 9223372036854775808 = 9218868437227405312
        · have ry : Ieee.double.read y = .infinity (decide (9223372036854775808 ≤ y)) := by
           rw [read_eq y hy, if_neg (by omega), if_neg (by omega), if_pos fy]
          rw [rx, ry]
          have ex : x = 9218868437227405312 ∨ x = 18442240474082181120 := by omega
          have ey : y = 9218868437227405312 ∨ y = 18442240474082181120 := by omega
          rcases ex with rfl | rfl <;> rcases ey with rfl | rfl <;> decide
        · obtain ⟨n, k, ry, _⟩ := read_number y hy (by omega)
          rw [rx, ry]
          simp only [Ieee.Datum.order]
          have ex : x = 9218868437227405312 ∨ x = 18442240474082181120 := by omega
          congr 1
          rcases ex with rfl | rfl
          · have : sv y < sv 9218868437227405312 := by
             unfold sv; simp only [show (9218868437227405312 : Nat) < 9223372036854775808 from by omega, if_true]; split <;> omega
            have e : compare (sv 9218868437227405312) (sv y) = .gt := Int.compare_eq_gt.2 this
            rw [e]; rfl
          · have : sv 18442240474082181120 < sv y := by
             unfold sv; simp only [show ¬ (18442240474082181120 : Nat) < 9223372036854775808 from by omega, if_false]; split <;> omega
            have e : compare (sv 18442240474082181120) (sv y) = .lt := Int.compare_eq_lt.2 this
            rw [e]; rfl
      · obtain ⟨m, j, rx, hm⟩ := read_number x hx (by omega)
        by_cases fy : y % 9223372036854775808 = 9218868437227405312
        · have ry : Ieee.double.read y = .infinity (decide (9223372036854775808 ≤ y)) := by
           rw [read_eq y hy, if_neg (by omega), if_neg (by omega), if_pos fy]
          rw [rx, ry]
          simp only [Ieee.Datum.order]
          have ey : y = 9218868437227405312 ∨ y = 18442240474082181120 := by omega
          congr 1
          rcases ey with rfl | rfl
          · have : sv x < sv 9218868437227405312 := by
             unfold sv; simp only [show (9218868437227405312 : Nat) < 9223372036854775808 from by omega, if_true]; split <;> omega
            have e : compare (sv x) (sv 9218868437227405312) = .lt := Int.compare_eq_lt.2 this
            rw [e]; rfl
          · have : sv 18442240474082181120 < sv x := by
             unfold sv; simp only [show ¬ (18442240474082181120 : Nat) < 9223372036854775808 from by omega, if_false]; split <;> omega
            have e : compare (sv x) (sv 18442240474082181120) = .gt := Int.compare_eq_gt.2 this
            rw [e]; rfl
        · obtain ⟨n, k, ry, hn⟩ := read_number y hy (by omega)
          rw [rx, ry]
          simp only [Ieee.Datum.order]
          congr 1
          have eb : min (-1074 + (j : Int)) (-1074 + (k : Int)) = -1074 + ((min j k : Nat) : Int) := by omega
          have e1 : (-1074 + (j : Int) - (-1074 + ((min j k : Nat) : Int))).toNat = j - min j k := by omega
          have e2 : (-1074 + (k : Int) - (-1074 + ((min j k : Nat) : Int))).toNat = k - min j k := by omega
          rw [eb, e1, e2]
          have s1 := signed_scale (decide (9223372036854775808 ≤ x)) m j (min j k) (Nat.min_le_left _ _)
          have s2 := signed_scale (decide (9223372036854775808 ≤ y)) n k (min j k) (Nat.min_le_right _ _)
          rw [hm] at s1; rw [hn] at s2
          have hp : (0 : Int) < ((2 ^ min j k : Nat) : Int) := by exact_mod_cast Nat.two_pow_pos _
          generalize Ieee.signed (decide (9223372036854775808 ≤ x)) m (j - min j k) = A at *
          generalize Ieee.signed (decide (9223372036854775808 ≤ y)) n (k - min j k) = B at *
          have l1 : A < B ↔ smag (decide (9223372036854775808 ≤ x)) (x % 9223372036854775808) < smag (decide (9223372036854775808 ≤ y)) (y % 9223372036854775808) := by
           unfold smag; rw [← s1, ← s2]; exact (Int.mul_lt_mul_right hp).symm
          have l2 : B < A ↔ smag (decide (9223372036854775808 ≤ y)) (y % 9223372036854775808) < smag (decide (9223372036854775808 ≤ x)) (x % 9223372036854775808) := by
           unfold smag; rw [← s1, ← s2]; exact (Int.mul_lt_mul_right hp).symm
          have l3 := l1.trans (smag_lt_iff x y hx hy)
          have l4 := l2.trans (smag_lt_iff y x hy hx)
          exact cmp_congr l3 (int_tri l3 l4)
def val (x : Nat) : Nat := if isn x then 9221120237041090561 else x
def key (x : Nat) : Nat := if x = 9223372036854775808 then 0 else val x
def rk (x : Nat) : Nat := if 9223372036854775808 ≤ key x then 18446744073709551615 - key x else key x + 9223372036854775808
def less (a b : Nat) : Bool := !isn a && (isn b || decide (sv a < sv b))
def ofRank (r : Nat) : Nat := if 9223372036854775808 ≤ r then r - 9223372036854775808 else 18446744073709551615 - r
theorem isn_iff (x : Nat) : isn x = true ↔ 9218868437227405312 < x % 9223372036854775808 := by simp [isn]
theorem isn_not (x : Nat) : isn x = false ↔ x % 9223372036854775808 ≤ 9218868437227405312 := by simp [isn]
theorem val_lt {x : Nat} (hx : x < 18446744073709551616) : val x < 18446744073709551616 := by unfold val; split <;> omega
theorem key_lt {x : Nat} (hx : x < 18446744073709551616) : key x < 18446744073709551616 := by
  have := val_lt hx; unfold key; split <;> omega
theorem val_val (x : Nat) : val (val x) = val x := by
 unfold val
 by_cases h : isn x = true
 · rw [if_pos h]; decide
 · rw [if_neg h, if_neg h]
theorem eq_nought (x : Nat) (hx : x < 18446744073709551616) : (Ieee.double.order x 0 == some .eq) = decide (x = 0 ∨ x = 9223372036854775808) := by
 rw [order_eq x 0 hx (by omega), show isn 0 = false from by decide]
 cases h : isn x
 · have h' := (isn_not x).1 h
   rw [Bool.eq_iff_iff]
   simp only [Bool.or_false, Bool.false_eq_true, if_false, beq_iff_eq, Option.some.injEq, decide_eq_true_eq, Int.compare_eq_eq]
   unfold sv
   split <;> split <;> omega
 · have h' := (isn_iff x).1 h
   rw [Bool.eq_iff_iff]
   simp
   omega
theorem lt_order (x y : Nat) (hx : x < 18446744073709551616) (hy : y < 18446744073709551616) :
    (Ieee.double.order x y == some .lt) = (!isn x && !isn y && decide (sv x < sv y)) := by
  rw [order_eq x y hx hy]
  cases isn x <;> cases isn y <;> simp
  rw [Bool.eq_iff_iff]
  simp only [beq_iff_eq, decide_eq_true_eq, Int.compare_eq_lt]
theorem key_nan (h : isn x = true) : key x = 9221120237041090561 := by
 unfold key val
 rw [if_pos h, if_neg]
 rintro rfl
 exact absurd h (by decide)
theorem key_num (h : isn x = false) : key x = if x = 9223372036854775808 then 0 else x := by
 unfold key val
 rw [h]; simp
theorem sv_cases (x : Nat) : (x < 9223372036854775808 ∧ sv x = x) ∨ (9223372036854775808 ≤ x ∧ sv x = 9223372036854775808 - (x : Int)) := by
 unfold sv
 by_cases h : x < 9223372036854775808
 · rw [if_pos h]; exact Or.inl ⟨h, rfl⟩
 · rw [if_neg h]; exact Or.inr ⟨by omega, rfl⟩
theorem key_cases (h : isn x = false) : (x = 9223372036854775808 ∧ key x = 0) ∨ (x ≠ 9223372036854775808 ∧ key x = x) := by
 rw [key_num h]
 by_cases h2 : x = 9223372036854775808
 · rw [if_pos h2]; exact Or.inl ⟨h2, rfl⟩
 · rw [if_neg h2]; exact Or.inr ⟨h2, rfl⟩
theorem rk_cases (x : Nat) : (9223372036854775808 ≤ key x ∧ rk x = 18446744073709551615 - key x) ∨ (key x < 9223372036854775808 ∧ rk x = key x + 9223372036854775808) := by
 unfold rk
 by_cases h : 9223372036854775808 ≤ key x
 · rw [if_pos h]; exact Or.inl ⟨h, rfl⟩
 · rw [if_neg h]; exact Or.inr ⟨by omega, rfl⟩
theorem rk_less (a b : Nat) (ha : a < 18446744073709551616) (hb : b < 18446744073709551616) : decide (rk a < rk b) = less a b := by
 unfold less
 rw [Bool.eq_iff_iff]
 have ra := rk_cases a
 have rb := rk_cases b
 have sa := sv_cases a
 have sb := sv_cases b
 cases h1 : isn a
 · have h1' := (isn_not a).1 h1
   have ka := key_cases h1
   cases h2 : isn b
   · have h2' := (isn_not b).1 h2
     have kb := key_cases h2
     simp only [Bool.not_false, Bool.true_and, Bool.false_or, decide_eq_true_eq]
     omega
   · have kb := key_nan h2
     simp only [Bool.not_false, Bool.true_and, Bool.true_or, decide_eq_true_eq, iff_true]
     omega
 · have h1' := (isn_iff a).1 h1
   have ka := key_nan h1
   cases h2 : isn b
   · have h2' := (isn_not b).1 h2
     have kb := key_cases h2
     simp only [Bool.not_true, Bool.false_and, Bool.false_eq_true, decide_eq_true_eq, iff_false]
     omega
   · have kb := key_nan h2
     simp only [Bool.not_true, Bool.false_and, Bool.false_eq_true, decide_eq_true_eq, iff_false]
     omega
theorem of_rk (x : Nat) (hx : x < 18446744073709551616) : ofRank (rk x) = key x := by
 have := key_lt hx
 have hz : key x ≠ 9223372036854775808 := by
  unfold key val
  by_cases h2 : x = 9223372036854775808
  · rw [if_pos h2]; omega
  · rw [if_neg h2]; split <;> omega
 unfold ofRank rk
 repeat' split
 all_goals omega
theorem and_sign (k:Nat)(hk:k<18446744073709551616):(bits .and .u64 (k:Int) 9223372036854775808 != 0)=decide (9223372036854775808≤k):=by
 have e:bits .and .u64 (k:Int) 9223372036854775808=((k &&& 9223372036854775808:Nat):Int):=u64_and_nat k 9223372036854775808 hk (by omega)
 rw [e]
 have e2:(k &&& 9223372036854775808=0)↔k<9223372036854775808:=by
  constructor
  · intro h0
    have h1:(k &&& 9223372036854775808).testBit 63=false:=by rw [h0];exact Nat.zero_testBit 63
    rw [Nat.testBit_and,show (9223372036854775808:Nat)=2 ^ 63 from rfl,Nat.testBit_two_pow_self,Bool.and_true,Nat.testBit_eq_decide_div_mod_eq] at h1
    have h2:=of_decide_eq_false h1
    omega
  · intro hlt
    apply Nat.eq_of_testBit_eq
    intro i
    rw [Nat.testBit_and,show (9223372036854775808:Nat)=2 ^ 63 from rfl,Nat.testBit_two_pow,Nat.zero_testBit]
    by_cases hi:63=i
    · subst hi
      rw [Nat.testBit_lt_two_pow hlt];rfl
    · rw [decide_eq_false hi,Bool.and_false]
 rw [Bool.eq_iff_iff,bne_iff_ne,decide_eq_true_eq]
 omega
theorem or_sign (k : Nat) (hk : k < 9223372036854775808) : bits .or .u64 (k : Int) 9223372036854775808 = ((k + 9223372036854775808 : Nat) : Int) := by
 have e : bits .or .u64 (k : Int) 9223372036854775808 = ((k ||| 9223372036854775808 : Nat) : Int) := u64_or_nat k 9223372036854775808 (by omega) (by omega)
 rw [e]
 have e2 := Nat.two_pow_add_eq_or_of_lt (i := 63) (b := k) hk 1
 have e3 : k ||| 9223372036854775808 = k + 9223372036854775808 := by
  rw [Nat.or_comm, Nat.add_comm]
  exact e2.symm
 rw [e3]
theorem not_word (k : Nat) (hk : k < 18446744073709551616) : bits .xor .u64 18446744073709551615 (k : Int) = ((18446744073709551615 - k : Nat) : Int) := by
 have e : bits .xor .u64 18446744073709551615 (k : Int) = ((18446744073709551615 ^^^ k : Nat) : Int) := u64_xor_nat 18446744073709551615 k (by omega) hk
 rw [e]
 have e2 := congrArg BitVec.toNat (BitVec.allOnes_xor (x := BitVec.ofNat 64 k))
 rw [BitVec.toNat_xor, BitVec.toNat_not, BitVec.toNat_allOnes, BitVec.toNat_ofNat, Nat.mod_eq_of_lt (by omega)] at e2
 rw [show (18446744073709551615 : Nat) = 2 ^ 64 - 1 from rfl, e2]
end Fl
theorem ZaP (b:Nat)(w:World):(callFunc 64 #[.float .f64 b]).run Tryz.prog w=.ok (.value (.int .u64 (b:Int))) w:=by
 rw [run_callFunc_extern (e:=Extern.MathFloatBits.float64bits) Tryz.func64 (by kernel_rfl) (by kernel_rfl) (by kernel_rfl) (by kernel_rfl)];rfl
theorem ZeD (n:Int)(w:World):(callFunc 67 #[.int .u64 n]).run Tryz.prog w=.ok (.value (.float .f64 n.toNat)) w:=by
 rw [run_callFunc_extern (e:=Extern.MathFloatBits.float64frombits) Tryz.func67 (by kernel_rfl) (by kernel_rfl) (by kernel_rfl) (by kernel_rfl)];rfl
theorem ZcJ:FloatKind.f64.format=Ieee.double:=rfl
theorem ZnW (x:Nat)(hx:x<18446744073709551616):(Ieee.double.order x x != some .eq)=Fl.isn x:=by
 rw [Fl.order_eq x x hx hx];cases h:Fl.isn x
 · simp
 · simp
theorem Zdz (x:Nat)(hx:x<18446744073709551616)(w:World) :
    Calls Tryz.prog 114 #[.float .f64 x] w fun e w'=>e=.returned (.bool (Fl.isn x))∧w'=w:=by
  go_enter Tryz.func114,Tryz.ntmps114;go_wp2;go_ret;refine⟨?_,rfl⟩;rw [ZcJ,ZnW x hx];rfl
theorem Zkl (w:World) :
    Calls Tryz.prog 161 #[] w fun e w'=>e=.returned (.float .f64 9221120237041090561)∧w'=w:=by
  have h1:=ZeD;go_enter Tryz.func161,Tryz.ntmps161;go_wp2;go_ret;exact⟨rfl,rfl⟩
theorem ZdG (x:Nat)(hx:x<18446744073709551616)(w:World) :
    Calls Tryz.prog 143 #[.float .f64 x] w fun e w'=>e=.returned (.float .f64 (Fl.val x))∧w'=w:=by
  go_enter Tryz.func143,Tryz.ntmps143;go_wp2_with fail;refine(Zdz x hx _).mono ?_;rintro e w' ⟨rfl,rfl⟩;cases h:Fl.isn x
  · go_wp2_with fail;go_ret;exact⟨by simp [Fl.val,h],rfl⟩
  · go_wp2_with fail;refine(Zkl _).mono ?_;rintro e w' ⟨rfl,rfl⟩;go_wp2_with fail;go_ret;exact⟨by simp [Fl.val,h],rfl⟩
theorem ZhU (x:Nat)(hx:x<18446744073709551616)(w:World) :
    Calls Tryz.prog 111 #[.float .f64 x] w fun e w'=>e=.returned (.float .f64 (Fl.key x))∧w'=w:=by
  have hz:=Fl.eq_nought x hx;by_cases h0:x=0∨x=9223372036854775808
  · rw [decide_eq_true h0,← ZcJ] at hz;(have hk:Fl.key x=0:=by rcases h0 with rfl | rfl <;> decide);clear h0;go_enter Tryz.func111,Tryz.ntmps111;go_wp2_with fail;go_ret;exact⟨by rw [hk];rfl,rfl⟩
  · rw [decide_eq_false h0,← ZcJ] at hz;(have hk:Fl.key x=Fl.val x:=by unfold Fl.key;rw [if_neg (fun h=>h0 (Or.inr h))]);rw [hk];clear h0 hk;go_enter Tryz.func111,Tryz.ntmps111;go_wp2_with fail;refine(ZdG x hx _).mono ?_;rintro e w' ⟨rfl,rfl⟩;go_wp2_with fail;go_ret;exact⟨rfl,rfl⟩
theorem Zgd (a b:Nat):((a:Int) == (b:Int))=(a == b):=by
 rw [Bool.eq_iff_iff,beq_iff_eq,beq_iff_eq];omega
theorem ZcD (a b:Nat):((a:Int) != (b:Int))=(a != b):=by
 rw [Bool.eq_iff_iff,bne_iff_ne,bne_iff_ne];omega
theorem Ze1 (a b:Nat)(w:World) :
    Calls Tryz.prog 126 #[.float .f64 a,.float .f64 b] w fun e w'=>e=.returned (.bool (a == b))∧w'=w:=by
  have h1:=ZaP;go_enter Tryz.func126,Tryz.ntmps126;go_wp2_with fail;go_ret;exact⟨by simp [Zgd],rfl⟩
theorem Zdd (a b:Nat)(w:World) :
    Calls Tryz.prog 43 #[.float .f64 a,.float .f64 b] w fun e w'=>e=.returned (.bool (a == b))∧w'=w:=by
  have h1:=ZaP;go_enter Tryz.func43,Tryz.ntmps43;go_wp2_with fail;go_ret;exact⟨by simp [Zgd],rfl⟩
theorem Zlc (b:Nat)(_hb:b<18446744073709551616)(h:(b:Int) / 4503599627370496 % 2048=2047):(IntKind.u64.wrap ((b:Int)*4096) != 0)=Fl.isn b:=by
 rw [IntKind.wrap_u64,Bool.eq_iff_iff,bne_iff_ne,Fl.isn_iff];omega
theorem ZjA (b:Nat)(h:¬(b:Int) / 4503599627370496 % 2048=2047):Fl.isn b=false:=by
 rw [Fl.isn_not];omega
theorem ZjV (b:Nat)(hb:b<18446744073709551616)(w:World) :
    Calls Tryz.prog 68 #[.int .u64 b] w fun e w'=>e=.returned (.bool (Fl.isn b))∧w'=w:=by
  go_enter Tryz.func68,Tryz.ntmps68;go_wp2_with fail
  · rename_i h;go_ret;exact⟨by rw [← Zlc b hb h];rfl,rfl⟩
  · rename_i h;go_ret;exact⟨by rw [ZjA b h];rfl,rfl⟩
theorem ZnV:IntKind.u64.max=18446744073709551615:=by decide
theorem ZmK (x:Nat)(hx:x<18446744073709551616)(w:World) :
    Calls Tryz.prog 73 #[.float .f64 x] w fun e w'=>e=.returned (.int .u64 (Fl.rk x:Nat))∧w'=w:=by
  have h1:=ZaP;have hk:=Fl.key_lt hx;have hr:=Fl.rk_cases x;have hs:=Fl.and_sign (Fl.key x) hk;by_cases hb:9223372036854775808≤Fl.key x
  · rw [decide_eq_true hb] at hs;(have hr:Fl.rk x=18446744073709551615-Fl.key x:=by omega);rw [hr,← Fl.not_word _ hk,← ZnV];clear hr;go_enter Tryz.func73,Tryz.ntmps73;go_wp2_with fail;refine(ZhU x hx _).mono ?_;rintro e w' ⟨rfl,rfl⟩;go_wp2_with fail;go_ret;exact⟨rfl,rfl⟩
  · rw [decide_eq_false hb] at hs;(have hr:Fl.rk x=Fl.key x+9223372036854775808:=by omega);rw [hr,← Fl.or_sign _ (by omega)];clear hr;go_enter Tryz.func73,Tryz.ntmps73;go_wp2_with fail;refine(ZhU x hx _).mono ?_;rintro e w' ⟨rfl,rfl⟩;go_wp2_with fail;go_ret;exact⟨rfl,rfl⟩
theorem Zb8 (x:Nat)(hx:x<18446744073709551616)(w:World) :
    Calls Tryz.prog 66 #[.float .f64 x] w fun e w'=>e=.returned (.int .u64 (Fl.val x:Nat))∧w'=w:=by
  have h1:=ZaP;go_enter Tryz.func66,Tryz.ntmps66;go_wp2_with fail;refine(ZjV x hx _).mono ?_;rintro e w' ⟨rfl,rfl⟩;cases h:Fl.isn x
  · go_wp2_with fail;go_ret;exact⟨by simp [Fl.val,h],rfl⟩
  · go_wp2_with fail;go_ret;exact⟨by simp [Fl.val,h],rfl⟩
theorem Zbg (x:Nat)(hx:x<18446744073709551616)(w:World) :
    Calls Tryz.prog 65 #[.float .f64 x] w fun e w'=>e=.returned (.int .u64 (Fl.key x:Nat))∧w'=w:=by
  by_cases h0:x=9223372036854775808
  · (have hv:Fl.val x=9223372036854775808:=by rw [h0];decide);(have hk:Fl.key x=0:=by rw [h0];decide);(have hb:(((Fl.val x:Nat):Int) == 9223372036854775808)=true:=by rw [hv];decide);rw [hk];clear h0 hv hk;go_enter Tryz.func65,Tryz.ntmps65;go_wp2_with fail;refine(Zb8 x hx _).mono ?_;rintro e w' ⟨rfl,rfl⟩;go_wp2_with fail;go_ret;exact⟨rfl,rfl⟩
  · have hv:Fl.val x≠9223372036854775808:=by
     unfold Fl.val;split
     · omega
     · exact h0
    (have hk:Fl.key x=Fl.val x:=by unfold Fl.key;rw [if_neg h0]);(have hb:(((Fl.val x:Nat):Int) == 9223372036854775808)=false:=by rw [beq_eq_false_iff_ne];omega);rw [hk];clear h0 hv hk;go_enter Tryz.func65,Tryz.ntmps65;go_wp2_with fail;refine(Zb8 x hx _).mono ?_;rintro e w' ⟨rfl,rfl⟩;go_wp2_with fail;go_ret;exact⟨rfl,rfl⟩
theorem Zcc (a b:Nat)(ha:a<18446744073709551616)(hb:b<18446744073709551616)(w:World) :
    Calls Tryz.prog 78 #[.float .f64 a,.float .f64 b] w fun e w'=>e=.returned (.bool (Fl.less a b))∧w'=w:=by
  have hl:=Fl.lt_order a b ha hb;rw [← ZcJ] at hl;cases h:Fl.isn b
  · have e1:Fl.less a b=(FloatKind.f64.format.order a b == some .lt):=by
     rw [hl,h];unfold Fl.less;rw [h];simp
    rw [e1];clear hl e1;go_enter Tryz.func78,Tryz.ntmps78;go_wp2_with fail;refine(Zdz b hb _).mono ?_;rintro e w' ⟨rfl,rfl⟩;go_wp2_with fail;go_ret;exact⟨rfl,rfl⟩
  · (have e1:Fl.less a b = !Fl.isn a:=by unfold Fl.less;rw [h];simp);rw [e1];clear hl e1;go_enter Tryz.func78,Tryz.ntmps78;go_wp2_with fail;refine(Zdz b hb _).mono ?_;rintro e w' ⟨rfl,rfl⟩;go_wp2_with fail;refine(Zdz a ha _).mono ?_;rintro e w' ⟨rfl,rfl⟩;go_wp2_with fail;go_ret;exact⟨rfl,rfl⟩
def cmp (a b:Nat):Int:=if Fl.less a b then -1 else if Fl.less b a then 1 else 0
theorem ZbX (a b:Nat)(ha:a<18446744073709551616)(hb:b<18446744073709551616)(w:World) :
    Calls Tryz.prog 40 #[.float .f64 a,.float .f64 b] w fun e w'=>e=.returned (.int .i64 (cmp a b))∧w'=w:=by
  have e1:cmp a b=if Fl.less a b then -1 else if Fl.less b a then 1 else 0:=rfl;rw [e1];clear e1;have H1:Hid _:=Zcc a b ha hb;have H2:Hid _:=Zcc b a hb ha;generalize Fl.less a b=p at *;generalize Fl.less b a=q at *;go_enter Tryz.func40,Tryz.ntmps40;go_wp2_with fail;refine(H1.out _).mono ?_;rintro e w' ⟨rfl,rfl⟩;cases p
  · go_wp2_with fail;refine(H2.out _).mono ?_;rintro e w' ⟨rfl,rfl⟩;cases q
    · go_wp2_with fail;go_ret;exact⟨rfl,rfl⟩
    · go_wp2_with fail;go_ret;exact⟨rfl,rfl⟩
  · go_wp2_with fail;go_ret;exact⟨rfl,rfl⟩
theorem ZhI (x a b:Nat)(hx:x<18446744073709551616)(ha:a<18446744073709551616)(hb:b<18446744073709551616)(w:World) :
    Calls Tryz.prog 37 #[.float .f64 x,.float .f64 a,.float .f64 b] w fun e w'=>e=.returned (.bool (!Fl.less x a && Fl.less x b))∧w'=w:=by
  have H1:Hid _:=Zcc x a hx ha;have H2:Hid _:=Zcc x b hx hb;generalize Fl.less x a=p at *;generalize Fl.less x b=q at *;go_enter Tryz.func37,Tryz.ntmps37;go_wp2_with fail;refine(H1.out _).mono ?_;rintro e w' ⟨rfl,rfl⟩;cases p
  · go_wp2_with fail;refine(H2.out _).mono ?_;rintro e w' ⟨rfl,rfl⟩;go_wp2_with fail;go_ret;exact⟨by simp,rfl⟩
  · go_wp2_with fail;go_ret;exact⟨rfl,rfl⟩
theorem Zel (a b:Nat)(ha:a<18446744073709551616)(hb:b<18446744073709551616)(w:World) :
    Calls Tryz.prog 30 #[.float .f64 a,.float .f64 b] w fun e w'=>e=.returned (.bool (Fl.key a == Fl.key b))∧w'=w:=by
  have H1:Hid _:=Zbg a ha;have H2:Hid _:=Zbg b hb;generalize Fl.key a=p at *;generalize Fl.key b=q at *;go_enter Tryz.func30,Tryz.ntmps30;go_wp2_with fail;refine(H1.out _).mono ?_;rintro e w' ⟨rfl,rfl⟩;go_wp2_with fail;refine(H2.out _).mono ?_;rintro e w' ⟨rfl,rfl⟩;go_wp2_with fail;go_ret;exact⟨by simp [Zgd],rfl⟩
end Go.Proofs.YtdojdcncncgncaaGreat
