/-
  The plain arithmetic of float64 words that the statements of layer 1 lean on: how two words stand to each other, and what a sum is, said by their 64 bits alone. No program is named here.
-/
import Derived.Laws.FloatBits
import Derived.Laws.FloatArith
import Derived.Laws.BitsAllLaws
namespace Go.Proofs.Ytpdkeghmpnanpaa
namespace Fl

/-- Is a word one of a NaN? -/
def isn (x : Nat) : Bool := decide (9218868437227405312 < x % 9223372036854775808)

/-- A word as a number with a sign: the rung, below nought where the sign is set. -/
def sv (x : Nat) : Int := if x < 9223372036854775808 then (x : Int) else 9223372036854775808 - (x : Int)

/-- The magnitude of a rung, in units of the least number. -/
def mag (r : Nat) : Nat := if r < 4503599627370496 then r else (4503599627370496 + r % 4503599627370496) * 2 ^ (r / 4503599627370496 - 1)

theorem mag_lt {r s : Nat} (h : r < s) : mag r < mag s := by
  unfold mag
  by_cases hr : r < 4503599627370496
  · by_cases hs : s < 4503599627370496
    · simp [hr, hs, h]
    · simp only [hr, hs, if_true, if_false]
      have : 0 < 2 ^ (s / 4503599627370496 - 1) := Nat.two_pow_pos _
      calc r < 4503599627370496 * 1 := by omega
        _ ≤ (4503599627370496 + s % 4503599627370496) * 2 ^ (s / 4503599627370496 - 1) := Nat.mul_le_mul (by omega) this
  · have hs : ¬ s < 4503599627370496 := by omega
    simp only [hr, hs, if_false]
    by_cases he : r / 4503599627370496 = s / 4503599627370496
    · rw [he]
      exact Nat.mul_lt_mul_of_pos_right (by omega) (Nat.two_pow_pos _)
    · have hlt : r / 4503599627370496 < s / 4503599627370496 := by omega
      have hp : 0 < 2 ^ (r / 4503599627370496 - 1) := Nat.two_pow_pos _
      have e1 : r / 4503599627370496 - 1 + 1 ≤ s / 4503599627370496 - 1 := by omega
      calc (4503599627370496 + r % 4503599627370496) * 2 ^ (r / 4503599627370496 - 1)
          < (4503599627370496 * 2) * 2 ^ (r / 4503599627370496 - 1) := Nat.mul_lt_mul_of_pos_right (by omega) hp
        _ = 4503599627370496 * 2 ^ (r / 4503599627370496 - 1 + 1) := by rw [Nat.pow_succ, Nat.mul_assoc, Nat.mul_comm 2]
        _ ≤ 4503599627370496 * 2 ^ (s / 4503599627370496 - 1) := Nat.mul_le_mul_left _ (Nat.pow_le_pow_right (by omega) e1)
        _ ≤ (4503599627370496 + s % 4503599627370496) * 2 ^ (s / 4503599627370496 - 1) := Nat.mul_le_mul_right _ (by omega)

theorem mag_lt_iff {r s : Nat} : mag r < mag s ↔ r < s := by
  constructor
  · intro h
    by_cases h1 : r < s
    · exact h1
    · by_cases h2 : s < r
      · have := mag_lt h2; omega
      · have : r = s := by omega
        subst this; omega
  · exact mag_lt

theorem mag_inj {r s : Nat} (h : mag r = mag s) : r = s := by
  by_cases h1 : r < s
  · have := mag_lt h1; omega
  · by_cases h2 : s < r
    · have := mag_lt h2; omega
    · omega

theorem mag_zero : mag 0 = 0 := by simp [mag]

/-- The magnitude with a sign. -/
def smag (neg : Bool) (r : Nat) : Int := if neg then -((mag r : Nat) : Int) else ((mag r : Nat) : Int)

/-- What a word stands for. -/
theorem read_eq (x : Nat) (hx : x < 18446744073709551616) : Ieee.double.read x =
    (if x % 9223372036854775808 < 4503599627370496 then Ieee.Datum.number (decide (9223372036854775808 ≤ x)) (x % 9223372036854775808) (-1074)
     else if x % 9223372036854775808 < 9218868437227405312 then
       Ieee.Datum.number (decide (9223372036854775808 ≤ x)) (4503599627370496 + x % 9223372036854775808 % 4503599627370496) (-1074 + ((x % 9223372036854775808 / 4503599627370496 - 1 : Nat) : Int))
     else if x % 9223372036854775808 = 9218868437227405312 then Ieee.Datum.infinity (decide (9223372036854775808 ≤ x))
     else Ieee.Datum.nan (decide (9223372036854775808 ≤ x)) (x % 9223372036854775808 - 9218868437227405312)) := by
  have e1 : Ieee.double.signWeight = 9223372036854775808 := by decide
  have e2 : Ieee.double.binade = 4503599627370496 := by decide
  have e3 : Ieee.double.infRung = 9218868437227405312 := by decide
  have e4 : Ieee.double.leastPlace = -1074 := by decide
  have en : (x / 9223372036854775808 % 2 == 1) = decide (9223372036854775808 ≤ x) := by
    rw [Bool.eq_iff_iff]; simp only [beq_iff_eq, decide_eq_true_eq]; omega
  unfold Ieee.Format.read
  simp only [e1, e2, e3, e4, en]

/-- A word that is a number: its magnitude, and the place that it is told at. -/
theorem read_number (x : Nat) (hx : x < 18446744073709551616) (hf : x % 9223372036854775808 < 9218868437227405312) :
    ∃ m k : Nat, Ieee.double.read x = Ieee.Datum.number (decide (9223372036854775808 ≤ x)) m (-1074 + (k : Int)) ∧ m * 2 ^ k = mag (x % 9223372036854775808) := by
  rw [read_eq x hx]
  by_cases h1 : x % 9223372036854775808 < 4503599627370496
  · exact ⟨x % 9223372036854775808, 0, by simp [h1], by simp [mag, h1]⟩
  · refine ⟨4503599627370496 + x % 9223372036854775808 % 4503599627370496, x % 9223372036854775808 / 4503599627370496 - 1, ?_, ?_⟩
    · rw [if_neg h1, if_pos hf]
    · simp only [mag, h1, if_false]

theorem cmp_congr {a b c d : Int} (h1 : a < b ↔ c < d) (h2 : a = b ↔ c = d) : compare a b = compare c d := by
  simp only [compare, compareOfLessAndEq]
  simp only [h1, h2]

theorem signed_scale (s : Bool) (m a c : Nat) (h : c ≤ a) : Ieee.signed s m (a - c) * (2 ^ c : Nat) = (if s then -((m * 2 ^ a : Nat) : Int) else ((m * 2 ^ a : Nat) : Int)) := by
  have e : m <<< (a - c) * 2 ^ c = m * 2 ^ a := by
    rw [Nat.shiftLeft_eq, Nat.mul_assoc, ← Nat.pow_add]
    congr 2; omega
  unfold Ieee.signed
  cases s
  · simp only [Bool.false_eq_true, if_false]; rw [← Int.natCast_mul, e]
  · simp only [if_true]; rw [Int.neg_mul, ← Int.natCast_mul, e]

theorem smag_lt_iff (x y : Nat) (hx : x < 18446744073709551616) (hy : y < 18446744073709551616) :
    smag (decide (9223372036854775808 ≤ x)) (x % 9223372036854775808) < smag (decide (9223372036854775808 ≤ y)) (y % 9223372036854775808) ↔ sv x < sv y := by
  have a1 := @mag_lt_iff (x % 9223372036854775808) (y % 9223372036854775808)
  have a2 := @mag_lt_iff (y % 9223372036854775808) (x % 9223372036854775808)
  have a3 := @mag_lt_iff 0 (x % 9223372036854775808)
  have a4 := @mag_lt_iff 0 (y % 9223372036854775808)
  rw [mag_zero] at a3 a4
  unfold smag sv
  by_cases c1 : x < 9223372036854775808
  · have e1 : decide (9223372036854775808 ≤ x) = false := decide_eq_false (by omega)
    by_cases c2 : y < 9223372036854775808
    · have e2 : decide (9223372036854775808 ≤ y) = false := decide_eq_false (by omega)
      simp only [e1, e2, c1, c2, if_true, Bool.false_eq_true, if_false]; omega
    · have e2 : decide (9223372036854775808 ≤ y) = true := decide_eq_true (by omega)
      simp only [e1, e2, c1, c2, if_true, Bool.false_eq_true, if_false]; omega
  · have e1 : decide (9223372036854775808 ≤ x) = true := decide_eq_true (by omega)
    by_cases c2 : y < 9223372036854775808
    · have e2 : decide (9223372036854775808 ≤ y) = false := decide_eq_false (by omega)
      simp only [e1, e2, c1, c2, if_true, Bool.false_eq_true, if_false]; omega
    · have e2 : decide (9223372036854775808 ≤ y) = true := decide_eq_true (by omega)
      simp only [e1, e2, c1, c2, if_true, if_false]; omega

theorem int_tri {a b c d : Int} (h1 : a < b ↔ c < d) (h2 : b < a ↔ d < c) : a = b ↔ c = d := by omega

/-- HOW TWO WORDS STAND TO EACH OTHER: not at all where one is a NaN; else as their signed rungs do. -/
theorem order_eq (x y : Nat) (hx : x < 18446744073709551616) (hy : y < 18446744073709551616) :
    Ieee.double.order x y = if isn x || isn y then none else some (compare (sv x) (sv y)) := by
  unfold Ieee.Format.order
  by_cases nx : isn x = true
  · have nx' : 9218868437227405312 < x % 9223372036854775808 := by simpa [isn] using nx
    rw [nx, Bool.true_or, if_pos rfl, read_eq x hx, if_neg (by omega), if_neg (by omega), if_neg (by omega)]
    rfl
  · have nx' : x % 9223372036854775808 ≤ 9218868437227405312 := by simpa [isn] using nx
    by_cases ny : isn y = true
    · have ny' : 9218868437227405312 < y % 9223372036854775808 := by simpa [isn] using ny
      rw [ny, Bool.or_true, if_pos rfl, read_eq y hy, if_neg (by omega), if_neg (by omega), if_neg (by omega)]
      cases Ieee.double.read x <;> rfl
    · have ny' : y % 9223372036854775808 ≤ 9218868437227405312 := by simpa [isn] using ny
      rw [Bool.eq_false_iff.2 nx, Bool.eq_false_iff.2 ny]
      simp only [Bool.or_self, Bool.false_eq_true, if_false]
      by_cases fx : x % 9223372036854775808 = 9218868437227405312
      · have rx : Ieee.double.read x = .infinity (decide (9223372036854775808 ≤ x)) := by
          rw [read_eq x hx, if_neg (by omega), if_neg (by omega), if_pos fx]
        by_cases fy : y % 9223372036854775808 = 9218868437227405312
        · have ry : Ieee.double.read y = .infinity (decide (9223372036854775808 ≤ y)) := by
            rw [read_eq y hy, if_neg (by omega), if_neg (by omega), if_pos fy]
          rw [rx, ry]
          have ex : x = 9218868437227405312 ∨ x = 18442240474082181120 := by omega
          have ey : y = 9218868437227405312 ∨ y = 18442240474082181120 := by omega
          rcases ex with rfl | rfl <;> rcases ey with rfl | rfl <;> decide
        · obtain ⟨n, k, ry, _⟩ := read_number y hy (by omega)
          rw [rx, ry]
          simp only [Ieee.Datum.order]
          have ex : x = 9218868437227405312 ∨ x = 18442240474082181120 := by omega
          congr 1
          rcases ex with rfl | rfl
          · have : sv y < sv 9218868437227405312 := by
              unfold sv; simp only [show (9218868437227405312 : Nat) < 9223372036854775808 from by omega, if_true]; split <;> omega
            have e : compare (sv 9218868437227405312) (sv y) = .gt := Int.compare_eq_gt.2 this
            rw [e]; rfl
          · have : sv 18442240474082181120 < sv y := by
              unfold sv; simp only [show ¬ (18442240474082181120 : Nat) < 9223372036854775808 from by omega, if_false]; split <;> omega
            have e : compare (sv 18442240474082181120) (sv y) = .lt := Int.compare_eq_lt.2 this
            rw [e]; rfl
      · obtain ⟨m, j, rx, hm⟩ := read_number x hx (by omega)
        by_cases fy : y % 9223372036854775808 = 9218868437227405312
        · have ry : Ieee.double.read y = .infinity (decide (9223372036854775808 ≤ y)) := by
            rw [read_eq y hy, if_neg (by omega), if_neg (by omega), if_pos fy]
          rw [rx, ry]
          simp only [Ieee.Datum.order]
          have ey : y = 9218868437227405312 ∨ y = 18442240474082181120 := by omega
          congr 1
          rcases ey with rfl | rfl
          · have : sv x < sv 9218868437227405312 := by
              unfold sv; simp only [show (9218868437227405312 : Nat) < 9223372036854775808 from by omega, if_true]; split <;> omega
            have e : compare (sv x) (sv 9218868437227405312) = .lt := Int.compare_eq_lt.2 this
            rw [e]; rfl
          · have : sv 18442240474082181120 < sv x := by
              unfold sv; simp only [show ¬ (18442240474082181120 : Nat) < 9223372036854775808 from by omega, if_false]; split <;> omega
            have e : compare (sv x) (sv 18442240474082181120) = .gt := Int.compare_eq_gt.2 this
            rw [e]; rfl
        · obtain ⟨n, k, ry, hn⟩ := read_number y hy (by omega)
          rw [rx, ry]
          simp only [Ieee.Datum.order]
          congr 1
          have eb : min (-1074 + (j : Int)) (-1074 + (k : Int)) = -1074 + ((min j k : Nat) : Int) := by omega
          have e1 : (-1074 + (j : Int) - (-1074 + ((min j k : Nat) : Int))).toNat = j - min j k := by omega
          have e2 : (-1074 + (k : Int) - (-1074 + ((min j k : Nat) : Int))).toNat = k - min j k := by omega
          rw [eb, e1, e2]
          have s1 := signed_scale (decide (9223372036854775808 ≤ x)) m j (min j k) (Nat.min_le_left _ _)
          have s2 := signed_scale (decide (9223372036854775808 ≤ y)) n k (min j k) (Nat.min_le_right _ _)
          rw [hm] at s1; rw [hn] at s2
          have hp : (0 : Int) < ((2 ^ min j k : Nat) : Int) := by exact_mod_cast Nat.two_pow_pos _
          generalize Ieee.signed (decide (9223372036854775808 ≤ x)) m (j - min j k) = A at *
          generalize Ieee.signed (decide (9223372036854775808 ≤ y)) n (k - min j k) = B at *
          have l1 : A < B ↔ smag (decide (9223372036854775808 ≤ x)) (x % 9223372036854775808) < smag (decide (9223372036854775808 ≤ y)) (y % 9223372036854775808) := by
            unfold smag; rw [← s1, ← s2]; exact (Int.mul_lt_mul_right hp).symm
          have l2 : B < A ↔ smag (decide (9223372036854775808 ≤ y)) (y % 9223372036854775808) < smag (decide (9223372036854775808 ≤ x)) (x % 9223372036854775808) := by
            unfold smag; rw [← s1, ← s2]; exact (Int.mul_lt_mul_right hp).symm
          have l3 := l1.trans (smag_lt_iff x y hx hy)
          have l4 := l2.trans (smag_lt_iff y x hy hx)
          exact cmp_congr l3 (int_tri l3 l4)

/-! ### Sums -/
theorem sum_comm (a b : Ieee.Datum) : a.sum b = b.sum a := by
  cases a <;> cases b <;> simp only [Ieee.Datum.sum]
  · rename_i s m i t n j
    rw [Int.min_comm j i, Int.add_comm (Ieee.signed t n (j - min i j).toNat), Bool.and_comm t s]
  · rename_i s t
    cases s <;> cases t <;> rfl

theorem add_comm (x y : Nat) : Ieee.double.add x y = Ieee.double.add y x := by
  unfold Ieee.Format.add
  rw [sum_comm]

theorem read_nan (x : Nat) (hx : x < 18446744073709551616) (h : isn x = true) : ∃ s f, Ieee.double.read x = .nan s f := by
  have h' : 9218868437227405312 < x % 9223372036854775808 := by simpa [isn] using h
  rw [read_eq x hx, if_neg (by omega), if_neg (by omega), if_neg (by omega)]
  exact ⟨_, _, rfl⟩

theorem add_nan (x y : Nat) (hx : x < 18446744073709551616) (h : isn x = true) : Ieee.double.add x y = none := by
  obtain ⟨s, f, e⟩ := read_nan x hx h
  unfold Ieee.Format.add
  rw [e]
  rfl

theorem add_fits {x y r : Nat} (h : Ieee.double.add x y = some r) : r < 18446744073709551616 := Ieee.Format.add_lt _ h

theorem log_of {n k : Nat} (h1 : 2 ^ k ≤ n) (h2 : n < 2 ^ (k + 1)) : n.log2 = k :=
  (Nat.log2_eq_iff (by have := Nat.two_pow_pos k; omega)).2 ⟨h1, h2⟩

theorem cut_exact (s : Bool) (q d : Nat) (hq : q ≠ 0) : Ieee.Toward.even.cut s (q * 2 ^ d) d = q := by
  have hpos : 0 < 2 ^ d := Nat.two_pow_pos d
  have hle : 2 ^ d ≤ q * 2 ^ d := Nat.le_mul_of_pos_left _ (by omega)
  have hd : d ≤ (q * 2 ^ d).log2 := (Nat.le_log2 (by omega)).2 hle
  have eg : 1 <<< min d ((q * 2 ^ d).log2 + 2) = 2 ^ d := by
    rw [Nat.min_eq_left (by omega), Nat.shiftLeft_eq, Nat.one_mul]
  unfold Ieee.Toward.cut
  simp only [eg]
  rw [Nat.mul_div_cancel _ hpos, Nat.mul_mod_left]
  have e1 : decide (2 ^ d < 2 * 0) = false := decide_eq_false (by omega)
  have e2 : (2 ^ d == 2 * 0) = false := beq_eq_false_iff_ne.2 (by omega)
  rw [e1, e2]
  rfl

/-- A number that the format has is written as itself. -/
theorem nearest_mag (s : Bool) (r : Nat) (h : r < 9218868437227405312) : Ieee.double.nearest s (mag r) (-1074) = Ieee.double.word s r := by
  have e1 : Ieee.double.fractionBits = 52 := rfl
  have e2 : Ieee.double.binade = 4503599627370496 := by decide
  have e3 : Ieee.double.infRung = 9218868437227405312 := by decide
  have e4 : Ieee.double.leastPlace = -1074 := by decide
  by_cases h0 : r = 0
  · subst h0; rw [mag_zero]; rfl
  · have hm : mag r ≠ 0 := by
      intro h1
      have := @mag_inj r 0 (by rw [h1, mag_zero])
      omega
    unfold Ieee.Format.nearest
    rw [if_neg hm]
    simp only [e1, e2, e3, e4]
    by_cases h1 : r < 4503599627370496
    · have em : mag r = r := by simp [mag, h1]
      rw [em]
      have hl : r.log2 < 52 := (Nat.log2_lt h0).2 (by omega)
      have el : max (-1074 + (r.log2 : Int) - ((52 : Nat) : Int)) (-1074) = -1074 := by omega
      rw [el]
      have ez : ((-1074 : Int) - -1074).toNat = 0 := by decide
      rw [ez, Nat.shiftLeft_zero]
      have ec := cut_exact s r 0 h0
      rw [Nat.pow_zero, Nat.mul_one] at ec
      rw [ec, Nat.zero_mul, Nat.zero_add, Nat.min_eq_left (by omega)]
    · have hk : r / 4503599627370496 - 1 + 1 = r / 4503599627370496 := by omega
      have hf : r % 4503599627370496 < 4503599627370496 := Nat.mod_lt _ (by omega)
      have hr : r / 4503599627370496 * 4503599627370496 + r % 4503599627370496 = r := Nat.div_add_mod' _ _
      have em : mag r = (4503599627370496 + r % 4503599627370496) * 2 ^ (r / 4503599627370496 - 1) := by simp only [mag, h1, if_false]
      generalize r / 4503599627370496 - 1 = k at *
      generalize r % 4503599627370496 = f at *
      have hsum : k * 4503599627370496 + (4503599627370496 + f) = r := by
        rw [← hk, Nat.succ_mul] at hr
        rw [← hr, Nat.add_assoc]
      rw [em]
      have hp : 0 < 2 ^ k := Nat.two_pow_pos k
      have hl : ((4503599627370496 + f) * 2 ^ k).log2 = 52 + k := by
        apply log_of
        · rw [Nat.pow_add]; exact Nat.mul_le_mul_right _ (by omega)
        · rw [show 52 + k + 1 = 53 + k from by omega, Nat.pow_add]; exact Nat.mul_lt_mul_of_pos_right (by omega) hp
      rw [hl]
      have el : max (-1074 + ((52 + k : Nat) : Int) - ((52 : Nat) : Int)) (-1074) = -1074 + (k : Int) := by omega
      rw [el]
      have ez : ((-1074 : Int) - (-1074 + (k : Int))).toNat = 0 := by omega
      have ez2 : ((-1074 + (k : Int)) - (-1074 : Int)).toNat = k := by omega
      rw [ez, ez2, Nat.shiftLeft_zero, cut_exact s _ k (by omega)]
      rw [hsum, Nat.min_eq_left (Nat.le_of_lt h)]

theorem word_eq (x : Nat) (hx : x < 18446744073709551616) : Ieee.double.word (decide (9223372036854775808 ≤ x)) (x % 9223372036854775808) = x := by
  have e1 : Ieee.double.signWeight = 9223372036854775808 := by decide
  unfold Ieee.Format.word
  rw [e1]
  by_cases h : 9223372036854775808 ≤ x
  · rw [decide_eq_true h, if_pos rfl]; omega
  · rw [decide_eq_false h, if_neg (by decide)]; omega

/-- A nought with a sign, added, leaves each number as it is. -/
theorem add_minus (x : Nat) (hx : x < 18446744073709551616) (h : isn x = false) : Ieee.double.add x 9223372036854775808 = some x := by
  have h' : x % 9223372036854775808 ≤ 9218868437227405312 := by simpa [isn] using h
  have rm : Ieee.double.read 9223372036854775808 = .number true 0 (-1074) := by decide
  unfold Ieee.Format.add
  rw [rm]
  by_cases hi : x % 9223372036854775808 = 9218868437227405312
  · have rx : Ieee.double.read x = .infinity (decide (9223372036854775808 ≤ x)) := by
      rw [read_eq x hx, if_neg (by omega), if_neg (by omega), if_pos hi]
    rw [rx]
    have e3 : Ieee.double.infRung = 9218868437227405312 := by decide
    simp only [Ieee.Datum.sum, Option.map_some, Ieee.Format.write]
    rw [e3, ← hi, word_eq x hx]
  · obtain ⟨m, k, rx, hm⟩ := read_number x hx (by omega)
    rw [rx]
    have eb : min (-1074 + (k : Int)) (-1074) = -1074 := by omega
    have ek : (-1074 + (k : Int) - -1074).toNat = k := by omega
    simp only [Ieee.Datum.sum, eb, ek, Option.map_some, Ieee.Format.write]
    have es : Ieee.signed true 0 ((-1074 : Int) - -1074).toNat = 0 := by decide
    rw [es, Int.add_zero]
    have e1 : m <<< k = mag (x % 9223372036854775808) := by rw [Nat.shiftLeft_eq, hm]
    congr 1
    by_cases hz : x % 9223372036854775808 = 0
    · have hx2 : x = 0 ∨ x = 9223372036854775808 := by omega
      have e0 : Ieee.signed (decide (9223372036854775808 ≤ x)) m k = 0 := by
        unfold Ieee.signed
        rw [e1, hz, mag_zero]
        split <;> rfl
      rw [e0, if_pos rfl]
      rcases hx2 with rfl | rfl <;> decide
    · have hpos : 0 < mag (x % 9223372036854775808) := by
        have := @mag_lt 0 (x % 9223372036854775808) (by omega)
        rw [mag_zero] at this
        exact this
      have en : (Ieee.signed (decide (9223372036854775808 ≤ x)) m k).natAbs = mag (x % 9223372036854775808) := by
        unfold Ieee.signed
        rw [e1]
        split <;> omega
      have en2 : ¬ Ieee.signed (decide (9223372036854775808 ≤ x)) m k = 0 := by
        intro h0
        rw [h0] at en
        have : (0 : Int).natAbs = 0 := rfl
        omega
      have en3 : decide (Ieee.signed (decide (9223372036854775808 ≤ x)) m k < 0) = decide (9223372036854775808 ≤ x) := by
        unfold Ieee.signed
        rw [e1]
        by_cases hs : 9223372036854775808 ≤ x
        · rw [decide_eq_true hs, if_pos rfl]; exact decide_eq_true (by omega)
        · rw [decide_eq_false hs, if_neg (by decide)]; exact decide_eq_false (by omega)
      rw [if_neg en2, en, en3, nearest_mag _ _ (by omega), word_eq x hx]

/-! ### The document's words, of 64 bits each -/
def val (x : Nat) : Nat := if isn x then 9221120237041090561 else x
def key (x : Nat) : Nat := if x = 9223372036854775808 then 0 else val x
def rk (x : Nat) : Nat := if 9223372036854775808 ≤ key x then 18446744073709551615 - key x else key x + 9223372036854775808
def less (a b : Nat) : Bool := !isn a && (isn b || decide (sv a < sv b))
def addv (a b : Nat) : Nat := match Ieee.double.add a b with | some r => val r | none => 9221120237041090561
def ofRank (r : Nat) : Nat := if 9223372036854775808 ≤ r then r - 9223372036854775808 else 18446744073709551615 - r
def nextUp (x : Nat) : Nat := if x = 0 ∨ x = 9223372036854775808 then 1 else if x < 9223372036854775808 then x + 1 else x - 1

theorem isn_iff (x : Nat) : isn x = true ↔ 9218868437227405312 < x % 9223372036854775808 := by simp [isn]
theorem isn_not (x : Nat) : isn x = false ↔ x % 9223372036854775808 ≤ 9218868437227405312 := by simp [isn]

theorem val_lt {x : Nat} (hx : x < 18446744073709551616) : val x < 18446744073709551616 := by unfold val; split <;> omega
theorem key_lt {x : Nat} (hx : x < 18446744073709551616) : key x < 18446744073709551616 := by
  have := val_lt hx; unfold key; split <;> omega
theorem rk_lt {x : Nat} (hx : x < 18446744073709551616) : rk x < 18446744073709551616 := by
  have := key_lt hx; unfold rk; split <;> omega
theorem addv_lt (a b : Nat) : addv a b < 18446744073709551616 := by
  unfold addv
  split
  · rename_i r h; exact val_lt (add_fits h)
  · omega
theorem addv_comm (a b : Nat) : addv a b = addv b a := by unfold addv; rw [add_comm]
theorem addv_minus (a : Nat) (ha : a < 18446744073709551616) : addv a 9223372036854775808 = val a := by
  unfold addv
  by_cases h : isn a = true
  · rw [add_nan a _ ha h]; simp [val, h]
  · rw [add_minus a ha (by simpa using h)]

theorem isn_val (x : Nat) : isn (val x) = isn x := by
  unfold val
  by_cases h : isn x = true
  · rw [if_pos h, h]; decide
  · rw [if_neg h]
theorem isn_key (x : Nat) : isn (key x) = isn x := by
  unfold key
  by_cases h : x = 9223372036854775808
  · rw [if_pos h, h]; decide
  · rw [if_neg h, isn_val]
theorem val_val (x : Nat) : val (val x) = val x := by
  unfold val
  by_cases h : isn x = true
  · rw [if_pos h]; decide
  · rw [if_neg h, if_neg h]
theorem key_key (x : Nat) : key (key x) = key x := by
  by_cases h : isn x = true
  · have : key x = 9221120237041090561 := by
      unfold key val
      rw [if_pos h, if_neg]
      rintro rfl
      exact absurd h (by decide)
    rw [this]; decide
  · by_cases h2 : x = 9223372036854775808
    · subst h2; decide
    · have : key x = x := by unfold key val; rw [if_neg h2, if_neg h]
      rw [this, this]
theorem sv_key (x : Nat) (h : isn x = false) : sv (key x) = sv x := by
  unfold key val
  by_cases h2 : x = 9223372036854775808
  · subst h2; decide
  · rw [if_neg h2, h]; simp
theorem less_key (a b : Nat) : less (key a) (key b) = less a b := by
  unfold less
  rw [isn_key, isn_key]
  cases ha : isn a
  · cases hb : isn b
    · rw [sv_key a ha, sv_key b hb]
    · rfl
  · rfl

/-! ### The order of ranks, keys and next ones -/
theorem eq_nought (x : Nat) (hx : x < 18446744073709551616) : (Ieee.double.order x 0 == some .eq) = decide (x = 0 ∨ x = 9223372036854775808) := by
  rw [order_eq x 0 hx (by omega), show isn 0 = false from by decide]
  cases h : isn x
  · have h' := (isn_not x).1 h
    rw [Bool.eq_iff_iff]
    simp only [Bool.or_false, Bool.false_eq_true, if_false, beq_iff_eq, Option.some.injEq, decide_eq_true_eq, Int.compare_eq_eq]
    unfold sv
    split <;> split <;> omega
  · have h' := (isn_iff x).1 h
    rw [Bool.eq_iff_iff]
    simp
    omega
theorem lt_order (x y : Nat) (hx : x < 18446744073709551616) (hy : y < 18446744073709551616) :
    (Ieee.double.order x y == some .lt) = (!isn x && !isn y && decide (sv x < sv y)) := by
  rw [order_eq x y hx hy]
  cases isn x <;> cases isn y <;> simp
  rw [Bool.eq_iff_iff]
  simp only [beq_iff_eq, decide_eq_true_eq, Int.compare_eq_lt]
theorem gt_order (x y : Nat) (hx : x < 18446744073709551616) (hy : y < 18446744073709551616) :
    (Ieee.double.order x y == some .gt) = (!isn x && !isn y && decide (sv y < sv x)) := by
  rw [order_eq x y hx hy]
  cases isn x <;> cases isn y <;> simp
  rw [Bool.eq_iff_iff]
  simp only [beq_iff_eq, decide_eq_true_eq, Int.compare_eq_gt]
theorem eq_order (x y : Nat) (hx : x < 18446744073709551616) (hy : y < 18446744073709551616) :
    (Ieee.double.order x y == some .eq) = (!isn x && !isn y && decide (sv x = sv y)) := by
  rw [order_eq x y hx hy]
  cases isn x <;> cases isn y <;> simp
  rw [Bool.eq_iff_iff]
  simp only [beq_iff_eq, decide_eq_true_eq, Int.compare_eq_eq]

theorem key_nan {x : Nat} (h : isn x = true) : key x = 9221120237041090561 := by
  unfold key val
  rw [if_pos h, if_neg]
  rintro rfl
  exact absurd h (by decide)
theorem key_num {x : Nat} (h : isn x = false) : key x = if x = 9223372036854775808 then 0 else x := by
  unfold key val
  rw [h]; simp

theorem sv_cases (x : Nat) : (x < 9223372036854775808 ∧ sv x = x) ∨ (9223372036854775808 ≤ x ∧ sv x = 9223372036854775808 - (x : Int)) := by
  unfold sv
  by_cases h : x < 9223372036854775808
  · rw [if_pos h]; exact Or.inl ⟨h, rfl⟩
  · rw [if_neg h]; exact Or.inr ⟨by omega, rfl⟩
theorem key_cases {x : Nat} (h : isn x = false) : (x = 9223372036854775808 ∧ key x = 0) ∨ (x ≠ 9223372036854775808 ∧ key x = x) := by
  rw [key_num h]
  by_cases h2 : x = 9223372036854775808
  · rw [if_pos h2]; exact Or.inl ⟨h2, rfl⟩
  · rw [if_neg h2]; exact Or.inr ⟨h2, rfl⟩
theorem rk_cases (x : Nat) : (9223372036854775808 ≤ key x ∧ rk x = 18446744073709551615 - key x) ∨ (key x < 9223372036854775808 ∧ rk x = key x + 9223372036854775808) := by
  unfold rk
  by_cases h : 9223372036854775808 ≤ key x
  · rw [if_pos h]; exact Or.inl ⟨h, rfl⟩
  · rw [if_neg h]; exact Or.inr ⟨by omega, rfl⟩

theorem rk_less (a b : Nat) (ha : a < 18446744073709551616) (hb : b < 18446744073709551616) : decide (rk a < rk b) = less a b := by
  unfold less
  rw [Bool.eq_iff_iff]
  have ra := rk_cases a
  have rb := rk_cases b
  have sa := sv_cases a
  have sb := sv_cases b
  cases h1 : isn a
  · have h1' := (isn_not a).1 h1
    have ka := key_cases h1
    cases h2 : isn b
    · have h2' := (isn_not b).1 h2
      have kb := key_cases h2
      simp only [Bool.not_false, Bool.true_and, Bool.false_or, decide_eq_true_eq]
      omega
    · have kb := key_nan h2
      simp only [Bool.not_false, Bool.true_and, Bool.true_or, decide_eq_true_eq, iff_true]
      omega
  · have h1' := (isn_iff a).1 h1
    have ka := key_nan h1
    cases h2 : isn b
    · have h2' := (isn_not b).1 h2
      have kb := key_cases h2
      simp only [Bool.not_true, Bool.false_and, Bool.false_eq_true, decide_eq_true_eq, iff_false]
      omega
    · have kb := key_nan h2
      simp only [Bool.not_true, Bool.false_and, Bool.false_eq_true, decide_eq_true_eq, iff_false]
      omega

theorem alike (a b : Nat) (ha : a < 18446744073709551616) (hb : b < 18446744073709551616) : (!less a b && !less b a) = (key a == key b) := by
  unfold less
  rw [Bool.eq_iff_iff]
  have sa := sv_cases a
  have sb := sv_cases b
  cases h1 : isn a
  · have h1' := (isn_not a).1 h1
    have ka := key_cases h1
    cases h2 : isn b
    · have h2' := (isn_not b).1 h2
      have kb := key_cases h2
      simp only [Bool.not_false, Bool.true_and, Bool.false_or, Bool.and_eq_true, Bool.not_eq_true', decide_eq_false_iff_not, beq_iff_eq]
      omega
    · have kb := key_nan h2
      simp only [Bool.not_false, Bool.true_and, Bool.true_or, Bool.not_true, Bool.false_and, Bool.false_eq_true, beq_iff_eq, false_iff]
      have h2' := (isn_iff b).1 h2
      omega
  · have h1' := (isn_iff a).1 h1
    have ka := key_nan h1
    cases h2 : isn b
    · have h2' := (isn_not b).1 h2
      have kb := key_cases h2
      simp only [Bool.not_true, Bool.false_and, Bool.not_false, Bool.true_and, Bool.true_or, Bool.false_eq_true, beq_iff_eq, false_iff]
      omega
    · simp [key_nan h1, key_nan h2]

theorem less_asymm (a b : Nat) : less a b = true → less b a = false := by
  unfold less
  cases isn a <;> cases isn b <;> simp
  omega

theorem of_rk (x : Nat) (hx : x < 18446744073709551616) : ofRank (rk x) = key x := by
  have := key_lt hx
  have hz : key x ≠ 9223372036854775808 := by
    unfold key val
    by_cases h2 : x = 9223372036854775808
    · rw [if_pos h2]; omega
    · rw [if_neg h2]; split <;> omega
  unfold ofRank rk
  repeat' split
  all_goals omega
theorem ofRank_lt {r : Nat} (hr : r < 18446744073709551616) : ofRank r < 18446744073709551616 := by unfold ofRank; split <;> omega
theorem rk_of (r : Nat) (hr : r < 18446744073709551616) (h : key (ofRank r) = ofRank r) : rk (ofRank r) = r := by
  unfold rk
  rw [h]
  have hz : ofRank r ≠ 9223372036854775808 := by
    intro h0
    rw [h0] at h
    exact absurd h (by decide)
  revert hz
  unfold ofRank
  repeat' split
  all_goals omega
theorem rk_of_not (r : Nat) (hr : r < 18446744073709551616) (h : ¬ key (ofRank r) = ofRank r) : ¬ rk (ofRank r) = r := by
  intro h0
  have h1 := of_rk (ofRank r) (ofRank_lt hr)
  rw [h0] at h1
  exact h h1.symm

theorem nextUp_cases (x : Nat) : ((x = 0 ∨ x = 9223372036854775808) ∧ nextUp x = 1) ∨ (x ≠ 0 ∧ x < 9223372036854775808 ∧ nextUp x = x + 1) ∨ (9223372036854775808 < x ∧ nextUp x = x - 1) := by
  unfold nextUp
  by_cases h : x = 0 ∨ x = 9223372036854775808
  · rw [if_pos h]; exact Or.inl ⟨h, rfl⟩
  · rw [if_neg h]
    by_cases h2 : x < 9223372036854775808
    · rw [if_pos h2]; exact Or.inr (Or.inl ⟨by omega, h2, rfl⟩)
    · rw [if_neg h2]; exact Or.inr (Or.inr ⟨by omega, rfl⟩)
theorem nextUp_lt {x : Nat} (hx : x < 18446744073709551616) : nextUp x < 18446744073709551616 := by
  have := nextUp_cases x
  omega
theorem nextUp_num {x : Nat} (hx : x < 18446744073709551616) (h : isn x = false) (hi : x ≠ 9218868437227405312) : isn (nextUp x) = false := by
  have h' := (isn_not x).1 h
  have := nextUp_cases x
  rw [isn_not]
  omega

/-- Behind a number that is not the greatest comes its next one: nothing is between, and it is a key. -/
theorem next_less (x : Nat) (hx : x < 18446744073709551616) (h : isn x = false) (hi : x ≠ 9218868437227405312) :
    less x (key (nextUp x)) = true := by
  have h' := (isn_not x).1 h
  have hn := nextUp_num hx h hi
  unfold less
  rw [h, isn_key, hn, sv_key _ hn]
  simp only [Bool.not_false, Bool.true_and, Bool.false_or, decide_eq_true_eq]
  have c1 := sv_cases x
  have c2 := sv_cases (nextUp x)
  have c3 := nextUp_cases x
  omega
theorem next_between (x y : Nat) (hx : x < 18446744073709551616) (hy : y < 18446744073709551616) (h : isn x = false) (hi : x ≠ 9218868437227405312) :
    (less x y && less y (key (nextUp x))) = false := by
  have h' := (isn_not x).1 h
  have hn := nextUp_num hx h hi
  unfold less
  rw [h, isn_key, hn, sv_key _ hn]
  cases hy2 : isn y
  · have hy' := (isn_not y).1 hy2
    rw [Bool.eq_false_iff]
    simp only [ne_eq, Bool.not_false, Bool.true_and, Bool.false_or, Bool.and_eq_true, decide_eq_true_eq]
    have c1 := sv_cases x
    have c2 := sv_cases (nextUp x)
    have c3 := nextUp_cases x
    have c4 := sv_cases y
    omega
  · simp
theorem inf_less : less 9218868437227405312 9221120237041090561 = true := by decide
theorem inf_between (y : Nat) (hy : y < 18446744073709551616) : (less 9218868437227405312 y && less y 9221120237041090561) = false := by
  unfold less
  cases hy2 : isn y
  · have hy' := (isn_not y).1 hy2
    rw [Bool.eq_false_iff]
    have c4 := sv_cases y
    have c1 := sv_cases 9218868437227405312
    simp only [ne_eq, Bool.false_or, Bool.and_eq_true, decide_eq_true_eq]
    omega
  · simp

/-! ### Bits -/
theorem and_sign (k : Nat) (hk : k < 18446744073709551616) : (bits .and .u64 (k : Int) 9223372036854775808 != 0) = decide (9223372036854775808 ≤ k) := by
  have e : bits .and .u64 (k : Int) 9223372036854775808 = ((k &&& 9223372036854775808 : Nat) : Int) := u64_and_nat k 9223372036854775808 hk (by omega)
  rw [e]
  have e2 : (k &&& 9223372036854775808 = 0) ↔ k < 9223372036854775808 := by
    constructor
    · intro h0
      have h1 : (k &&& 9223372036854775808).testBit 63 = false := by rw [h0]; exact Nat.zero_testBit 63
      rw [Nat.testBit_and, show (9223372036854775808 : Nat) = 2 ^ 63 from rfl, Nat.testBit_two_pow_self, Bool.and_true, Nat.testBit_eq_decide_div_mod_eq] at h1
      have h2 := of_decide_eq_false h1
      omega
    · intro hlt
      apply Nat.eq_of_testBit_eq
      intro i
      rw [Nat.testBit_and, show (9223372036854775808 : Nat) = 2 ^ 63 from rfl, Nat.testBit_two_pow, Nat.zero_testBit]
      by_cases hi : 63 = i
      · subst hi
        rw [Nat.testBit_lt_two_pow hlt]; rfl
      · rw [decide_eq_false hi, Bool.and_false]
  rw [Bool.eq_iff_iff, bne_iff_ne, decide_eq_true_eq]
  omega
theorem or_sign (k : Nat) (hk : k < 9223372036854775808) : bits .or .u64 (k : Int) 9223372036854775808 = ((k + 9223372036854775808 : Nat) : Int) := by
  have e : bits .or .u64 (k : Int) 9223372036854775808 = ((k ||| 9223372036854775808 : Nat) : Int) := u64_or_nat k 9223372036854775808 (by omega) (by omega)
  rw [e]
  have e2 := Nat.two_pow_add_eq_or_of_lt (i := 63) (b := k) hk 1
  have e3 : k ||| 9223372036854775808 = k + 9223372036854775808 := by
    rw [Nat.or_comm, Nat.add_comm]
    exact e2.symm
  rw [e3]
theorem not_word (k : Nat) (hk : k < 18446744073709551616) : bits .xor .u64 18446744073709551615 (k : Int) = ((18446744073709551615 - k : Nat) : Int) := by
  have e : bits .xor .u64 18446744073709551615 (k : Int) = ((18446744073709551615 ^^^ k : Nat) : Int) := u64_xor_nat 18446744073709551615 k (by omega) hk
  rw [e]
  have e2 := congrArg BitVec.toNat (BitVec.allOnes_xor (x := BitVec.ofNat 64 k))
  rw [BitVec.toNat_xor, BitVec.toNat_not, BitVec.toNat_allOnes, BitVec.toNat_ofNat, Nat.mod_eq_of_lt (by omega)] at e2
  rw [show (18446744073709551615 : Nat) = 2 ^ 64 - 1 from rfl, e2]
theorem andNot_sign (k : Nat) (hk : k < 18446744073709551616) : bits .andNot .u64 (k : Int) 9223372036854775808 = ((k % 9223372036854775808 : Nat) : Int) := by
  have e : bits .andNot .u64 (k : Int) 9223372036854775808 = ((k &&& (18446744073709551615 - 9223372036854775808) : Nat) : Int) := u64_andNot_nat k 9223372036854775808 hk (by omega)
  rw [e, show (18446744073709551615 - 9223372036854775808 : Nat) = 2 ^ 63 - 1 from rfl, Nat.and_two_pow_sub_one_eq_mod]

end Fl
end Go.Proofs.Ytpdkeghmpnanpaa
