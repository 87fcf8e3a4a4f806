/-
  The plain arithmetic of the sum that layer 2 speaks of: a register of 32 bits, one bit at a time and one byte at a time, and what turned bits do to it. No program is named here.
-/
import Derived.ProofKit
namespace Go.Proofs.Ytdbgbldmjgonjaa
namespace Ta

theorem xor_left_comm (a b c : Nat) : a ^^^ (b ^^^ c) = b ^^^ (a ^^^ c) := by
  rw [← Nat.xor_assoc, Nat.xor_comm a b, Nat.xor_assoc]

theorem xor_cancel (a b : Nat) : a ^^^ (a ^^^ b) = b := by
  rw [← Nat.xor_assoc, Nat.xor_self, Nat.zero_xor]

theorem xor_zero_iff (a b : Nat) : a ^^^ b = 0 ↔ a = b := by
  constructor
  · intro h
    have := xor_cancel a b
    rw [h, Nat.xor_zero] at this
    exact this
  · rintro rfl
    exact Nat.xor_self _

theorem xor_lt {a b : Nat} (ha : a < 4294967296) (hb : b < 4294967296) : a ^^^ b < 4294967296 :=
  Nat.xor_lt_two_pow (n := 32) ha hb

theorem bit_cases (b : Nat) (h : b < 2) : b = 0 ∨ b = 1 := by omega

/-- The register goes one to the left; if a set bit falls out it is turned. -/
def Z (x : Nat) : Nat := (2 * x % 4294967296) ^^^ (x / 2147483648 * 2168537515)

theorem Z_zero : Z 0 = 0 := by decide

theorem Z_lt {x : Nat} (hx : x < 4294967296) : Z x < 4294967296 := by
  have : x / 2147483648 < 2 := by omega
  refine xor_lt (Nat.mod_lt _ (by decide)) ?_
  rcases bit_cases _ this with h | h <;> rw [h] <;> decide

theorem two_mul_xor (x y : Nat) : 2 * (x ^^^ y) = 2 * x ^^^ 2 * y := by
  have := @Nat.shiftLeft_xor_distrib 1 x y
  simpa [Nat.shiftLeft_eq, Nat.mul_comm] using this

theorem pow_mul_xor (n x y : Nat) : (x ^^^ y) * 2 ^ n = (x * 2 ^ n) ^^^ (y * 2 ^ n) := by
  have := @Nat.shiftLeft_xor_distrib n x y
  simpa [Nat.shiftLeft_eq] using this

theorem bits_mul (b c t : Nat) (hb : b < 2) (hc : c < 2) : (b ^^^ c) * t = b * t ^^^ c * t := by
  rcases bit_cases b hb with rfl | rfl <;> rcases bit_cases c hc with rfl | rfl <;> simp

theorem xor4 (a b c d : Nat) : (a ^^^ b) ^^^ (c ^^^ d) = (a ^^^ c) ^^^ (b ^^^ d) := by
  rw [Nat.xor_assoc, Nat.xor_assoc, xor_left_comm b c d]

theorem Z_xor {x y : Nat} (hx : x < 4294967296) (hy : y < 4294967296) : Z (x ^^^ y) = Z x ^^^ Z y := by
  have e1 : 2 * (x ^^^ y) % 4294967296 = (2 * x % 4294967296) ^^^ (2 * y % 4294967296) := by
    rw [two_mul_xor]
    exact Nat.xor_mod_two_pow (n := 32)
  have e2 : (x ^^^ y) / 2147483648 = (x / 2147483648) ^^^ (y / 2147483648) := Nat.xor_div_two_pow (n := 31)
  have h1 : x / 2147483648 < 2 := by omega
  have h2 : y / 2147483648 < 2 := by omega
  unfold Z
  rw [e1, e2, bits_mul _ _ _ h1 h2, xor4]

theorem Z_low {x : Nat} (hx : x < 2147483648) : Z x = 2 * x := by
  have e : x / 2147483648 = 0 := by omega
  unfold Z
  rw [e, Nat.zero_mul, Nat.xor_zero]
  omega

/-- Nothing but a register without bits goes to one without bits. -/
theorem Z_ne {x : Nat} (hx : x < 4294967296) (h0 : x ≠ 0) : Z x ≠ 0 := by
  intro h
  have ht : x / 2147483648 < 2 := by omega
  rcases bit_cases _ ht with h1 | h1
  · have : x < 2147483648 := by omega
    rw [Z_low this] at h
    omega
  · unfold Z at h
    rw [h1, Nat.one_mul, xor_zero_iff] at h
    omega

/-- n steps. -/
def Zn : Nat → Nat → Nat
  | 0, x => x
  | n + 1, x => Z (Zn n x)

theorem Zn_lt {x : Nat} (hx : x < 4294967296) : ∀ n, Zn n x < 4294967296
  | 0 => hx
  | n + 1 => Z_lt (Zn_lt hx n)

theorem Zn_xor {x y : Nat} (hx : x < 4294967296) (hy : y < 4294967296) : ∀ n, Zn n (x ^^^ y) = Zn n x ^^^ Zn n y
  | 0 => rfl
  | n + 1 => by
    show Z (Zn n (x ^^^ y)) = _
    rw [Zn_xor hx hy n, Z_xor (Zn_lt hx n) (Zn_lt hy n)]
    rfl

theorem Zn_ne {x : Nat} (hx : x < 4294967296) (h0 : x ≠ 0) : ∀ n, Zn n x ≠ 0
  | 0 => h0
  | n + 1 => Z_ne (Zn_lt hx n) (Zn_ne hx h0 n)

theorem Zn_pow : ∀ n m, n + m ≤ 31 → Zn n (2 ^ m) = 2 ^ (n + m)
  | 0, m, _ => by simp [Zn]
  | n + 1, m, h => by
    show Z (Zn n (2 ^ m)) = _
    rw [Zn_pow n m (by omega), Z_low]
    · rw [← Nat.pow_succ']
      congr 1
      omega
    · exact Nat.lt_of_lt_of_le (Nat.pow_lt_pow_right (by decide) (show n + m < 31 by omega)) (by decide)

/-- Z and then n steps are n + 1. -/
theorem Zn_succ (x : Nat) : ∀ n, Zn (n + 1) x = Zn n (Z x)
  | 0 => rfl
  | n + 1 => by
    show Z (Zn (n + 1) x) = Z (Zn n (Z x))
    rw [Zn_succ x n]

theorem Zn_low : ∀ n x, x * 2 ^ n < 4294967296 → Zn n x = x * 2 ^ n
  | 0, x, _ => by simp [Zn]
  | n + 1, x, h => by
    have h2 : x * 2 ^ n * 2 < 4294967296 := by rw [Nat.mul_assoc, ← Nat.pow_succ]; exact h
    show Z (Zn n x) = _
    rw [Zn_low n x (by omega), Z_low (by omega), Nat.pow_succ]
    rw [Nat.mul_comm 2, Nat.mul_assoc]

/-! ### One bit -/

/-- The chapter's step: the register goes one to the left; if what falls out and the bit are unlike it is turned. -/
def step (r bit : Nat) : Nat := if r / 2147483648 ≠ bit then (r * 2 % 4294967296) ^^^ 2168537515 else r * 2 % 4294967296

theorem step_eq {r bit : Nat} (hr : r < 4294967296) (hb : bit < 2) : step r bit = Z (r ^^^ bit * 2147483648) := by
  have hr' : r / 2147483648 < 2 := by omega
  have hbl : bit * 2147483648 < 4294967296 := by omega
  rw [Z_xor hr hbl]
  have hZ : Z (bit * 2147483648) = bit * 2168537515 := by
    rcases bit_cases bit hb with rfl | rfl <;> decide
  rw [hZ]
  unfold step Z
  rw [Nat.mul_comm r 2, Nat.xor_assoc, ← bits_mul _ _ _ hr' hb]
  rcases bit_cases _ hr' with h | h <;> rcases bit_cases bit hb with rfl | rfl <;> rw [h] <;> simp

theorem step_lt {r bit : Nat} (hr : r < 4294967296) (hb : bit < 2) : step r bit < 4294967296 := by
  rw [step_eq hr hb]
  exact Z_lt (xor_lt hr (by omega))

/-! ### One byte -/

/-- A byte's eight bits at once. -/
def mb (s c : Nat) : Nat := Zn 8 (s ^^^ c * 16777216)

theorem mb_lt {s c : Nat} (hs : s < 4294967296) (hc : c < 256) : mb s c < 4294967296 := Zn_lt (xor_lt hs (by omega)) 8

/-- n bits of m, the highest first. -/
def feed (m : Nat) : Nat → Nat → Nat
  | 0, r => r
  | n + 1, r => feed m n (step r (m / 2 ^ n % 2))

theorem feed_eq (m : Nat) : ∀ n r, n ≤ 32 → r < 4294967296 → feed m n r = Zn n (r ^^^ m % 2 ^ n * 2 ^ (32 - n))
  | 0, r, _, _ => by simp [feed, Zn, Nat.mod_one]
  | n + 1, r, hn, hr => by
    have hb : m / 2 ^ n % 2 < 2 := Nat.mod_lt _ (by decide)
    have hbl : m / 2 ^ n % 2 * 2147483648 < 4294967296 := by omega
    have hpos : 0 < 2 ^ n := Nat.pow_pos (by decide)
    have hlow : m % 2 ^ n < 2 ^ n := Nat.mod_lt _ hpos
    have hpp : 2 ^ n * 2 ^ (31 - n) = 2147483648 := by
      rw [← Nat.pow_add, show n + (31 - n) = 31 by omega]
    have hl31 : m % 2 ^ n * 2 ^ (31 - n) < 2147483648 := by
      rw [← hpp]
      exact Nat.mul_lt_mul_of_pos_right hlow (Nat.pow_pos (by decide))
    show feed m n (step r (m / 2 ^ n % 2)) = _
    rw [feed_eq m n _ (by omega) (step_lt hr hb), step_eq hr hb, Zn_succ]
    have e1 : m % 2 ^ n * 2 ^ (32 - n) = Z (m % 2 ^ n * 2 ^ (31 - n)) := by
      rw [Z_low hl31, show 32 - n = (31 - n) + 1 by omega, Nat.pow_succ, Nat.mul_comm 2, Nat.mul_assoc]
    rw [e1, ← Z_xor (xor_lt hr hbl) (by omega), Nat.xor_assoc]
    congr 3
    have e2 : m % 2 ^ (n + 1) = m % 2 ^ n + 2 ^ n * (m / 2 ^ n % 2) := Nat.mod_pow_succ
    have e3 : 32 - (n + 1) = 31 - n := by omega
    rw [e2, e3]
    rcases bit_cases _ hb with h | h
    · rw [h]
      simp
    · rw [h, Nat.one_mul, Nat.mul_one, Nat.add_mul, hpp]
      have := Nat.two_pow_add_eq_or_of_lt (i := 31) (b := m % 2 ^ n * 2 ^ (31 - n)) hl31 1
      have hx : (2147483648 : Nat) ^^^ m % 2 ^ n * 2 ^ (31 - n) = 2147483648 ||| m % 2 ^ n * 2 ^ (31 - n) := by
        apply Nat.eq_of_testBit_eq
        intro i
        rw [Nat.testBit_xor, Nat.testBit_or]
        by_cases hi : i = 31
        · subst hi
          rw [Nat.testBit_lt_two_pow (i := 31) hl31]
          simp
        · have : (2147483648 : Nat).testBit i = false := by
            have h31 : (2147483648 : Nat) = 2 ^ 31 := by decide
            rw [h31, Nat.testBit_two_pow]
            simp
            omega
          rw [this]
          simp
      rw [hx, Nat.add_comm]
      have h31 : (2147483648 : Nat) = 2 ^ 31 * 1 := by decide
      rw [h31]
      exact this.symm

theorem mb_feed {s c : Nat} (hs : s < 4294967296) (hc : c < 256) : feed c 8 s = mb s c := by
  rw [feed_eq c 8 s (by decide) hs]
  unfold mb
  congr 3
  omega

/-! ### Bytes -/

/-- The sum of bytes, begun at s. -/
def more (s : Nat) (xs : List Nat) : Nat := xs.foldl mb s

def Bytes (xs : List Nat) : Prop := ∀ n ∈ xs, n < 256

theorem more_lt : ∀ (xs : List Nat) {s : Nat}, s < 4294967296 → Bytes xs → more s xs < 4294967296
  | [], s, hs, _ => hs
  | x :: xs, s, hs, h => more_lt xs (mb_lt hs (h x (by simp))) (fun n hn => h n (by simp [hn]))

/-- The sum of bytes. -/
def sum (xs : List Nat) : Nat := more 4294967295 xs

theorem sum_lt {xs : List Nat} (h : Bytes xs) : sum xs < 4294967296 := more_lt xs (by decide) h

theorem more_take_succ (s : Nat) (xs : List Nat) (k : Nat) (hk : k < xs.length) : more s (xs.take (k + 1)) = mb (more s (xs.take k)) (xs.getD k 0) := by
  unfold more
  rw [List.take_succ_eq_append_getElem hk, List.foldl_append]
  simp [List.getD, hk]

theorem more_append (s : Nat) (xs ys : List Nat) : more s (xs ++ ys) = more (more s xs) ys := by
  unfold more
  rw [List.foldl_append]

/-- The bit number q of bytes, each byte's highest first. -/
def bitAt (xs : List Nat) (q : Nat) : Nat := xs.getD (q / 8) 0 / 2 ^ (7 - q % 8) % 2

theorem bitAt_lt (xs : List Nat) (q : Nat) : bitAt xs q < 2 := Nat.mod_lt _ (by decide)

/-- The register behind k bits. -/
def reg (f : Nat → Nat) : Nat → Nat
  | 0 => 4294967295
  | k + 1 => step (reg f k) (f k)

theorem reg_lt (f : Nat → Nat) (hf : ∀ q, f q < 2) : ∀ k, reg f k < 4294967296
  | 0 => by show 4294967295 < 4294967296; decide
  | k + 1 => step_lt (reg_lt f hf k) (hf k)

theorem reg_byte (xs : List Nat) (j : Nat) : reg (bitAt xs) (8 * j + 8) = feed (xs.getD j 0) 8 (reg (bitAt xs) (8 * j)) := by
  have hb : ∀ i, i < 8 → bitAt xs (8 * j + i) = xs.getD j 0 / 2 ^ (7 - i) % 2 := by
    intro i hi
    unfold bitAt
    rw [show (8 * j + i) / 8 = j by omega, show (8 * j + i) % 8 = i by omega]
  have h0 := hb 0 (by decide)
  have h1 := hb 1 (by decide)
  have h2 := hb 2 (by decide)
  have h3 := hb 3 (by decide)
  have h4 := hb 4 (by decide)
  have h5 := hb 5 (by decide)
  have h6 := hb 6 (by decide)
  have h7 := hb 7 (by decide)
  simp only [reg, feed, h1, h2, h3, h4, h5, h6, h7]
  rw [show bitAt xs (8 * j) = xs.getD j 0 / 2 ^ 7 % 2 from h0]

theorem getD_lt {xs : List Nat} (h : Bytes xs) (j : Nat) : xs.getD j 0 < 256 := by
  by_cases hj : j < xs.length
  · have := h _ (List.getElem_mem hj)
    simpa [List.getD, hj] using this
  · simp [List.getD, Nat.le_of_not_lt hj]

/-- Bit by bit or byte by byte: the same sum. -/
theorem reg_sum {xs : List Nat} (h : Bytes xs) : ∀ j, j ≤ xs.length → reg (bitAt xs) (8 * j) = more 4294967295 (xs.take j)
  | 0, _ => by simp [reg, more]
  | j + 1, hj => by
    rw [show 8 * (j + 1) = 8 * j + 8 by omega, reg_byte, reg_sum h j (by omega), more_take_succ _ _ _ (by omega), mb_feed]
    · exact more_lt _ (by decide) (fun n hn => h n (List.mem_of_mem_take hn))
    · exact getD_lt h j

theorem reg_all {xs : List Nat} (h : Bytes xs) : reg (bitAt xs) (8 * xs.length) = sum xs := by
  rw [reg_sum h xs.length (Nat.le_refl _), List.take_length]
  rfl

/-! ### Turned bits -/

theorem reg_congr {f g : Nat → Nat} : ∀ k, (∀ q, q < k → f q = g q) → reg f k = reg g k
  | 0, _ => rfl
  | k + 1, h => by
    show step _ _ = step _ _
    rw [reg_congr k (fun q hq => h q (by omega)), h k (by omega)]

theorem step_xor {r s b c : Nat} (hr : r < 4294967296) (hs : s < 4294967296) (hb : b < 2) (hc : c < 2) :
    step r b ^^^ step s c = Z ((r ^^^ s) ^^^ (b ^^^ c) * 2147483648) := by
  rw [step_eq hr hb, step_eq hs hc, ← Z_xor (xor_lt hr (by omega)) (xor_lt hs (by omega)), bits_mul _ _ _ hb hc, xor4]

/-- Two rows of bits that part first at p, and from p + 32 on no more: their registers part from there on. -/
theorem reg_part {f g : Nat → Nat} (hf : ∀ q, f q < 2) (hg : ∀ q, g q < 2) (p : Nat) (hp : ∀ q, q < p → f q = g q) (hne : f p ≠ g p) (hend : ∀ q, p + 32 ≤ q → f q = g q) :
    ∀ n, ∃ A, A < 4294967296 ∧ 2147483648 ≤ A ∧ reg f (p + (n + 1)) ^^^ reg g (p + (n + 1)) = Zn (n + 1) A
  | 0 => by
    refine ⟨2147483648, by decide, by decide, ?_⟩
    show step (reg f p) (f p) ^^^ step (reg g p) (g p) = Z 2147483648
    rw [step_xor (reg_lt f hf p) (reg_lt g hg p) (hf p) (hg p), reg_congr p hp, Nat.xor_self, Nat.zero_xor]
    have h1 := hf p
    have h2 := hg p
    have : f p ^^^ g p = 1 := by
      rcases bit_cases _ h1 with a | a <;> rcases bit_cases _ h2 with b | b <;> rw [a, b] at hne ⊢ <;> first | rfl | exact absurd rfl hne
    rw [this]
  | n + 1 => by
    obtain ⟨A, hA, hT, hE⟩ := reg_part hf hg p hp hne hend n
    have hd : f (p + (n + 1)) ^^^ g (p + (n + 1)) < 2 := Nat.xor_lt_two_pow (n := 1) (hf _) (hg _)
    have hs : reg f (p + (n + 1 + 1)) ^^^ reg g (p + (n + 1 + 1)) = Z (Zn (n + 1) A ^^^ (f (p + (n + 1)) ^^^ g (p + (n + 1))) * 2147483648) := by
      rw [← hE]
      exact step_xor (reg_lt f hf _) (reg_lt g hg _) (hf _) (hg _)
    by_cases hn : n + 1 < 32
    · have hm : 2 ^ (31 - (n + 1)) < 2147483648 :=
        Nat.lt_of_lt_of_le (Nat.pow_lt_pow_right (by decide) (show 31 - (n + 1) < 31 by omega)) (by decide)
      rcases bit_cases _ hd with h0 | h1
      · refine ⟨A, hA, hT, ?_⟩
        rw [hs, h0, Nat.zero_mul, Nat.xor_zero]
        rfl
      · refine ⟨A ^^^ 2 ^ (31 - (n + 1)), xor_lt hA (by omega), ?_, ?_⟩
        · have e : (A ^^^ 2 ^ (31 - (n + 1))) / 2147483648 = A / 2147483648 ^^^ 2 ^ (31 - (n + 1)) / 2147483648 := Nat.xor_div_two_pow (n := 31)
          rw [Nat.div_eq_of_lt hm, Nat.xor_zero] at e
          omega
        · rw [hs, h1, Nat.one_mul]
          show _ = Z (Zn (n + 1) (A ^^^ 2 ^ (31 - (n + 1))))
          rw [Zn_xor hA (by omega), Zn_pow (n + 1) (31 - (n + 1)) (by omega), show n + 1 + (31 - (n + 1)) = 31 by omega]
    · refine ⟨A, hA, hT, ?_⟩
      rw [hs, hend (p + (n + 1)) (by omega), Nat.xor_self, Nat.zero_mul, Nat.xor_zero]
      rfl

theorem reg_burst {f g : Nat → Nat} (hf : ∀ q, f q < 2) (hg : ∀ q, g q < 2) (p N : Nat) (hp : ∀ q, q < p → f q = g q) (hne : f p ≠ g p) (hend : ∀ q, p + 32 ≤ q → f q = g q) (hN : p < N) :
    reg f N ≠ reg g N := by
  obtain ⟨A, hA, hT, hE⟩ := reg_part hf hg p hp hne hend (N - p - 1)
  rw [show p + (N - p - 1 + 1) = N by omega] at hE
  intro h
  rw [h, Nat.xor_self] at hE
  exact Zn_ne hA (by omega) _ hE.symm

/-! ### Three rows of bytes at once -/

theorem mb_xor3 {r s t a b c : Nat} (hr : r < 4294967296) (hs : s < 4294967296) (ht : t < 4294967296) (ha : a < 256) (hb : b < 256) (hc : c < 256) :
    mb (r ^^^ s ^^^ t) (a ^^^ b ^^^ c) = mb r a ^^^ mb s b ^^^ mb t c := by
  unfold mb
  have h1 : (a ^^^ b ^^^ c) * 16777216 = a * 16777216 ^^^ b * 16777216 ^^^ c * 16777216 := by
    rw [show (16777216 : Nat) = 2 ^ 24 by decide, pow_mul_xor, pow_mul_xor]
  rw [h1]
  have e : r ^^^ s ^^^ t ^^^ (a * 16777216 ^^^ b * 16777216 ^^^ c * 16777216) = (r ^^^ a * 16777216) ^^^ (s ^^^ b * 16777216) ^^^ (t ^^^ c * 16777216) := by
    rw [xor4 (r ^^^ s) t, xor4 r s]
  rw [e, Zn_xor (xor_lt (xor_lt hr (by omega)) (xor_lt hs (by omega))) (xor_lt ht (by omega)), Zn_xor (xor_lt hr (by omega)) (xor_lt hs (by omega))]

/-- The bytes of three rows, turned by each other. -/
def xor3 (as bs cs : List Nat) (k : Nat) : List Nat := (List.range k).map fun i => as.getD i 0 ^^^ bs.getD i 0 ^^^ cs.getD i 0

theorem xor3_length (as bs cs : List Nat) (k : Nat) : (xor3 as bs cs k).length = k := by simp [xor3]

theorem xor3_succ (as bs cs : List Nat) (k : Nat) : xor3 as bs cs (k + 1) = xor3 as bs cs k ++ [as.getD k 0 ^^^ bs.getD k 0 ^^^ cs.getD k 0] := by
  simp [xor3, List.range_succ]

theorem byte_xor {a b : Nat} (ha : a < 256) (hb : b < 256) : a ^^^ b < 256 := Nat.xor_lt_two_pow (n := 8) ha hb

theorem xor3_bytes {as bs cs : List Nat} (ha : Bytes as) (hb : Bytes bs) (hc : Bytes cs) (k : Nat) : Bytes (xor3 as bs cs k) := by
  intro n hn
  obtain ⟨i, _, rfl⟩ := List.mem_map.1 hn
  exact byte_xor (byte_xor (getD_lt ha i) (getD_lt hb i)) (getD_lt hc i)

theorem sum_xor3 {as bs cs : List Nat} (ha : Bytes as) (hb : Bytes bs) (hc : Bytes cs) : ∀ k, k ≤ as.length → k ≤ bs.length → k ≤ cs.length →
    sum (xor3 as bs cs k) = sum (as.take k) ^^^ sum (bs.take k) ^^^ sum (cs.take k)
  | 0, _, _, _ => by simp [xor3, sum, more]
  | k + 1, h1, h2, h3 => by
    have hh := sum_xor3 ha hb hc k (by omega) (by omega) (by omega)
    unfold sum at hh ⊢
    rw [xor3_succ, more_append, hh, more_take_succ _ _ _ h1, more_take_succ _ _ _ h2, more_take_succ _ _ _ h3]
    have tk : ∀ (l : List Nat), Bytes l → more 4294967295 (l.take k) < 4294967296 := fun l hl => more_lt _ (by decide) (fun n hn => hl n (List.mem_of_mem_take hn))
    exact mb_xor3 (tk as ha) (tk bs hb) (tk cs hc) (getD_lt ha k) (getD_lt hb k) (getD_lt hc k)

theorem sum_known : sum [49, 50, 51, 52, 53, 54, 55, 56, 57] = 3628397565 := by decide +kernel

end Ta
end Go.Proofs.Ytdbgbldmjgonjaa
