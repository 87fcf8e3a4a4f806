/-
  What turned bits do to sealed bytes: some bits of 32 in a row, behind the sum or within it: they are sealed no more. No program is named here.
-/
import Derived.Test.YtjgeiooblcpiaaaTalA
namespace Go.Proofs.Ytjgeiooblcpiaaa
namespace Ta

/-- The bit number q is turned. -/
def flip (ys : List Nat) (q : Nat) : List Nat := ys.set (q / 8) (ys.getD (q / 8) 0 ^^^ 2 ^ (7 - q % 8))

theorem flip_length (ys : List Nat) (q : Nat) : (flip ys q).length = ys.length := by simp [flip]

theorem pow7 (q : Nat) : 2 ^ (7 - q % 8) < 256 :=
  Nat.lt_of_lt_of_le (Nat.pow_lt_pow_right (by decide) (show 7 - q % 8 < 8 by omega)) (by decide)

theorem flip_bytes {ys : List Nat} (h : Bytes ys) (q : Nat) : Bytes (flip ys q) := by
  intro x hx
  unfold flip at hx
  rcases List.mem_or_eq_of_mem_set hx with k | k
  · exact h x k
  · rw [k]
    exact byte_xor (getD_lt h _) (pow7 q)

theorem bit_test (x j : Nat) : x / 2 ^ j % 2 = (x.testBit j).toNat := by
  rw [Nat.testBit_eq_decide_div_mod_eq]
  have : x / 2 ^ j % 2 < 2 := Nat.mod_lt _ (by decide)
  rcases bit_cases _ this with h | h <;> rw [h] <;> rfl

theorem getD_flip (ys : List Nat) (q i : Nat) (hq : q / 8 < ys.length) : (flip ys q).getD i 0 = if i = q / 8 then ys.getD i 0 ^^^ 2 ^ (7 - q % 8) else ys.getD i 0 := by
  unfold flip
  by_cases hi : i = q / 8
  · subst hi
    rw [if_pos rfl]
    simp [List.getD, hq]
  · rw [if_neg hi]
    have : ¬ q / 8 = i := fun e => hi e.symm
    simp [List.getD, this]

theorem bitAt_flip (ys : List Nat) (q r : Nat) (hq : q / 8 < ys.length) : bitAt (flip ys q) r = if r = q then 1 - bitAt ys r else bitAt ys r := by
  unfold bitAt
  rw [getD_flip ys q (r / 8) hq]
  by_cases h8 : r / 8 = q / 8
  · rw [if_pos h8, bit_test, bit_test, Nat.testBit_xor, Nat.testBit_two_pow]
    by_cases hr : r = q
    · subst hr
      rw [if_pos rfl]
      simp
      cases Nat.testBit (ys[r / 8]?.getD 0) (7 - r % 8) <;> rfl
    · rw [if_neg hr]
      have : ¬ 7 - q % 8 = 7 - r % 8 := by omega
      simp [this]
  · rw [if_neg h8, if_neg (fun e => h8 (by rw [e]))]

/-- Of the 32 bits from K on the first n, where the pattern says so, are turned. -/
def FL (ys : List Nat) (K pat : Nat) : Nat → List Nat
  | 0 => ys
  | n + 1 => if pat / 2 ^ n % 2 = 1 then flip (FL ys K pat n) (K + n) else FL ys K pat n

/-- Has any been turned? -/
def TN (pat : Nat) : Nat → Bool
  | 0 => false
  | n + 1 => if pat / 2 ^ n % 2 = 1 then true else TN pat n

theorem FL_length (ys : List Nat) (K pat : Nat) : ∀ n, (FL ys K pat n).length = ys.length
  | 0 => rfl
  | n + 1 => by
    unfold FL
    split
    · rw [flip_length, FL_length ys K pat n]
    · exact FL_length ys K pat n

theorem FL_bytes {ys : List Nat} (h : Bytes ys) (K pat : Nat) : ∀ n, Bytes (FL ys K pat n)
  | 0 => h
  | n + 1 => by
    unfold FL
    split
    · exact flip_bytes (FL_bytes h K pat n) _
    · exact FL_bytes h K pat n

theorem FL_bit (ys : List Nat) (K pat : Nat) : ∀ n, K + n ≤ 8 * ys.length → ∀ r, bitAt (FL ys K pat n) r = if K ≤ r ∧ r < K + n ∧ pat / 2 ^ (r - K) % 2 = 1 then 1 - bitAt ys r else bitAt ys r
  | 0, _, r => by
    rw [if_neg (by omega)]
    rfl
  | n + 1, hn, r => by
    have ih := FL_bit ys K pat n (by omega) r
    unfold FL
    by_cases hp : pat / 2 ^ n % 2 = 1
    · rw [if_pos hp, bitAt_flip _ _ _ (by rw [FL_length]; omega), ih]
      by_cases hr : r = K + n
      · subst hr
        rw [if_pos rfl, if_neg (by omega), if_pos ⟨by omega, by omega, by rw [Nat.add_sub_cancel_left]; exact hp⟩]
      · rw [if_neg hr]
        by_cases hc : K ≤ r ∧ r < K + n ∧ pat / 2 ^ (r - K) % 2 = 1
        · rw [if_pos hc, if_pos ⟨hc.1, by omega, hc.2.2⟩]
        · rw [if_neg hc, if_neg (fun k => hc ⟨k.1, by omega, k.2.2⟩)]
    · rw [if_neg hp, ih]
      by_cases hc : K ≤ r ∧ r < K + n ∧ pat / 2 ^ (r - K) % 2 = 1
      · rw [if_pos hc, if_pos ⟨hc.1, by omega, hc.2.2⟩]
      · rw [if_neg hc, if_neg]
        intro k
        by_cases hr : r = K + n
        · subst hr
          rw [Nat.add_sub_cancel_left] at k
          exact hp k.2.2
        · exact hc ⟨k.1, by omega, k.2.2⟩

theorem TN_no (ys : List Nat) (K pat : Nat) : ∀ n, TN pat n = false → FL ys K pat n = ys
  | 0, _ => rfl
  | n + 1, h => by
    unfold TN at h
    unfold FL
    split
    · rename_i hp
      rw [if_pos hp] at h
      cases h
    · rename_i hp
      rw [if_neg hp] at h
      exact TN_no ys K pat n h

theorem TN_yes (pat : Nat) : ∀ n, TN pat n = true → ∃ j, j < n ∧ pat / 2 ^ j % 2 = 1 ∧ ∀ i, i < j → ¬ pat / 2 ^ i % 2 = 1
  | 0, h => by cases h
  | n + 1, h => by
    by_cases hn : TN pat n = true
    · obtain ⟨j, hj, h1, h2⟩ := TN_yes pat n hn
      exact ⟨j, by omega, h1, h2⟩
    · unfold TN at h
      by_cases hp : pat / 2 ^ n % 2 = 1
      · refine ⟨n, by omega, hp, fun i hi hb => hn ?_⟩
        have : ∀ m, i < m → TN pat m = true := by
          intro m
          induction m with
          | zero => intro h; omega
          | succ m ih =>
            intro him
            unfold TN
            by_cases hm : pat / 2 ^ m % 2 = 1
            · rw [if_pos hm]
            · rw [if_neg hm]
              refine ih ?_
              have : i ≠ m := fun e => hm (e ▸ hb)
              omega
        exact this n hi
      · rw [if_neg hp] at h
        exact absurd h hn

theorem bitAt_drop (zs : List Nat) (r : Nat) : bitAt (zs.drop 4) r = bitAt zs (32 + r) := by
  unfold bitAt
  rw [show (32 + r) / 8 = 4 + r / 8 by omega, show (32 + r) % 8 = r % 8 by omega]
  simp [List.getD]

theorem FL_take (ys : List Nat) (K pat : Nat) (hK : 32 ≤ K) : ∀ n, (FL ys K pat n).take 4 = ys.take 4
  | 0 => rfl
  | n + 1 => by
    unfold FL
    split
    · unfold flip
      rw [List.take_set_of_le (by omega)]
      exact FL_take ys K pat hK n
    · exact FL_take ys K pat hK n

theorem FL_drop (ys : List Nat) (K pat : Nat) : ∀ n, K + n ≤ 32 → (FL ys K pat n).drop 4 = ys.drop 4
  | 0, _ => rfl
  | n + 1, h => by
    unfold FL
    split
    · unfold flip
      rw [List.drop_set_of_lt (by omega)]
      exact FL_drop ys K pat n (by omega)
    · exact FL_drop ys K pat n (by omega)

end Ta

theorem fourB_inj {s t : Nat} (hs : s < 4294967296) (ht : t < 4294967296) (h : fourB s = fourB t) : s = t := by
  simp [fourB] at h
  omega

/-- Some bits are turned, all within 32 in a row behind the sum. -/
theorem burst_behind {xs : List Nat} (hx : Ta.Bytes xs) (K pat n : Nat) (hK : 32 ≤ K) (hn : n ≤ 32) (hlen : K + n ≤ 8 * (4 + xs.length)) (ht : Ta.TN pat n = true) :
    ¬ Sealed (Ta.FL (fourB (Ta.sum xs) ++ xs) K pat n) := by
  intro hsl
  have hyl : (fourB (Ta.sum xs) ++ xs).length = 4 + xs.length := by rw [List.length_append]; rfl
  have hB := Ta.FL_bytes (sealed_bytes hx) K pat n
  have hbit := Ta.FL_bit (fourB (Ta.sum xs) ++ xs) K pat n (by rw [hyl]; exact hlen)
  have htk := Ta.FL_take (fourB (Ta.sum xs) ++ xs) K pat hK n
  have hzl := Ta.FL_length (fourB (Ta.sum xs) ++ xs) K pat n
  generalize Ta.FL (fourB (Ta.sum xs) ++ xs) K pat n = zs at *
  have hdB : Ta.Bytes (zs.drop 4) := fun x h => hB x (List.mem_of_mem_drop h)
  have h4 : fourB (Ta.sum (zs.drop 4)) = fourB (Ta.sum xs) := by
    unfold Sealed at hsl
    have := congrArg (List.take 4) hsl
    rw [htk] at this
    exact this
  have hs := fourB_inj (Ta.sum_lt hdB) (Ta.sum_lt hx) h4
  obtain ⟨j, hj, hp, hl⟩ := Ta.TN_yes pat n ht
  have horig : ∀ r, Ta.bitAt (fourB (Ta.sum xs) ++ xs) (32 + r) = Ta.bitAt xs r := fun r => (Ta.bitAt_drop (fourB (Ta.sum xs) ++ xs) r).symm
  have hnew : ∀ r, Ta.bitAt (zs.drop 4) r = if K ≤ 32 + r ∧ 32 + r < K + n ∧ pat / 2 ^ (32 + r - K) % 2 = 1 then 1 - Ta.bitAt xs r else Ta.bitAt xs r := by
    intro r
    rw [Ta.bitAt_drop, hbit, horig]
  have hdl : (zs.drop 4).length = xs.length := by rw [List.length_drop, hzl, hyl]; omega
  refine Ta.reg_burst (Ta.bitAt_lt xs) (Ta.bitAt_lt (zs.drop 4)) (K + j - 32) (8 * xs.length) ?_ ?_ ?_ (by omega) ?_
  · intro q hq
    rw [hnew, if_neg]
    intro k
    exact hl (32 + q - K) (by omega) k.2.2
  · rw [hnew, if_pos ⟨by omega, by omega, by rw [show 32 + (K + j - 32) - K = j by omega]; exact hp⟩]
    have := Ta.bitAt_lt xs (K + j - 32)
    omega
  · intro q hq
    rw [hnew, if_neg (by omega)]
  · have e1 := Ta.reg_all hx
    have e2 := Ta.reg_all hdB
    rw [hdl] at e2
    rw [e1, e2, hs]

/-- Some bits of the sum itself are turned. -/
theorem burst_within {xs : List Nat} (K pat n : Nat) (hn : K + n ≤ 32) (ht : Ta.TN pat n = true) :
    ¬ Sealed (Ta.FL (fourB (Ta.sum xs) ++ xs) K pat n) := by
  intro hsl
  have hyl : (fourB (Ta.sum xs) ++ xs).length = 4 + xs.length := by rw [List.length_append]; rfl
  have hbit := Ta.FL_bit (fourB (Ta.sum xs) ++ xs) K pat n (by rw [hyl]; omega)
  have hdr := Ta.FL_drop (fourB (Ta.sum xs) ++ xs) K pat n hn
  unfold Sealed at hsl
  rw [hdr] at hsl
  have hd : (fourB (Ta.sum xs) ++ xs).drop 4 = xs := rfl
  rw [hd] at hsl
  rw [← hsl] at hbit
  obtain ⟨j, hj, hp, hl⟩ := Ta.TN_yes pat n ht
  have := hbit (K + j)
  rw [if_pos ⟨by omega, by omega, by rw [Nat.add_sub_cancel_left]; exact hp⟩] at this
  have := Ta.bitAt_lt (fourB (Ta.sum xs) ++ xs) (K + j)
  omega
end Go.Proofs.Ytjgeiooblcpiaaa
