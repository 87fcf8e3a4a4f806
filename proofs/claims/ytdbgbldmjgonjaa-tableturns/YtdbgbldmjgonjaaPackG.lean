/-
  Which items a row of bytes is, said plainly: nothing of the program.
-/
import Derived.Test.YtdbgbldmjgonjaaPackD
namespace Go.Proofs.Ytdbgbldmjgonjaa
open Go.RowKit

/-- The number of some bytes, the highest first. -/
def numB (xs : List Nat) : Nat := xs.foldl (fun u b => u * 256 + b) 0

theorem fold_num : ∀ (xs : List Nat) (u : Nat), xs.foldl (fun u b => u * 256 + b) u = u * 256 ^ xs.length + numB xs
  | [], u => by simp [numB]
  | x :: r, u => by
    have h1 := fold_num r (u * 256 + x)
    have h2 := fold_num r x
    simp only [List.foldl_cons, List.length_cons, numB] at *
    rw [h1, Nat.zero_mul, Nat.zero_add, h2, Nat.add_mul, Nat.pow_succ]
    rw [Nat.mul_assoc, Nat.mul_comm 256 (256 ^ r.length), Nat.add_assoc]

theorem numB_cons (x : Nat) (r : List Nat) : numB (x :: r) = x * 256 ^ r.length + numB r := by
  have := fold_num r x
  simpa [numB] using this

theorem numB_snoc (xs : List Nat) (b : Nat) : numB (xs ++ [b]) = numB xs * 256 + b := by simp [numB]

theorem numB_lt : ∀ {xs : List Nat}, Bytes xs → numB xs < 256 ^ xs.length
  | [], _ => by simp [numB]
  | x :: r, h => by
    have h1 := numB_lt (xs := r) (fun y hy => h y (by simp [hy]))
    have h2 := h x (by simp)
    rw [numB_cons, List.length_cons, Nat.pow_succ]
    have h3 : x * 256 ^ r.length ≤ 255 * 256 ^ r.length := Nat.mul_le_mul_right _ (by omega)
    omega

theorem bigB_add (k : Nat) : ∀ (m u : Nat), bigB (k * 256 ^ m + u) m = bigB u m
  | 0, _ => rfl
  | m + 1, u => by
    have h := bigB_add (k * 256) m u
    rw [Nat.mul_assoc, ← Nat.pow_succ'] at h
    simp only [bigB]
    rw [h]
    congr 1
    have e : k * 256 ^ (m + 1) + u = u + 256 ^ m * (k * 256) := by
      rw [Nat.pow_succ, Nat.add_comm, Nat.mul_comm (256 ^ m) (k * 256), Nat.mul_assoc, Nat.mul_comm (256 ^ m) 256]
    rw [e, Nat.add_mul_div_left _ _ (Nat.pow_pos (by decide)), Nat.add_mul_mod_self_right]

theorem bigB_numB : ∀ {xs : List Nat}, Bytes xs → bigB (numB xs) xs.length = xs
  | [], _ => rfl
  | x :: r, h => by
    have h0 : Bytes r := fun y hy => h y (by simp [hy])
    have h1 := numB_lt h0
    have h2 := h x (by simp)
    rw [numB_cons, List.length_cons]
    simp only [bigB]
    rw [bigB_add, bigB_numB h0]
    congr 1
    have hp : 0 < 256 ^ r.length := Nat.pow_pos (by decide)
    rw [Nat.mul_comm, Nat.mul_add_div hp, Nat.div_eq_of_lt h1]
    omega

theorem numB_bigB (u : Nat) : ∀ (n : Nat), numB (bigB u n) = u % 256 ^ n
  | 0 => by simp [bigB, numB]; omega
  | n + 1 => by
    simp only [bigB]
    rw [numB_cons, bigB_length, numB_bigB u n, Nat.pow_succ, Nat.mod_mul, Nat.mul_comm (256 ^ n), Nat.add_comm]

/-- No text. -/
def noS : ByteArray := ⟨#[]⟩

/-- The item of kind k (1 to 5) that bytes begin with, and how many it took. -/
def tk (xs : List Nat) (k : Int) : Option (It × Nat) :=
  if k = 4 then
    if 8 ≤ xs.length then
      if Fl.val (numB (xs.take 8)) = numB (xs.take 8) then some (⟨4, 0, numB (xs.take 8), noS⟩, 8) else none
    else none
  else if k = 5 then
    if 1 ≤ xs.length then
      if 1 + numB (xs.take 1) ≤ xs.length then some (⟨5, 0, 0, bstr ((xs.drop 1).take (numB (xs.take 1)))⟩, 1 + numB (xs.take 1)) else none
    else none
  else if cntN k ≤ xs.length then
    if (numB (xs.take (cntN k)) : Int) ≤ maxN k then some (⟨k, numB (xs.take (cntN k)), 0, noS⟩, cntN k) else none
  else none

/-- The items of kinds, one by one, behind those that are taken. -/
def tks (xs : List Nat) : List Int → List It → Nat → Option (List It × Nat)
  | [], l, q => some (l, q)
  | k :: ks, l, q => match tk (xs.drop q) k with
    | none => none
    | some (i, n) => tks xs ks (l ++ [i]) (q + n)

/-- An item by its value. -/
def It.valued (i : It) : It := ⟨i.kind, i.n, Fl.val i.x, i.s⟩

theorem strB_nil {s : ByteArray} (h : s.toList = []) : s = noS := by
  rw [ByteArray.toList_eq] at h
  cases s with
  | mk d =>
    simp only at h
    have : d = #[] := by
      apply Array.toList_inj.1
      simpa using h
    rw [this]
    rfl

theorem val_zero : Fl.val 0 = 0 := by decide

theorem take_bigB (u n : Nat) (r : List Nat) : (bigB u n ++ r).take n = bigB u n := by
  rw [List.take_append_of_le_length (by rw [bigB_length]; exact Nat.le_refl _), List.take_of_length_le (by rw [bigB_length]; exact Nat.le_refl _)]

theorem tk_bytes (i : It) (hm : i.may = true) (hx : i.x < 18446744073709551616) (r : List Nat) : tk (i.bytes ++ r) i.kind = some (i.valued, i.bytes.length) := by
  obtain ⟨k, n, x, s⟩ := i
  by_cases hk : k = 1 ∨ k = 2 ∨ k = 3
  · have hmm : 0 ≤ n ∧ n ≤ maxN k ∧ x = 0 ∧ s = noS := by
      rw [may123 hk] at hm
      simp at hm
      exact ⟨hm.1.1.1, hm.1.1.2, hm.1.2, strB_nil hm.2⟩
    obtain ⟨h0, h1, rfl, rfl⟩ := hmm
    obtain ⟨m, rfl⟩ := Int.eq_ofNat_of_zero_le h0
    have hb : It.bytes ⟨k, (m : Nat), 0, noS⟩ = bigB m (cntN k) := by
      rcases hk with rfl | rfl | rfl <;> simp [It.bytes, cntN]
    have hmod : m % 256 ^ cntN k = m := by
      apply Nat.mod_eq_of_lt
      rcases hk with rfl | rfl | rfl <;> simp [maxN, cntN] at h1 ⊢ <;> omega
    rw [hb, bigB_length]
    have n4 : ¬ k = 4 := by rcases hk with rfl | rfl | rfl <;> decide
    have n5 : ¬ k = 5 := by rcases hk with rfl | rfl | rfl <;> decide
    simp only [tk, n4, n5, if_false]
    rw [take_bigB, numB_bigB, hmod, if_pos (by simp [bigB_length]), if_pos h1]
    simp [It.valued, val_zero]
  have h1 : ¬ k = 1 := fun h => hk (.inl h)
  have h2 : ¬ k = 2 := fun h => hk (.inr (.inl h))
  have h3 : ¬ k = 3 := fun h => hk (.inr (.inr h))
  by_cases h4 : k = 4
  · subst h4
    simp [It.may] at hm
    obtain ⟨rfl, hs⟩ := hm
    obtain rfl := strB_nil hs
    have hb : It.bytes ⟨4, 0, x, noS⟩ = bigB (Fl.val x) 8 := by simp [It.bytes]
    simp only at hx
    have hmod : Fl.val x % 256 ^ 8 = Fl.val x := Nat.mod_eq_of_lt (by have := Fl.val_lt hx; simpa using this)
    rw [hb, bigB_length]
    simp only [tk, if_true]
    rw [take_bigB, numB_bigB, hmod, if_pos (by simp [bigB_length]), if_pos (Fl.val_val x)]
    simp [It.valued]
  have h5 : k = 5 := by
    simp only [It.may, h1, h2, h3, h4, if_false] at hm
    by_cases h5 : k = 5
    · exact h5
    · rw [if_neg h5] at hm
      cases hm
  subst h5
  simp [It.may] at hm
  obtain ⟨⟨rfl, rfl⟩, hs⟩ := hm
  have hb : It.bytes ⟨5, 0, 0, s⟩ = s.size :: strB s := by simp [It.bytes]
  rw [hb]
  have e1 : numB ((s.size :: strB s ++ r).take 1) = s.size := by simp [numB]
  have e2 : ((s.size :: strB s ++ r).drop 1).take s.size = strB s := by
    show (strB s ++ r).take s.size = strB s
    rw [List.take_append_of_le_length (by rw [strB_length]; exact Nat.le_refl _), List.take_of_length_le (by rw [strB_length]; exact Nat.le_refl _)]
  simp only [tk, show ¬ (5 : Int) = 4 by decide, if_false, if_true]
  rw [e1, e2, if_pos (by simp), if_pos (by simp [strB_length]; omega), bstr_strB]
  simp [It.valued, val_zero, strB_length]
  omega

/-- What is put is taken. -/
theorem tks_put : ∀ (l : List It) (xs r : List Nat) (acc : List It) (q : Nat), (∀ i ∈ l, i.may = true ∧ i.x < 18446744073709551616) → xs.drop q = putB l ++ r → tks xs (l.map It.kind) acc q = some (acc ++ l.map It.valued, q + (putB l).length)
  | [], xs, r, acc, q, _, _ => by simp [tks, putB]
  | i :: l, xs, r, acc, q, h, hd => by
    have hi := h i (by simp)
    have e : putB (i :: l) = i.bytes ++ putB l := by simp [putB]
    rw [e, List.append_assoc] at hd
    simp only [List.map_cons, tks]
    rw [hd, tk_bytes i hi.1 hi.2]
    simp only
    rw [tks_put l xs r (acc ++ [i.valued]) (q + i.bytes.length) (fun j hj => h j (by simp [hj])) (by rw [← List.drop_drop, hd]; simp)]
    rw [e]
    simp
    omega

end Go.Proofs.Ytdbgbldmjgonjaa
