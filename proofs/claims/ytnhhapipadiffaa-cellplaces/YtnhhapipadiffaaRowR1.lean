/-
  Which row bytes are, by the document: what is read loosely is right, if it is written so. Nothing of the program.
-/
import Derived.Test.YtnhhapipadiffaaRowX
namespace Go.Proofs.Ytnhhapipadiffaa
open Go.RowKit
set_option linter.unusedVariables false

theorem tks_shift (xs : List Nat) (l0 : List It) (q0 : Nat) : ∀ (ks : List Int) (acc : List It) (q : Nat), tks xs ks (l0 ++ acc) (q0 + q) = (tks (xs.drop q0) ks acc q).map (fun r => (l0 ++ r.1, q0 + r.2))
  | [], acc, q => by simp [tks]
  | k :: ks, acc, q => by
    simp only [tks, List.drop_drop]
    cases tk (xs.drop (q0 + q)) k with
    | none => rfl
    | some r =>
      simp only
      have := tks_shift xs l0 q0 ks (acc ++ [r.1]) (q + r.2)
      rw [← List.append_assoc] at this
      rw [Nat.add_assoc]
      exact this

theorem tk_cntE {xs : List Nat} {k : Int} (hk : k = 1 ∨ k = 2 ∨ k = 3) {i : It} {n : Nat} (h : tk xs k = some (i, n)) : n = cntN k ∧ n ≤ xs.length ∧ i = ⟨k, numB (xs.take n), 0, noS⟩ ∧ (numB (xs.take n) : Int) ≤ maxN k := by
  rw [tk_cnt hk] at h
  split at h
  · split at h
    · simp only [Option.some.injEq, Prod.mk.injEq] at h
      obtain ⟨rfl, rfl⟩ := h
      exact ⟨rfl, by assumption, rfl, by assumption⟩
    · cases h
  · cases h

theorem tk_numE {xs : List Nat} {i : It} {n : Nat} (h : tk xs 4 = some (i, n)) : n = 8 ∧ 8 ≤ xs.length ∧ i = ⟨4, 0, numB (xs.take 8), noS⟩ ∧ Fl.val (numB (xs.take 8)) = numB (xs.take 8) := by
  simp only [tk, if_true] at h
  split at h
  · split at h
    · simp only [Option.some.injEq, Prod.mk.injEq] at h
      obtain ⟨rfl, rfl⟩ := h
      exact ⟨rfl, by assumption, rfl, by assumption⟩
    · cases h
  · cases h

theorem big_take {xs : List Nat} (hx : Bytes xs) (n : Nat) (h : n ≤ xs.length) : bigB (numB (xs.take n)) n = xs.take n := by
  have hb : Bytes (xs.take n) := fun x hh => hx x (List.mem_of_mem_take hh)
  have := bigB_numB hb
  rw [List.length_take, Nat.min_eq_left h] at this
  exact this

theorem tk_canon {xs : List Nat} (hx : Bytes xs) {k : Int} (hk : k = 1 ∨ k = 2 ∨ k = 3 ∨ k = 4) {i : It} {n : Nat} (h : tk xs k = some (i, n)) : i.bytes = xs.take n ∧ n ≤ xs.length := by
  by_cases h4 : k = 4
  · subst h4
    obtain ⟨rfl, hl, rfl, hv⟩ := tk_numE h
    refine ⟨?_, hl⟩
    simp only [It.bytes, show ¬ (4 : Int) = 1 by decide, show ¬ (4 : Int) = 2 by decide, show ¬ (4 : Int) = 3 by decide, if_false, if_true]
    rw [hv]
    exact big_take hx 8 hl
  · have hk' : k = 1 ∨ k = 2 ∨ k = 3 := by omega
    obtain ⟨hn, hl, rfl, _⟩ := tk_cntE hk' h
    refine ⟨?_, hl⟩
    have hb : It.bytes ⟨k, (numB (xs.take n) : Nat), 0, noS⟩ = bigB (numB (xs.take n)) (cntN k) := by
      rcases hk' with rfl | rfl | rfl <;> simp [It.bytes, cntN]
    rw [hb, ← hn]
    exact big_take hx n hl

theorem tks_canon {xs : List Nat} (hx : Bytes xs) : ∀ (ks : List Int) (l : List It) (q : Nat) (r : List It × Nat), (∀ k ∈ ks, k = 1 ∨ k = 2 ∨ k = 3 ∨ k = 4) → q ≤ xs.length → putB l = xs.take q → tks xs ks l q = some r → putB r.1 = xs.take r.2 ∧ r.2 ≤ xs.length
  | [], l, q, r, _, hq, hl, h => by
    simp only [tks, Option.some.injEq] at h
    rw [← h]
    exact ⟨hl, hq⟩
  | k :: ks, l, q, r, hk, hq, hl, h => by
    simp only [tks] at h
    split at h
    · cases h
    · rename_i i n hi
      have hb : Bytes (xs.drop q) := fun x hh => hx x (List.mem_of_mem_drop hh)
      have hc := tk_canon hb (hk k (by simp)) hi
      rw [List.length_drop] at hc
      refine tks_canon hx ks _ _ r (fun k' h' => hk k' (by simp [h'])) (by omega) ?_ h
      have e : putB (l ++ [i]) = putB l ++ i.bytes := by simp [putB]
      rw [e, hl, hc.1, List.take_add]

theorem headK_few : ∀ k ∈ headK, k = 1 ∨ k = 2 ∨ k = 3 ∨ k = 4 := by decide

/-- The items of a row's head, one by one. -/
theorem head_form {xs : List Nat} (hx : Bytes xs) {l : List It} {q : Nat} (h : tks xs headK [] 0 = some (l, q)) :
    q = 20 ∧ 20 ≤ xs.length ∧ ∃ (n0 k n2 n3 n4 : Nat), l = [⟨1, n0, 0, noS⟩, ⟨4, 0, k, noS⟩, ⟨3, n2, 0, noS⟩, ⟨2, n3, 0, noS⟩, ⟨3, n4, 0, noS⟩, ⟨1, (xs.getD 19 0 : Nat), 0, noS⟩] := by
  unfold headK at h
  simp only [tks, List.nil_append] at h
  cases h0 : tk (xs.drop 0) 1 with
  | none => rw [h0] at h; cases h
  | some r0 =>
  obtain ⟨i0, m0⟩ := r0
  rw [h0] at h
  simp only at h
  obtain ⟨rfl, l0, rfl, _⟩ := tk_cntE (.inl rfl) h0
  cases h1 : tk (xs.drop (0 + cntN 1)) 4 with
  | none => rw [h1] at h; cases h
  | some r1 =>
  obtain ⟨i1, m1⟩ := r1
  rw [h1] at h
  simp only at h
  obtain ⟨rfl, l1, rfl, _⟩ := tk_numE h1
  cases h2 : tk (xs.drop (0 + cntN 1 + 8)) 3 with
  | none => rw [h2] at h; cases h
  | some r2 =>
  obtain ⟨i2, m2⟩ := r2
  rw [h2] at h
  simp only at h
  obtain ⟨rfl, l2, rfl, _⟩ := tk_cntE (.inr (.inr rfl)) h2
  cases h3 : tk (xs.drop (0 + cntN 1 + 8 + cntN 3)) 2 with
  | none => rw [h3] at h; cases h
  | some r3 =>
  obtain ⟨i3, m3⟩ := r3
  rw [h3] at h
  simp only at h
  obtain ⟨rfl, l3, rfl, _⟩ := tk_cntE (.inr (.inl rfl)) h3
  cases h4 : tk (xs.drop (0 + cntN 1 + 8 + cntN 3 + cntN 2)) 3 with
  | none => rw [h4] at h; cases h
  | some r4 =>
  obtain ⟨i4, m4⟩ := r4
  rw [h4] at h
  simp only at h
  obtain ⟨rfl, l4, rfl, _⟩ := tk_cntE (.inr (.inr rfl)) h4
  cases h5 : tk (xs.drop (0 + cntN 1 + 8 + cntN 3 + cntN 2 + cntN 3)) 1 with
  | none => rw [h5] at h; cases h
  | some r5 =>
  obtain ⟨i5, m5⟩ := r5
  rw [h5] at h
  simp only at h
  obtain ⟨rfl, l5, rfl, _⟩ := tk_cntE (.inl rfl) h5
  simp only [Option.some.injEq, Prod.mk.injEq] at h
  obtain ⟨rfl, rfl⟩ := h
  have c1 : cntN 1 = 1 := rfl
  have c2 : cntN 2 = 2 := rfl
  have c3 : cntN 3 = 4 := rfl
  rw [List.length_drop, c1, c2, c3] at l5
  have e19 : numB ((xs.drop (0 + cntN 1 + 8 + cntN 3 + cntN 2 + cntN 3)).take (cntN 1)) = xs.getD 19 0 := by
    have h19 : 19 < xs.length := by omega
    have e1 : xs.drop 19 = xs[19] :: xs.drop 20 := List.drop_eq_getElem_cons h19
    have e2 : xs.getD 19 0 = xs[19] := by simp [List.getD, h19]
    show numB ((xs.drop 19).take 1) = xs.getD 19 0
    rw [e1, e2]
    show numB [xs[19]] = xs[19]
    simp [numB]
  refine ⟨by rw [c1, c2, c3], by omega, numB (List.take (cntN 1) (List.drop 0 xs)), numB (List.take 8 (List.drop (0 + cntN 1) xs)), numB (List.take (cntN 3) (List.drop (0 + cntN 1 + 8) xs)), numB (List.take (cntN 2) (List.drop (0 + cntN 1 + 8 + cntN 3) xs)), numB (List.take (cntN 3) (List.drop (0 + cntN 1 + 8 + cntN 3 + cntN 2) xs)), ?_⟩
  rw [e19]
  rfl

/-- The items of columns. -/
theorem cols_form {xs : List Nat} : ∀ (n : Nat) (l : List It) (q : Nat) (r : List It × Nat), (∃ ys : List Nat, l = ys.map numI) → tks xs (List.replicate n 4) l q = some r → ∃ ys : List Nat, r.1 = ys.map numI
  | 0, l, q, r, hl, h => by
    simp only [List.replicate_zero, tks, Option.some.injEq] at h
    rw [← h]
    exact hl
  | n + 1, l, q, r, ⟨ys, hl⟩, h => by
    simp only [List.replicate_succ, tks] at h
    split at h
    · cases h
    · rename_i i m hi
      obtain ⟨_, _, rfl, _⟩ := tk_numE hi
      refine cols_form n _ _ r ⟨ys ++ [numB (((xs.drop q)).take 8)], ?_⟩ h
      rw [hl]
      simp [numI]

theorem numI_x (ys : List Nat) : (ys.map numI).map It.x = ys := by
  rw [List.map_map]
  have : (It.x ∘ numI) = id := by funext x; rfl
  rw [this, List.map_id]

/-- A row that bytes are has these bytes. -/
theorem dec_canon {xs : List Nat} (hx : Bytes xs) {r : Rw} (h : decB xs = some r) : r.bytes = xs := by
  unfold decB at h
  split at h
  · cases h
  · rename_i l q h1
    split at h
    · cases h
    · rename_i m q2 h2
      split at h
      · cases h
      · rename_i hno
        simp only [Option.some.injEq] at h
        subst h
        have hn1 : ¬ q + q2 < xs.length := fun h => hno (.inl h)
        have hn2 : ¬ 1 < (l.getD 0 itD).n := fun h => hno (.inr (.inl h))
        obtain ⟨rfl, hl20, n0, k, n2, n3, n4, rfl⟩ := head_form hx h1
        have hc1 := tks_canon hx headK [] 0 _ headK_few (Nat.zero_le _) (by simp [putB]) h1
        have hb : Bytes (xs.drop 20) := fun x hh => hx x (List.mem_of_mem_drop hh)
        have hc2 := tks_canon hb _ [] 0 _ (fun k hk => by rw [(List.mem_replicate.1 hk).2]; decide) (Nat.zero_le _) (by simp [putB]) h2
        obtain ⟨ys, hys⟩ := cols_form _ [] 0 _ ⟨[], rfl⟩ h2
        have hml : m.length = xs.getD 19 0 := by
          have := tks_len _ _ _ _ _ h2
          simpa using this
        simp only at hys hc1 hc2
        subst hys
        simp only [List.getD_cons_zero] at hn2
        have hd : (if ((n0 : Int) != 0) = true then (1 : Int) else 0) = (n0 : Int) := by
          have : n0 = 0 ∨ n0 = 1 := by omega
          rcases this with rfl | rfl <;> rfl
        have e : (rowOf [⟨1, n0, 0, noS⟩, ⟨4, 0, k, noS⟩, ⟨3, n2, 0, noS⟩, ⟨2, n3, 0, noS⟩, ⟨3, n4, 0, noS⟩, ⟨1, (xs.getD 19 0 : Nat), 0, noS⟩] (ys.map numI)).items = [⟨1, n0, 0, noS⟩, ⟨4, 0, k, noS⟩, ⟨3, n2, 0, noS⟩, ⟨2, n3, 0, noS⟩, ⟨3, n4, 0, noS⟩, ⟨1, (xs.getD 19 0 : Nat), 0, noS⟩] ++ ys.map numI := by
          rw [List.length_map] at hml
          unfold Rw.items Rw.head rowOf
          simp only [numI_x, hml]
          show [_, _, _, _, _, _] ++ _ = _
          congr 1
          congr 1
          show (⟨1, if ((n0 : Int) != 0) = true then 1 else 0, 0, noS⟩ : It) = ⟨1, n0, 0, noS⟩
          rw [hd]
        unfold Rw.bytes
        rw [e, putB_append, hc1.1, hc2.1, ← List.take_add, List.take_of_length_le (by omega)]

/-- The row as the document reads it. -/
def rowOf' (l m : List It) : Rw := ⟨(l.getD 1 itD).x, (l.getD 0 itD).n == 1, m.map It.x, (l.getD 2 itD).n, (l.getD 3 itD).n, (l.getD 4 itD).n⟩

theorem dec_short {xs : List Nat} (hx : Bytes xs) (h : xs.length < 20) : decB xs = none := by
  unfold decB
  cases h1 : tks xs headK [] 0 with
  | none => rfl
  | some r => have := (head_form hx h1).2.1; omega

theorem dec_many {xs : List Nat} (hx : Bytes xs) (h : 4 < xs.getD 19 0) : decB xs = none := by
  unfold decB
  cases h1 : tks xs headK [] 0 with
  | none => rfl
  | some r =>
    obtain ⟨l, q⟩ := r
    obtain ⟨rfl, _, n0, k, n2, n3, n4, rfl⟩ := head_form hx h1
    simp only
    split
    · rfl
    · rename_i m q2 h2
      rw [if_pos]
      refine .inr (.inr ?_)
      have hml : m.length = xs.getD 19 0 := by
        have := tks_len _ _ _ _ _ h2
        simpa using this
      cases hm : (rowOf [⟨1, n0, 0, noS⟩, ⟨4, 0, k, noS⟩, ⟨3, n2, 0, noS⟩, ⟨2, n3, 0, noS⟩, ⟨3, n4, 0, noS⟩, ⟨1, (xs.getD 19 0 : Nat), 0, noS⟩] m).may
      · rfl
      · have := (Rw.may_parts hm).2.1
        simp only [rowOf, List.length_map] at this
        omega

theorem dec_none {xs : List Nat} (hx : Bytes xs) (h : tks xs (headK ++ List.replicate (xs.getD 19 0) 4) [] 0 = none) : decB xs = none := by
  rw [tks_append] at h
  unfold decB
  cases h1 : tks xs headK [] 0 with
  | none => rfl
  | some r =>
    obtain ⟨l, q⟩ := r
    rw [h1] at h
    obtain ⟨rfl, _, n0, k, n2, n3, n4, rfl⟩ := head_form hx h1
    simp only at h ⊢
    have hs := tks_shift xs [⟨1, n0, 0, noS⟩, ⟨4, 0, k, noS⟩, ⟨3, n2, 0, noS⟩, ⟨2, n3, 0, noS⟩, ⟨3, n4, 0, noS⟩, ⟨1, (xs.getD 19 0 : Nat), 0, noS⟩] 20 (List.replicate (xs.getD 19 0) 4) [] 0
    rw [List.append_nil, Nat.add_zero, h] at hs
    have h2 : tks (xs.drop 20) (List.replicate (xs.getD 19 0) 4) [] 0 = none := by
      cases h2 : tks (xs.drop 20) (List.replicate (xs.getD 19 0) 4) [] 0 with
      | none => rfl
      | some r => rw [h2] at hs; cases hs
    have e : (((([⟨1, n0, 0, noS⟩, ⟨4, 0, k, noS⟩, ⟨3, n2, 0, noS⟩, ⟨2, n3, 0, noS⟩, ⟨3, n4, 0, noS⟩, ⟨1, (xs.getD 19 0 : Nat), 0, noS⟩] : List It).getD 5 itD).n).toNat) = xs.getD 19 0 := by
      show (((xs.getD 19 0 : Nat) : Int)).toNat = _
      simp
    rw [e, h2]

theorem dec_some {xs : List Nat} (hx : Bytes xs) {L : List It} {Q : Nat} (h : tks xs (headK ++ List.replicate (xs.getD 19 0) 4) [] 0 = some (L, Q)) :
    L.length = 6 + xs.getD 19 0 ∧ ∃ m, L.drop 6 = m ∧
      ((rowOf' L m).may = true → (rowOf' L m).fits → (rowOf' L m).bytes = xs → decB xs = some (rowOf' L m)) ∧
      (¬ ((rowOf' L m).may = true ∧ (rowOf' L m).bytes = xs) → decB xs = none) := by
  have hlen := tks_len _ _ _ _ _ h
  refine ⟨by simp [headK] at hlen ⊢; omega, _, rfl, fun hm hf hb => ?_, fun hno => ?_⟩
  · have := dec_bytes hm hf
    rw [hb] at this
    exact this
  · cases hd : decB xs with
    | none => rfl
    | some r =>
      exfalso
      apply hno
      have hcan := dec_canon hx hd
      rw [tks_append] at h
      unfold decB at hd
      cases h1 : tks xs headK [] 0 with
      | none => rw [h1] at h; cases h
      | some r1 =>
        obtain ⟨l, q⟩ := r1
        rw [h1] at h hd
        obtain ⟨rfl, _, n0, k, n2, n3, n4, rfl⟩ := head_form hx h1
        simp only at h hd
        have hs := tks_shift xs [⟨1, n0, 0, noS⟩, ⟨4, 0, k, noS⟩, ⟨3, n2, 0, noS⟩, ⟨2, n3, 0, noS⟩, ⟨3, n4, 0, noS⟩, ⟨1, (xs.getD 19 0 : Nat), 0, noS⟩] 20 (List.replicate (xs.getD 19 0) 4) [] 0
        rw [List.append_nil, Nat.add_zero, h] at hs
        have e : (((([⟨1, n0, 0, noS⟩, ⟨4, 0, k, noS⟩, ⟨3, n2, 0, noS⟩, ⟨2, n3, 0, noS⟩, ⟨3, n4, 0, noS⟩, ⟨1, (xs.getD 19 0 : Nat), 0, noS⟩] : List It).getD 5 itD).n).toNat) = xs.getD 19 0 := by
          show (((xs.getD 19 0 : Nat) : Int)).toNat = _
          simp
        rw [e] at hd
        cases h2 : tks (xs.drop 20) (List.replicate (xs.getD 19 0) 4) [] 0 with
        | none => rw [h2] at hs; cases hs
        | some s =>
          obtain ⟨m, q2⟩ := s
          rw [h2] at hs hd
          simp only [Option.map_some, Option.some.injEq, Prod.mk.injEq] at hs
          obtain ⟨rfl, rfl⟩ := hs
          simp only at hd
          split at hd
          · cases hd
          · rename_i hc
            simp only [Option.some.injEq] at hd
            have hn2 : ¬ (1 : Int) < (n0 : Int) := fun h => hc (.inr (.inl h))
            have hmay : (rowOf [⟨1, n0, 0, noS⟩, ⟨4, 0, k, noS⟩, ⟨3, n2, 0, noS⟩, ⟨2, n3, 0, noS⟩, ⟨3, n4, 0, noS⟩, ⟨1, (xs.getD 19 0 : Nat), 0, noS⟩] m).may = true := by
              cases hm : (rowOf [⟨1, n0, 0, noS⟩, ⟨4, 0, k, noS⟩, ⟨3, n2, 0, noS⟩, ⟨2, n3, 0, noS⟩, ⟨3, n4, 0, noS⟩, ⟨1, (xs.getD 19 0 : Nat), 0, noS⟩] m).may
              · exact absurd (.inr (.inr hm)) hc
              · rfl
            have hrow : rowOf' ([⟨1, n0, 0, noS⟩, ⟨4, 0, k, noS⟩, ⟨3, n2, 0, noS⟩, ⟨2, n3, 0, noS⟩, ⟨3, n4, 0, noS⟩, ⟨1, (xs.getD 19 0 : Nat), 0, noS⟩] ++ m) ((([⟨1, n0, 0, noS⟩, ⟨4, 0, k, noS⟩, ⟨3, n2, 0, noS⟩, ⟨2, n3, 0, noS⟩, ⟨3, n4, 0, noS⟩, ⟨1, (xs.getD 19 0 : Nat), 0, noS⟩] : List It) ++ m).drop 6) = rowOf [⟨1, n0, 0, noS⟩, ⟨4, 0, k, noS⟩, ⟨3, n2, 0, noS⟩, ⟨2, n3, 0, noS⟩, ⟨3, n4, 0, noS⟩, ⟨1, (xs.getD 19 0 : Nat), 0, noS⟩] m := by
              have hd0 : ((n0 : Int) == 1) = ((n0 : Int) != 0) := by
                have : n0 = 0 ∨ n0 = 1 := by omega
                rcases this with rfl | rfl <;> rfl
              show (⟨k, (n0 : Int) == 1, m.map It.x, n2, n3, n4⟩ : Rw) = ⟨k, (n0 : Int) != 0, m.map It.x, n2, n3, n4⟩
              rw [hd0]
            rw [hrow]
            exact ⟨hmay, by rw [hd]; exact hcan⟩

theorem rowOf'_fits {L : List It} (hl : ∀ i ∈ L, i.fits) (h6 : 6 ≤ L.length) : (rowOf' L (L.drop 6)).fits := by
  have g : ∀ j, j < 6 → (L.getD j itD).fits := fun j hj => by
    have hj' : j < L.length := by omega
    have := hl _ (List.getElem_mem hj')
    simpa [List.getD, hj'] using this
  refine ⟨(g 1 (by omega)).2.2.1, ?_, (g 2 (by omega)).2.1, (g 3 (by omega)).2.1, (g 4 (by omega)).2.1⟩
  intro x hx
  obtain ⟨i, hi, rfl⟩ := List.mem_map.1 hx
  exact (hl i (List.mem_of_mem_drop hi)).2.2.1

end Go.Proofs.Ytnhhapipadiffaa
