/-
  The law of places: its walk, over the contracts.
-/
import Derived.Test.YtnhhapipadiffaaCeG
namespace Go.Proofs.Ytnhhapipadiffaa
open Go.RowKit

theorem pl_in (p k : Int) (hp : 0 ≤ p) (hk : 0 ≤ k) (hk5 : k ≤ 5) (h : 6 * p + k ≤ 65534) : plP (6 * p + k + 1) = p ∧ plA (6 * p + k + 1) = k ∧ nuC p k = 6 * p + k + 1 := by
  unfold plP plA nuC
  rw [if_pos (by omega), if_pos (by omega), if_pos (by omega)]
  omega

theorem pl_form (n : Int) (h1 : 1 ≤ n) (h2 : n ≤ 65535) : ∃ p k : Int, 0 ≤ p ∧ p ≤ 10922 ∧ 0 ≤ k ∧ k ≤ 5 ∧ 6 * p + k ≤ 65534 ∧ n = 6 * p + k + 1 :=
  ⟨(n - 1) / 6, (n - 1) % 6, by omega, by omega, by omega, by omega, by omega, by omega⟩

set_option maxHeartbeats 4000000 in
set_option maxRecDepth 100000 in
theorem plc_ik (HPla : PlaC) (HNu : NuC) (HA : ∀ w, Calls Try.prog 7 #[] w fun e w' => e = .returned (.bool true) ∧ Below w.heap.size w w') (q k : Int) (hq : 0 ≤ q) (hq2 : q ≤ 10922) (hk : 0 ≤ k) (hk5 : k ≤ 5) (hqk : 6 * q + k ≤ 65534) (p a : Int) (hp : 0 ≤ p) (hp2 : p ≤ 10922) (ha : 0 ≤ a) (ha5 : a ≤ 5) (hpa : 6 * p + a ≤ 65534) (w : World) :
    Calls Try.prog 5 #[.int .i64 (6 * q + k + 1), .int .i64 p, .int .i64 a] w fun e w' => e = .returned (.bool true) ∧ Below w.heap.size w w' := by
  have HAW := hide HA
  have hpl := pl_in q k hq hk hk5 hqk
  have HP1 : Hid (∀ w', Calls Try.prog 14 #[.int .i64 (6 * q + k + 1)] w' fun e w'' => e = .returned (.tuple #[.int .i64 q, .int .i64 k]) ∧ Below w'.heap.size w' w'') := fun w' => by
    have := HPla (6 * q + k + 1) w' (by omega)
    rw [hpl.1, hpl.2.1] at this
    exact this
  have HN1 : Hid (∀ w', Calls Try.prog 15 #[.int .i64 q, .int .i64 k] w' fun e w'' => e = .returned (.int .i64 (6 * q + k + 1)) ∧ Below w'.heap.size w' w'') := fun w' => by
    have := HNu q k w' (by omega) (by omega)
    rw [hpl.2.2] at this
    exact this
  have i1 : ¬ 6 * q + k + 1 < 1 := by omega
  have i2 : ¬ 65535 < 6 * q + k + 1 := by omega
  have i3 : ¬ k < 0 := by omega
  have i4 : ¬ 5 < k := by omega
  clear hpl
  have hpl := pl_in p a hp ha ha5 hpa
  have HP2 : Hid (∀ w', Calls Try.prog 14 #[.int .i64 (6 * p + a + 1)] w' fun e w'' => e = .returned (.tuple #[.int .i64 p, .int .i64 a]) ∧ Below w'.heap.size w' w'') := fun w' => by
    have := HPla (6 * p + a + 1) w' (by omega)
    rw [hpl.1, hpl.2.1] at this
    exact this
  have HN2 : Hid (∀ w', Calls Try.prog 15 #[.int .i64 p, .int .i64 a] w' fun e w'' => e = .returned (.int .i64 (6 * p + a + 1)) ∧ Below w'.heap.size w' w'') := fun w' => by
    have := HNu p a w' (by omega) (by omega)
    rw [hpl.2.2] at this
    exact this
  have c1 : ¬ p < 0 := by omega
  have c2 : ¬ 10922 < p := by omega
  have c3 : ¬ a < 0 := by omega
  have c4 : ¬ 5 < a := by omega
  have c5 : ¬ 65534 < 6 * p + a := by omega
  clear hpl
  clear HPla HNu HA
  go_enter Try.func5, Try.ntmps5
  go_wp2_with fail
  refine (HP1.out _).mono ?_
  rintro e w1 ⟨rfl, hb1⟩
  have HW1 := hide hb1
  clear hb1
  go_wp2_with fail
  refine (HN1.out _).mono ?_
  rintro e w2 ⟨rfl, hb2⟩
  have HW2 := hide (rBelow HW1.out hb2)
  clear hb2
  go_wp2_with fail
  refine (HN2.out _).mono ?_
  rintro e w3 ⟨rfl, hb3⟩
  have HW3 := hide (rBelow HW2.out hb3)
  clear hb3
  go_wp2_with fail
  refine (HP2.out _).mono ?_
  rintro e w4 ⟨rfl, hb4⟩
  have HW4 := hide (rBelow HW3.out hb4)
  clear hb4
  go_wp2_with fail
  refine (HAW.out _).mono ?_
  rintro e w5 ⟨rfl, hb5⟩
  have HW5 := hide (rBelow HW4.out hb5)
  clear hb5
  go_wp2_with fail
  go_ret
  exact ⟨by simp, HW5.out⟩

set_option maxHeartbeats 4000000 in
set_option maxRecDepth 100000 in
theorem plc_i0 (HPla : PlaC) (HNu : NuC) (HA : ∀ w, Calls Try.prog 7 #[] w fun e w' => e = .returned (.bool true) ∧ Below w.heap.size w w') (q k : Int) (hq : 0 ≤ q) (hq2 : q ≤ 10922) (hk : 0 ≤ k) (hk5 : k ≤ 5) (hqk : 6 * q + k ≤ 65534) (p a : Int) (hp0 : -9223372036854775808 ≤ p ∧ p ≤ 9223372036854775807) (ha0 : -9223372036854775808 ≤ a ∧ a ≤ 9223372036854775807)  (gg : p < 0) (w : World) :
    Calls Try.prog 5 #[.int .i64 (6 * q + k + 1), .int .i64 p, .int .i64 a] w fun e w' => e = .returned (.bool true) ∧ Below w.heap.size w w' := by
  have HAW := hide HA
  have hpl := pl_in q k hq hk hk5 hqk
  have HP1 : Hid (∀ w', Calls Try.prog 14 #[.int .i64 (6 * q + k + 1)] w' fun e w'' => e = .returned (.tuple #[.int .i64 q, .int .i64 k]) ∧ Below w'.heap.size w' w'') := fun w' => by
    have := HPla (6 * q + k + 1) w' (by omega)
    rw [hpl.1, hpl.2.1] at this
    exact this
  have HN1 : Hid (∀ w', Calls Try.prog 15 #[.int .i64 q, .int .i64 k] w' fun e w'' => e = .returned (.int .i64 (6 * q + k + 1)) ∧ Below w'.heap.size w' w'') := fun w' => by
    have := HNu q k w' (by omega) (by omega)
    rw [hpl.2.2] at this
    exact this
  have i1 : ¬ 6 * q + k + 1 < 1 := by omega
  have i2 : ¬ 65535 < 6 * q + k + 1 := by omega
  have i3 : ¬ k < 0 := by omega
  have i4 : ¬ 5 < k := by omega
  clear hpl
  have hnu : nuC p a = 0 := if_neg (by omega)
  have HN2 : Hid (∀ w', Calls Try.prog 15 #[.int .i64 p, .int .i64 a] w' fun e w'' => e = .returned (.int .i64 0) ∧ Below w'.heap.size w' w'') := fun w' => by
    have := HNu p a w' hp0 ha0
    rw [hnu] at this
    exact this
  clear hnu
  clear HPla HNu HA
  go_enter Try.func5, Try.ntmps5
  go_wp2_with fail
  refine (HP1.out _).mono ?_
  rintro e w1 ⟨rfl, hb1⟩
  have HW1 := hide hb1
  clear hb1
  go_wp2_with fail
  refine (HN1.out _).mono ?_
  rintro e w2 ⟨rfl, hb2⟩
  have HW2 := hide (rBelow HW1.out hb2)
  clear hb2
  go_wp2_with fail
  refine (HN2.out _).mono ?_
  rintro e w3 ⟨rfl, hb3⟩
  have HW3 := hide (rBelow HW2.out hb3)
  clear hb3
  go_wp2_with fail
  refine (HAW.out _).mono ?_
  rintro e w5 ⟨rfl, hb5⟩
  have HW5 := hide (rBelow HW3.out hb5)
  clear hb5
  go_wp2_with fail
  go_ret
  exact ⟨by simp, HW5.out⟩

set_option maxHeartbeats 4000000 in
set_option maxRecDepth 100000 in
theorem plc_i1 (HPla : PlaC) (HNu : NuC) (HA : ∀ w, Calls Try.prog 7 #[] w fun e w' => e = .returned (.bool true) ∧ Below w.heap.size w w') (q k : Int) (hq : 0 ≤ q) (hq2 : q ≤ 10922) (hk : 0 ≤ k) (hk5 : k ≤ 5) (hqk : 6 * q + k ≤ 65534) (p a : Int) (hp0 : -9223372036854775808 ≤ p ∧ p ≤ 9223372036854775807) (ha0 : -9223372036854775808 ≤ a ∧ a ≤ 9223372036854775807) (g0 : ¬ p < 0) (gg : 10922 < p) (w : World) :
    Calls Try.prog 5 #[.int .i64 (6 * q + k + 1), .int .i64 p, .int .i64 a] w fun e w' => e = .returned (.bool true) ∧ Below w.heap.size w w' := by
  have HAW := hide HA
  have hpl := pl_in q k hq hk hk5 hqk
  have HP1 : Hid (∀ w', Calls Try.prog 14 #[.int .i64 (6 * q + k + 1)] w' fun e w'' => e = .returned (.tuple #[.int .i64 q, .int .i64 k]) ∧ Below w'.heap.size w' w'') := fun w' => by
    have := HPla (6 * q + k + 1) w' (by omega)
    rw [hpl.1, hpl.2.1] at this
    exact this
  have HN1 : Hid (∀ w', Calls Try.prog 15 #[.int .i64 q, .int .i64 k] w' fun e w'' => e = .returned (.int .i64 (6 * q + k + 1)) ∧ Below w'.heap.size w' w'') := fun w' => by
    have := HNu q k w' (by omega) (by omega)
    rw [hpl.2.2] at this
    exact this
  have i1 : ¬ 6 * q + k + 1 < 1 := by omega
  have i2 : ¬ 65535 < 6 * q + k + 1 := by omega
  have i3 : ¬ k < 0 := by omega
  have i4 : ¬ 5 < k := by omega
  clear hpl
  have hnu : nuC p a = 0 := if_neg (by omega)
  have HN2 : Hid (∀ w', Calls Try.prog 15 #[.int .i64 p, .int .i64 a] w' fun e w'' => e = .returned (.int .i64 0) ∧ Below w'.heap.size w' w'') := fun w' => by
    have := HNu p a w' hp0 ha0
    rw [hnu] at this
    exact this
  clear hnu
  clear HPla HNu HA
  go_enter Try.func5, Try.ntmps5
  go_wp2_with fail
  refine (HP1.out _).mono ?_
  rintro e w1 ⟨rfl, hb1⟩
  have HW1 := hide hb1
  clear hb1
  go_wp2_with fail
  refine (HN1.out _).mono ?_
  rintro e w2 ⟨rfl, hb2⟩
  have HW2 := hide (rBelow HW1.out hb2)
  clear hb2
  go_wp2_with fail
  refine (HN2.out _).mono ?_
  rintro e w3 ⟨rfl, hb3⟩
  have HW3 := hide (rBelow HW2.out hb3)
  clear hb3
  go_wp2_with fail
  refine (HAW.out _).mono ?_
  rintro e w5 ⟨rfl, hb5⟩
  have HW5 := hide (rBelow HW3.out hb5)
  clear hb5
  go_wp2_with fail
  go_ret
  exact ⟨by simp, HW5.out⟩

set_option maxHeartbeats 4000000 in
set_option maxRecDepth 100000 in
theorem plc_i2 (HPla : PlaC) (HNu : NuC) (HA : ∀ w, Calls Try.prog 7 #[] w fun e w' => e = .returned (.bool true) ∧ Below w.heap.size w w') (q k : Int) (hq : 0 ≤ q) (hq2 : q ≤ 10922) (hk : 0 ≤ k) (hk5 : k ≤ 5) (hqk : 6 * q + k ≤ 65534) (p a : Int) (hp0 : -9223372036854775808 ≤ p ∧ p ≤ 9223372036854775807) (ha0 : -9223372036854775808 ≤ a ∧ a ≤ 9223372036854775807) (g0 : ¬ p < 0) (g1 : ¬ 10922 < p) (gg : a < 0) (w : World) :
    Calls Try.prog 5 #[.int .i64 (6 * q + k + 1), .int .i64 p, .int .i64 a] w fun e w' => e = .returned (.bool true) ∧ Below w.heap.size w w' := by
  have HAW := hide HA
  have hpl := pl_in q k hq hk hk5 hqk
  have HP1 : Hid (∀ w', Calls Try.prog 14 #[.int .i64 (6 * q + k + 1)] w' fun e w'' => e = .returned (.tuple #[.int .i64 q, .int .i64 k]) ∧ Below w'.heap.size w' w'') := fun w' => by
    have := HPla (6 * q + k + 1) w' (by omega)
    rw [hpl.1, hpl.2.1] at this
    exact this
  have HN1 : Hid (∀ w', Calls Try.prog 15 #[.int .i64 q, .int .i64 k] w' fun e w'' => e = .returned (.int .i64 (6 * q + k + 1)) ∧ Below w'.heap.size w' w'') := fun w' => by
    have := HNu q k w' (by omega) (by omega)
    rw [hpl.2.2] at this
    exact this
  have i1 : ¬ 6 * q + k + 1 < 1 := by omega
  have i2 : ¬ 65535 < 6 * q + k + 1 := by omega
  have i3 : ¬ k < 0 := by omega
  have i4 : ¬ 5 < k := by omega
  clear hpl
  have hnu : nuC p a = 0 := if_neg (by omega)
  have HN2 : Hid (∀ w', Calls Try.prog 15 #[.int .i64 p, .int .i64 a] w' fun e w'' => e = .returned (.int .i64 0) ∧ Below w'.heap.size w' w'') := fun w' => by
    have := HNu p a w' hp0 ha0
    rw [hnu] at this
    exact this
  clear hnu
  clear HPla HNu HA
  go_enter Try.func5, Try.ntmps5
  go_wp2_with fail
  refine (HP1.out _).mono ?_
  rintro e w1 ⟨rfl, hb1⟩
  have HW1 := hide hb1
  clear hb1
  go_wp2_with fail
  refine (HN1.out _).mono ?_
  rintro e w2 ⟨rfl, hb2⟩
  have HW2 := hide (rBelow HW1.out hb2)
  clear hb2
  go_wp2_with fail
  refine (HN2.out _).mono ?_
  rintro e w3 ⟨rfl, hb3⟩
  have HW3 := hide (rBelow HW2.out hb3)
  clear hb3
  go_wp2_with fail
  refine (HAW.out _).mono ?_
  rintro e w5 ⟨rfl, hb5⟩
  have HW5 := hide (rBelow HW3.out hb5)
  clear hb5
  go_wp2_with fail
  go_ret
  exact ⟨by simp, HW5.out⟩

set_option maxHeartbeats 4000000 in
set_option maxRecDepth 100000 in
theorem plc_i3 (HPla : PlaC) (HNu : NuC) (HA : ∀ w, Calls Try.prog 7 #[] w fun e w' => e = .returned (.bool true) ∧ Below w.heap.size w w') (q k : Int) (hq : 0 ≤ q) (hq2 : q ≤ 10922) (hk : 0 ≤ k) (hk5 : k ≤ 5) (hqk : 6 * q + k ≤ 65534) (p a : Int) (hp0 : -9223372036854775808 ≤ p ∧ p ≤ 9223372036854775807) (ha0 : -9223372036854775808 ≤ a ∧ a ≤ 9223372036854775807) (g0 : ¬ p < 0) (g1 : ¬ 10922 < p) (g2 : ¬ a < 0) (gg : 5 < a) (w : World) :
    Calls Try.prog 5 #[.int .i64 (6 * q + k + 1), .int .i64 p, .int .i64 a] w fun e w' => e = .returned (.bool true) ∧ Below w.heap.size w w' := by
  have HAW := hide HA
  have hpl := pl_in q k hq hk hk5 hqk
  have HP1 : Hid (∀ w', Calls Try.prog 14 #[.int .i64 (6 * q + k + 1)] w' fun e w'' => e = .returned (.tuple #[.int .i64 q, .int .i64 k]) ∧ Below w'.heap.size w' w'') := fun w' => by
    have := HPla (6 * q + k + 1) w' (by omega)
    rw [hpl.1, hpl.2.1] at this
    exact this
  have HN1 : Hid (∀ w', Calls Try.prog 15 #[.int .i64 q, .int .i64 k] w' fun e w'' => e = .returned (.int .i64 (6 * q + k + 1)) ∧ Below w'.heap.size w' w'') := fun w' => by
    have := HNu q k w' (by omega) (by omega)
    rw [hpl.2.2] at this
    exact this
  have i1 : ¬ 6 * q + k + 1 < 1 := by omega
  have i2 : ¬ 65535 < 6 * q + k + 1 := by omega
  have i3 : ¬ k < 0 := by omega
  have i4 : ¬ 5 < k := by omega
  clear hpl
  have hnu : nuC p a = 0 := if_neg (by omega)
  have HN2 : Hid (∀ w', Calls Try.prog 15 #[.int .i64 p, .int .i64 a] w' fun e w'' => e = .returned (.int .i64 0) ∧ Below w'.heap.size w' w'') := fun w' => by
    have := HNu p a w' hp0 ha0
    rw [hnu] at this
    exact this
  clear hnu
  clear HPla HNu HA
  go_enter Try.func5, Try.ntmps5
  go_wp2_with fail
  refine (HP1.out _).mono ?_
  rintro e w1 ⟨rfl, hb1⟩
  have HW1 := hide hb1
  clear hb1
  go_wp2_with fail
  refine (HN1.out _).mono ?_
  rintro e w2 ⟨rfl, hb2⟩
  have HW2 := hide (rBelow HW1.out hb2)
  clear hb2
  go_wp2_with fail
  refine (HN2.out _).mono ?_
  rintro e w3 ⟨rfl, hb3⟩
  have HW3 := hide (rBelow HW2.out hb3)
  clear hb3
  go_wp2_with fail
  refine (HAW.out _).mono ?_
  rintro e w5 ⟨rfl, hb5⟩
  have HW5 := hide (rBelow HW3.out hb5)
  clear hb5
  go_wp2_with fail
  go_ret
  exact ⟨by simp, HW5.out⟩

set_option maxHeartbeats 4000000 in
set_option maxRecDepth 100000 in
theorem plc_i4 (HPla : PlaC) (HNu : NuC) (HA : ∀ w, Calls Try.prog 7 #[] w fun e w' => e = .returned (.bool true) ∧ Below w.heap.size w w') (q k : Int) (hq : 0 ≤ q) (hq2 : q ≤ 10922) (hk : 0 ≤ k) (hk5 : k ≤ 5) (hqk : 6 * q + k ≤ 65534) (p a : Int) (hp0 : -9223372036854775808 ≤ p ∧ p ≤ 9223372036854775807) (ha0 : -9223372036854775808 ≤ a ∧ a ≤ 9223372036854775807) (g0 : ¬ p < 0) (g1 : ¬ 10922 < p) (g2 : ¬ a < 0) (g3 : ¬ 5 < a) (gg : 65534 < 6 * p + a) (w : World) :
    Calls Try.prog 5 #[.int .i64 (6 * q + k + 1), .int .i64 p, .int .i64 a] w fun e w' => e = .returned (.bool true) ∧ Below w.heap.size w w' := by
  have HAW := hide HA
  have hpl := pl_in q k hq hk hk5 hqk
  have HP1 : Hid (∀ w', Calls Try.prog 14 #[.int .i64 (6 * q + k + 1)] w' fun e w'' => e = .returned (.tuple #[.int .i64 q, .int .i64 k]) ∧ Below w'.heap.size w' w'') := fun w' => by
    have := HPla (6 * q + k + 1) w' (by omega)
    rw [hpl.1, hpl.2.1] at this
    exact this
  have HN1 : Hid (∀ w', Calls Try.prog 15 #[.int .i64 q, .int .i64 k] w' fun e w'' => e = .returned (.int .i64 (6 * q + k + 1)) ∧ Below w'.heap.size w' w'') := fun w' => by
    have := HNu q k w' (by omega) (by omega)
    rw [hpl.2.2] at this
    exact this
  have i1 : ¬ 6 * q + k + 1 < 1 := by omega
  have i2 : ¬ 65535 < 6 * q + k + 1 := by omega
  have i3 : ¬ k < 0 := by omega
  have i4 : ¬ 5 < k := by omega
  clear hpl
  have hnu : nuC p a = 0 := if_neg (by omega)
  have HN2 : Hid (∀ w', Calls Try.prog 15 #[.int .i64 p, .int .i64 a] w' fun e w'' => e = .returned (.int .i64 0) ∧ Below w'.heap.size w' w'') := fun w' => by
    have := HNu p a w' hp0 ha0
    rw [hnu] at this
    exact this
  clear hnu
  clear HPla HNu HA
  go_enter Try.func5, Try.ntmps5
  go_wp2_with fail
  refine (HP1.out _).mono ?_
  rintro e w1 ⟨rfl, hb1⟩
  have HW1 := hide hb1
  clear hb1
  go_wp2_with fail
  refine (HN1.out _).mono ?_
  rintro e w2 ⟨rfl, hb2⟩
  have HW2 := hide (rBelow HW1.out hb2)
  clear hb2
  go_wp2_with fail
  refine (HN2.out _).mono ?_
  rintro e w3 ⟨rfl, hb3⟩
  have HW3 := hide (rBelow HW2.out hb3)
  clear hb3
  go_wp2_with fail
  refine (HAW.out _).mono ?_
  rintro e w5 ⟨rfl, hb5⟩
  have HW5 := hide (rBelow HW3.out hb5)
  clear hb5
  go_wp2_with fail
  go_ret
  exact ⟨by simp, HW5.out⟩

set_option maxHeartbeats 4000000 in
set_option maxRecDepth 100000 in
theorem plc_ok (HPla : PlaC) (HNu : NuC) (HA : ∀ w, Calls Try.prog 7 #[] w fun e w' => e = .returned (.bool true) ∧ Below w.heap.size w w') (n : Int) (hn : n < 1 ∨ 65535 < n) (hn0 : -9223372036854775808 ≤ n ∧ n ≤ 9223372036854775807) (p a : Int) (hp : 0 ≤ p) (hp2 : p ≤ 10922) (ha : 0 ≤ a) (ha5 : a ≤ 5) (hpa : 6 * p + a ≤ 65534) (w : World) :
    Calls Try.prog 5 #[.int .i64 (n), .int .i64 p, .int .i64 a] w fun e w' => e = .returned (.bool true) ∧ Below w.heap.size w w' := by
  have HAW := hide HA
  have e1 : plP n = -1 := if_neg (by omega)
  have e2 : plA n = -1 := if_neg (by omega)
  have HP1 : Hid (∀ w', Calls Try.prog 14 #[.int .i64 n] w' fun e w'' => e = .returned (.tuple #[.int .i64 (-1), .int .i64 (-1)]) ∧ Below w'.heap.size w' w'') := fun w' => by
    have := HPla n w' hn0
    rw [e1, e2] at this
    exact this
  clear e1 e2
  have hpl := pl_in p a hp ha ha5 hpa
  have HP2 : Hid (∀ w', Calls Try.prog 14 #[.int .i64 (6 * p + a + 1)] w' fun e w'' => e = .returned (.tuple #[.int .i64 p, .int .i64 a]) ∧ Below w'.heap.size w' w'') := fun w' => by
    have := HPla (6 * p + a + 1) w' (by omega)
    rw [hpl.1, hpl.2.1] at this
    exact this
  have HN2 : Hid (∀ w', Calls Try.prog 15 #[.int .i64 p, .int .i64 a] w' fun e w'' => e = .returned (.int .i64 (6 * p + a + 1)) ∧ Below w'.heap.size w' w'') := fun w' => by
    have := HNu p a w' (by omega) (by omega)
    rw [hpl.2.2] at this
    exact this
  have c1 : ¬ p < 0 := by omega
  have c2 : ¬ 10922 < p := by omega
  have c3 : ¬ a < 0 := by omega
  have c4 : ¬ 5 < a := by omega
  have c5 : ¬ 65534 < 6 * p + a := by omega
  clear hpl
  clear HPla HNu HA
  by_cases n1 : n < 1
  · go_enter Try.func5, Try.ntmps5
    go_wp2_with fail
    refine (HP1.out _).mono ?_
    rintro e w1 ⟨rfl, hb1⟩
    have HW1 := hide hb1
    clear hb1
    go_wp2_with fail
    refine (HN2.out _).mono ?_
    rintro e w3 ⟨rfl, hb3⟩
    have HW3 := hide (rBelow HW1.out hb3)
    clear hb3
    go_wp2_with fail
    refine (HP2.out _).mono ?_
    rintro e w4 ⟨rfl, hb4⟩
    have HW4 := hide (rBelow HW3.out hb4)
    clear hb4
    go_wp2_with fail
    refine (HAW.out _).mono ?_
    rintro e w5 ⟨rfl, hb5⟩
    have HW5 := hide (rBelow HW4.out hb5)
    clear hb5
    go_wp2_with fail
    go_ret
    exact ⟨by simp, HW5.out⟩
  · have n2 : 65535 < n := by omega
    go_enter Try.func5, Try.ntmps5
    go_wp2_with fail
    refine (HP1.out _).mono ?_
    rintro e w1 ⟨rfl, hb1⟩
    have HW1 := hide hb1
    clear hb1
    go_wp2_with fail
    refine (HN2.out _).mono ?_
    rintro e w3 ⟨rfl, hb3⟩
    have HW3 := hide (rBelow HW1.out hb3)
    clear hb3
    go_wp2_with fail
    refine (HP2.out _).mono ?_
    rintro e w4 ⟨rfl, hb4⟩
    have HW4 := hide (rBelow HW3.out hb4)
    clear hb4
    go_wp2_with fail
    refine (HAW.out _).mono ?_
    rintro e w5 ⟨rfl, hb5⟩
    have HW5 := hide (rBelow HW4.out hb5)
    clear hb5
    go_wp2_with fail
    go_ret
    exact ⟨by simp, HW5.out⟩

set_option maxHeartbeats 4000000 in
set_option maxRecDepth 100000 in
theorem plc_o0 (HPla : PlaC) (HNu : NuC) (HA : ∀ w, Calls Try.prog 7 #[] w fun e w' => e = .returned (.bool true) ∧ Below w.heap.size w w') (n : Int) (hn : n < 1 ∨ 65535 < n) (hn0 : -9223372036854775808 ≤ n ∧ n ≤ 9223372036854775807) (p a : Int) (hp0 : -9223372036854775808 ≤ p ∧ p ≤ 9223372036854775807) (ha0 : -9223372036854775808 ≤ a ∧ a ≤ 9223372036854775807)  (gg : p < 0) (w : World) :
    Calls Try.prog 5 #[.int .i64 (n), .int .i64 p, .int .i64 a] w fun e w' => e = .returned (.bool true) ∧ Below w.heap.size w w' := by
  have HAW := hide HA
  have e1 : plP n = -1 := if_neg (by omega)
  have e2 : plA n = -1 := if_neg (by omega)
  have HP1 : Hid (∀ w', Calls Try.prog 14 #[.int .i64 n] w' fun e w'' => e = .returned (.tuple #[.int .i64 (-1), .int .i64 (-1)]) ∧ Below w'.heap.size w' w'') := fun w' => by
    have := HPla n w' hn0
    rw [e1, e2] at this
    exact this
  clear e1 e2
  have hnu : nuC p a = 0 := if_neg (by omega)
  have HN2 : Hid (∀ w', Calls Try.prog 15 #[.int .i64 p, .int .i64 a] w' fun e w'' => e = .returned (.int .i64 0) ∧ Below w'.heap.size w' w'') := fun w' => by
    have := HNu p a w' hp0 ha0
    rw [hnu] at this
    exact this
  clear hnu
  clear HPla HNu HA
  by_cases n1 : n < 1
  · go_enter Try.func5, Try.ntmps5
    go_wp2_with fail
    refine (HP1.out _).mono ?_
    rintro e w1 ⟨rfl, hb1⟩
    have HW1 := hide hb1
    clear hb1
    go_wp2_with fail
    refine (HN2.out _).mono ?_
    rintro e w3 ⟨rfl, hb3⟩
    have HW3 := hide (rBelow HW1.out hb3)
    clear hb3
    go_wp2_with fail
    refine (HAW.out _).mono ?_
    rintro e w5 ⟨rfl, hb5⟩
    have HW5 := hide (rBelow HW3.out hb5)
    clear hb5
    go_wp2_with fail
    go_ret
    exact ⟨by simp, HW5.out⟩
  · have n2 : 65535 < n := by omega
    go_enter Try.func5, Try.ntmps5
    go_wp2_with fail
    refine (HP1.out _).mono ?_
    rintro e w1 ⟨rfl, hb1⟩
    have HW1 := hide hb1
    clear hb1
    go_wp2_with fail
    refine (HN2.out _).mono ?_
    rintro e w3 ⟨rfl, hb3⟩
    have HW3 := hide (rBelow HW1.out hb3)
    clear hb3
    go_wp2_with fail
    refine (HAW.out _).mono ?_
    rintro e w5 ⟨rfl, hb5⟩
    have HW5 := hide (rBelow HW3.out hb5)
    clear hb5
    go_wp2_with fail
    go_ret
    exact ⟨by simp, HW5.out⟩

set_option maxHeartbeats 4000000 in
set_option maxRecDepth 100000 in
theorem plc_o1 (HPla : PlaC) (HNu : NuC) (HA : ∀ w, Calls Try.prog 7 #[] w fun e w' => e = .returned (.bool true) ∧ Below w.heap.size w w') (n : Int) (hn : n < 1 ∨ 65535 < n) (hn0 : -9223372036854775808 ≤ n ∧ n ≤ 9223372036854775807) (p a : Int) (hp0 : -9223372036854775808 ≤ p ∧ p ≤ 9223372036854775807) (ha0 : -9223372036854775808 ≤ a ∧ a ≤ 9223372036854775807) (g0 : ¬ p < 0) (gg : 10922 < p) (w : World) :
    Calls Try.prog 5 #[.int .i64 (n), .int .i64 p, .int .i64 a] w fun e w' => e = .returned (.bool true) ∧ Below w.heap.size w w' := by
  have HAW := hide HA
  have e1 : plP n = -1 := if_neg (by omega)
  have e2 : plA n = -1 := if_neg (by omega)
  have HP1 : Hid (∀ w', Calls Try.prog 14 #[.int .i64 n] w' fun e w'' => e = .returned (.tuple #[.int .i64 (-1), .int .i64 (-1)]) ∧ Below w'.heap.size w' w'') := fun w' => by
    have := HPla n w' hn0
    rw [e1, e2] at this
    exact this
  clear e1 e2
  have hnu : nuC p a = 0 := if_neg (by omega)
  have HN2 : Hid (∀ w', Calls Try.prog 15 #[.int .i64 p, .int .i64 a] w' fun e w'' => e = .returned (.int .i64 0) ∧ Below w'.heap.size w' w'') := fun w' => by
    have := HNu p a w' hp0 ha0
    rw [hnu] at this
    exact this
  clear hnu
  clear HPla HNu HA
  by_cases n1 : n < 1
  · go_enter Try.func5, Try.ntmps5
    go_wp2_with fail
    refine (HP1.out _).mono ?_
    rintro e w1 ⟨rfl, hb1⟩
    have HW1 := hide hb1
    clear hb1
    go_wp2_with fail
    refine (HN2.out _).mono ?_
    rintro e w3 ⟨rfl, hb3⟩
    have HW3 := hide (rBelow HW1.out hb3)
    clear hb3
    go_wp2_with fail
    refine (HAW.out _).mono ?_
    rintro e w5 ⟨rfl, hb5⟩
    have HW5 := hide (rBelow HW3.out hb5)
    clear hb5
    go_wp2_with fail
    go_ret
    exact ⟨by simp, HW5.out⟩
  · have n2 : 65535 < n := by omega
    go_enter Try.func5, Try.ntmps5
    go_wp2_with fail
    refine (HP1.out _).mono ?_
    rintro e w1 ⟨rfl, hb1⟩
    have HW1 := hide hb1
    clear hb1
    go_wp2_with fail
    refine (HN2.out _).mono ?_
    rintro e w3 ⟨rfl, hb3⟩
    have HW3 := hide (rBelow HW1.out hb3)
    clear hb3
    go_wp2_with fail
    refine (HAW.out _).mono ?_
    rintro e w5 ⟨rfl, hb5⟩
    have HW5 := hide (rBelow HW3.out hb5)
    clear hb5
    go_wp2_with fail
    go_ret
    exact ⟨by simp, HW5.out⟩

set_option maxHeartbeats 4000000 in
set_option maxRecDepth 100000 in
theorem plc_o2 (HPla : PlaC) (HNu : NuC) (HA : ∀ w, Calls Try.prog 7 #[] w fun e w' => e = .returned (.bool true) ∧ Below w.heap.size w w') (n : Int) (hn : n < 1 ∨ 65535 < n) (hn0 : -9223372036854775808 ≤ n ∧ n ≤ 9223372036854775807) (p a : Int) (hp0 : -9223372036854775808 ≤ p ∧ p ≤ 9223372036854775807) (ha0 : -9223372036854775808 ≤ a ∧ a ≤ 9223372036854775807) (g0 : ¬ p < 0) (g1 : ¬ 10922 < p) (gg : a < 0) (w : World) :
    Calls Try.prog 5 #[.int .i64 (n), .int .i64 p, .int .i64 a] w fun e w' => e = .returned (.bool true) ∧ Below w.heap.size w w' := by
  have HAW := hide HA
  have e1 : plP n = -1 := if_neg (by omega)
  have e2 : plA n = -1 := if_neg (by omega)
  have HP1 : Hid (∀ w', Calls Try.prog 14 #[.int .i64 n] w' fun e w'' => e = .returned (.tuple #[.int .i64 (-1), .int .i64 (-1)]) ∧ Below w'.heap.size w' w'') := fun w' => by
    have := HPla n w' hn0
    rw [e1, e2] at this
    exact this
  clear e1 e2
  have hnu : nuC p a = 0 := if_neg (by omega)
  have HN2 : Hid (∀ w', Calls Try.prog 15 #[.int .i64 p, .int .i64 a] w' fun e w'' => e = .returned (.int .i64 0) ∧ Below w'.heap.size w' w'') := fun w' => by
    have := HNu p a w' hp0 ha0
    rw [hnu] at this
    exact this
  clear hnu
  clear HPla HNu HA
  by_cases n1 : n < 1
  · go_enter Try.func5, Try.ntmps5
    go_wp2_with fail
    refine (HP1.out _).mono ?_
    rintro e w1 ⟨rfl, hb1⟩
    have HW1 := hide hb1
    clear hb1
    go_wp2_with fail
    refine (HN2.out _).mono ?_
    rintro e w3 ⟨rfl, hb3⟩
    have HW3 := hide (rBelow HW1.out hb3)
    clear hb3
    go_wp2_with fail
    refine (HAW.out _).mono ?_
    rintro e w5 ⟨rfl, hb5⟩
    have HW5 := hide (rBelow HW3.out hb5)
    clear hb5
    go_wp2_with fail
    go_ret
    exact ⟨by simp, HW5.out⟩
  · have n2 : 65535 < n := by omega
    go_enter Try.func5, Try.ntmps5
    go_wp2_with fail
    refine (HP1.out _).mono ?_
    rintro e w1 ⟨rfl, hb1⟩
    have HW1 := hide hb1
    clear hb1
    go_wp2_with fail
    refine (HN2.out _).mono ?_
    rintro e w3 ⟨rfl, hb3⟩
    have HW3 := hide (rBelow HW1.out hb3)
    clear hb3
    go_wp2_with fail
    refine (HAW.out _).mono ?_
    rintro e w5 ⟨rfl, hb5⟩
    have HW5 := hide (rBelow HW3.out hb5)
    clear hb5
    go_wp2_with fail
    go_ret
    exact ⟨by simp, HW5.out⟩

set_option maxHeartbeats 4000000 in
set_option maxRecDepth 100000 in
theorem plc_o3 (HPla : PlaC) (HNu : NuC) (HA : ∀ w, Calls Try.prog 7 #[] w fun e w' => e = .returned (.bool true) ∧ Below w.heap.size w w') (n : Int) (hn : n < 1 ∨ 65535 < n) (hn0 : -9223372036854775808 ≤ n ∧ n ≤ 9223372036854775807) (p a : Int) (hp0 : -9223372036854775808 ≤ p ∧ p ≤ 9223372036854775807) (ha0 : -9223372036854775808 ≤ a ∧ a ≤ 9223372036854775807) (g0 : ¬ p < 0) (g1 : ¬ 10922 < p) (g2 : ¬ a < 0) (gg : 5 < a) (w : World) :
    Calls Try.prog 5 #[.int .i64 (n), .int .i64 p, .int .i64 a] w fun e w' => e = .returned (.bool true) ∧ Below w.heap.size w w' := by
  have HAW := hide HA
  have e1 : plP n = -1 := if_neg (by omega)
  have e2 : plA n = -1 := if_neg (by omega)
  have HP1 : Hid (∀ w', Calls Try.prog 14 #[.int .i64 n] w' fun e w'' => e = .returned (.tuple #[.int .i64 (-1), .int .i64 (-1)]) ∧ Below w'.heap.size w' w'') := fun w' => by
    have := HPla n w' hn0
    rw [e1, e2] at this
    exact this
  clear e1 e2
  have hnu : nuC p a = 0 := if_neg (by omega)
  have HN2 : Hid (∀ w', Calls Try.prog 15 #[.int .i64 p, .int .i64 a] w' fun e w'' => e = .returned (.int .i64 0) ∧ Below w'.heap.size w' w'') := fun w' => by
    have := HNu p a w' hp0 ha0
    rw [hnu] at this
    exact this
  clear hnu
  clear HPla HNu HA
  by_cases n1 : n < 1
  · go_enter Try.func5, Try.ntmps5
    go_wp2_with fail
    refine (HP1.out _).mono ?_
    rintro e w1 ⟨rfl, hb1⟩
    have HW1 := hide hb1
    clear hb1
    go_wp2_with fail
    refine (HN2.out _).mono ?_
    rintro e w3 ⟨rfl, hb3⟩
    have HW3 := hide (rBelow HW1.out hb3)
    clear hb3
    go_wp2_with fail
    refine (HAW.out _).mono ?_
    rintro e w5 ⟨rfl, hb5⟩
    have HW5 := hide (rBelow HW3.out hb5)
    clear hb5
    go_wp2_with fail
    go_ret
    exact ⟨by simp, HW5.out⟩
  · have n2 : 65535 < n := by omega
    go_enter Try.func5, Try.ntmps5
    go_wp2_with fail
    refine (HP1.out _).mono ?_
    rintro e w1 ⟨rfl, hb1⟩
    have HW1 := hide hb1
    clear hb1
    go_wp2_with fail
    refine (HN2.out _).mono ?_
    rintro e w3 ⟨rfl, hb3⟩
    have HW3 := hide (rBelow HW1.out hb3)
    clear hb3
    go_wp2_with fail
    refine (HAW.out _).mono ?_
    rintro e w5 ⟨rfl, hb5⟩
    have HW5 := hide (rBelow HW3.out hb5)
    clear hb5
    go_wp2_with fail
    go_ret
    exact ⟨by simp, HW5.out⟩

set_option maxHeartbeats 4000000 in
set_option maxRecDepth 100000 in
theorem plc_o4 (HPla : PlaC) (HNu : NuC) (HA : ∀ w, Calls Try.prog 7 #[] w fun e w' => e = .returned (.bool true) ∧ Below w.heap.size w w') (n : Int) (hn : n < 1 ∨ 65535 < n) (hn0 : -9223372036854775808 ≤ n ∧ n ≤ 9223372036854775807) (p a : Int) (hp0 : -9223372036854775808 ≤ p ∧ p ≤ 9223372036854775807) (ha0 : -9223372036854775808 ≤ a ∧ a ≤ 9223372036854775807) (g0 : ¬ p < 0) (g1 : ¬ 10922 < p) (g2 : ¬ a < 0) (g3 : ¬ 5 < a) (gg : 65534 < 6 * p + a) (w : World) :
    Calls Try.prog 5 #[.int .i64 (n), .int .i64 p, .int .i64 a] w fun e w' => e = .returned (.bool true) ∧ Below w.heap.size w w' := by
  have HAW := hide HA
  have e1 : plP n = -1 := if_neg (by omega)
  have e2 : plA n = -1 := if_neg (by omega)
  have HP1 : Hid (∀ w', Calls Try.prog 14 #[.int .i64 n] w' fun e w'' => e = .returned (.tuple #[.int .i64 (-1), .int .i64 (-1)]) ∧ Below w'.heap.size w' w'') := fun w' => by
    have := HPla n w' hn0
    rw [e1, e2] at this
    exact this
  clear e1 e2
  have hnu : nuC p a = 0 := if_neg (by omega)
  have HN2 : Hid (∀ w', Calls Try.prog 15 #[.int .i64 p, .int .i64 a] w' fun e w'' => e = .returned (.int .i64 0) ∧ Below w'.heap.size w' w'') := fun w' => by
    have := HNu p a w' hp0 ha0
    rw [hnu] at this
    exact this
  clear hnu
  clear HPla HNu HA
  by_cases n1 : n < 1
  · go_enter Try.func5, Try.ntmps5
    go_wp2_with fail
    refine (HP1.out _).mono ?_
    rintro e w1 ⟨rfl, hb1⟩
    have HW1 := hide hb1
    clear hb1
    go_wp2_with fail
    refine (HN2.out _).mono ?_
    rintro e w3 ⟨rfl, hb3⟩
    have HW3 := hide (rBelow HW1.out hb3)
    clear hb3
    go_wp2_with fail
    refine (HAW.out _).mono ?_
    rintro e w5 ⟨rfl, hb5⟩
    have HW5 := hide (rBelow HW3.out hb5)
    clear hb5
    go_wp2_with fail
    go_ret
    exact ⟨by simp, HW5.out⟩
  · have n2 : 65535 < n := by omega
    go_enter Try.func5, Try.ntmps5
    go_wp2_with fail
    refine (HP1.out _).mono ?_
    rintro e w1 ⟨rfl, hb1⟩
    have HW1 := hide hb1
    clear hb1
    go_wp2_with fail
    refine (HN2.out _).mono ?_
    rintro e w3 ⟨rfl, hb3⟩
    have HW3 := hide (rBelow HW1.out hb3)
    clear hb3
    go_wp2_with fail
    refine (HAW.out _).mono ?_
    rintro e w5 ⟨rfl, hb5⟩
    have HW5 := hide (rBelow HW3.out hb5)
    clear hb5
    go_wp2_with fail
    go_ret
    exact ⟨by simp, HW5.out⟩

theorem placesC_walk (HPla : PlaC) (HNu : NuC) (HA : ∀ w, Calls Try.prog 7 #[] w fun e w' => e = .returned (.bool true) ∧ Below w.heap.size w w') (n p a : Int) (hn : -9223372036854775808 ≤ n ∧ n ≤ 9223372036854775807) (hp : -9223372036854775808 ≤ p ∧ p ≤ 9223372036854775807) (ha : -9223372036854775808 ≤ a ∧ a ≤ 9223372036854775807) (w : World) :
    Calls Try.prog 5 #[.int .i64 n, .int .i64 p, .int .i64 a] w fun e w' => e = .returned (.bool true) ∧ Below w.heap.size w w' := by
  by_cases h : 1 ≤ n ∧ n ≤ 65535
  · obtain ⟨q, k, hq, hq2, hk, hk5, hqk, rfl⟩ := pl_form n h.1 h.2
    by_cases g0 : p < 0
    · exact plc_i0 HPla HNu HA q k hq hq2 hk hk5 hqk p a hp ha g0 w
    by_cases g1 : 10922 < p
    · exact plc_i1 HPla HNu HA q k hq hq2 hk hk5 hqk p a hp ha g0 g1 w
    by_cases g2 : a < 0
    · exact plc_i2 HPla HNu HA q k hq hq2 hk hk5 hqk p a hp ha g0 g1 g2 w
    by_cases g3 : 5 < a
    · exact plc_i3 HPla HNu HA q k hq hq2 hk hk5 hqk p a hp ha g0 g1 g2 g3 w
    by_cases g4 : 65534 < 6 * p + a
    · exact plc_i4 HPla HNu HA q k hq hq2 hk hk5 hqk p a hp ha g0 g1 g2 g3 g4 w
    exact plc_ik HPla HNu HA q k hq hq2 hk hk5 hqk p a (by omega) (by omega) (by omega) (by omega) (by omega) w
  · have hno : n < 1 ∨ 65535 < n := by omega
    by_cases g0 : p < 0
    · exact plc_o0 HPla HNu HA n hno hn p a hp ha g0 w
    by_cases g1 : 10922 < p
    · exact plc_o1 HPla HNu HA n hno hn p a hp ha g0 g1 w
    by_cases g2 : a < 0
    · exact plc_o2 HPla HNu HA n hno hn p a hp ha g0 g1 g2 w
    by_cases g3 : 5 < a
    · exact plc_o3 HPla HNu HA n hno hn p a hp ha g0 g1 g2 g3 w
    by_cases g4 : 65534 < 6 * p + a
    · exact plc_o4 HPla HNu HA n hno hn p a hp ha g0 g1 g2 g3 g4 w
    exact plc_ok HPla HNu HA n hno hn p a (by omega) (by omega) (by omega) (by omega) (by omega) w

end Go.Proofs.Ytnhhapipadiffaa
