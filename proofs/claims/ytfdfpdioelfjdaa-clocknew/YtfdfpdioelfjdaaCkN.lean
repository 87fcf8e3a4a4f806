/-
  Layer 7: which new clocks there may be.
-/
import Derived.Test.YtfdfpdioelfjdaaCkM
namespace Go.Proofs.Ytfdfpdioelfjdaa
open Go.RowKit

theorem fr_rep {n i : Nat} (h : i < n) : fr (List.replicate n Sp.none) i = Sp.none := by
  rw [fr_get (by simpa using h)]
  simp

set_option maxHeartbeats 8000000 in
set_option maxRecDepth 100000 in
theorem new_walk (n : Int) (w : World) : Calls Try.prog 4 #[.int .i64 n] w fun e w' => e = .returned (.bool true) ∧ Below w.heap.size w w' := by
  have HA := hide awake_any
  by_cases hn : n < 1 ∨ 64 < n
  · have HN := hide (new_bad n hn w)
    have HB := hide (fun w1 => ckBlk_new w1 (.slice none 0 0) 0)
    unfold ckV Sl.val Sl.nil at HN
    simp only at HN
    by_cases h1 : n < 1
    · clear hn
      go_enter Try.func4, Try.ntmps4
      go_wp2_with fail
      refine HN.out.mono ?_
      rintro e w1 ⟨hb1, rfl⟩
      have c0 := (HB.out w1).c0
      have HB1 := hide (rBelow hb1 (below_alloc w1 (.cells #[.slice none 0 0, .int .i64 0] 24)))
      clear hb1
      go_wp2_with fail
      refine (HA.out _).mono ?_
      rintro e w2 ⟨rfl, hb2⟩
      have HB2 := hide (rBelow HB1.out hb2)
      clear hb2
      go_wp2_with fail
      go_ret
      exact ⟨rfl, HB2.out⟩
    · have h2 : 64 < n := by omega
      clear hn
      go_enter Try.func4, Try.ntmps4
      go_wp2_with fail
      refine HN.out.mono ?_
      rintro e w1 ⟨hb1, rfl⟩
      have c0 := (HB.out w1).c0
      have HB1 := hide (rBelow hb1 (below_alloc w1 (.cells #[.slice none 0 0, .int .i64 0] 24)))
      clear hb1
      go_wp2_with fail
      refine (HA.out _).mono ?_
      rintro e w2 ⟨rfl, hb2⟩
      have HB2 := hide (rBelow HB1.out hb2)
      clear hb2
      go_wp2_with fail
      go_ret
      exact ⟨rfl, HB2.out⟩
  · obtain ⟨k, rfl⟩ := Int.eq_ofNat_of_zero_le (show 0 ≤ n by omega)
    have h1 : 1 ≤ k := by omega
    have h64 : k ≤ 64 := by omega
    have i1 : ¬ ((k : Nat) : Int) < 1 := by omega
    have i2 : ¬ (64 : Int) < ((k : Nat) : Int) := by omega
    have HN := hide (new_ok k h1 h64 w)
    have hne : ∀ w : World, (binOp .neq 38 (.agg #[.int .i64 (-1), .bool false, .bool false]) (.agg #[.int .i64 (-1), .bool false, .bool false])).run Try.prog w = .ok (.bool false) w := fun w => bin_neq_sp Sp.none Sp.none w
    have hgd : ∀ (a c : Operand) (w : World), (eqGuard .neq 38 a c (.agg #[.int .i64 (-1), .bool false, .bool false]) (.agg #[.int .i64 (-1), .bool false, .bool false])).run Try.prog w = .ok () w := fun a c w => guard_neq_sp a c Sp.none Sp.none w
    clear hn
    go_enter Try.func4, Try.ntmps4
    go_wp2_with fail
    refine HN.out.mono ?_
    rintro e w1 ⟨hb1, s1, rfl, hg1⟩
    have hl1 : k = s1.len := by have := hg1.len; rwa [List.length_replicate] at this
    obtain ⟨a1, l1, p1⟩ := s1
    obtain rfl : k = l1 := hl1
    have hL := Lb.start (h := 0) hb1 hg1
    have c0 := hL.k.c0
    have c1 := hL.k.c1
    have HL := hide hL
    have HGS := hide hL.sp
    have HE := hide hL.e
    clear hL hb1 hg1 HN
    unfold ckV Sl.val at *
    simp only at *
    go_wp2_with fail
    generalize w1.alloc (.cells #[.slice a1 k p1, .int .i64 0] 24) = V1 at *
    go_loopw [5] (fun iv wr => wr = V1 ∧ ∃ i : Nat, i ≤ k ∧ iv = .int .i64 (i : Nat)) (fun iv _ => k - (intOf iv).toNat)
    case atStart => exact ⟨rfl, 0, Nat.zero_le _, rfl⟩
    case round =>
      obtain ⟨rfl, i, hi, rfl⟩ := hrel
      rcases Nat.lt_or_ge i k with hlt | hge
      · have i3 : ((i : Nat) : Int) < ((k : Nat) : Int) := by omega
        obtain ⟨bb, oo, ha, d0, d1, d2⟩ := HGS.out.cell i hlt
        replace ha : a1 = some ⟨bb, oo, none⟩ := ha
        subst ha
        rw [fr_rep hlt] at d0 d1 d2
        unfold Sp.none at d0 d1 d2
        simp only at d0 d1 d2
        go_wp2_with fail
        go_roundw
        case rel => exact ⟨trivial, i + 1, by omega, by go_num⟩
        case measure => simp only [intOf]; omega
      · have i3 : ¬ ((i : Nat) : Int) < ((k : Nat) : Int) := by omega
        go_wp2_with fail
        refine (HA.out _).mono ?_
        rintro e w2 ⟨rfl, hb2⟩
        have HB2 := hide (rBelow HE.out hb2)
        clear hb2
        go_wp2_with fail
        go_ret
        exact ⟨rfl, HB2.out⟩
end Go.Proofs.Ytfdfpdioelfjdaa
