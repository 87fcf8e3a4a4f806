/-
  The walk of the law on turned bytes: rows of unlike length or too long; and all others, round by round.
-/
import Derived.Test.YtjoapceffgibcaaTurns
namespace Go.Proofs.Ytjoapceffgibcaa.tallyTurns
open Go.RowKit

set_option maxHeartbeats 400000 in
theorem walk_unlike (a0 a1 a2 : Option Addr) (len0 len1 len2 cap0 cap1 cap2 : Nat) (w : World) (h : len0 ≠ len1) :
    Calls Try.prog 6 #[.slice a0 len0 cap0, .slice a1 len1 cap1, .slice a2 len2 cap2] w fun e w' => e = .returned (.bool true) ∧ Below w.heap.size w w' := by
  have h1 : ((len0 : Int) != (len1 : Int)) = true := by simp; omega
  have H7 := hide (awake_any w)
  clear h
  go_enter Try.func6, Try.ntmps6
  go_wp2_with fail
  refine H7.out.mono ?_
  rintro e w' ⟨rfl, hb⟩
  go_wp2_with fail
  go_ret
  exact ⟨rfl, hb⟩

set_option maxHeartbeats 400000 in
theorem walk_unlike2 (a0 a1 a2 : Option Addr) (len0 len2 cap0 cap1 cap2 : Nat) (w : World) (h : len0 ≠ len2) :
    Calls Try.prog 6 #[.slice a0 len0 cap0, .slice a1 len0 cap1, .slice a2 len2 cap2] w fun e w' => e = .returned (.bool true) ∧ Below w.heap.size w w' := by
  have h1 : ((len0 : Int) != (len2 : Int)) = true := by simp; omega
  have H7 := hide (awake_any w)
  clear h
  go_enter Try.func6, Try.ntmps6
  go_wp2_with fail
  refine H7.out.mono ?_
  rintro e w' ⟨rfl, hb⟩
  go_wp2_with fail
  go_ret
  exact ⟨rfl, hb⟩

set_option maxHeartbeats 400000 in
theorem walk_long (a0 a1 a2 : Option Addr) (len cap0 cap1 cap2 : Nat) (w : World) (h : 2000 < len) :
    Calls Try.prog 6 #[.slice a0 len cap0, .slice a1 len cap1, .slice a2 len cap2] w fun e w' => e = .returned (.bool true) ∧ Below w.heap.size w w' := by
  have h1 : (2000 : Int) < (len : Int) := by omega
  have H7 := hide (awake_any w)
  clear h
  go_enter Try.func6, Try.ntmps6
  go_wp2_with fail
  refine H7.out.mono ?_
  rintro e w' ⟨rfl, hb⟩
  go_wp2_with fail
  go_ret
  exact ⟨rfl, hb⟩

set_option maxHeartbeats 2000000 in
theorem walk_like (a0 a1 a2 : Option Addr) (len cap0 cap1 cap2 : Nat) (ps qs rs : List Nat) (w : World) (h : len ≤ 2000) (H0 : Bs w a0 len ps) (H1 : Bs w a1 len qs) (H2 : Bs w a2 len rs) :
    Calls Try.prog 6 #[.slice a0 len cap0, .slice a1 len cap1, .slice a2 len cap2] w fun e w' => e = .returned (.bool true) ∧ Below w.heap.size w w' := by
  have h1 : ¬ (2000 : Int) < (len : Int) := by omega
  have HO := hide (own_new w)
  have HW := hide (below_alloc w (.cells #[] 5))
  have H0 := hide H0
  have H1 := hide H1
  have H2 := hide H2
  go_enter Try.func6, Try.ntmps6
  go_wp2_with fail
  go_loopw [7, 8] (fun v i wr => ∃ k : Nat, k ≤ len ∧ i = .int .i64 k ∧ Hid (Owns wr w.heap.size v (Ta.xor3 ps qs rs k)) ∧ Hid (Below w.heap.size w wr)) (fun _ i _ => len - (intOf i).toNat)
  case atStart => exact ⟨0, by omega, rfl, HO.out, HW.out⟩
  case round =>
    obtain ⟨k, hk, rfl, hown, hW⟩ := hrel
    rcases Nat.lt_or_ge k len with hlt | hge
    · obtain ⟨b0, o0, rfl, _⟩ := H0.out.2.2 k hlt
      obtain ⟨b1, o1, rfl, _⟩ := H1.out.2.2 k hlt
      obtain ⟨b2, o2, rfl, _⟩ := H2.out.2.2 k hlt
      go_wp2_with fail
      refine Pl.region_is (ops := Pl.find 7 ((Try.f6.body).getD .skip)) (by kernel_rfl) ?_
      refine turns7 w wr b0 o0 b1 o1 b2 o2 len cap0 cap1 cap2 k ps qs rs _ (Ta.xor3 ps qs rs k) hlt H0.out H1.out H2.out hW.out hown.out (by rw [Ta.xor3_length]; omega) (by rfl) (by rfl) (by rfl) (by rfl) (by rfl) (by rfl) (by rfl) ?_
      intro u v' w' ho hb
      have HO' := hide ho
      have HB' := hide hb
      clear ho hb
      go_wp2_with fail
      go_roundw
      case rel => exact ⟨k + 1, by omega, by go_num, by rw [Ta.xor3_succ]; exact HO'.out, HB'⟩
      case measure => simp only [intOf]; omega
    · obtain rfl : k = len := by omega
      have hl0 := H0.out.1
      have hl1 := H1.out.1
      have hl2 := H2.out.1
      have hsum := Ta.sum_xor3 H0.out.2.1 H1.out.2.1 H2.out.2.1 k (by omega) (by omega) (by omega)
      rw [List.take_of_length_le (by omega), List.take_of_length_le (by omega), List.take_of_length_le (by omega)] at hsum
      obtain ⟨sa, hsa⟩ : ∃ x, x = Ta.sum ps := ⟨_, rfl⟩
      obtain ⟨sb, hsb⟩ : ∃ x, x = Ta.sum qs := ⟨_, rfl⟩
      obtain ⟨sc, hsc⟩ : ∃ x, x = Ta.sum rs := ⟨_, rfl⟩
      have la : sa < 4294967296 := by rw [hsa]; exact Ta.sum_lt H0.out.2.1
      have lb : sb < 4294967296 := by rw [hsb]; exact Ta.sum_lt H1.out.2.1
      have lc : sc < 4294967296 := by rw [hsc]; exact Ta.sum_lt H2.out.2.1
      have hx : bits .xor .u32 (bits .xor .u32 (sa : Int) (sb : Int)) (sc : Int) = ((sa ^^^ sb ^^^ sc : Nat) : Int) := by
        rw [u32_xor_nat sa sb la lb, u32_xor_nat (sa ^^^ sb) sc (Ta.xor_lt la lb) lc]
      obtain ⟨sx, hsx⟩ : ∃ x, x = sa ^^^ sb ^^^ sc := ⟨_, rfl⟩
      rw [← hsx] at hx
      obtain ⟨ax, capx, rfl, hbx, _⟩ := hown.out.bs (Ta.xor3_bytes H0.out.2.1 H1.out.2.1 H2.out.2.1 k)
      rw [Ta.xor3_length] at hbx ⊢
      have C0 := sum_any ax k capx _ wr hbx (by omega)
      rw [hsum, ← hsa, ← hsb, ← hsc, ← hsx] at C0
      have C1 := sum_any a0 k cap0 _ wr (H0.out.keep hW.out (Nat.le_refl _)) (by omega)
      rw [← hsa] at C1
      have C2 := sum_any a1 k cap1 _ wr (H1.out.keep hW.out (Nat.le_refl _)) (by omega)
      rw [← hsb] at C2
      have C3 := sum_any a2 k cap2 _ wr (H2.out.keep hW.out (Nat.le_refl _)) (by omega)
      rw [← hsc] at C3
      have C0 := hide C0
      have C1 := hide C1
      have C2 := hide C2
      have C3 := hide C3
      have C7 := hide (awake_any wr)
      clear hsum hsa hsb hsc hsx hbx hl0 hl1 hl2 la lb lc
      go_wp2_with fail
      refine C0.out.mono ?_
      rintro e w' ⟨rfl, hw⟩
      obtain rfl := hw.symm
      go_wp2_with fail
      refine C1.out.mono ?_
      rintro e w' ⟨rfl, hw⟩
      obtain rfl := hw.symm
      go_wp2_with fail
      refine C2.out.mono ?_
      rintro e w' ⟨rfl, hw⟩
      obtain rfl := hw.symm
      go_wp2_with fail
      refine C3.out.mono ?_
      rintro e w' ⟨rfl, hw⟩
      obtain rfl := hw.symm
      go_wp2_with fail
      refine C7.out.mono ?_
      rintro e w' ⟨rfl, hb⟩
      go_wp2_with fail
      go_ret
      exact ⟨rfl, hW.out.trans (hb.mono hW.out.size)⟩
end Go.Proofs.Ytjoapceffgibcaa.tallyTurns
