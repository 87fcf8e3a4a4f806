/-
  Proved: whatever uint64 and float64 it is handed, the law humuslaw01.NumRanks of the landed program returns true, and its arguments read behind the call as they read before; no condition.
-/
import Derived.Test.YtpnacdjmjicanaaMore
import Derived.ProofKit
import Derived.OpenShut
namespace Go.Proofs.Ytpnacdjmjicanaa.numRanks
open Go.ChangeShapes Go.WideShapes Go.ChangeAt Go.RowKit
set_option linter.unusedVariables false

theorem own : ownKnob Try.prog.godebug = none := by kernel_rfl

theorem z_high (r : Nat) (hr : r < 18446744073709551616) (h : 9223372036854775808 ≤ r) : (IntKind.u64.wrap ((r : Int) - 9223372036854775808)).toNat = Fl.ofRank r := by
  rw [IntKind.wrap_u64]; unfold Fl.ofRank; rw [if_pos h]; omega
theorem z_low (r : Nat) (hr : r < 18446744073709551616) (h : ¬ 9223372036854775808 ≤ r) : (IntKind.u64.wrap (18446744073709551615 - (r : Int))).toNat = Fl.ofRank r := by
  rw [IntKind.wrap_u64]; unfold Fl.ofRank; rw [if_neg h]; omega

set_option maxHeartbeats 1000000 in
theorem walk (r : Nat) (b0 : r < 18446744073709551616) (x : Nat) (b1 : x < 18446744073709551616) (w : World) :
    Calls Try.prog 5 #[.int .u64 (r : Nat), .float .f64 x] w fun e w' => e = .returned (.bool true) ∧ Grown w w' := by
  have hb := bits_call
  have hf := from_call
  have H1 : Hid _ := rank_any x b1
  have c2 := of_any (Fl.rk x) (Fl.rk_lt b1)
  rw [Fl.of_rk x b1, Fl.key_key, if_pos rfl, if_pos rfl] at c2
  have H2 : Hid _ := c2
  have H3 : Hid _ := refKey_any x b1
  have c4 := of_any r b0
  have H9 : Hid _ := awake_any
  by_cases hk : Fl.key (Fl.ofRank r) = Fl.ofRank r
  · rw [if_pos hk, if_pos hk] at c4
    have H4 : Hid _ := c4
    have c5 := refRank_any (Fl.ofRank r) (Fl.ofRank_lt b0)
    rw [Fl.rk_of r b0 hk] at c5
    have H5 : Hid _ := c5
    have c6 := refKey_any (Fl.ofRank r) (Fl.ofRank_lt b0)
    rw [hk] at c6
    have H6 : Hid _ := c6
    clear c2 c4 c5 c6 hk b0 b1
    generalize Fl.ofRank r = o at *
    generalize Fl.key x = k at *
    generalize Fl.rk x = m at *
    go_enter Try.func5, Try.ntmps5
    go_wp2_with fail
    refine (H1.out _).mono ?_
    rintro e w' ⟨rfl, rfl⟩
    go_wp2_with fail
    refine (H2.out _).mono ?_
    rintro e w' ⟨rfl, rfl⟩
    go_wp2_with fail
    refine (H3.out _).mono ?_
    rintro e w' ⟨rfl, rfl⟩
    go_wp2_with fail
    refine (H4.out _).mono ?_
    rintro e w' ⟨rfl, rfl⟩
    go_wp2_with fail
    refine (H5.out _).mono ?_
    rintro e w' ⟨rfl, rfl⟩
    go_wp2_with fail
    refine (H6.out _).mono ?_
    rintro e w' ⟨rfl, rfl⟩
    go_wp2_with fail
    refine (H9.out _).mono ?_
    rintro e w' ⟨rfl, rfl⟩
    go_wp2_with fail
    go_ret
    exact ⟨rfl, Grown.refl _⟩
  · rw [if_neg hk, if_neg hk] at c4
    have H4 : Hid _ := c4
    have c5 := same_any 0 0
    rw [beq_self_eq_true] at c5
    have H5 : Hid _ := c5
    have H6 : Hid _ := refRank_any (Fl.ofRank r) (Fl.ofRank_lt b0)
    have hne := Fl.rk_of_not r b0 hk
    have hne2 : (((Fl.rk (Fl.ofRank r) : Nat) : Int) != (r : Int)) = true := by rw [bne_cast, bne_iff_ne]; exact hne
    by_cases hs : 9223372036854775808 ≤ r
    · have hz := z_high r b0 hs
      have ht : decide ((r : Int) < 9223372036854775808) = false := decide_eq_false (by omega)
      clear c2 c4 c5 hk b0 b1 hs hne
      generalize Fl.ofRank r = o at *
      generalize Fl.rk o = ro at *
      generalize Fl.key x = k at *
      generalize Fl.rk x = m at *
      go_enter Try.func5, Try.ntmps5
      go_wp2_with fail
      refine (H1.out _).mono ?_
      rintro e w' ⟨rfl, rfl⟩
      go_wp2_with fail
      refine (H2.out _).mono ?_
      rintro e w' ⟨rfl, rfl⟩
      go_wp2_with fail
      refine (H3.out _).mono ?_
      rintro e w' ⟨rfl, rfl⟩
      go_wp2_with fail
      refine (H4.out _).mono ?_
      rintro e w' ⟨rfl, rfl⟩
      go_wp2_with fail
      refine (H5.out _).mono ?_
      rintro e w' ⟨rfl, rfl⟩
      go_wp2_with fail
      refine (H6.out _).mono ?_
      rintro e w' ⟨rfl, rfl⟩
      go_wp2_with fail
      refine (H9.out _).mono ?_
      rintro e w' ⟨rfl, rfl⟩
      go_wp2_with fail
      go_ret
      exact ⟨rfl, Grown.refl _⟩
    · have hz := z_low r b0 hs
      have ht : decide ((r : Int) < 9223372036854775808) = true := decide_eq_true (by omega)
      clear c2 c4 c5 hk b0 b1 hs hne
      generalize Fl.ofRank r = o at *
      generalize Fl.rk o = ro at *
      generalize Fl.key x = k at *
      generalize Fl.rk x = m at *
      go_enter Try.func5, Try.ntmps5
      go_wp2_with fail
      refine (H1.out _).mono ?_
      rintro e w' ⟨rfl, rfl⟩
      go_wp2_with fail
      refine (H2.out _).mono ?_
      rintro e w' ⟨rfl, rfl⟩
      go_wp2_with fail
      refine (H3.out _).mono ?_
      rintro e w' ⟨rfl, rfl⟩
      go_wp2_with fail
      refine (H4.out _).mono ?_
      rintro e w' ⟨rfl, rfl⟩
      go_wp2_with fail
      refine (H5.out _).mono ?_
      rintro e w' ⟨rfl, rfl⟩
      go_wp2_with fail
      refine (H6.out _).mono ?_
      rintro e w' ⟨rfl, rfl⟩
      go_wp2_with fail
      refine (H9.out _).mono ?_
      rintro e w' ⟨rfl, rfl⟩
      go_wp2_with fail
      go_ret
      exact ⟨rfl, Grown.refl _⟩

set_option maxRecDepth 100000 in
theorem lifted (os : Os) (started : os.Started) (H : Type) (enc : TypeId × Value → H) :
    ReturnsInHanded {} Try.checked os 5 .any (Rows.numRanksSpec.pre6 enc Try.prog Try.f5 Rows.numRanksRow.domain false) (Rows.numRanksSpec.post enc Try.prog Try.f5 false true false false) := by
  refine returnsInHanded_of_change (C := Try.checked) own started (by kernel_rfl) Try.func5
    (ChangeSpec.witness6 (enc := enc) (C := Try.checked) false ⟨#[], #[.int .u64 0, .float .f64 0], []⟩ 8 (by kernel_rfl) (by kernel_rfl) (by kernel_rfl) (by kernel_rfl)) ?_
  intro W base args ds gs before hval0 hW hcnd _
  have hval : ∀ (j : Nat) t v, Try.f5.params[j]? = some t → args[j]? = some v → Value.okWide Try.prog W .any base t v := hval0
  have hW' := hW
  obtain ⟨p, q, hA0, hV, rfl, hfz, hnd⟩ := hW
  have hA : DataW.TrodAll enc Try.prog W 0 (fun _ => true) true Try.f5.params.toList args.toList ds p := hA0
  rw [Try.params5] at hA hval
  obtain ⟨v0, vs0, d0, ds0, p0, q0, hargs, rfl, rfl, h0, r0⟩ := trodAll_cons hA
  obtain ⟨v1, vs1, d1, ds1, p1, q1, rfl, rfl, rfl, h1, r1⟩ := trodAll_cons r0
  obtain ⟨rfl, rfl, rfl⟩ := trodAll_nil r1
  obtain rfl : args = #[v0, v1] := by cases args; simp_all
  obtain ⟨rfl, rfl⟩ := trodVars_none hV
  obtain ⟨r', rfl, rfl, rfl, w0⟩ := open_int Try.underlying24 (hval 0 24 v0 rfl rfl) h0
  obtain ⟨x, rfl, rfl, rfl, w1⟩ := open_float Try.underlying22 (hval 1 22 v1 rfl rfl) h1
  clear hA0 hval0
  simp only [List.append_nil] at hW'
  have b0 := bounds_u64 w0
  obtain ⟨r, rfl⟩ := Int.eq_ofNat_of_zero_le b0.1
  have b0 : r < 18446744073709551616 := by omega
  have b1 : x < 18446744073709551616 := by simpa [Lit.wf] using w1
  refine (walk r b0 x b1 W).mono fun e W' ⟨he, hg⟩ => ?_
  subst he
  exact ⟨_, rfl, post_of_same (pa := []) (pv := []) hW' (fun _ _ _ => (trodAll_cons_mk (shut_bool Try.underlying4 _) trodAll_mk0)) (fun sp _ => (trodAll_cons_mk (shut_int Try.underlying24 w0) (trodAll_cons_mk (shut_float Try.underlying22 w1) trodAll_mk0))) (fun _ _ => rfl) rfl
    (hg.frame _) hg.2.1 (ok_one (by kernel_rfl) rfl (okWide_bool_mk Try.underlying4 _))⟩

theorem over : Rows.numRanksRow.holds Try.pinned (OpenSpec.ofChange Rows.numRanksSpec) :=
  OpenClaim.holds_of_wide 5 Try.f5 rfl rfl rfl rfl rfl rfl rfl ⟨rfl, rfl, rfl, rfl, rfl⟩ rfl rfl rfl rfl rfl (by kernel_rfl) Try.func5 (by kernel_rfl)
    (of_decide_eq_true (by kernel_rfl)) (by unfold Func.isWrapper; first | (rw [if_pos (by decide +kernel)]; kernel_rfl) | (rw [if_neg (by decide +kernel)]; exact ⟨rfl, rfl⟩))
    (fun os started H enc _ => lifted os started H enc)

end Go.Proofs.Ytpnacdjmjicanaa.numRanks

namespace Go.Proofs.Ytpnacdjmjicanaa
theorem numRanks_holds : Rows.NumRanksSaid := numRanks.over
end Go.Proofs.Ytpnacdjmjicanaa
