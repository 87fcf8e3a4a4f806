/-
  Proved: whatever two float64s it is handed, the law humuslaw01.NumNext of the landed program returns true, and its arguments read behind the call as they read before; no condition.
-/
import Derived.Test.YtpnacdjmjicanaaMore
import Derived.ProofKit
import Derived.OpenShut
namespace Go.Proofs.Ytpnacdjmjicanaa.numNext
open Go.ChangeShapes Go.WideShapes Go.ChangeAt Go.RowKit
set_option linter.unusedVariables false

theorem own : ownKnob Try.prog.godebug = none := by kernel_rfl

theorem nx_key (x : Nat) : Fl.key (nx x) = nx x := by
  unfold nx
  split
  · decide
  · exact Fl.key_key _
theorem nx_lt (x : Nat) (hx : x < 18446744073709551616) : nx x < 18446744073709551616 := by
  unfold nx
  split
  · omega
  · exact Fl.key_lt (Fl.nextUp_lt hx)
theorem nx_less (x : Nat) (hx : x < 18446744073709551616) (h : Fl.isn x = false) : Fl.less x (nx x) = true := by
  unfold nx
  by_cases hi : x = 9218868437227405312
  · rw [if_pos hi, hi]; exact Fl.inf_less
  · rw [if_neg hi]; exact Fl.next_less x hx h hi
theorem nx_between (x y : Nat) (hx : x < 18446744073709551616) (hy : y < 18446744073709551616) (h : Fl.isn x = false) : (Fl.less x y && Fl.less y (nx x)) = false := by
  unfold nx
  by_cases hi : x = 9218868437227405312
  · rw [if_pos hi, hi]; exact Fl.inf_between y hy
  · rw [if_neg hi]; exact Fl.next_between x y hx hy h hi

set_option maxHeartbeats 1000000 in
theorem walk (x : Nat) (b0 : x < 18446744073709551616) (y : Nat) (b1 : y < 18446744073709551616) (w : World) :
    Calls Try.prog 6 #[.float .f64 x, .float .f64 y] w fun e w' => e = .returned (.bool true) ∧ Grown w w' := by
  have hb := bits_call
  have c1 := next_any x b0
  have H2 : Hid _ := refKey_any x b0
  have c3 := refNan_any (Fl.key x) (Fl.key_lt b0)
  rw [Fl.isn_key] at c3
  have H9 : Hid _ := awake_any
  cases hn : Fl.isn x
  · rw [hn] at c1 c3
    simp only [Bool.false_eq_true, if_false, Bool.not_false] at c1
    have H1 : Hid _ := c1
    have H3 : Hid _ := c3
    have c4 := refLess_any x (nx x) b0 (nx_lt x b0)
    rw [nx_less x b0 hn] at c4
    have H4 : Hid _ := c4
    have c5 := refKey_any (nx x) (nx_lt x b0)
    rw [nx_key] at c5
    have H5 : Hid _ := c5
    have hz := nx_between x y b0 b1 hn
    have c6 := refLess_any x y b0 b1
    have c7 := refLess_any y (nx x) b1 (nx_lt x b0)
    have H7 : Hid _ := c7
    generalize Fl.less y (nx x) = q at *
    generalize nx x = n at *
    generalize Fl.key x = k at *
    cases hp : Fl.less x y
    · rw [hp] at c6
      have H6 : Hid _ := c6
      clear c1 c3 c4 c5 c6 c7 hz hp hn b0 b1
      go_enter Try.func6, Try.ntmps6
      go_wp2_with fail
      refine (H1.out _).mono ?_
      rintro e w' ⟨rfl, rfl⟩
      go_wp2_with fail
      refine (H2.out _).mono ?_
      rintro e w' ⟨rfl, rfl⟩
      go_wp2_with fail
      refine (H3.out _).mono ?_
      rintro e w' ⟨rfl, rfl⟩
      go_wp2_with fail
      refine (H4.out _).mono ?_
      rintro e w' ⟨rfl, rfl⟩
      go_wp2_with fail
      refine (H5.out _).mono ?_
      rintro e w' ⟨rfl, rfl⟩
      go_wp2_with fail
      refine (H6.out _).mono ?_
      rintro e w' ⟨rfl, rfl⟩
      go_wp2_with fail
      refine (H9.out _).mono ?_
      rintro e w' ⟨rfl, rfl⟩
      go_wp2_with fail
      go_ret
      exact ⟨rfl, Grown.refl _⟩
    · rw [hp] at c6 hz
      rw [Bool.true_and] at hz
      have H6 : Hid _ := c6
      subst hz
      clear c1 c3 c4 c5 c6 c7 hp hn b0 b1
      go_enter Try.func6, Try.ntmps6
      go_wp2_with fail
      refine (H1.out _).mono ?_
      rintro e w' ⟨rfl, rfl⟩
      go_wp2_with fail
      refine (H2.out _).mono ?_
      rintro e w' ⟨rfl, rfl⟩
      go_wp2_with fail
      refine (H3.out _).mono ?_
      rintro e w' ⟨rfl, rfl⟩
      go_wp2_with fail
      refine (H4.out _).mono ?_
      rintro e w' ⟨rfl, rfl⟩
      go_wp2_with fail
      refine (H5.out _).mono ?_
      rintro e w' ⟨rfl, rfl⟩
      go_wp2_with fail
      refine (H6.out _).mono ?_
      rintro e w' ⟨rfl, rfl⟩
      go_wp2_with fail
      refine (H7.out _).mono ?_
      rintro e w' ⟨rfl, rfl⟩
      go_wp2_with fail
      refine (H9.out _).mono ?_
      rintro e w' ⟨rfl, rfl⟩
      go_wp2_with fail
      go_ret
      exact ⟨rfl, Grown.refl _⟩
  · rw [hn] at c1 c3
    simp only [if_true, Bool.not_true] at c1
    have H1 : Hid _ := c1
    have H3 : Hid _ := c3
    have c4 := same_any 0 0
    rw [beq_self_eq_true] at c4
    have H4 : Hid _ := c4
    clear c1 c3 c4 hn b0 b1
    generalize Fl.key x = k at *
    go_enter Try.func6, Try.ntmps6
    go_wp2_with fail
    refine (H1.out _).mono ?_
    rintro e w' ⟨rfl, rfl⟩
    go_wp2_with fail
    refine (H2.out _).mono ?_
    rintro e w' ⟨rfl, rfl⟩
    go_wp2_with fail
    refine (H3.out _).mono ?_
    rintro e w' ⟨rfl, rfl⟩
    go_wp2_with fail
    refine (H4.out _).mono ?_
    rintro e w' ⟨rfl, rfl⟩
    go_wp2_with fail
    refine (H9.out _).mono ?_
    rintro e w' ⟨rfl, rfl⟩
    go_wp2_with fail
    go_ret
    exact ⟨rfl, Grown.refl _⟩

set_option maxRecDepth 100000 in
theorem lifted (os : Os) (started : os.Started) (H : Type) (enc : TypeId × Value → H) :
    ReturnsInHanded {} Try.checked os 6 .any (Rows.numNextSpec.pre6 enc Try.prog Try.f6 Rows.numNextRow.domain false) (Rows.numNextSpec.post enc Try.prog Try.f6 false true false false) := by
  refine returnsInHanded_of_change (C := Try.checked) own started (by kernel_rfl) Try.func6
    (ChangeSpec.witness6 (enc := enc) (C := Try.checked) false ⟨#[], #[.float .f64 0, .float .f64 0], []⟩ 8 (by kernel_rfl) (by kernel_rfl) (by kernel_rfl) (by kernel_rfl)) ?_
  intro W base args ds gs before hval0 hW hcnd _
  have hval : ∀ (j : Nat) t v, Try.f6.params[j]? = some t → args[j]? = some v → Value.okWide Try.prog W .any base t v := hval0
  have hW' := hW
  obtain ⟨p, q, hA0, hV, rfl, hfz, hnd⟩ := hW
  have hA : DataW.TrodAll enc Try.prog W 0 (fun _ => true) true Try.f6.params.toList args.toList ds p := hA0
  rw [Try.params6] at hA hval
  obtain ⟨v0, vs0, d0, ds0, p0, q0, hargs, rfl, rfl, h0, r0⟩ := trodAll_cons hA
  obtain ⟨v1, vs1, d1, ds1, p1, q1, rfl, rfl, rfl, h1, r1⟩ := trodAll_cons r0
  obtain ⟨rfl, rfl, rfl⟩ := trodAll_nil r1
  obtain rfl : args = #[v0, v1] := by cases args; simp_all
  obtain ⟨rfl, rfl⟩ := trodVars_none hV
  obtain ⟨x, rfl, rfl, rfl, w0⟩ := open_float Try.underlying22 (hval 0 22 v0 rfl rfl) h0
  obtain ⟨y, rfl, rfl, rfl, w1⟩ := open_float Try.underlying22 (hval 1 22 v1 rfl rfl) h1
  clear hA0 hval0
  simp only [List.append_nil] at hW'
  have b0 : x < 18446744073709551616 := by simpa [Lit.wf] using w0
  have b1 : y < 18446744073709551616 := by simpa [Lit.wf] using w1
  refine (walk x b0 y b1 W).mono fun e W' ⟨he, hg⟩ => ?_
  subst he
  exact ⟨_, rfl, post_of_same (pa := []) (pv := []) hW' (fun _ _ _ => (trodAll_cons_mk (shut_bool Try.underlying4 _) trodAll_mk0)) (fun sp _ => (trodAll_cons_mk (shut_float Try.underlying22 w0) (trodAll_cons_mk (shut_float Try.underlying22 w1) trodAll_mk0))) (fun _ _ => rfl) rfl
    (hg.frame _) hg.2.1 (ok_one (by kernel_rfl) rfl (okWide_bool_mk Try.underlying4 _))⟩

theorem over : Rows.numNextRow.holds Try.pinned (OpenSpec.ofChange Rows.numNextSpec) :=
  OpenClaim.holds_of_wide 6 Try.f6 rfl rfl rfl rfl rfl rfl rfl ⟨rfl, rfl, rfl, rfl, rfl⟩ rfl rfl rfl rfl rfl (by kernel_rfl) Try.func6 (by kernel_rfl)
    (of_decide_eq_true (by kernel_rfl)) (by unfold Func.isWrapper; first | (rw [if_pos (by decide +kernel)]; kernel_rfl) | (rw [if_neg (by decide +kernel)]; exact ⟨rfl, rfl⟩))
    (fun os started H enc _ => lifted os started H enc)

end Go.Proofs.Ytpnacdjmjicanaa.numNext

namespace Go.Proofs.Ytpnacdjmjicanaa
theorem numNext_holds : Rows.NumNextSaid := numNext.over
end Go.Proofs.Ytpnacdjmjicanaa
