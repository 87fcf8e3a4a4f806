/-
  Proved: whatever three float64s it is handed, the law humuslaw01.NumAdds of the landed program returns true, and its arguments read behind the call as they read before; no condition (whatever bits a sum that is no number has).
-/
import Derived.Test.YtpnacdjmjicanaaMore
import Derived.ProofKit
import Derived.OpenShut
namespace Go.Proofs.Ytpnacdjmjicanaa.numAdds
open Go.ChangeShapes Go.WideShapes Go.ChangeAt Go.RowKit
set_option linter.unusedVariables false

theorem own : ownKnob Try.prog.godebug = none := by kernel_rfl

set_option maxHeartbeats 1000000 in
theorem walk (a : Nat) (b0 : a < 18446744073709551616) (b : Nat) (b1 : b < 18446744073709551616) (c : Nat) (b2 : c < 18446744073709551616) (w : World) :
    Calls Try.prog 7 #[.float .f64 a, .float .f64 b, .float .f64 c] w fun e w' => e = .returned (.bool true) ∧ Grown w w' := by
  have hb := bits_call
  cases h : Ieee.double.add a b with
  | some r =>
    have h1 := run_add_some 22 a b r h
    have hv : Fl.val r = Fl.addv a b := by unfold Fl.addv; rw [h]
    have hr := Fl.add_fits h
    clear h
    have N1 := refLess_any a b b0 b1
    have H2 : Hid _ := refLess_any a c b0 b2
    have H3 : Hid _ := add_any a b
    have c4 := refValue_any r hr
    rw [hv] at c4
    have H4 : Hid _ := c4
    have N5 := between_any a b c b0 b1 b2
    have H9 : Hid _ := awake_any
    clear c4 hv hr
    generalize Fl.addv a b = s at *
    generalize Fl.less a c = q at *
    cases hp : Fl.less a b
    · rw [hp] at N1 N5
      have H1 : Hid _ := N1
      have N6 : ∀ w, Calls Try.prog 27 #[.float .f64 a, .float .f64 b, .float .f64 c] w fun e w' => e = .returned (.bool q) ∧ w' = w := by simpa using N5
      have H5 : Hid _ := N6
      clear N1 N5 N6 hp b0 b1 b2
      go_enter Try.func7, Try.ntmps7
      go_wp2_with fail
      refine (H1.out _).mono ?_
      rintro e w' ⟨rfl, rfl⟩
      go_wp2_with fail
      refine (H2.out _).mono ?_
      rintro e w' ⟨rfl, rfl⟩
      go_wp2_with fail
      refine (H3.out _).mono ?_
      rintro e w1 ⟨rfl, g1⟩
      go_wp2_with fail
      refine (H4.out _).mono ?_
      rintro e w' ⟨rfl, rfl⟩
      go_wp2_with fail
      refine (H5.out _).mono ?_
      rintro e w' ⟨rfl, rfl⟩
      go_wp2_with fail
      refine (H9.out _).mono ?_
      rintro e w' ⟨rfl, rfl⟩
      go_wp2_with fail
      go_ret
      exact ⟨rfl, g1⟩
    · rw [hp] at N1 N5
      have H1 : Hid _ := N1
      have N6 : ∀ w, Calls Try.prog 27 #[.float .f64 a, .float .f64 b, .float .f64 c] w fun e w' => e = .returned (.bool false) ∧ w' = w := by simpa using N5
      have H5 : Hid _ := N6
      clear N1 N5 N6 hp b0 b1 b2
      go_enter Try.func7, Try.ntmps7
      go_wp2_with fail
      refine (H1.out _).mono ?_
      rintro e w' ⟨rfl, rfl⟩
      go_wp2_with fail
      refine (H3.out _).mono ?_
      rintro e w1 ⟨rfl, g1⟩
      go_wp2_with fail
      refine (H4.out _).mono ?_
      rintro e w' ⟨rfl, rfl⟩
      go_wp2_with fail
      refine (H5.out _).mono ?_
      rintro e w' ⟨rfl, rfl⟩
      go_wp2_with fail
      refine (H9.out _).mono ?_
      rintro e w' ⟨rfl, rfl⟩
      go_wp2_with fail
      go_ret
      exact ⟨rfl, g1⟩
  | none =>
    have h1 := run_add_none 22 a b h w
    have hc := cut_nan a b (w.tape w.drawn (.nanBits .f64 a b))
    generalize (Question.nanBits .f64 a b).cut (w.tape w.drawn (.nanBits .f64 a b)) = r at *
    have hv : Fl.val r = Fl.addv a b := by unfold Fl.addv Fl.val; rw [h, if_pos hc.1]
    have hr := hc.2
    clear h hc
    have N1 := refLess_any a b b0 b1
    have H2 : Hid _ := refLess_any a c b0 b2
    have H3 : Hid _ := add_any a b
    have c4 := refValue_any r hr
    rw [hv] at c4
    have H4 : Hid _ := c4
    have N5 := between_any a b c b0 b1 b2
    have H9 : Hid _ := awake_any
    clear c4 hv hr
    generalize Fl.addv a b = s at *
    generalize Fl.less a c = q at *
    cases hp : Fl.less a b
    · rw [hp] at N1 N5
      have H1 : Hid _ := N1
      have N6 : ∀ w, Calls Try.prog 27 #[.float .f64 a, .float .f64 b, .float .f64 c] w fun e w' => e = .returned (.bool q) ∧ w' = w := by simpa using N5
      have H5 : Hid _ := N6
      clear N1 N5 N6 hp b0 b1 b2
      go_enter Try.func7, Try.ntmps7
      go_wp2_with fail
      refine (H1.out _).mono ?_
      rintro e w' ⟨rfl, rfl⟩
      go_wp2_with fail
      refine (H2.out _).mono ?_
      rintro e w' ⟨rfl, rfl⟩
      go_wp2_with fail
      refine (H3.out _).mono ?_
      rintro e w1 ⟨rfl, g1⟩
      go_wp2_with fail
      refine (H4.out _).mono ?_
      rintro e w' ⟨rfl, rfl⟩
      go_wp2_with fail
      refine (H5.out _).mono ?_
      rintro e w' ⟨rfl, rfl⟩
      go_wp2_with fail
      refine (H9.out _).mono ?_
      rintro e w' ⟨rfl, rfl⟩
      go_wp2_with fail
      go_ret
      exact ⟨rfl, g1⟩
    · rw [hp] at N1 N5
      have H1 : Hid _ := N1
      have N6 : ∀ w, Calls Try.prog 27 #[.float .f64 a, .float .f64 b, .float .f64 c] w fun e w' => e = .returned (.bool false) ∧ w' = w := by simpa using N5
      have H5 : Hid _ := N6
      clear N1 N5 N6 hp b0 b1 b2
      go_enter Try.func7, Try.ntmps7
      go_wp2_with fail
      refine (H1.out _).mono ?_
      rintro e w' ⟨rfl, rfl⟩
      go_wp2_with fail
      refine (H3.out _).mono ?_
      rintro e w1 ⟨rfl, g1⟩
      go_wp2_with fail
      refine (H4.out _).mono ?_
      rintro e w' ⟨rfl, rfl⟩
      go_wp2_with fail
      refine (H5.out _).mono ?_
      rintro e w' ⟨rfl, rfl⟩
      go_wp2_with fail
      refine (H9.out _).mono ?_
      rintro e w' ⟨rfl, rfl⟩
      go_wp2_with fail
      go_ret
      exact ⟨rfl, g1⟩

set_option maxRecDepth 100000 in
theorem lifted (os : Os) (started : os.Started) (H : Type) (enc : TypeId × Value → H) :
    ReturnsInHanded {} Try.checked os 7 .any (Rows.numAddsSpec.pre6 enc Try.prog Try.f7 Rows.numAddsRow.domain false) (Rows.numAddsSpec.post enc Try.prog Try.f7 false true false false) := by
  refine returnsInHanded_of_change (C := Try.checked) own started (by kernel_rfl) Try.func7
    (ChangeSpec.witness6 (enc := enc) (C := Try.checked) false ⟨#[], #[.float .f64 0, .float .f64 0, .float .f64 0], []⟩ 8 (by kernel_rfl) (by kernel_rfl) (by kernel_rfl) (by kernel_rfl)) ?_
  intro W base args ds gs before hval0 hW hcnd _
  have hval : ∀ (j : Nat) t v, Try.f7.params[j]? = some t → args[j]? = some v → Value.okWide Try.prog W .any base t v := hval0
  have hW' := hW
  obtain ⟨p, q, hA0, hV, rfl, hfz, hnd⟩ := hW
  have hA : DataW.TrodAll enc Try.prog W 0 (fun _ => true) true Try.f7.params.toList args.toList ds p := hA0
  rw [Try.params7] at hA hval
  obtain ⟨v0, vs0, d0, ds0, p0, q0, hargs, rfl, rfl, h0, r0⟩ := trodAll_cons hA
  obtain ⟨v1, vs1, d1, ds1, p1, q1, rfl, rfl, rfl, h1, r1⟩ := trodAll_cons r0
  obtain ⟨v2, vs2, d2, ds2, p2, q2, rfl, rfl, rfl, h2, r2⟩ := trodAll_cons r1
  obtain ⟨rfl, rfl, rfl⟩ := trodAll_nil r2
  obtain rfl : args = #[v0, v1, v2] := by cases args; simp_all
  obtain ⟨rfl, rfl⟩ := trodVars_none hV
  obtain ⟨a, rfl, rfl, rfl, w0⟩ := open_float Try.underlying22 (hval 0 22 v0 rfl rfl) h0
  obtain ⟨b, rfl, rfl, rfl, w1⟩ := open_float Try.underlying22 (hval 1 22 v1 rfl rfl) h1
  obtain ⟨c, rfl, rfl, rfl, w2⟩ := open_float Try.underlying22 (hval 2 22 v2 rfl rfl) h2
  clear hA0 hval0
  simp only [List.append_nil] at hW'
  have b0 : a < 18446744073709551616 := by simpa [Lit.wf] using w0
  have b1 : b < 18446744073709551616 := by simpa [Lit.wf] using w1
  have b2 : c < 18446744073709551616 := by simpa [Lit.wf] using w2
  refine (walk a b0 b b1 c b2 W).mono fun e W' ⟨he, hg⟩ => ?_
  subst he
  exact ⟨_, rfl, post_of_same (pa := []) (pv := []) hW' (fun _ _ _ => (trodAll_cons_mk (shut_bool Try.underlying4 _) trodAll_mk0)) (fun sp _ => (trodAll_cons_mk (shut_float Try.underlying22 w0) (trodAll_cons_mk (shut_float Try.underlying22 w1) (trodAll_cons_mk (shut_float Try.underlying22 w2) trodAll_mk0)))) (fun _ _ => rfl) rfl
    (hg.frame _) hg.2.1 (ok_one (by kernel_rfl) rfl (okWide_bool_mk Try.underlying4 _))⟩

theorem over : Rows.numAddsRow.holds Try.pinned (OpenSpec.ofChange Rows.numAddsSpec) :=
  OpenClaim.holds_of_wide 7 Try.f7 rfl rfl rfl rfl rfl rfl rfl ⟨rfl, rfl, rfl, rfl, rfl⟩ rfl rfl rfl rfl rfl (by kernel_rfl) Try.func7 (by kernel_rfl)
    (of_decide_eq_true (by kernel_rfl)) (by unfold Func.isWrapper; first | (rw [if_pos (by decide +kernel)]; kernel_rfl) | (rw [if_neg (by decide +kernel)]; exact ⟨rfl, rfl⟩))
    (fun os started H enc _ => lifted os started H enc)

end Go.Proofs.Ytpnacdjmjicanaa.numAdds

namespace Go.Proofs.Ytpnacdjmjicanaa
theorem numAdds_holds : Rows.NumAddsSaid := numAdds.over
end Go.Proofs.Ytpnacdjmjicanaa
