/-
  Proved: whatever two float64s it is handed, the law humuslaw01.NumOrders of the landed program (the theorem of order) returns true, and its arguments read behind the call as they read before; no condition.
-/
import Derived.Test.YtpnacdjmjicanaaMore
import Derived.ProofKit
import Derived.OpenShut
namespace Go.Proofs.Ytpnacdjmjicanaa.numOrders
open Go.ChangeShapes Go.WideShapes Go.ChangeAt Go.RowKit
set_option linter.unusedVariables false

theorem own : ownKnob Try.prog.godebug = none := by kernel_rfl

theorem pick (p q : Bool) (h : p = true → q = false) : (p = true ∧ q = false) ∨ (p = false ∧ q = true) ∨ (p = false ∧ q = false) := by
  cases p <;> cases q <;> simp_all

set_option maxHeartbeats 1000000 in
theorem walk (a : Nat) (b0 : a < 18446744073709551616) (b : Nat) (b1 : b < 18446744073709551616) (w : World) :
    Calls Try.prog 4 #[.float .f64 a, .float .f64 b] w fun e w' => e = .returned (.bool true) ∧ Grown w w' := by
  have N1 := compare_any a b b0 b1
  have N2 := refLess_any a b b0 b1
  have N3 := refLess_any b a b1 b0
  have H4 : Hid _ := rank_any a b0
  have H5 : Hid _ := rank_any b b1
  have N6 := refAlike_any a b b0 b1
  have H7 : Hid _ := same_any a b
  have H8 : Hid _ := refSame_any a b
  have H9 : Hid _ := awake_any
  have hrk := Fl.rk_less a b b0 b1
  have hal := Fl.alike a b b0 b1
  rw [← hal] at N6
  rcases pick (Fl.less a b) (Fl.less b a) (Fl.less_asymm a b) with ⟨h1, h2⟩ | ⟨h1, h2⟩ | ⟨h1, h2⟩
  · have hc : cmp a b = -1 := by unfold cmp; rw [h1, h2]; rfl
    rw [hc] at N1
    rw [h1] at N2 hrk
    have hlt := of_decide_eq_true hrk
    rw [h2] at N3
    rw [h1, h2] at N6
    have H1 : Hid _ := N1
    have H2 : Hid _ := N2
    have H3 : Hid _ := N3
    have H6 : Hid _ := N6
    clear hc N1 N2 N3 N6 h1 h2 hrk hal b0 b1
    generalize Fl.rk a = ra at *
    generalize Fl.rk b = rb at *
    generalize (a == b) = s at *
    go_enter Try.func4, Try.ntmps4
    go_wp2_with fail
    refine (H1.out _).mono ?_
    rintro e w' ⟨rfl, rfl⟩
    go_wp2_with fail
    refine (H2.out _).mono ?_
    rintro e w' ⟨rfl, rfl⟩
    go_wp2_with fail
    refine (H3.out _).mono ?_
    rintro e w' ⟨rfl, rfl⟩
    go_wp2_with fail
    refine (H4.out _).mono ?_
    rintro e w' ⟨rfl, rfl⟩
    go_wp2_with fail
    refine (H5.out _).mono ?_
    rintro e w' ⟨rfl, rfl⟩
    go_wp2_with fail
    refine (H6.out _).mono ?_
    rintro e w' ⟨rfl, rfl⟩
    go_wp2_with fail
    refine (H7.out _).mono ?_
    rintro e w' ⟨rfl, rfl⟩
    go_wp2_with fail
    refine (H8.out _).mono ?_
    rintro e w' ⟨rfl, rfl⟩
    go_wp2_with fail
    refine (H9.out _).mono ?_
    rintro e w' ⟨rfl, rfl⟩
    go_wp2_with fail
    go_ret
    exact ⟨rfl, Grown.refl _⟩
  · have hc : cmp a b = 1 := by unfold cmp; rw [h1, h2]; rfl
    rw [hc] at N1
    rw [h1] at N2 hrk
    have hlt := of_decide_eq_false hrk
    rw [h2] at N3
    rw [h1, h2] at N6
    have H1 : Hid _ := N1
    have H2 : Hid _ := N2
    have H3 : Hid _ := N3
    have H6 : Hid _ := N6
    clear hc N1 N2 N3 N6 h1 h2 hrk hal b0 b1
    generalize Fl.rk a = ra at *
    generalize Fl.rk b = rb at *
    generalize (a == b) = s at *
    go_enter Try.func4, Try.ntmps4
    go_wp2_with fail
    refine (H1.out _).mono ?_
    rintro e w' ⟨rfl, rfl⟩
    go_wp2_with fail
    refine (H2.out _).mono ?_
    rintro e w' ⟨rfl, rfl⟩
    go_wp2_with fail
    refine (H3.out _).mono ?_
    rintro e w' ⟨rfl, rfl⟩
    go_wp2_with fail
    refine (H4.out _).mono ?_
    rintro e w' ⟨rfl, rfl⟩
    go_wp2_with fail
    refine (H5.out _).mono ?_
    rintro e w' ⟨rfl, rfl⟩
    go_wp2_with fail
    refine (H6.out _).mono ?_
    rintro e w' ⟨rfl, rfl⟩
    go_wp2_with fail
    refine (H7.out _).mono ?_
    rintro e w' ⟨rfl, rfl⟩
    go_wp2_with fail
    refine (H8.out _).mono ?_
    rintro e w' ⟨rfl, rfl⟩
    go_wp2_with fail
    refine (H9.out _).mono ?_
    rintro e w' ⟨rfl, rfl⟩
    go_wp2_with fail
    go_ret
    exact ⟨rfl, Grown.refl _⟩
  · have hc : cmp a b = 0 := by unfold cmp; rw [h1, h2]; rfl
    rw [hc] at N1
    rw [h1] at N2 hrk
    have hlt := of_decide_eq_false hrk
    rw [h2] at N3
    rw [h1, h2] at N6
    have H1 : Hid _ := N1
    have H2 : Hid _ := N2
    have H3 : Hid _ := N3
    have H6 : Hid _ := N6
    clear hc N1 N2 N3 N6 h1 h2 hrk hal b0 b1
    generalize Fl.rk a = ra at *
    generalize Fl.rk b = rb at *
    generalize (a == b) = s at *
    go_enter Try.func4, Try.ntmps4
    go_wp2_with fail
    refine (H1.out _).mono ?_
    rintro e w' ⟨rfl, rfl⟩
    go_wp2_with fail
    refine (H2.out _).mono ?_
    rintro e w' ⟨rfl, rfl⟩
    go_wp2_with fail
    refine (H3.out _).mono ?_
    rintro e w' ⟨rfl, rfl⟩
    go_wp2_with fail
    refine (H4.out _).mono ?_
    rintro e w' ⟨rfl, rfl⟩
    go_wp2_with fail
    refine (H5.out _).mono ?_
    rintro e w' ⟨rfl, rfl⟩
    go_wp2_with fail
    refine (H6.out _).mono ?_
    rintro e w' ⟨rfl, rfl⟩
    go_wp2_with fail
    refine (H7.out _).mono ?_
    rintro e w' ⟨rfl, rfl⟩
    go_wp2_with fail
    refine (H8.out _).mono ?_
    rintro e w' ⟨rfl, rfl⟩
    go_wp2_with fail
    refine (H9.out _).mono ?_
    rintro e w' ⟨rfl, rfl⟩
    go_wp2_with fail
    go_ret
    exact ⟨rfl, Grown.refl _⟩

set_option maxRecDepth 100000 in
theorem lifted (os : Os) (started : os.Started) (H : Type) (enc : TypeId × Value → H) :
    ReturnsInHanded {} Try.checked os 4 .any (Rows.numOrdersSpec.pre6 enc Try.prog Try.f4 Rows.numOrdersRow.domain false) (Rows.numOrdersSpec.post enc Try.prog Try.f4 false true false false) := by
  refine returnsInHanded_of_change (C := Try.checked) own started (by kernel_rfl) Try.func4
    (ChangeSpec.witness6 (enc := enc) (C := Try.checked) false ⟨#[], #[.float .f64 0, .float .f64 0], []⟩ 8 (by kernel_rfl) (by kernel_rfl) (by kernel_rfl) (by kernel_rfl)) ?_
  intro W base args ds gs before hval0 hW hcnd _
  have hval : ∀ (j : Nat) t v, Try.f4.params[j]? = some t → args[j]? = some v → Value.okWide Try.prog W .any base t v := hval0
  have hW' := hW
  obtain ⟨p, q, hA0, hV, rfl, hfz, hnd⟩ := hW
  have hA : DataW.TrodAll enc Try.prog W 0 (fun _ => true) true Try.f4.params.toList args.toList ds p := hA0
  rw [Try.params4] at hA hval
  obtain ⟨v0, vs0, d0, ds0, p0, q0, hargs, rfl, rfl, h0, r0⟩ := trodAll_cons hA
  obtain ⟨v1, vs1, d1, ds1, p1, q1, rfl, rfl, rfl, h1, r1⟩ := trodAll_cons r0
  obtain ⟨rfl, rfl, rfl⟩ := trodAll_nil r1
  obtain rfl : args = #[v0, v1] := by cases args; simp_all
  obtain ⟨rfl, rfl⟩ := trodVars_none hV
  obtain ⟨a, rfl, rfl, rfl, w0⟩ := open_float Try.underlying22 (hval 0 22 v0 rfl rfl) h0
  obtain ⟨b, rfl, rfl, rfl, w1⟩ := open_float Try.underlying22 (hval 1 22 v1 rfl rfl) h1
  clear hA0 hval0
  simp only [List.append_nil] at hW'
  have b0 : a < 18446744073709551616 := by simpa [Lit.wf] using w0
  have b1 : b < 18446744073709551616 := by simpa [Lit.wf] using w1
  refine (walk a b0 b b1 W).mono fun e W' ⟨he, hg⟩ => ?_
  subst he
  exact ⟨_, rfl, post_of_same (pa := []) (pv := []) hW' (fun _ _ _ => (trodAll_cons_mk (shut_bool Try.underlying4 _) trodAll_mk0)) (fun sp _ => (trodAll_cons_mk (shut_float Try.underlying22 w0) (trodAll_cons_mk (shut_float Try.underlying22 w1) trodAll_mk0))) (fun _ _ => rfl) rfl
    (hg.frame _) hg.2.1 (ok_one (by kernel_rfl) rfl (okWide_bool_mk Try.underlying4 _))⟩

theorem over : Rows.numOrdersRow.holds Try.pinned (OpenSpec.ofChange Rows.numOrdersSpec) :=
  OpenClaim.holds_of_wide 4 Try.f4 rfl rfl rfl rfl rfl rfl rfl ⟨rfl, rfl, rfl, rfl, rfl⟩ rfl rfl rfl rfl rfl (by kernel_rfl) Try.func4 (by kernel_rfl)
    (of_decide_eq_true (by kernel_rfl)) (by unfold Func.isWrapper; first | (rw [if_pos (by decide +kernel)]; kernel_rfl) | (rw [if_neg (by decide +kernel)]; exact ⟨rfl, rfl⟩))
    (fun os started H enc _ => lifted os started H enc)

end Go.Proofs.Ytpnacdjmjicanaa.numOrders

namespace Go.Proofs.Ytpnacdjmjicanaa
theorem numOrders_holds : Rows.NumOrdersSaid := numOrders.over
end Go.Proofs.Ytpnacdjmjicanaa
