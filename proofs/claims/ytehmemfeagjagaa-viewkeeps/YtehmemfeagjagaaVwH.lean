/-
  The walk of ViewMakes.
-/
import Derived.Test.YtehmemfeagjagaaVwG
namespace Go.Proofs.Ytehmemfeagjagaa
open Go.RowKit
set_option maxRecDepth 100000
set_option linter.unusedVariables false

theorem sameV_self (v : Vw) : sameV v v = true := by unfold sameV; simp
theorem gi_len {D : Nat → Prop} {w : World} {s : Sl} {v : Vw} (h : Gi D w s v.act) (hm : MayV v) : s.len ≤ 200 := by
  have := h.len
  have := hm.2.2.1
  omega

set_option maxHeartbeats 8000000 in
set_option maxRecDepth 100000 in
theorem makes_walk (HS : ViewS) (w : World) (me next : Int) (a : Option Addr) (len cap : Nat) (live : List Int) (h : InI w ⟨a, len, cap⟩ live) :
    Calls Try.prog 3 #[.int .i64 me, .int .i64 next, .slice a len cap] w fun e w' => e = .returned (.bool true) ∧ Below w.heap.size w w' := by
  have HH := hide HS
  have HA := hide (fun W => awakeV_any HS W)
  have hbig : len ≤ 9223372036854775807 := h.big
  by_cases hl : len ≤ 200
  · have hg := h.gi (by show len ≤ 1000000; omega)
    have HF := hide (HS.of w ⟨a, len, cap⟩ live hg hl me next)
    have HG := hide hg
    have i1 : ¬ (200 : Int) < ((len : Nat) : Int) := by omega
    obtain ⟨o, ho⟩ : ∃ o, o = ofV me next live := ⟨_, rfl⟩
    have HO := hide ho
    rw [← ho] at HF
    unfold Sl.val at HF
    simp only at HF
    clear h hg HS ho
    go_enter Try.func3, Try.ntmps3
    go_wp2_with fail
    refine HF.out.mono ?_
    rintro e w1 ⟨hb1, v, s, ok, rfl, hv, hok⟩
    obtain ⟨W1, hst, hk, hbW⟩ := box_vw w1 v s
    have HST := hide hst
    have HB1 := hide (rBelow hb1 hbW)
    have HV := hide ((hv.wide (E := fun _ => True) (fun _ _ => trivial)).below hbW (Nat.le_refl _))
    have HK1 := hide hk
    have HOK := hide hok
    have HR := hide (rof_any W1 ⟨a, len, cap⟩ live (HG.out.below HB1.out (Nat.le_refl _)) hl me next)
    rw [← HO.out] at HR
    obtain ⟨sa, sn, sc⟩ := s
    unfold vwV Sl.val at HST
    unfold Sl.val at HR
    simp only at HST HR
    clear hb1 hv hst hk hbW hok HF HG
    have HOO := HO
    clear HO
    unfold vwV Sl.val
    simp only
    go_wp2_with (first | refine wpList_store _ rfl rfl 25 (.tmp 7) (.tmp 20) rfl (.pointer (some ⟨w1.heap.size, 0, none⟩)) _ rfl rfl W1 HST.out ?_)
    refine HR.out.mono ?_
    rintro e w2 ⟨hb2, u, t, ok2, rfl, hu, hok2⟩
    obtain ⟨W2, hst, hk, hbW⟩ := box_vw w2 u t
    have HST2 := hide hst
    have HB2 := hide (rBelow hb2 hbW)
    have HBB := hide (rBelow HB1.out HB2.out)
    have HU := hide ((hu.wide (E := fun _ => True) (fun _ _ => trivial)).below hbW (Nat.le_refl _))
    have HV2 := hide (HV.out.below HB2.out (Nat.le_refl _))
    have HK2 := hide hk
    have HK12 := hide (HK1.out.keep HB2.out)
    obtain ⟨ta, tn, tc⟩ := t
    unfold vwV Sl.val at HST2
    simp only at HST2
    clear hb2 hu hst hk hbW HR HV HK1 HST
    unfold vwV Sl.val
    simp only
    have HSM := hide (fun (W : World) (hb : Below W2.heap.size W2 W) => rsame_any W ⟨sa, sn, sc⟩ ⟨ta, tn, tc⟩ v u (HV2.out.below hb (Nat.le_refl _)) (HU.out.below hb (Nat.le_refl _)))
    have HSN := hide (fun (W : World) (hb : Below W2.heap.size W2 W) => rsame_any W ⟨sa, sn, sc⟩ Sl.nil v Vw.zero (HV2.out.below hb (Nat.le_refl _)) (gi_nil (fun _ => True) W))
    have k0 := HK12.out.c0
    have k1 := HK12.out.c1
    have k2 := HK12.out.c2
    have j0 := HK2.out.c0
    have j1 := HK2.out.c1
    have j2 := HK2.out.c2
    unfold Sl.val at k2 j2
    simp only at k0 k1 k2 j0 j1 j2
    cases ok2 with
    | false =>
      have e1 : (v = Vw.zero ∧ ok = false) ∧ u = Vw.zero := by
        rcases hok2 with ⟨_, h2⟩ | ⟨h1, h2, _⟩
        · cases h2
        · rcases HOK.out with ⟨h3, _⟩ | ⟨_, h4, h5⟩
          · rw [h1] at h3; cases h3
          · exact ⟨⟨h4, h5⟩, h2⟩
      obtain ⟨⟨rfl, rfl⟩, rfl⟩ := e1
      have HSN2 := hide (HSN.out W2 (Below.refl _ _))
      rw [sameV_self] at HSN2
      unfold vwV Vw.zero Sl.nil Sl.val at HSN2
      unfold Vw.zero at HST2 k0 k1 j0 j1 ⊢
      unfold errV
      simp only [Bool.false_eq_true, if_false] at HSN2 HST2 k0 k1 j0 j1 ⊢
      clear hok2 HSM HSN HOK HK2 HK12 HU HV2
      go_wp2_with (first | refine wpList_store _ rfl rfl 25 (.tmp 9) (.tmp 27) rfl (.pointer (some ⟨w2.heap.size, 0, none⟩)) _ rfl rfl W2 HST2.out ?_)
      refine HSN2.out.mono ?_
      rintro e w3 ⟨rfl, hb3⟩
      have HB3 := hide (rBelow HBB.out hb3)
      clear hb3
      go_wp2_with fail
      refine (HA.out w3).mono ?_
      rintro e w4 ⟨rfl, hb4⟩
      have HB4 := hide (rBelow HB3.out hb4)
      clear hb4
      go_wp2_with fail
      go_ret
      exact ⟨rfl, HB4.out⟩
    | true =>
      have e1 : (v = u ∧ ok = true) ∧ MayV u := by
        rcases hok2 with ⟨h1, _⟩ | ⟨_, _, h2⟩
        · rcases HOK.out with ⟨h3, h4⟩ | ⟨h3, _⟩
          · rw [h1] at h3
            exact ⟨⟨(Option.some.inj h3).symm, h4⟩, ofV_may (HOO.out.symm.trans h1)⟩
          · rw [h1] at h3; cases h3
        · cases h2
      obtain ⟨⟨rfl, rfl⟩, hm⟩ := e1
      have HLS : Hid (sn ≤ 200) := gi_len (s := ⟨sa, sn, sc⟩) HV2.out hm
      have HSM2 := hide (HSM.out W2 (Below.refl _ _))
      rw [sameV_self] at HSM2
      have HCK := hide (fun (W : World) (hb : Below W2.heap.size W2 W) => HH.out.check W ⟨sa, sn, sc⟩ v (HV2.out.below hb (Nat.le_refl _)) HLS.out)
      rw [decide_eq_true hm] at HCK
      have HKB := hide (fun (W : World) (hb : Below W2.heap.size W2 W) => HK12.out.keep hb)
      unfold vwV Sl.val at HSM2
      unfold errV vwV Sl.val at HCK
      unfold errV
      simp only [if_true] at HSM2 HCK ⊢
      clear hok2 HSM HSN HOK HK2 HK12 HU HV2 hm
      go_wp2_with (first | refine wpList_store _ rfl rfl 25 (.tmp 9) (.tmp 27) rfl (.pointer (some ⟨w2.heap.size, 0, none⟩)) _ rfl rfl W2 HST2.out ?_)
      refine HSM2.out.mono ?_
      rintro e w3 ⟨rfl, hb3⟩
      have HB3 := hide hb3
      have k0 := (HKB.out w3 hb3).c0
      have k1 := (HKB.out w3 hb3).c1
      have k2 := (HKB.out w3 hb3).c2
      unfold Sl.val at k2
      simp only at k0 k1 k2
      have HC3 := hide (HCK.out w3 hb3)
      clear hb3
      go_wp2_with fail
      refine HC3.out.mono ?_
      rintro e w4 ⟨rfl, hb4⟩
      have HB4 := hide (rBelow HBB.out (rBelow HB3.out hb4))
      clear hb4
      go_wp2_with fail
      refine (HA.out w4).mono ?_
      rintro e w5 ⟨rfl, hb5⟩
      have HB5 := hide (rBelow HB4.out hb5)
      clear hb5
      go_wp2_with fail
      go_ret
      exact ⟨rfl, HB5.out⟩
  · have i1 : (200 : Int) < ((len : Nat) : Int) := by omega
    clear h HS
    go_enter Try.func3, Try.ntmps3
    go_wp2_with fail
    refine (HA.out w).mono ?_
    rintro e w1 ⟨rfl, hb1⟩
    have HB1 := hide hb1
    clear hb1
    go_wp2_with fail
    go_ret
    exact ⟨rfl, HB1.out⟩

end Go.Proofs.Ytehmemfeagjagaa
