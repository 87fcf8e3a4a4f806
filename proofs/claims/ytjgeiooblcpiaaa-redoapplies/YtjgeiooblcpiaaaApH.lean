/-
  Layer 6: images behind a group, as the program and as the document tell them.
-/
import Derived.Test.YtjgeiooblcpiaaaApG
import Derived.Test.YtjgeiooblcpiaaaRdP
namespace Go.Proofs.Ytjgeiooblcpiaaa
open Go.RowKit

theorem fold_mem {α : Type} (p : α → Int) : ∀ (g s : List α) (y : α), y ∈ g.foldl (Ap.put p) s → y ∈ s ∨ y ∈ g
  | [], _, _, h => .inl h
  | m :: r, s, y, h => by
    rcases fold_mem p r _ y h with h | h
    · rcases Ap.mem_put p s m y h with h | h
      · exact .inr (by simp [h])
      · exact .inl h
    · exact .inr (by simp [h])

/-- Images of a group's bytes. -/
theorem Gr.short {D : Nat → Prop} {w : World} {v : Sl} {l : List Ix} (h : Gr D w v l) (hb : ∀ m ∈ ims l, m.bs.length = 512) : ∀ x ∈ l, x.s.len ≤ 1000000 := by
  intro x hx
  have h1 := (h.bs x hx).len
  have h2 := hb x.im (List.mem_map.2 ⟨x, hx, rfl⟩)
  have h3 : x.bs.length = 512 := h2
  omega
theorem short_append {l m : List Ix} (h : ∀ x ∈ l, x.s.len ≤ 1000000) (k : ∀ x ∈ m, x.s.len ≤ 1000000) : ∀ x ∈ l ++ m, x.s.len ≤ 1000000 := by
  intro x hx
  rcases List.mem_append.1 hx with hx | hx
  · exact h x hx
  · exact k x hx

theorem awakeA (w0 w : World) (hb : Below w0.heap.size w0 w) : Calls Try.prog 9 #[] w fun e w' => e = .returned (.bool true) ∧ Below w0.heap.size w0 w' := by
  refine (awake_any w).mono ?_
  rintro e w' ⟨he, h⟩
  exact ⟨he, rBelow hb h⟩

set_option maxHeartbeats 8000000 in
set_option maxRecDepth 100000 in
theorem applies_walk (w : World) (pa : Option Addr) (pl pc : Nat) (ps : List Int) (hp : InsI w pa pl pc ps) (ba : Option Addr) (bl bc : Nat) (bb : List Bt) (hb : InsB w ba bl bc bb) (ma : Option Addr) (ml mc : Nat) (ms : List Int) (hq : InsI w ma ml mc ms) :
    Calls Try.prog 6 #[.slice pa pl pc, .slice ba bl bc, .slice ma ml mc] w fun e w' => e = .returned (.bool true) ∧ Below w.heap.size w w' := by
  have HI := hide (images_any w pa pl pc ps hp ba bl bc bb hb)
  have HBI := hide hb
  have HQ := hide hq
  clear hp hb hq
  go_enter Try.func6, Try.ntmps6
  go_wp2_with fail
  refine HI.out.mono ?_
  rintro e w1 ⟨⟨va, vl, vc⟩, lp, rfl, hg1, hi1, hb1⟩
  have hv1 : vl ≤ 9 := by
    have h9 : lp.length = vl := hg1.len
    have hcn : cnt pl bl ≤ 9 := Nat.min_le_right _ _
    rw [← ims_length, hi1, imgsOf_length] at h9
    omega
  have HG1 : Hid (Gr (fun _ => True) w1 ⟨va, vl, vc⟩ lp) := (hg1.gr (by show vl ≤ 1000000; omega)).mono (fun _ _ _ => trivial)
  have HB1 := hide hb1
  have HI2 := hide (images_any w1 ma ml mc ms (HQ.out.below hb1 (Nat.le_refl _)) ba bl bc bb (HBI.out.below hb1 (Nat.le_refl _)))
  clear hg1 hi1 hb1 HI
  unfold Sl.val
  simp only
  go_wp2_with fail
  refine HI2.out.mono ?_
  rintro e w2 ⟨⟨ga, gl, gc⟩, lg, rfl, hg2, hi2, hb2⟩
  have hv2 : gl ≤ 9 := by
    have h9 : lg.length = gl := hg2.len
    have hcn : cnt ml bl ≤ 9 := Nat.min_le_right _ _
    rw [← ims_length, hi2, imgsOf_length] at h9
    omega
  have HG2 : Hid (Gr (fun _ => True) w2 ⟨ga, gl, gc⟩ lg) := (hg2.gr (by show gl ≤ 1000000; omega)).mono (fun _ _ _ => trivial)
  have HP2 := hide (HG1.out.below hb2 (Nat.le_refl _))
  have HB2 := hide (rBelow HB1.out hb2)
  have hmy := rmay_any w2 ⟨va, vl, vc⟩ lp HP2.out
  clear hg2 hi2 hb2 HI2 HG1
  unfold Sl.val
  simp only
  by_cases hm1 : May (ims lp)
  · rw [mayB_ok hm1] at hmy
    have HMY := hide hmy
    have HM1 := hide hm1
    clear hmy hm1
    unfold Sl.val at HMY
    simp only at HMY
    go_wp2_with fail
    refine HMY.out.mono ?_
    rintro e w3 ⟨rfl, hb3⟩
    have HB3 := hide (rBelow HB2.out hb3)
    have HP3 := hide (HP2.out.below hb3 (Nat.le_refl _))
    have HG3 := hide (HG2.out.below hb3 (Nat.le_refl _))
    have hmy := rmay_any w3 ⟨ga, gl, gc⟩ lg HG3.out
    clear hb3 HMY HP2 HG2
    by_cases hm2 : May (ims lg)
    · rw [mayB_ok hm2] at hmy
      have HMY := hide hmy
      have HM2 := hide hm2
      clear hmy hm2
      unfold Sl.val at HMY
      simp only at HMY
      go_wp2_with fail
      refine HMY.out.mono ?_
      rintro e w4 ⟨rfl, hb4⟩
      have HB4 := hide (rBelow HB3.out hb4)
      have HP4 := hide (HP3.out.below hb4 (Nat.le_refl _))
      have HG4 := hide (HG3.out.below hb4 (Nat.le_refl _))
      have hpl : vl ≤ 6 ∧ 1 ≤ vl := by
        have h9 : lp.length = vl := HP4.out.len
        have := HM1.out.1
        have := HM1.out.2.1
        rw [ims_length] at *
        omega
      have hgl : gl ≤ 6 ∧ 1 ≤ gl := by
        have h9 : lg.length = gl := HG4.out.len
        have := HM2.out.1
        have := HM2.out.2.1
        rw [ims_length] at *
        omega
      have HSP := hide HM1.out.steep
      have HSG := hide HM2.out.steep
      obtain ⟨X, hX⟩ : ∃ X, X = (ims lg).foldl (Ap.put Im.page) (ims lp) := ⟨_, rfl⟩
      have HXS : Hid (Ap.Steep Im.page X) := by rw [hX]; exact Ap.fold_steep Im.page _ HSP.out
      have HXL : Hid (X.length ≤ 12) := by
        have h9 := Ap.fold_len Im.page (ims lg) (ims lp)
        rw [← hX] at h9
        have := HM1.out.2.1
        have := HM2.out.2.1
        show _ ≤ _
        omega
      have HXB : Hid (∀ m ∈ X, m.bs.length = 512) := by
        intro m hm
        rw [hX] at hm
        rcases fold_mem Im.page _ _ m hm with h | h
        · exact HM1.out.len m h
        · exact HM2.out.len m h
      have HTW : Hid ((ims lg).foldl (Ap.put Im.page) X = X) := by
        rw [hX]
        exact Ap.apply_twice Im.page HSP.out HSG.out
      have hsp := HP4.out.short HM1.out.len
      have hsg := HG4.out.short HM2.out.len
      have hap := apply_any w4 ⟨va, vl, vc⟩ ⟨ga, gl, gc⟩ lp lg HP4.out HG4.out (by show 0 < vl + gl; omega) (by show vl + gl ≤ 19; omega) (short_append hsp hsg)
      rw [Ap.apply_is Im.page HSP.out, ← hX] at hap
      have HAP := hide hap
      have HX := hide hX
      clear hb4 HMY HP3 HG3 hsp hsg hap hX
      unfold Sl.val at HAP
      simp only at HAP
      go_wp2_with fail
      refine HAP.out.mono ?_
      rintro e w5 ⟨⟨xa, xl, xc⟩, lx, rfl, hg5, hi5, hb5⟩
      have HB5 := hide (rBelow HB4.out hb5)
      have HP5 := hide (HP4.out.below hb5 (Nat.le_refl _))
      have HG5 := hide (HG4.out.below hb5 (Nat.le_refl _))
      have HX5 := hide hg5
      have HI5 := hide hi5
      have hxl : xl ≤ 12 := by
        have h9 : lx.length = xl := hg5.len
        have := HXL.out
        rw [← hi5, ims_length] at this
        omega
      have HRA := hide (rapply_any w5 ⟨va, vl, vc⟩ ⟨ga, gl, gc⟩ lp lg HP5.out HG5.out (by show vl + gl ≤ 1000; omega) (steep_ims HSP.out))
      clear hb5 hg5 hi5 HAP HP4 HG4
      unfold Sl.val at HRA ⊢
      simp only at HRA ⊢
      go_wp2_with fail
      refine HRA.out.mono ?_
      rintro e w6 ⟨⟨ra, rl, rc⟩, lr, rfl, hg6, hi6, hb6⟩
      have HB6 := hide (rBelow HB5.out hb6)
      have HG6 := hide (HG5.out.below hb6 (Nat.le_refl _))
      have HX6 := hide (HX5.out.below hb6 (Nat.le_refl _))
      have hsm := rsame_any w6 ⟨xa, xl, xc⟩ ⟨ra, rl, rc⟩ lx lr HX6.out hg6
      rw [HI5.out, hi6, ← HX.out, sameB_ok rfl] at hsm
      have HSM := hide hsm
      clear hg6 hi6 hb6 hsm HRA HG5 HX5 HP5
      unfold Sl.val at HSM ⊢
      simp only at HSM ⊢
      go_wp2_with fail
      refine HSM.out.mono ?_
      rintro e w7 ⟨rfl, hb7⟩
      have HB7 := hide (rBelow HB6.out hb7)
      have HG7 := hide (HG6.out.below hb7 (Nat.le_refl _))
      have HX7 := hide (HX6.out.below hb7 (Nat.le_refl _))
      have hsx := HX7.out.short (by rw [HI5.out]; exact HXB.out)
      have hsg := HG7.out.short HM2.out.len
      have hap := apply_any w7 ⟨xa, xl, xc⟩ ⟨ga, gl, gc⟩ lx lg HX7.out HG7.out (by show 0 < xl + gl; omega) (by show xl + gl ≤ 19; omega) (short_append hsx hsg)
      rw [HI5.out, Ap.apply_is Im.page HXS.out, HTW.out] at hap
      have HAP := hide hap
      clear hb7 hsx hsg hap HSM HG6 HX6
      unfold Sl.val at HAP
      simp only at HAP
      go_wp2_with fail
      refine HAP.out.mono ?_
      rintro e w8 ⟨⟨ta, tl, tc⟩, lt, rfl, hg8, hi8, hb8⟩
      have HB8 := hide (rBelow HB7.out hb8)
      have HG8 := hide (HG7.out.below hb8 (Nat.le_refl _))
      have HX8 := hide (HX7.out.below hb8 (Nat.le_refl _))
      have hsm := rsame_any w8 ⟨ta, tl, tc⟩ ⟨xa, xl, xc⟩ lt lx hg8 HX8.out
      rw [HI5.out, hi8, sameB_ok rfl] at hsm
      have HSM := hide hsm
      clear hg8 hi8 hb8 hsm HAP HG7 HX7
      unfold Sl.val at HSM ⊢
      simp only at HSM ⊢
      go_wp2_with fail
      refine HSM.out.mono ?_
      rintro e w9 ⟨rfl, hb9⟩
      have HB9 := hide (rBelow HB8.out hb9)
      have HG9 := hide (HG8.out.below hb9 (Nat.le_refl _))
      have hsg := HG9.out.short HM2.out.len
      have hap := apply_any (D := fun _ => True) w9 Sl.nil ⟨ga, gl, gc⟩ [] lg Gr.none HG9.out (by show 0 < 0 + gl; omega) (by show 0 + gl ≤ 19; omega) (short_append (fun _ h => by cases h) hsg)
      have hnil : ims ([] : List Ix) = [] := rfl
      rw [hnil, Ap.apply_is Im.page (s := []) trivial, Ap.apply_nil Im.page HSG.out] at hap
      have HAP := hide hap
      clear hb9 hsg hap HSM HG8 HX8 hnil
      unfold Sl.val Sl.nil at HAP
      simp only at HAP
      go_wp2_with fail
      refine HAP.out.mono ?_
      rintro e w10 ⟨⟨ua, ul, uc⟩, lu, rfl, hg10, hi10, hb10⟩
      have HB10 := hide (rBelow HB9.out hb10)
      have hsm := rsame_any w10 ⟨ua, ul, uc⟩ ⟨ga, gl, gc⟩ lu lg hg10 (HG9.out.below hb10 (Nat.le_refl _))
      rw [hi10, sameB_ok rfl] at hsm
      have HSM := hide hsm
      clear hg10 hi10 hb10 hsm HAP HG9
      unfold Sl.val at HSM ⊢
      simp only at HSM ⊢
      go_wp2_with fail
      refine HSM.out.mono ?_
      rintro e w11 ⟨rfl, hb11⟩
      have HAW := hide (awakeA w w11 (rBelow HB10.out hb11))
      clear hb11 HSM
      go_wp2_with fail
      refine HAW.out.mono ?_
      rintro e w12 ⟨rfl, hb12⟩
      have HB12 := hide hb12
      clear hb12
      go_wp2_with fail
      go_ret
      exact ⟨rfl, HB12.out⟩
    · rw [mayB_no hm2] at hmy
      have HMY := hide hmy
      clear hmy hm2
      unfold Sl.val at HMY
      simp only at HMY
      go_wp2_with fail
      refine HMY.out.mono ?_
      rintro e w4 ⟨rfl, hb4⟩
      have HAW := hide (awakeA w w4 (rBelow HB3.out hb4))
      clear hb4 HMY
      go_wp2_with fail
      refine HAW.out.mono ?_
      rintro e w5 ⟨rfl, hb5⟩
      have HB5 := hide hb5
      clear hb5
      go_wp2_with fail
      go_ret
      exact ⟨rfl, HB5.out⟩
  · rw [mayB_no hm1] at hmy
    have HMY := hide hmy
    clear hmy hm1
    unfold Sl.val at HMY
    simp only at HMY
    go_wp2_with fail
    refine HMY.out.mono ?_
    rintro e w4 ⟨rfl, hb4⟩
    have HAW := hide (awakeA w w4 (rBelow HB2.out hb4))
    clear hb4 HMY
    go_wp2_with fail
    refine HAW.out.mono ?_
    rintro e w5 ⟨rfl, hb5⟩
    have HB5 := hide hb5
    clear hb5
    go_wp2_with fail
    go_ret
    exact ⟨rfl, HB5.out⟩
end Go.Proofs.Ytjgeiooblcpiaaa
