/-
  Layer 6: the groups of any bytes, as the program and as the document tell them.
-/
import Derived.Test.YtjgeiooblcpiaaaRdN
namespace Go.Proofs.Ytjgeiooblcpiaaa
open Go.RowKit

set_option maxHeartbeats 4000000 in
set_option maxRecDepth 100000 in
theorem rows_far (a : Option Addr) (len cap : Nat) (w : World) (hl : 8000 < len) (hbig : len ≤ 9223372036854775807) :
    Calls Try.prog 4 #[.slice a len cap] w fun e w' => e = .returned (.bool true) ∧ Below w.heap.size w w' := by
  have HA := hide (awake_any w)
  have i1 : (8000 : Int) < (len : Int) := by omega
  go_enter Try.func4, Try.ntmps4
  go_wp2_with fail
  refine HA.out.mono ?_
  rintro e w' ⟨rfl, hb⟩
  go_wp2_with fail
  go_ret
  exact ⟨rfl, hb⟩

theorem GS.two {H : Nat → Prop} {base : Nat} {w : World} {v : Sl} {L : List Gp} (h : GS H base w v L) {k : Nat} (hk : k < v.len) : ∃ b o, v.a = some ⟨b, o, Option.none⟩ ∧ w.cell? ⟨b, o + k, Option.none⟩ = some (L.getD k Gp.zero).v.val := h.own.at hk

set_option maxHeartbeats 8000000 in
set_option maxRecDepth 100000 in
theorem rows_near (a : Option Addr) (len cap : Nat) (xs : List Nat) (w : World) (h : Came w a len cap xs) (hl : len ≤ 8000) :
    Calls Try.prog 4 #[.slice a len cap] w fun e w' => e = .returned (.bool true) ∧ Below w.heap.size w w' := by
  have i1 : ¬ (8000 : Int) < (len : Int) := by omega
  have hA := below_alloc w (.cells #[] 5)
  have HA := hide hA
  have HO := hide (own_new w)
  have HS := hide (h.bs.keep hA (Nat.le_refl _))
  have HN := hide h.nil
  have HXL := hide h.bs.1
  have HXB := hide h.bs.2.1
  have H := hide h
  have HLL : Hid (([] : List Nat).length + len ≤ 1000000) := by show 0 + len ≤ _; omega
  clear h hA
  go_enter Try.func4, Try.ntmps4
  go_wp2_with (at_builtin; refine wpList_append_bytes' _ rfl (.tmp 19) (.tmp 20) rfl w.heap.size _ [] rfl HO.out _ _ _ _ rfl HS.out HN.out HLL.out HA.out.size ?_)
  intro v1 w1 ho1 hb1 _
  replace ho1 : Owns w1 w.heap.size v1 xs := ho1
  have HB1 := hide (HA.out.trans hb1)
  obtain ⟨s1, hv1, hl1, hc1⟩ := ho1.cm HXB.out (by rw [HXL.out]; omega)
  subst hv1
  have HF := hide (first_any w1 s1.a s1.len s1.cap xs hc1.came (by rw [hl1, HXL.out]; omega))
  clear ho1 hb1 hl1 hc1 HO HS HA HLL
  obtain ⟨sa, sl, sc⟩ := s1
  unfold Sl.val
  simp only at HF ⊢
  go_wp2_with fail
  refine HF.out.mono ?_
  rintro e w2 ⟨v2, rfl, ⟨l2, hg2, hi2⟩, hb2⟩
  have HB2 := hide (rBelow HB1.out hb2)
  obtain ⟨n, hn⟩ : ∃ n, n = (dec xs).n := ⟨_, rfl⟩
  obtain ⟨er, her⟩ : ∃ er, er = (dec xs).e := ⟨_, rfl⟩
  rw [← hn, ← her]
  have hcm2 : Came w2 a len cap xs := ⟨H.out.bs.keep HB2.out (Nat.le_refl _), H.out.nil, H.out.le, H.out.big⟩
  have hrf := rfirst_any w2 a len cap xs hcm2 (by omega) (fun _ => True) (fun _ _ _ => trivial)
  have HRF := hide hrf
  have HG2 := hide hg2
  have HI2 := hide hi2
  have HNE := hide (And.intro hn her)
  clear hg2 hi2 hb2 hcm2 hrf hn her HF
  obtain ⟨va, vl, vc⟩ := v2
  unfold Sl.val
  simp only
  go_wp2_with fail
  refine HRF.out.mono ?_
  rintro e w3 ⟨v3, l3, rfl, hg3, hi3, hb3⟩
  rw [← HNE.out.1, ← HNE.out.2]
  have HB3 := hide (rBelow HB2.out hb3)
  have HG23 := hide (HG2.out.below hb3 (Nat.le_refl _))
  have HG3 := hide hg3
  have HI3 := hide hi3
  have hcm3 : Came w3 a len cap xs := ⟨H.out.bs.keep HB3.out (Nat.le_refl _), H.out.nil, H.out.le, H.out.big⟩
  have HRW := hide (row_any w3 a len cap xs hcm3 (by omega))
  clear hg3 hi3 hb3 hcm3 HRF HG2
  obtain ⟨xa, xl, xc⟩ := v3
  unfold Sl.val
  simp only
  go_wp2_with fail
  refine HRW.out.mono ?_
  rintro e w4 ⟨v4, L4, i4, rfl, hg4, hl4, hm4, hok4, hno4, hb4⟩
  have HB4 := hide (rBelow HB3.out hb4)
  have hcm4 : Came w4 a len cap xs := ⟨H.out.bs.keep HB4.out (Nat.le_refl _), H.out.nil, H.out.le, H.out.big⟩
  have HRR := hide (rrow_any w4 a len cap xs hcm4 (by omega))
  have HG24 := hide (HG23.out.below hb4 (Nat.le_refl _))
  have HG34 := hide (HG3.out.below hb4 (Nat.le_refl _))
  have HG4 := hide hg4
  have H4 := hide (And.intro hl4 (And.intro hm4 (And.intro hok4 hno4)))
  obtain ⟨rt, hrt⟩ : ∃ rt, rt = rowAt xs i4 := ⟨_, rfl⟩
  rw [← hrt]
  have HRT := hide hrt
  clear hg4 hl4 hm4 hok4 hno4 hb4 hcm4 HRW HG23 HG3 hrt
  obtain ⟨ya, yl, yc⟩ := v4
  unfold Sl.val
  simp only
  go_wp2_with fail
  refine HRR.out.mono ?_
  rintro e w5 ⟨v5, L5, i5, rfl, hg5, hl5, hm5, hok5, hno5, hb5⟩
  obtain rfl : i5 = i4 := row_end hok5 H4.out.2.2.1 hno5 H4.out.2.2.2
  rw [← HRT.out]
  have HB5 := hide (rBelow HB4.out hb5)
  have hs := rsame_any w5 ⟨va, vl, vc⟩ ⟨xa, xl, xc⟩ l2 l3 (HG24.out.below hb5 (Nat.le_refl _)) (HG34.out.below hb5 (Nat.le_refl _))
  rw [HI2.out, HI3.out, sameB_ok rfl] at hs
  have HSM := hide hs
  have HG45 := hide (HG4.out.keep hb5)
  have HG5 := hide hg5
  obtain ⟨za, zl, zc⟩ := v5
  replace hl5 : zl = i5 := hl5
  have hl4 : yl = i5 := H4.out.1
  have HM : Hid (gims L4 = gims L5) := by show _ = _; rw [hm5]; exact H4.out.2.1
  have hra := rowAt_le (b := xs) i5 H4.out.2.2.1
  rw [HXL.out] at hra
  subst hl5
  subst hl4
  have hylen : yl ≤ 1000000 := by omega
  clear hra
  clear hg5 hm5 hok5 hno5 hb5 hs HRR HG24 HG34 HG4 H4
  unfold Sl.val at HSM ⊢
  simp only at HSM ⊢
  go_wp2_with fail
  refine HSM.out.mono ?_
  rintro e w6 ⟨rfl, hb6⟩
  have HB6 := hide (rBelow HB5.out hb6)
  have HG46 := hide (HG45.out.keep hb6)
  have HG56 := hide (HG5.out.keep hb6)
  clear hb6 HSM HG45 HG5
  go_wp2_with fail
  go_loopw [13] (fun i wr => ∃ k : Nat, k ≤ yl ∧ i = .int .i64 k ∧ Hid (Below w.heap.size w wr) ∧ Hid (Below w6.heap.size w6 wr)) (fun i _ => yl - (intOf i).toNat)
  case atStart => exact ⟨0, by omega, rfl, HB6, hide (Below.refl _ _)⟩
  case round =>
    obtain ⟨k, hk, rfl, hW, hW6⟩ := hrel
    rcases Nat.lt_or_ge k yl with hlt | hge
    · have ga := HG46.out.keep hW6.out
      have gb := HG56.out.keep hW6.out
      obtain ⟨b, o, ha, c0⟩ := ga.two (k := k) hlt
      obtain ⟨c, q, ha2, d0⟩ := gb.two (k := k) hlt
      simp only at ha ha2
      subst ha
      subst ha2
      have hd := below_drew wr
      have g1 := ga.at (i := k) hlt
      have g2 := gb.at (i := k) hlt
      have hs := rsame_any wr.drew _ _ _ _ (g1.below hd (Nat.le_refl _)) (g2.below hd (Nat.le_refl _))
      rw [← gims_getD, ← gims_getD, HM.out, sameB_ok rfl] at hs
      have hT : TwoG b o c q k (L4.getD k Gp.zero).v (L5.getD k Gp.zero).v wr := ⟨c0, d0⟩
      have hlt1 := World.block_lt_of_cell? wr _ c0
      have hlt2 := World.block_lt_of_cell? wr _ d0
      have HRG := hide (fun Q A => @rows12 wr b o c q yl yc yl zc k _ _ hT hlt hlt hs (fun w2 hb => ⟨((rBelow hd hb).cell (p := ⟨b, o + k, none⟩) hlt1).trans c0, ((rBelow hd hb).cell (p := ⟨c, q + k, none⟩) hlt2).trans d0⟩) Q A)
      have i3 : ((k : Nat) : Int) < ((yl : Nat) : Int) := by omega
      clear ga gb c0 d0 hd g1 g2 hs hT hlt1 hlt2
      go_wp2_with fail
      refine Pl.region_is (ops := Pl.find 12 ((Try.f4.body).getD .skip)) (by kernel_rfl) ?_
      refine HRG.out _ _ (by rfl) rfl (by rfl) (by rfl) (by rfl) ?_
      intro uu w9 hb9
      have HB9 := hide (rBelow hW.out hb9)
      have HC9 := hide (rBelow hW6.out hb9)
      simp only [Act.put, List.setIfInBounds_toArray, List.set_cons_zero, List.set_cons_succ]
      clear HRG hb9
      go_wp2_with fail
      go_roundw
      case rel => exact ⟨k + 1, by omega, by go_num, HB9, HC9⟩
      case measure => simp only [intOf]; omega
    · obtain rfl : k = yl := by omega
      have i3 : ¬ ((k : Nat) : Int) < ((k : Nat) : Int) := by omega
      have HAW := hide (awake_any wr)
      go_wp2_with fail
      refine HAW.out.mono ?_
      rintro e w9 ⟨rfl, hb9⟩
      go_wp2_with fail
      go_ret
      exact ⟨rfl, rBelow hW.out hb9⟩
end Go.Proofs.Ytjgeiooblcpiaaa
