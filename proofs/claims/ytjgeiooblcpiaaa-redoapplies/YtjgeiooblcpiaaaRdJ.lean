/-
  Layer 6: the law's small call that shows that a group is read back.
-/
import Derived.Test.YtjgeiooblcpiaaaRdI
namespace Go.Proofs.Ytjgeiooblcpiaaa
open Go.RowKit

/-- One image, laid as a row. -/
theorem gr_one {D : Nat → Prop} (w : World) (x : Ix) (hx : Cm D w x.s x.bs) : Gr (fun k => D k ∨ k = w.heap.size) (w.alloc (.cells #[.int .i64 x.page, x.s.val] 28)) ⟨some ⟨w.heap.size, 0, none⟩, 1, 1⟩ [x] := by
  have hb := imBlk_new w x.page x.s.val
  refine ⟨rfl, fun e => (by cases e), Nat.le_refl _, by show 1 ≤ 1000000; decide, fun ad ha _ => ?_, fun i hi => ?_, fun y hy => ?_⟩
  · cases ha
    exact .inr rfl
  · obtain rfl : i = 0 := by have : i < 1 := hi; omega
    exact ⟨w.heap.size, 0, rfl, hb.c0, hb.c1⟩
  · rw [List.mem_singleton.1 hy]
    exact (hx.below (below_alloc w _) (Nat.le_refl _)).mono (fun k hk _ => .inl hk)

theorem may_one {p : Int} {b : List Nat} (h0 : 0 ≤ p) (h1 : p ≤ 63) (hb : b.length = 512) : May [⟨p, b⟩] := by
  refine ⟨by show 1 ≤ 1; decide, by show 1 ≤ 6; decide, fun i hi => ?_⟩
  obtain rfl : i = 0 := by have : i < 1 := hi; omega
  exact ⟨h0, by show (-1 : Int) < p; omega, h1, hb⟩

theorem pageOf7 : (pageOf [7]).getD 511 0 = 7 := by decide +kernel

set_option maxHeartbeats 4000000 in
set_option maxRecDepth 100000 in
theorem awake_any (w : World) : Calls Try.prog 9 #[] w fun e w' => e = .returned (.bool true) ∧ Below w.heap.size w w' := by
  have hb7 : Bytes [7] := fun y hy => by simp at hy; omega
  have hA := below_alloc w (.cells #[.int .u8 7] 5)
  have h7 : Bs (w.alloc (.cells #[.int .u8 7] 5)) (some ⟨w.heap.size, 0, none⟩) 1 [7] := bs_marked w [7] (0, 0) hb7
  have HP := hide (page_any (w.alloc (.cells #[.int .u8 7] 5)) (some ⟨w.heap.size, 0, none⟩) 1 1 [7] ⟨h7, fun e => (by cases e), Nat.le_refl _, by omega⟩)
  have HA := hide hA
  have HM : Hid (May [⟨3, pageOf [7]⟩]) := may_one (by omega) (by omega) (pageOf_length _)
  have HPB := hide (pageOf_bytes [7] hb7)
  clear hA h7 hb7
  go_enter Try.func9, Try.ntmps9
  go_wp2_with fail
  refine HP.out.mono ?_
  rintro e w1 ⟨hb1, rfl, hc1⟩
  have HB1 := hide (rBelow HA.out hb1)
  obtain ⟨g1, hg1⟩ : ∃ g1, g1 = (w.alloc (.cells #[.int .u8 7] 5)).heap.size := ⟨_, rfl⟩
  rw [← hg1] at hc1 ⊢
  have hgr := gr_one (D := fun _ => True) w1 ⟨3, ⟨some ⟨g1, 0, none⟩, 512, 512⟩, pageOf [7]⟩ ⟨hc1, fun _ _ _ => trivial⟩
  have HE := hide (encode_ok _ _ _ hgr HM.out)
  have HB2 := hide (rBelow HB1.out (below_alloc w1 (.cells #[.int .i64 3, .slice (some ⟨g1, 0, none⟩) 512 512] 28)))
  clear hgr hc1 hb1 hg1
  go_wp2_with fail
  refine HE.out.mono ?_
  rintro e w2 ⟨r, rfl, ho2, hb2⟩
  have hrl : (recd [⟨3, pageOf [7]⟩]).length = 520 := by rw [recd_length HM.out.len]; rfl
  obtain ⟨s2, hv2, hl2, hc2⟩ := ho2.cm (recd_bytes (fun m hm => by rw [List.mem_singleton.1 hm]; exact HPB.out) HM.out) (by show (recd [⟨3, pageOf [7]⟩]).length ≤ _; omega)
  subst hv2
  have hf := first_any w2 s2.a s2.len s2.cap _ hc2.came (by rw [hl2]; show (recd [⟨3, pageOf [7]⟩]).length ≤ _; omega)
  have hdc : dec (recd [⟨3, pageOf [7]⟩]) = ⟨[⟨3, pageOf [7]⟩], 520, 0⟩ := by
    have := dec_recd HM.out []
    rw [List.append_nil, hrl] at this
    exact this
  have HF := hide hf
  have HDC := hide hdc
  have HB3 := hide (rBelow HB2.out hb2)
  clear ho2 hb2 hl2 hc2 hf hdc hrl
  obtain ⟨sa, sl, sc⟩ := s2
  unfold Sl.val
  simp only at HF ⊢
  go_wp2_with fail
  refine HF.out.mono ?_
  rintro e w3 ⟨v3, rfl, ⟨l3, hg3, hl3⟩, hb3⟩
  replace hl3 : ims l3 = [⟨3, pageOf [7]⟩] := by rw [hl3]; show (dec (recd [⟨3, pageOf [7]⟩])).g = _; rw [HDC.out]
  have e1 : (dec (recd (ims [(⟨3, ⟨some ⟨g1, 0, none⟩, 512, 512⟩, pageOf [7]⟩ : Ix)]))).n = 520 := by show (dec (recd [⟨3, pageOf [7]⟩])).n = _; rw [HDC.out]
  have e2 : (dec (recd (ims [(⟨3, ⟨some ⟨g1, 0, none⟩, 512, 512⟩, pageOf [7]⟩ : Ix)]))).e = 0 := by show (dec (recd [⟨3, pageOf [7]⟩])).e = _; rw [HDC.out]
  rw [e1, e2]
  have hll : l3.length = 1 := by have := congrArg List.length hl3; rw [ims_length] at this; exact this
  have hvl : v3.len = 1 := by rw [← hg3.len]; exact hll
  obtain ⟨b, off, ha, c0, c1⟩ := hg3.cell 0 (by omega)
  have hat := hg3.at (i := 0) (by omega)
  obtain ⟨x, hx⟩ : ∃ x, x = l3.getD 0 Ix.zero := ⟨_, rfl⟩
  rw [← hx] at c0 c1 hat
  have hxi : x.im = ⟨3, pageOf [7]⟩ := by rw [hx, ← ims_getD, hl3]; rfl
  have hxp : x.page = 3 := congrArg Im.page hxi
  have hxb : x.bs = pageOf [7] := congrArg Im.bs hxi
  rw [hxb] at hat
  have hxl : x.s.len = 512 := by rw [← hat.len, pageOf_length]
  obtain ⟨b2, o2, ha2, hc511⟩ := hat.came.bs.2.2 511 (by omega)
  rw [pageOf7] at hc511
  rw [hxp] at c0
  obtain ⟨va, vl, vc⟩ := v3
  replace ha : va = some ⟨b, off, none⟩ := ha
  replace hvl : vl = 1 := hvl
  subst ha
  subst hvl
  obtain ⟨q, ⟨xa, xl, xc⟩, xb⟩ := x
  replace ha2 : xa = some ⟨b2, o2, none⟩ := ha2
  replace hxl : xl = 512 := hxl
  subst ha2
  subst hxl
  replace c1 : w3.cell? ⟨b, off + 0 * 2 + 1, none⟩ = some (.slice (some ⟨b2, o2, none⟩) 512 xc) := c1
  rw [Nat.zero_mul, Nat.add_zero] at c0 c1
  have HB4 := hide (rBelow HB3.out hb3)
  clear hg3 hl3 hb3 e1 e2 hll hat hxi hxp hxb hx
  unfold Sl.val
  simp only
  go_wp2_with fail
  go_ret
  exact ⟨rfl, HB4.out⟩
end Go.Proofs.Ytjgeiooblcpiaaa
