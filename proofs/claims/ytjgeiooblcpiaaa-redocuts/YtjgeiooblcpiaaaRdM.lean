/-
  Layer 6: all groups of a row, by the document.
-/
import Derived.Test.YtjgeiooblcpiaaaRdL
namespace Go.Proofs.Ytjgeiooblcpiaaa
open Go.RowKit

set_option maxHeartbeats 8000000 in
set_option maxRecDepth 100000 in
theorem rrow_any (w : World) (a : Option Addr) (len cap : Nat) (xs : List Nat) (h : Came w a len cap xs) (hm : len ≤ 100000) :
    Calls Try.prog 18 #[.slice a len cap] w fun e w' => RowPost (fun _ => True) w xs e w' := by
  have HX := hide h.bs.1
  have H := hide h
  have HG0 := hide (GS.new (fun k => (∃ ad, a = some ad ∧ k = ad.block ∧ k < w.heap.size) ∨ w.heap.size ≤ k) w.heap.size w (Nat.le_refl _))
  have HR := hide (below_alloc w (.cells #[] 25))
  clear h
  go_enter Try.func18, Try.ntmps18
  go_wp2_with fail
  go_loopw [4, 5, 6] (fun gv tv iv wr => ∃ (i t : Nat) (v : Sl) (L : List Gp), t ≤ len ∧ 2 * i ≤ t ∧ Hid (t = rowAt xs i) ∧ tv = .int .i64 (t : Nat) ∧ iv = .int .i64 (i : Nat) ∧ gv = v.val ∧ Hid (v.len = i) ∧ Hid (GS (fun k => (∃ ad, a = some ad ∧ k = ad.block ∧ k < w.heap.size) ∨ w.heap.size ≤ k) w.heap.size wr v L) ∧ Hid (gims L = rowsTo xs i) ∧ Hid (∀ j, j < i → rowOk xs j) ∧ Hid (Below w.heap.size w wr)) (fun _ tv _ _ => len - (intOf tv).toNat)
  case atStart => exact ⟨0, 0, ⟨some ⟨w.heap.size, 0, none⟩, 0, 0⟩, [], by omega, by omega, hide rfl, rfl, rfl, rfl, hide rfl, HG0, hide rfl, hide (fun j hj => absurd hj (Nat.not_lt_zero j)), HR⟩
  case round =>
    obtain ⟨i, t, v, L, ht, h2i, hti, rfl, rfl, rfl, hvl, hg, hgi, hok, hW⟩ := hrel
    have hcm : Came wr a len cap xs := ⟨H.out.bs.keep hW.out (Nat.le_refl _), H.out.nil, H.out.le, H.out.big⟩
    have HF := hide (rfirst_any wr _ _ _ _ (hcm.from_ t ht) (by omega) (fun k => ∃ ad, a = some ad ∧ k = ad.block ∧ k < w.heap.size) (fun ad ha hpos => by
      obtain ⟨ad', h1, h2⟩ := fromA_block ha
      refine ⟨ad', h1, h2.symm, ?_⟩
      obtain ⟨b, off, h3, hc⟩ := H.out.bs.2.2 0 (by omega)
      rw [h1] at h3
      cases h3
      rw [← h2]
      exact World.block_lt_of_cell? w _ hc))
    have hrun : ∀ w : World, (Instr.sliceAt 24 (.slice a len cap) (some (.int .i64 ((t : Nat) : Int))) none none).run Try.prog w = .ok (.slice (fromA a cap t) (len - t) (cap - t)) w := slice_from a len cap t ht
    have HRUN := hide hrun
    have i1 : ((i : Nat) : Int) ≤ ((len : Nat) : Int) := by omega
    clear hrun hcm
    obtain ⟨va, vl, vc⟩ := v
    replace hvl : Hid (vl = i) := hvl
    unfold Sl.val
    simp only
    go_wp2_with (refine wpList_slice _ rfl 24 (.tmp 18) (some (.tmp 19)) none rfl (.slice (fromA a cap t) (len - t) (cap - t)) (HRUN.out _) ?_)
    refine HF.out.mono ?_
    rintro e w1 ⟨v1, l1, rfl, hg1, hi1, hb1⟩
    have HB1 := hide (rBelow hW.out hb1)
    have HG := hide (hg.out.keep hb1)
    have HV : Hid (∀ k, (Sl.mk va vl vc).blk = some k → w.heap.size ≤ k ∧ k < wr.heap.size) := fun k hk => ⟨hg.out.blk k hk, hg.out.own.lt hk⟩
    have HG1 := hide hg1
    have HI1 : Hid (ims l1 = rowG xs i) := by
      show _ = _
      rw [hi1, hti.out]
      rfl
    have HSZ : Hid (w.heap.size ≤ wr.heap.size) := hW.out.size
    rcases dec_e (b := xs.drop t) with he | ⟨he, _, _⟩
    · have hdk := dec_ok he
      rw [List.length_drop, HX.out] at hdk
      obtain ⟨q, hq⟩ : ∃ q, q = (dec (xs.drop t)).n := ⟨_, rfl⟩
      have HOKI : Hid (rowOk xs i) := by
        show (dec (xs.drop (rowAt xs i))).e = 0
        rw [← hti.out]
        exact he
      have HNX : Hid (t + q = rowAt xs (i + 1)) := by
        show t + q = rowAt xs i + (dec (xs.drop (rowAt xs i))).n
        rw [hq, ← hti.out]
      rw [he, ← hq]
      rw [← hq] at hdk
      have hq2 : 2 ≤ q := hdk.1
      have hq3 : q ≤ len - t := hdk.2.1
      clear hdk hq he hi1 hg1 hb1
      obtain ⟨xa, xl, xc⟩ := v1
      unfold Sl.val
      simp only
      have HLEN : Hid ((Sl.mk va vl vc).len + 1 ≤ 1000000) := by
        have h2 := hvl.out
        show vl + 1 ≤ 1000000
        omega
      have hxg : Gr (fun k => ((∃ ad, a = some ad ∧ k = ad.block ∧ k < w.heap.size) ∨ w.heap.size ≤ k) ∧ (Sl.mk va vl vc).blk ≠ some k) w1 ⟨xa, xl, xc⟩ l1 := HG1.out.mono (fun k hk _ => by
        rcases hk with ⟨ad, ha, hk, hlt⟩ | hk
        · exact ⟨.inl ⟨ad, ha, hk, hlt⟩, fun e => by have := HV.out k e; omega⟩
        · exact ⟨.inr (Nat.le_trans HSZ.out hk), fun e => by have := HV.out k e; omega⟩)
      have HXG := hide hxg
      clear hxg
      go_wp2_with (at_builtin; refine wpList_append_gr w1 ⟨⟨xa, xl, xc⟩, l1⟩ rfl (.tmp 29) (.tmp 31) rfl ⟨va, vl, vc⟩ L rfl rfl HG.out.own HLEN.out ?_)
      intro v2 w2 ho2 hl2 hf2 hb2
      obtain ⟨hg2, hbb2⟩ := HG.out.add (x := ⟨⟨xa, xl, xc⟩, l1⟩) HXG.out ho2 hf2 hb2 HB1.out.size
      have HG2 := hide hg2
      have HB2 := hide (HB1.out.trans hbb2)
      have HL2 : Hid (v2.len = i + 1) := by
        show _ = _
        rw [hl2]
        show vl + 1 = _
        rw [hvl.out]
      have HM2 : Hid (gims (L ++ [⟨⟨xa, xl, xc⟩, l1⟩]) = rowsTo xs (i + 1)) := by
        show _ = _
        rw [gims_append, hgi.out, rowsTo_succ]
        show _ ++ [ims l1] = _
        rw [HI1.out]
      clear hg2 hbb2 ho2 hf2 hb2 hl2
      go_wp2_with fail
      go_roundw
      case rel => exact ⟨i + 1, t + q, v2, _, by omega, by omega, HNX, by go_num, by go_num, rfl, HL2, HG2, HM2, hide (fun j hj => by
        rcases Nat.lt_or_ge j i with h | h
        · exact hok.out j h
        · obtain rfl : j = i := by omega
          exact HOKI.out), HB2⟩
      case measure => simp only [intOf]; omega
    · obtain ⟨er, her⟩ : ∃ er, er = (dec (xs.drop t)).e := ⟨_, rfl⟩
      have HNO : Hid (¬ rowOk xs i) := by
        show ¬ (dec (xs.drop (rowAt xs i))).e = 0
        rw [← hti.out]
        exact he
      rw [← her] at he ⊢
      have i7 : (((er : Nat) : Int) != 0) = true := by rw [bne_iff_ne]; omega
      have HGT : Hid (GS (fun _ => True) w.heap.size w1 ⟨va, vl, vc⟩ L) := ⟨HG.out.own, HG.out.blk, fun x hx => (HG.out.gr x hx).mono (fun k hk _ => ⟨trivial, hk.2⟩)⟩
      clear her hi1 hg1 hb1
      obtain ⟨xa, xl, xc⟩ := v1
      unfold Sl.val
      simp only
      go_wp2_with fail
      go_ret2
      refine ⟨⟨va, vl, vc⟩, L, i, ?_, HGT.out, hvl.out, hgi.out, hok.out, HNO.out, HB1.out⟩
      rw [← hti.out]
      rfl
end Go.Proofs.Ytjgeiooblcpiaaa
