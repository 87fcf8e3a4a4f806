/-
  Layer 11, the landed table: Leave, Write.
  Layer 11, the landed table: Enter.
  Layer 11, the landed table: Commit.
-/
import Derived.Test.YtdbgbldmjgonjaaTcD
namespace Go.Proofs.Ytdbgbldmjgonjaa
open Go.RowKit
set_option linter.unusedVariables false

set_option maxHeartbeats 16000000 in
set_option maxRecDepth 100000 in
theorem lleaveT_any (t : Tb) (v : Sl) (tx : Int) (w : World) (h : Es w v t.es) :
    Calls Try.prog 24 #[t.val v, .int .i64 tx] w (TbSays (leaveL t tx).1 v w (fun x => .tuple #[x, .int .i64 (leaveL t tx).2])) := by
  have hl := h.len
  have HH := hide h
  have HP := hide (Pair.new w t v)
  generalize hW2 : (w.alloc (.cells #[.int .i64 t.nx, .int .i64 t.no, .int .i64 t.cm, .slice v.a v.len v.cap] 24)).alloc (.cells #[.int .i64 0, .int .i64 0, .int .i64 0, .slice none 0 0] 24) = W2 at *
  have HLD := hide (load_tb w.heap.size t v W2 HP.out.bt)
  cases hm : mayB t with
  | false =>
    rw [leaveL_no hm]
    have HC := hide (checkT_no hm v W2 (h.keep HP.out.below (Nat.le_refl _)))
    clear h hm
    unfold Tb.val
    go_enter Try.func24, Try.ntmps24
    go_wp2_with (refine wpList_load _ rfl 24 (.tmp 2) rfl (.pointer (some ⟨w.heap.size, 0, none⟩)) (t.val v) rfl HLD.out ?_)
    refine HC.out.mono ?_
    rintro e w3 ⟨rfl, hb3⟩
    obtain ⟨W9, hst9, b9, hB9, hf9⟩ := (HP.out.keep hb3).told Tb.zero Sl.nil
    have HST9 : Hid ((Instr.storeAt 24 (.pointer (some ⟨w.heap.size + 1, 0, none⟩)) (.agg #[.int .i64 0, .int .i64 0, .int .i64 0, .slice none 0 0])).run Try.prog w3 = .ok () W9) := hst9
    have HB9 := hide b9
    have HW9 := hide hB9
    clear hst9 b9 hB9 hf9 hb3 HC HLD
    go_wp2_with (refine wpList_store _ rfl rfl 24 (.tmp 4) (.tmp 13) rfl (.pointer (some ⟨w.heap.size + 1, 0, none⟩)) (.agg #[.int .i64 0, .int .i64 0, .int .i64 0, .slice none 0 0]) rfl rfl W9 HST9.out ?_)
    refine bodyPost_ret (tb_results2 rfl HB9.out _ (.int .i64 1) rfl rfl) rfl ?_
    exact ⟨Sl.nil, rfl, Es.none _, fun _ => Ty.nil _, HW9.out⟩
  | true =>
    have hM := mayB_iff.1 hm
    rw [leaveL_yes hM]
    have HC := hide (checkT_yes hM v W2 (h.keep HP.out.below (Nat.le_refl _)))
    have HV : Hid (v.len = 12) := by show _ = _; rw [← hl]; exact hM.len
    have HM := hide hM
    clear h hm hM hl
    cases hf : findN t tx with
    | none =>
      have HR : Hid (leaveT t tx = (t, 3)) := by show _ = _; unfold leaveT; rw [hf]
      rw [HR.out]
      unfold Tb.val
      go_enter Try.func24, Try.ntmps24
      go_wp2_with (refine wpList_load _ rfl 24 (.tmp 2) rfl (.pointer (some ⟨w.heap.size, 0, none⟩)) (t.val v) rfl HLD.out ?_)
      refine HC.out.mono ?_
      rintro e w3 ⟨rfl, hb3⟩
      have HP3 := hide (HP.out.keep hb3)
      have HLD3 := hide (load_tb w.heap.size t v w3 HP3.out.bt)
      have HCP := hide (copyT_any t v w3 (HH.out.keep HP3.out.below (Nat.le_refl _)) (by rw [HV.out]; decide) (by rw [HV.out]; decide))
      clear hb3 HC HLD
      go_wp2_with (refine wpList_load _ rfl 24 (.tmp 2) rfl (.pointer (some ⟨w.heap.size, 0, none⟩)) (t.val v) rfl HLD3.out ?_)
      refine HCP.out.mono ?_
      rintro e w4 ⟨s, rfl, ho4, hn4, hb4⟩
      simp only [id]
      obtain ⟨W5, hst5, hc5⟩ := Cpy.start HP3.out ho4 hn4 hb4
      have HST5 := hide hst5
      obtain ⟨g, off, c5, rfl⟩ := hc5.at HM.out.len
      have HC5 := hide hc5
      clear hst5 hc5 ho4 hn4 hb4 HCP HLD3 HP3
      have HF := hide (entryOfT_any t v tx W5 (HH.out.keep HC5.out.pr.below (Nat.le_refl _)))
      rw [hf] at HF
      unfold ixN at HF
      simp only at HF
      have HLD5 := hide (load_tb w.heap.size t v W5 HC5.out.pr.bt)
      clear hf
      go_wp2_with (first | refine wpList_store _ rfl rfl 24 (.tmp 7) (.tmp 16) rfl (.pointer (some ⟨w4.heap.size, 0, none⟩)) (t.val ⟨some ⟨g, off, none⟩, 12, c5⟩) rfl rfl W5 HST5.out ?_ | refine wpList_load _ rfl 24 (.tmp 2) rfl (.pointer (some ⟨w.heap.size, 0, none⟩)) (t.val v) rfl HLD5.out ?_)
      refine HF.out.mono ?_
      rintro e w6 ⟨rfl, hb6⟩
      have HC6 := hide (HC5.out.keep hb6)
      clear hb6 HF HLD5 HST5
      obtain ⟨W9, hst9, b9, o9, hB9⟩ := HC6.out.lay
      have HST9 := hide hst9
      have HB9 := hide b9
      have HO9 := hide o9
      have HW9 := hide hB9
      have HLC := hide (load_tb w4.heap.size _ _ _ HC6.out.bc)
      clear hst9 b9 o9 hB9
      go_wp2_with (first | refine wpList_load _ rfl 24 (.tmp 7) rfl (.pointer (some ⟨w4.heap.size, 0, none⟩)) (Tb.val t ⟨some ⟨g, off, none⟩, 12, c5⟩) rfl HLC.out ?_ | refine wpList_store _ rfl rfl 24 (.tmp 4) (.tmp 22) rfl (.pointer (some ⟨w.heap.size + 1, 0, none⟩)) (Tb.val t ⟨some ⟨g, off, none⟩, 12, c5⟩) rfl rfl W9 HST9.out ?_)
      refine bodyPost_ret (tb_results2 rfl HB9.out _ (.int .i64 3) rfl rfl) rfl ?_
      exact ⟨_, rfl, HO9.out.es, fun _ => HO9.out.ty, HW9.out⟩
    | some i =>
      have HR : Hid (leaveT t tx = (t.set i En.zero, 0)) := by show _ = _; unfold leaveT; rw [hf]
      rw [HR.out]
      have hi := (find_some hf).1
      unfold Tb.val
      go_enter Try.func24, Try.ntmps24
      go_wp2_with (refine wpList_load _ rfl 24 (.tmp 2) rfl (.pointer (some ⟨w.heap.size, 0, none⟩)) (t.val v) rfl HLD.out ?_)
      refine HC.out.mono ?_
      rintro e w3 ⟨rfl, hb3⟩
      have HP3 := hide (HP.out.keep hb3)
      have HLD3 := hide (load_tb w.heap.size t v w3 HP3.out.bt)
      have HCP := hide (copyT_any t v w3 (HH.out.keep HP3.out.below (Nat.le_refl _)) (by rw [HV.out]; decide) (by rw [HV.out]; decide))
      clear hb3 HC HLD
      go_wp2_with (refine wpList_load _ rfl 24 (.tmp 2) rfl (.pointer (some ⟨w.heap.size, 0, none⟩)) (t.val v) rfl HLD3.out ?_)
      refine HCP.out.mono ?_
      rintro e w4 ⟨s, rfl, ho4, hn4, hb4⟩
      simp only [id]
      obtain ⟨W5, hst5, hc5⟩ := Cpy.start HP3.out ho4 hn4 hb4
      have HST5 := hide hst5
      obtain ⟨g, off, c5, rfl⟩ := hc5.at HM.out.len
      have HC5 := hide hc5
      clear hst5 hc5 ho4 hn4 hb4 HCP HLD3 HP3
      have HF := hide (entryOfT_any t v tx W5 (HH.out.keep HC5.out.pr.below (Nat.le_refl _)))
      rw [hf] at HF
      unfold ixN at HF
      simp only at HF
      have HLD5 := hide (load_tb w.heap.size t v W5 HC5.out.pr.bt)
      clear hf
      go_wp2_with (first | refine wpList_store _ rfl rfl 24 (.tmp 7) (.tmp 16) rfl (.pointer (some ⟨w4.heap.size, 0, none⟩)) (t.val ⟨some ⟨g, off, none⟩, 12, c5⟩) rfl rfl W5 HST5.out ?_ | refine wpList_load _ rfl 24 (.tmp 2) rfl (.pointer (some ⟨w.heap.size, 0, none⟩)) (t.val v) rfl HLD5.out ?_)
      refine HF.out.mono ?_
      rintro e w6 ⟨rfl, hb6⟩
      have hc6 := HC5.out.keep hb6
      have d3 := hc6.bc.c3
      have i12 : i < 12 := by rw [← HM.out.len]; exact hi
      have i1 : ((i : Nat) : Int) < 12 := by omega
      have j1 : ¬ ((i : Nat) : Int) = -1 := by omega
      have j2 : (((i : Nat) : Int) == -1) = false := beq_eq_false_iff_ne.2 j1
      obtain ⟨W7, hst7, hc7⟩ := hc6.setEn hi En.zero
      have HST7 : Hid ((Instr.storeAt 58 (.pointer (some ⟨g, off + i * 4, none⟩)) (.agg #[.int .i64 0, .int .i64 0, .int .i64 0, .int .i64 0])).run Try.prog w6 = .ok () W7) := hst7
      have HC7 := hide hc7
      clear hb6 HF HLD5 HST5 hc6 hst7 hc7 hi i12
      obtain ⟨W9, hst9, b9, o9, hB9⟩ := HC7.out.lay
      have HST9 := hide hst9
      have HB9 := hide b9
      have HO9 := hide o9
      have HW9 := hide hB9
      have HLC := hide (load_tb w4.heap.size _ _ _ HC7.out.bc)
      clear hst9 b9 o9 hB9
      go_wp2_with (first | refine wpList_store _ rfl rfl 58 (.tmp 27) (.tmp 26) rfl (.pointer (some ⟨g, off + i * 4, none⟩)) (.agg #[.int .i64 0, .int .i64 0, .int .i64 0, .int .i64 0]) rfl rfl W7 HST7.out ?_ | refine wpList_load _ rfl 24 (.tmp 7) rfl (.pointer (some ⟨w4.heap.size, 0, none⟩)) (Tb.val (t.set i En.zero) ⟨some ⟨g, off, none⟩, 12, c5⟩) rfl HLC.out ?_ | refine wpList_store _ rfl rfl 24 (.tmp 4) (.tmp 28) rfl (.pointer (some ⟨w.heap.size + 1, 0, none⟩)) (Tb.val (t.set i En.zero) ⟨some ⟨g, off, none⟩, 12, c5⟩) rfl rfl W9 HST9.out ?_)
      refine bodyPost_ret (tb_results2 rfl HB9.out _ (.int .i64 0) rfl rfl) rfl ?_
      exact ⟨_, rfl, HO9.out.es, fun _ => HO9.out.ty, HW9.out⟩

set_option maxHeartbeats 16000000 in
set_option maxRecDepth 100000 in
theorem lwriteT_any (t : Tb) (v : Sl) (tx : Int) (c : Int) (w : World) (h : Es w v t.es) :
    Calls Try.prog 22 #[t.val v, .int .i64 tx, .int .i64 c] w (TbSays (writeL t tx c).1 v w (fun x => .tuple #[x, .int .i64 (writeL t tx c).2])) := by
  have hl := h.len
  have HH := hide h
  have HP := hide (Pair.new w t v)
  generalize hW2 : (w.alloc (.cells #[.int .i64 t.nx, .int .i64 t.no, .int .i64 t.cm, .slice v.a v.len v.cap] 24)).alloc (.cells #[.int .i64 0, .int .i64 0, .int .i64 0, .slice none 0 0] 24) = W2 at *
  have HLD := hide (load_tb w.heap.size t v W2 HP.out.bt)
  cases hm : mayB t with
  | false =>
    rw [writeL_no hm]
    have HC := hide (checkT_no hm v W2 (h.keep HP.out.below (Nat.le_refl _)))
    clear h hm
    unfold Tb.val
    go_enter Try.func22, Try.ntmps22
    go_wp2_with (refine wpList_load _ rfl 24 (.tmp 3) rfl (.pointer (some ⟨w.heap.size, 0, none⟩)) (t.val v) rfl HLD.out ?_)
    refine HC.out.mono ?_
    rintro e w3 ⟨rfl, hb3⟩
    obtain ⟨W9, hst9, b9, hB9, hf9⟩ := (HP.out.keep hb3).told Tb.zero Sl.nil
    have HST9 : Hid ((Instr.storeAt 24 (.pointer (some ⟨w.heap.size + 1, 0, none⟩)) (.agg #[.int .i64 0, .int .i64 0, .int .i64 0, .slice none 0 0])).run Try.prog w3 = .ok () W9) := hst9
    have HB9 := hide b9
    have HW9 := hide hB9
    clear hst9 b9 hB9 hf9 hb3 HC HLD
    go_wp2_with (refine wpList_store _ rfl rfl 24 (.tmp 6) (.tmp 16) rfl (.pointer (some ⟨w.heap.size + 1, 0, none⟩)) (.agg #[.int .i64 0, .int .i64 0, .int .i64 0, .slice none 0 0]) rfl rfl W9 HST9.out ?_)
    refine bodyPost_ret (tb_results2 rfl HB9.out _ (.int .i64 1) rfl rfl) rfl ?_
    exact ⟨Sl.nil, rfl, Es.none _, fun _ => Ty.nil _, HW9.out⟩
  | true =>
    have hM := mayB_iff.1 hm
    rw [writeL_yes hM]
    have HC := hide (checkT_yes hM v W2 (h.keep HP.out.below (Nat.le_refl _)))
    have HV : Hid (v.len = 12) := by show _ = _; rw [← hl]; exact hM.len
    have HM := hide hM
    clear h hm hM hl
    cases hf : findN t tx with
    | none =>
      have HR : Hid (writeT t tx c = (t, 3)) := by show _ = _; unfold writeT; rw [hf]
      have HCT : Hid (countT t tx t.no = (-1, 3)) := by show _ = _; unfold countT; rw [hf]
      rw [HR.out]
      clear hf
      unfold Tb.val
      go_enter Try.func22, Try.ntmps22
      go_wp2_with (refine wpList_load _ rfl 24 (.tmp 3) rfl (.pointer (some ⟨w.heap.size, 0, none⟩)) (t.val v) rfl HLD.out ?_)
      refine HC.out.mono ?_
      rintro e w3 ⟨rfl, hb3⟩
      have HP3 := hide (HP.out.keep hb3)
      have HLD3 := hide (load_tb w.heap.size t v w3 HP3.out.bt)
      have HCP := hide (copyT_any t v w3 (HH.out.keep HP3.out.below (Nat.le_refl _)) (by rw [HV.out]; decide) (by rw [HV.out]; decide))
      clear hb3 HC HLD
      go_wp2_with (refine wpList_load _ rfl 24 (.tmp 3) rfl (.pointer (some ⟨w.heap.size, 0, none⟩)) (t.val v) rfl HLD3.out ?_)
      refine HCP.out.mono ?_
      rintro e w4 ⟨s, rfl, ho4, hn4, hb4⟩
      simp only [id]
      obtain ⟨W5, hst5, hc5⟩ := Cpy.start HP3.out ho4 hn4 hb4
      have HST5 := hide hst5
      obtain ⟨g, off, c5, rfl⟩ := hc5.at HM.out.len
      have HC5 := hide hc5
      clear hst5 hc5 ho4 hn4 hb4 HCP HLD3 HP3
      have HF := hide (countT_any t v tx t.no W5 (HH.out.keep HC5.out.pr.below (Nat.le_refl _)))
      rw [HCT.out] at HF
      simp only at HF
      have HLD5 := hide (load_tb w.heap.size t v W5 HC5.out.pr.bt)
      have d1 := HC5.out.pr.bt.c1
      go_wp2_with (first | refine wpList_store _ rfl rfl 24 (.tmp 9) (.tmp 19) rfl (.pointer (some ⟨w4.heap.size, 0, none⟩)) (t.val ⟨some ⟨g, off, none⟩, 12, c5⟩) rfl rfl W5 HST5.out ?_ | refine wpList_load _ rfl 24 (.tmp 3) rfl (.pointer (some ⟨w.heap.size, 0, none⟩)) (t.val v) rfl HLD5.out ?_)
      refine HF.out.mono ?_
      rintro e w6 ⟨rfl, hb6⟩
      have HC6 := hide (HC5.out.keep hb6)
      clear hb6 HF HLD5 HST5 d1
      obtain ⟨W9, hst9, b9, o9, hB9⟩ := HC6.out.lay
      have HST9 := hide hst9
      have HB9 := hide b9
      have HO9 := hide o9
      have HW9 := hide hB9
      have HLC := hide (load_tb w4.heap.size _ _ _ HC6.out.bc)
      clear hst9 b9 o9 hB9
      go_wp2_with (first | refine wpList_load _ rfl 24 (.tmp 9) rfl (.pointer (some ⟨w4.heap.size, 0, none⟩)) (Tb.val t ⟨some ⟨g, off, none⟩, 12, c5⟩) rfl HLC.out ?_ | refine wpList_store _ rfl rfl 24 (.tmp 6) (.tmp 30) rfl (.pointer (some ⟨w.heap.size + 1, 0, none⟩)) (Tb.val t ⟨some ⟨g, off, none⟩, 12, c5⟩) rfl rfl W9 HST9.out ?_)
      refine bodyPost_ret (tb_results2 rfl HB9.out _ (.int .i64 3) rfl rfl) rfl ?_
      exact ⟨_, rfl, HO9.out.es, fun _ => HO9.out.ty, HW9.out⟩
    | some i =>
      have hi := (find_some hf).1
      by_cases hst : (t.en i).st ≠ 1 ∨ t.no = 2147483647
      · have HR : Hid (writeT t tx c = (t, 2)) := by show _ = _; unfold writeT; rw [hf]; exact if_pos hst
        have HCT : Hid (countT t tx t.no = (-1, 2)) := by show _ = _; unfold countT; rw [hf]; exact if_pos hst
        rw [HR.out]
        clear hf hst
        unfold Tb.val
        go_enter Try.func22, Try.ntmps22
        go_wp2_with (refine wpList_load _ rfl 24 (.tmp 3) rfl (.pointer (some ⟨w.heap.size, 0, none⟩)) (t.val v) rfl HLD.out ?_)
        refine HC.out.mono ?_
        rintro e w3 ⟨rfl, hb3⟩
        have HP3 := hide (HP.out.keep hb3)
        have HLD3 := hide (load_tb w.heap.size t v w3 HP3.out.bt)
        have HCP := hide (copyT_any t v w3 (HH.out.keep HP3.out.below (Nat.le_refl _)) (by rw [HV.out]; decide) (by rw [HV.out]; decide))
        clear hb3 HC HLD
        go_wp2_with (refine wpList_load _ rfl 24 (.tmp 3) rfl (.pointer (some ⟨w.heap.size, 0, none⟩)) (t.val v) rfl HLD3.out ?_)
        refine HCP.out.mono ?_
        rintro e w4 ⟨s, rfl, ho4, hn4, hb4⟩
        simp only [id]
        obtain ⟨W5, hst5, hc5⟩ := Cpy.start HP3.out ho4 hn4 hb4
        have HST5 := hide hst5
        obtain ⟨g, off, c5, rfl⟩ := hc5.at HM.out.len
        have HC5 := hide hc5
        clear hst5 hc5 ho4 hn4 hb4 HCP HLD3 HP3
        have HF := hide (countT_any t v tx t.no W5 (HH.out.keep HC5.out.pr.below (Nat.le_refl _)))
        rw [HCT.out] at HF
        simp only at HF
        have HLD5 := hide (load_tb w.heap.size t v W5 HC5.out.pr.bt)
        have d1 := HC5.out.pr.bt.c1
        go_wp2_with (first | refine wpList_store _ rfl rfl 24 (.tmp 9) (.tmp 19) rfl (.pointer (some ⟨w4.heap.size, 0, none⟩)) (t.val ⟨some ⟨g, off, none⟩, 12, c5⟩) rfl rfl W5 HST5.out ?_ | refine wpList_load _ rfl 24 (.tmp 3) rfl (.pointer (some ⟨w.heap.size, 0, none⟩)) (t.val v) rfl HLD5.out ?_)
        refine HF.out.mono ?_
        rintro e w6 ⟨rfl, hb6⟩
        have HC6 := hide (HC5.out.keep hb6)
        clear hb6 HF HLD5 HST5 d1
        obtain ⟨W9, hst9, b9, o9, hB9⟩ := HC6.out.lay
        have HST9 := hide hst9
        have HB9 := hide b9
        have HO9 := hide o9
        have HW9 := hide hB9
        have HLC := hide (load_tb w4.heap.size _ _ _ HC6.out.bc)
        clear hst9 b9 o9 hB9
        go_wp2_with (first | refine wpList_load _ rfl 24 (.tmp 9) rfl (.pointer (some ⟨w4.heap.size, 0, none⟩)) (Tb.val t ⟨some ⟨g, off, none⟩, 12, c5⟩) rfl HLC.out ?_ | refine wpList_store _ rfl rfl 24 (.tmp 6) (.tmp 30) rfl (.pointer (some ⟨w.heap.size + 1, 0, none⟩)) (Tb.val t ⟨some ⟨g, off, none⟩, 12, c5⟩) rfl rfl W9 HST9.out ?_)
        refine bodyPost_ret (tb_results2 rfl HB9.out _ (.int .i64 2) rfl rfl) rfl ?_
        exact ⟨_, rfl, HO9.out.es, fun _ => HO9.out.ty, HW9.out⟩
      · have HCT : Hid (countT t tx t.no = (((i : Nat) : Int), 0)) := by show _ = _; unfold countT; rw [hf]; exact if_neg hst
        have HWR : Hid (writeT t tx c = if c < 0 ∨ 65535 < c then (t, 1) else ({ t.set i { t.en i with last := c } with no := t.no + 1 }, 0)) := by show _ = _; unfold writeT; rw [hf]; exact if_neg hst
        have hno : t.no < 2147483647 := by have := HM.out.no; have : ¬ t.no = 2147483647 := fun e => hst (.inr e); omega
        have hno2 : 1 ≤ t.no := HM.out.no.1
        clear hf hst
        by_cases hc0 : c < 0
        · rw [HWR.out, if_pos (.inl hc0)]
          unfold Tb.val
          go_enter Try.func22, Try.ntmps22
          go_wp2_with (refine wpList_load _ rfl 24 (.tmp 3) rfl (.pointer (some ⟨w.heap.size, 0, none⟩)) (t.val v) rfl HLD.out ?_)
          refine HC.out.mono ?_
          rintro e w3 ⟨rfl, hb3⟩
          have HP3 := hide (HP.out.keep hb3)
          have HLD3 := hide (load_tb w.heap.size t v w3 HP3.out.bt)
          have HCP := hide (copyT_any t v w3 (HH.out.keep HP3.out.below (Nat.le_refl _)) (by rw [HV.out]; decide) (by rw [HV.out]; decide))
          clear hb3 HC HLD
          go_wp2_with (refine wpList_load _ rfl 24 (.tmp 3) rfl (.pointer (some ⟨w.heap.size, 0, none⟩)) (t.val v) rfl HLD3.out ?_)
          refine HCP.out.mono ?_
          rintro e w4 ⟨s, rfl, ho4, hn4, hb4⟩
          simp only [id]
          obtain ⟨W5, hst5, hc5⟩ := Cpy.start HP3.out ho4 hn4 hb4
          have HST5 := hide hst5
          obtain ⟨g, off, c5, rfl⟩ := hc5.at HM.out.len
          have HC5 := hide hc5
          clear hst5 hc5 ho4 hn4 hb4 HCP HLD3 HP3
          have HF := hide (countT_any t v tx t.no W5 (HH.out.keep HC5.out.pr.below (Nat.le_refl _)))
          rw [HCT.out] at HF
          simp only at HF
          have HLD5 := hide (load_tb w.heap.size t v W5 HC5.out.pr.bt)
          have d1 := HC5.out.pr.bt.c1
          go_wp2_with (first | refine wpList_store _ rfl rfl 24 (.tmp 9) (.tmp 19) rfl (.pointer (some ⟨w4.heap.size, 0, none⟩)) (t.val ⟨some ⟨g, off, none⟩, 12, c5⟩) rfl rfl W5 HST5.out ?_ | refine wpList_load _ rfl 24 (.tmp 3) rfl (.pointer (some ⟨w.heap.size, 0, none⟩)) (t.val v) rfl HLD5.out ?_)
          refine HF.out.mono ?_
          rintro e w6 ⟨rfl, hb6⟩
          have HC6 := hide (HC5.out.keep hb6)
          clear hb6 HF HLD5 HST5 d1
          obtain ⟨W9, hst9, b9, o9, hB9⟩ := HC6.out.lay
          have HST9 := hide hst9
          have HB9 := hide b9
          have HO9 := hide o9
          have HW9 := hide hB9
          have HLC := hide (load_tb w4.heap.size _ _ _ HC6.out.bc)
          clear hst9 b9 o9 hB9
          go_wp2_with (first | refine wpList_load _ rfl 24 (.tmp 9) rfl (.pointer (some ⟨w4.heap.size, 0, none⟩)) (Tb.val t ⟨some ⟨g, off, none⟩, 12, c5⟩) rfl HLC.out ?_ | refine wpList_store _ rfl rfl 24 (.tmp 6) (.tmp 38) rfl (.pointer (some ⟨w.heap.size + 1, 0, none⟩)) (Tb.val t ⟨some ⟨g, off, none⟩, 12, c5⟩) rfl rfl W9 HST9.out ?_)
          refine bodyPost_ret (tb_results2 rfl HB9.out _ (.int .i64 1) rfl rfl) rfl ?_
          exact ⟨_, rfl, HO9.out.es, fun _ => HO9.out.ty, HW9.out⟩
        by_cases hc1 : 65535 < c
        · rw [HWR.out, if_pos (.inr hc1)]
          unfold Tb.val
          go_enter Try.func22, Try.ntmps22
          go_wp2_with (refine wpList_load _ rfl 24 (.tmp 3) rfl (.pointer (some ⟨w.heap.size, 0, none⟩)) (t.val v) rfl HLD.out ?_)
          refine HC.out.mono ?_
          rintro e w3 ⟨rfl, hb3⟩
          have HP3 := hide (HP.out.keep hb3)
          have HLD3 := hide (load_tb w.heap.size t v w3 HP3.out.bt)
          have HCP := hide (copyT_any t v w3 (HH.out.keep HP3.out.below (Nat.le_refl _)) (by rw [HV.out]; decide) (by rw [HV.out]; decide))
          clear hb3 HC HLD
          go_wp2_with (refine wpList_load _ rfl 24 (.tmp 3) rfl (.pointer (some ⟨w.heap.size, 0, none⟩)) (t.val v) rfl HLD3.out ?_)
          refine HCP.out.mono ?_
          rintro e w4 ⟨s, rfl, ho4, hn4, hb4⟩
          simp only [id]
          obtain ⟨W5, hst5, hc5⟩ := Cpy.start HP3.out ho4 hn4 hb4
          have HST5 := hide hst5
          obtain ⟨g, off, c5, rfl⟩ := hc5.at HM.out.len
          have HC5 := hide hc5
          clear hst5 hc5 ho4 hn4 hb4 HCP HLD3 HP3
          have HF := hide (countT_any t v tx t.no W5 (HH.out.keep HC5.out.pr.below (Nat.le_refl _)))
          rw [HCT.out] at HF
          simp only at HF
          have HLD5 := hide (load_tb w.heap.size t v W5 HC5.out.pr.bt)
          have d1 := HC5.out.pr.bt.c1
          go_wp2_with (first | refine wpList_store _ rfl rfl 24 (.tmp 9) (.tmp 19) rfl (.pointer (some ⟨w4.heap.size, 0, none⟩)) (t.val ⟨some ⟨g, off, none⟩, 12, c5⟩) rfl rfl W5 HST5.out ?_ | refine wpList_load _ rfl 24 (.tmp 3) rfl (.pointer (some ⟨w.heap.size, 0, none⟩)) (t.val v) rfl HLD5.out ?_)
          refine HF.out.mono ?_
          rintro e w6 ⟨rfl, hb6⟩
          have HC6 := hide (HC5.out.keep hb6)
          clear hb6 HF HLD5 HST5 d1
          obtain ⟨W9, hst9, b9, o9, hB9⟩ := HC6.out.lay
          have HST9 := hide hst9
          have HB9 := hide b9
          have HO9 := hide o9
          have HW9 := hide hB9
          have HLC := hide (load_tb w4.heap.size _ _ _ HC6.out.bc)
          clear hst9 b9 o9 hB9
          go_wp2_with (first | refine wpList_load _ rfl 24 (.tmp 9) rfl (.pointer (some ⟨w4.heap.size, 0, none⟩)) (Tb.val t ⟨some ⟨g, off, none⟩, 12, c5⟩) rfl HLC.out ?_ | refine wpList_store _ rfl rfl 24 (.tmp 6) (.tmp 38) rfl (.pointer (some ⟨w.heap.size + 1, 0, none⟩)) (Tb.val t ⟨some ⟨g, off, none⟩, 12, c5⟩) rfl rfl W9 HST9.out ?_)
          refine bodyPost_ret (tb_results2 rfl HB9.out _ (.int .i64 1) rfl rfl) rfl ?_
          exact ⟨_, rfl, HO9.out.es, fun _ => HO9.out.ty, HW9.out⟩
        rw [HWR.out, if_neg (fun k => k.elim hc0 hc1)]
        unfold Tb.val
        go_enter Try.func22, Try.ntmps22
        go_wp2_with (refine wpList_load _ rfl 24 (.tmp 3) rfl (.pointer (some ⟨w.heap.size, 0, none⟩)) (t.val v) rfl HLD.out ?_)
        refine HC.out.mono ?_
        rintro e w3 ⟨rfl, hb3⟩
        have HP3 := hide (HP.out.keep hb3)
        have HLD3 := hide (load_tb w.heap.size t v w3 HP3.out.bt)
        have HCP := hide (copyT_any t v w3 (HH.out.keep HP3.out.below (Nat.le_refl _)) (by rw [HV.out]; decide) (by rw [HV.out]; decide))
        clear hb3 HC HLD
        go_wp2_with (refine wpList_load _ rfl 24 (.tmp 3) rfl (.pointer (some ⟨w.heap.size, 0, none⟩)) (t.val v) rfl HLD3.out ?_)
        refine HCP.out.mono ?_
        rintro e w4 ⟨s, rfl, ho4, hn4, hb4⟩
        simp only [id]
        obtain ⟨W5, hst5, hc5⟩ := Cpy.start HP3.out ho4 hn4 hb4
        have HST5 := hide hst5
        obtain ⟨g, off, c5, rfl⟩ := hc5.at HM.out.len
        have HC5 := hide hc5
        clear hst5 hc5 ho4 hn4 hb4 HCP HLD3 HP3
        have HF := hide (countT_any t v tx t.no W5 (HH.out.keep HC5.out.pr.below (Nat.le_refl _)))
        rw [HCT.out] at HF
        simp only at HF
        have HLD5 := hide (load_tb w.heap.size t v W5 HC5.out.pr.bt)
        have d1 := HC5.out.pr.bt.c1
        go_wp2_with (first | refine wpList_store _ rfl rfl 24 (.tmp 9) (.tmp 19) rfl (.pointer (some ⟨w4.heap.size, 0, none⟩)) (t.val ⟨some ⟨g, off, none⟩, 12, c5⟩) rfl rfl W5 HST5.out ?_ | refine wpList_load _ rfl 24 (.tmp 3) rfl (.pointer (some ⟨w.heap.size, 0, none⟩)) (t.val v) rfl HLD5.out ?_)
        refine HF.out.mono ?_
        rintro e w6 ⟨rfl, hb6⟩
        have hc6 := HC5.out.keep hb6
        have d3 := hc6.bc.c3
        have i12 : i < 12 := by rw [← HM.out.len]; exact hi
        have i1 : ((i : Nat) : Int) < 12 := by omega
        obtain ⟨W7, hst7, hc7⟩ := hc6.set2 hi c
        have d1 := hc7.bc.c1
        obtain ⟨W8, hst8, hc8⟩ := hc7.st1 (t.no + 1)
        have HST7 := hide hst7
        have HST8 := hide hst8
        have HC8 := hide hc8
        replace d1 : W7.cell? ⟨w4.heap.size, 1, none⟩ = some (.int .i64 t.no) := d1
        clear hb6 HF HLD5 HST5 hc6 hst7 hc7 hst8 hc8 hi i12
        obtain ⟨W9, hst9, b9, o9, hB9⟩ := HC8.out.lay
        have HST9 := hide hst9
        have HB9 := hide b9
        have HO9 := hide o9
        have HW9 := hide hB9
        have HLC := hide (load_tb w4.heap.size _ _ _ HC8.out.bc)
        clear hst9 b9 o9 hB9
        go_wp2_with (first | refine wpList_store _ rfl rfl 3 (.tmp 44) (.tmp 42) rfl (.pointer (some ⟨g, off + i * 4 + 2, none⟩)) (.int .i64 c) rfl rfl W7 HST7.out ?_ | refine wpList_store _ rfl rfl 3 (.tmp 48) (.tmp 47) rfl (.pointer (some ⟨w4.heap.size, 1, none⟩)) (.int .i64 (t.no + 1)) rfl rfl W8 HST8.out ?_ | refine wpList_load _ rfl 24 (.tmp 9) rfl (.pointer (some ⟨w4.heap.size, 0, none⟩)) (Tb.val ({ t.set i { t.en i with last := c } with no := t.no + 1 } : Tb) ⟨some ⟨g, off, none⟩, 12, c5⟩) rfl HLC.out ?_ | refine wpList_store _ rfl rfl 24 (.tmp 6) (.tmp 49) rfl (.pointer (some ⟨w.heap.size + 1, 0, none⟩)) (Tb.val ({ t.set i { t.en i with last := c } with no := t.no + 1 } : Tb) ⟨some ⟨g, off, none⟩, 12, c5⟩) rfl rfl W9 HST9.out ?_)
        refine bodyPost_ret (tb_results2 rfl HB9.out _ (.int .i64 0) rfl rfl) rfl ?_
        exact ⟨_, rfl, HO9.out.es, fun _ => HO9.out.ty, HW9.out⟩

end Go.Proofs.Ytdbgbldmjgonjaa

namespace Go.Proofs.Ytdbgbldmjgonjaa
open Go.RowKit
set_option linter.unusedVariables false

set_option maxHeartbeats 16000000 in
set_option maxRecDepth 100000 in
theorem lenterT_any (t : Tb) (v : Sl) (tx : Int) (w : World) (h : Es w v t.es) :
    Calls Try.prog 21 #[t.val v, .int .i64 tx] w (TbSays (enterL t tx).1 v w (fun x => .tuple #[x, .int .i64 (enterL t tx).2.1, .int .i64 (enterL t tx).2.2])) := by
  have hl := h.len
  have HH := hide h
  have HP := hide (Pair.new w t v)
  generalize hW2 : (w.alloc (.cells #[.int .i64 t.nx, .int .i64 t.no, .int .i64 t.cm, .slice v.a v.len v.cap] 24)).alloc (.cells #[.int .i64 0, .int .i64 0, .int .i64 0, .slice none 0 0] 24) = W2 at *
  have HLD := hide (load_tb w.heap.size t v W2 HP.out.bt)
  cases hm : mayB t with
  | false =>
    rw [enterL_no hm]
    have HC := hide (checkT_no hm v W2 (h.keep HP.out.below (Nat.le_refl _)))
    clear h hm
    unfold Tb.val
    go_enter Try.func21, Try.ntmps21
    go_wp2_with (refine wpList_load _ rfl 24 (.tmp 2) rfl (.pointer (some ⟨w.heap.size, 0, none⟩)) (t.val v) rfl HLD.out ?_)
    refine HC.out.mono ?_
    rintro e w3 ⟨rfl, hb3⟩
    obtain ⟨W9, hst9, b9, hB9, hf9⟩ := (HP.out.keep hb3).told Tb.zero Sl.nil
    have HST9 : Hid ((Instr.storeAt 24 (.pointer (some ⟨w.heap.size + 1, 0, none⟩)) (.agg #[.int .i64 0, .int .i64 0, .int .i64 0, .slice none 0 0])).run Try.prog w3 = .ok () W9) := hst9
    have HB9 := hide b9
    have HW9 := hide hB9
    clear hst9 b9 hB9 hf9 hb3 HC HLD
    go_wp2_with (refine wpList_store _ rfl rfl 24 (.tmp 4) (.tmp 14) rfl (.pointer (some ⟨w.heap.size + 1, 0, none⟩)) (.agg #[.int .i64 0, .int .i64 0, .int .i64 0, .slice none 0 0]) rfl rfl W9 HST9.out ?_)
    refine bodyPost_ret (tb_results3 rfl HB9.out _ (.int .i64 (-1)) rfl (.int .i64 1) rfl rfl) rfl ?_
    exact ⟨Sl.nil, rfl, Es.none _, fun _ => Ty.nil _, HW9.out⟩
  | true =>
    have hM := mayB_iff.1 hm
    rw [enterL_yes hM]
    have HC := hide (checkT_yes hM v W2 (h.keep HP.out.below (Nat.le_refl _)))
    have HV : Hid (v.len = 12) := by show _ = _; rw [← hl]; exact hM.len
    have HM := hide hM
    clear h hm hM hl
    by_cases h1 : tx < 1
    · have HR : Hid (enterT t tx = (t, -1, 1)) := by show _ = _; unfold enterT; rw [if_pos (.inl h1)]
      rw [HR.out]
      unfold Tb.val
      go_enter Try.func21, Try.ntmps21
      go_wp2_with (refine wpList_load _ rfl 24 (.tmp 2) rfl (.pointer (some ⟨w.heap.size, 0, none⟩)) (t.val v) rfl HLD.out ?_)
      refine HC.out.mono ?_
      rintro e w3 ⟨rfl, hb3⟩
      have HP3 := hide (HP.out.keep hb3)
      have HLD3 := hide (load_tb w.heap.size t v w3 HP3.out.bt)
      have HCP := hide (copyT_any t v w3 (HH.out.keep HP3.out.below (Nat.le_refl _)) (by rw [HV.out]; decide) (by rw [HV.out]; decide))
      clear hb3 HC HLD
      go_wp2_with (refine wpList_load _ rfl 24 (.tmp 2) rfl (.pointer (some ⟨w.heap.size, 0, none⟩)) (t.val v) rfl HLD3.out ?_)
      refine HCP.out.mono ?_
      rintro e w4 ⟨s, rfl, ho4, hn4, hb4⟩
      simp only [id]
      obtain ⟨W5, hst5, hc5⟩ := Cpy.start HP3.out ho4 hn4 hb4
      have HST5 := hide hst5
      obtain ⟨g, off, c5, rfl⟩ := hc5.at HM.out.len
      have HC5 := hide hc5
      clear hst5 hc5 ho4 hn4 hb4 HCP HLD3 HP3
      obtain ⟨W9, hst9, b9, o9, hB9⟩ := HC5.out.lay
      have HST9 := hide hst9
      have HB9 := hide b9
      have HO9 := hide o9
      have HW9 := hide hB9
      have HLC := hide (load_tb w4.heap.size _ _ _ HC5.out.bc)
      clear hst9 b9 o9 hB9
      go_wp2_with (first | refine wpList_store _ rfl rfl 24 (.tmp 8) (.tmp 17) rfl (.pointer (some ⟨w4.heap.size, 0, none⟩)) (t.val ⟨some ⟨g, off, none⟩, 12, c5⟩) rfl rfl W5 HST5.out ?_ | refine wpList_load _ rfl 24 (.tmp 8) rfl (.pointer (some ⟨w4.heap.size, 0, none⟩)) (Tb.val t ⟨some ⟨g, off, none⟩, 12, c5⟩) rfl HLC.out ?_ | refine wpList_store _ rfl rfl 24 (.tmp 4) (.tmp 24) rfl (.pointer (some ⟨w.heap.size + 1, 0, none⟩)) (Tb.val t ⟨some ⟨g, off, none⟩, 12, c5⟩) rfl rfl W9 HST9.out ?_)
      refine bodyPost_ret (tb_results3 rfl HB9.out _ (.int .i64 (-1)) rfl (.int .i64 1) rfl rfl) rfl ?_
      exact ⟨_, rfl, HO9.out.es, fun _ => HO9.out.ty, HW9.out⟩
    by_cases h2 : 2147483646 < tx
    · have HR : Hid (enterT t tx = (t, -1, 1)) := by show _ = _; unfold enterT; rw [if_pos (.inr h2)]
      rw [HR.out]
      have h3 : 2147483647 ≤ tx := by omega
      unfold Tb.val
      go_enter Try.func21, Try.ntmps21
      go_wp2_with (refine wpList_load _ rfl 24 (.tmp 2) rfl (.pointer (some ⟨w.heap.size, 0, none⟩)) (t.val v) rfl HLD.out ?_)
      refine HC.out.mono ?_
      rintro e w3 ⟨rfl, hb3⟩
      have HP3 := hide (HP.out.keep hb3)
      have HLD3 := hide (load_tb w.heap.size t v w3 HP3.out.bt)
      have HCP := hide (copyT_any t v w3 (HH.out.keep HP3.out.below (Nat.le_refl _)) (by rw [HV.out]; decide) (by rw [HV.out]; decide))
      clear hb3 HC HLD
      go_wp2_with (refine wpList_load _ rfl 24 (.tmp 2) rfl (.pointer (some ⟨w.heap.size, 0, none⟩)) (t.val v) rfl HLD3.out ?_)
      refine HCP.out.mono ?_
      rintro e w4 ⟨s, rfl, ho4, hn4, hb4⟩
      simp only [id]
      obtain ⟨W5, hst5, hc5⟩ := Cpy.start HP3.out ho4 hn4 hb4
      have HST5 := hide hst5
      obtain ⟨g, off, c5, rfl⟩ := hc5.at HM.out.len
      have HC5 := hide hc5
      clear hst5 hc5 ho4 hn4 hb4 HCP HLD3 HP3
      obtain ⟨W9, hst9, b9, o9, hB9⟩ := HC5.out.lay
      have HST9 := hide hst9
      have HB9 := hide b9
      have HO9 := hide o9
      have HW9 := hide hB9
      have HLC := hide (load_tb w4.heap.size _ _ _ HC5.out.bc)
      clear hst9 b9 o9 hB9
      go_wp2_with (first | refine wpList_store _ rfl rfl 24 (.tmp 8) (.tmp 17) rfl (.pointer (some ⟨w4.heap.size, 0, none⟩)) (t.val ⟨some ⟨g, off, none⟩, 12, c5⟩) rfl rfl W5 HST5.out ?_ | refine wpList_load _ rfl 24 (.tmp 8) rfl (.pointer (some ⟨w4.heap.size, 0, none⟩)) (Tb.val t ⟨some ⟨g, off, none⟩, 12, c5⟩) rfl HLC.out ?_ | refine wpList_store _ rfl rfl 24 (.tmp 4) (.tmp 24) rfl (.pointer (some ⟨w.heap.size + 1, 0, none⟩)) (Tb.val t ⟨some ⟨g, off, none⟩, 12, c5⟩) rfl rfl W9 HST9.out ?_)
      refine bodyPost_ret (tb_results3 rfl HB9.out _ (.int .i64 (-1)) rfl (.int .i64 1) rfl rfl) rfl ?_
      exact ⟨_, rfl, HO9.out.es, fun _ => HO9.out.ty, HW9.out⟩
    have HEN : Hid (enterT t tx = match findN t tx with | some _ => (t, -1, 2) | none => match freeN t with | none => (t, -1, 12) | some i => ({ t.set i ⟨tx, 1, 0, 0⟩ with nx := if t.nx ≤ tx then tx + 1 else t.nx }, ((i : Nat) : Int), 0)) := by
      show _ = _
      unfold enterT
      rw [if_neg (fun k => k.elim h1 h2)]
      cases findN t tx with
      | some i => rfl
      | none => cases freeN t with
        | none => rfl
        | some i => rfl
    have h4 : tx < 2147483647 := by omega
    clear h2
    cases hf : findN t tx with
    | some i =>
      have HR : Hid (enterT t tx = (t, -1, 2)) := by show _ = _; rw [HEN.out, hf]
      rw [HR.out]
      have HFN := hide hf
      have j1 : ¬ ((i : Nat) : Int) = -1 := by omega
      have j2 : (((i : Nat) : Int) != -1) = true := bne_iff_ne.2 j1
      clear hf
      unfold Tb.val
      go_enter Try.func21, Try.ntmps21
      go_wp2_with (refine wpList_load _ rfl 24 (.tmp 2) rfl (.pointer (some ⟨w.heap.size, 0, none⟩)) (t.val v) rfl HLD.out ?_)
      refine HC.out.mono ?_
      rintro e w3 ⟨rfl, hb3⟩
      have HP3 := hide (HP.out.keep hb3)
      have HLD3 := hide (load_tb w.heap.size t v w3 HP3.out.bt)
      have HCP := hide (copyT_any t v w3 (HH.out.keep HP3.out.below (Nat.le_refl _)) (by rw [HV.out]; decide) (by rw [HV.out]; decide))
      clear hb3 HC HLD
      go_wp2_with (refine wpList_load _ rfl 24 (.tmp 2) rfl (.pointer (some ⟨w.heap.size, 0, none⟩)) (t.val v) rfl HLD3.out ?_)
      refine HCP.out.mono ?_
      rintro e w4 ⟨s, rfl, ho4, hn4, hb4⟩
      simp only [id]
      obtain ⟨W5, hst5, hc5⟩ := Cpy.start HP3.out ho4 hn4 hb4
      have HST5 := hide hst5
      obtain ⟨g, off, c5, rfl⟩ := hc5.at HM.out.len
      have HC5 := hide hc5
      clear hst5 hc5 ho4 hn4 hb4 HCP HLD3 HP3
      have HF := hide (entryOfT_any t v tx W5 (HH.out.keep HC5.out.pr.below (Nat.le_refl _)))
      rw [HFN.out] at HF
      unfold ixN at HF
      simp only at HF
      have HLD5 := hide (load_tb w.heap.size t v W5 HC5.out.pr.bt)
      go_wp2_with (first | refine wpList_store _ rfl rfl 24 (.tmp 8) (.tmp 17) rfl (.pointer (some ⟨w4.heap.size, 0, none⟩)) (t.val ⟨some ⟨g, off, none⟩, 12, c5⟩) rfl rfl W5 HST5.out ?_ | refine wpList_load _ rfl 24 (.tmp 2) rfl (.pointer (some ⟨w.heap.size, 0, none⟩)) (t.val v) rfl HLD5.out ?_)
      refine HF.out.mono ?_
      rintro e w6 ⟨rfl, hb6⟩
      have HC6 := hide (HC5.out.keep hb6)
      clear hb6 HF HLD5 HST5
      obtain ⟨W9, hst9, b9, o9, hB9⟩ := HC6.out.lay
      have HST9 := hide hst9
      have HB9 := hide b9
      have HO9 := hide o9
      have HW9 := hide hB9
      have HLC := hide (load_tb w4.heap.size _ _ _ HC6.out.bc)
      clear hst9 b9 o9 hB9
      go_wp2_with (first | refine wpList_load _ rfl 24 (.tmp 8) rfl (.pointer (some ⟨w4.heap.size, 0, none⟩)) (Tb.val t ⟨some ⟨g, off, none⟩, 12, c5⟩) rfl HLC.out ?_ | refine wpList_store _ rfl rfl 24 (.tmp 4) (.tmp 29) rfl (.pointer (some ⟨w.heap.size + 1, 0, none⟩)) (Tb.val t ⟨some ⟨g, off, none⟩, 12, c5⟩) rfl rfl W9 HST9.out ?_)
      refine bodyPost_ret (tb_results3 rfl HB9.out _ (.int .i64 (-1)) rfl (.int .i64 2) rfl rfl) rfl ?_
      exact ⟨_, rfl, HO9.out.es, fun _ => HO9.out.ty, HW9.out⟩
    | none =>
      have HFN := hide hf
      cases hr : freeN t with
      | none =>
        have HR : Hid (enterT t tx = (t, -1, 12)) := by show _ = _; rw [HEN.out, hf, hr]
        have HFR := hide hr
        rw [HR.out]
        clear hf hr
        unfold Tb.val
        go_enter Try.func21, Try.ntmps21
        go_wp2_with (refine wpList_load _ rfl 24 (.tmp 2) rfl (.pointer (some ⟨w.heap.size, 0, none⟩)) (t.val v) rfl HLD.out ?_)
        refine HC.out.mono ?_
        rintro e w3 ⟨rfl, hb3⟩
        have HP3 := hide (HP.out.keep hb3)
        have HLD3 := hide (load_tb w.heap.size t v w3 HP3.out.bt)
        have HCP := hide (copyT_any t v w3 (HH.out.keep HP3.out.below (Nat.le_refl _)) (by rw [HV.out]; decide) (by rw [HV.out]; decide))
        clear hb3 HC HLD
        go_wp2_with (refine wpList_load _ rfl 24 (.tmp 2) rfl (.pointer (some ⟨w.heap.size, 0, none⟩)) (t.val v) rfl HLD3.out ?_)
        refine HCP.out.mono ?_
        rintro e w4 ⟨s, rfl, ho4, hn4, hb4⟩
        simp only [id]
        obtain ⟨W5, hst5, hc5⟩ := Cpy.start HP3.out ho4 hn4 hb4
        have HST5 := hide hst5
        obtain ⟨g, off, c5, rfl⟩ := hc5.at HM.out.len
        have HC5 := hide hc5
        clear hst5 hc5 ho4 hn4 hb4 HCP HLD3 HP3
        have HF := hide (entryOfT_any t v tx W5 (HH.out.keep HC5.out.pr.below (Nat.le_refl _)))
        rw [HFN.out] at HF
        unfold ixN at HF
        simp only at HF
        have HLD5 := hide (load_tb w.heap.size t v W5 HC5.out.pr.bt)
        go_wp2_with (first | refine wpList_store _ rfl rfl 24 (.tmp 8) (.tmp 17) rfl (.pointer (some ⟨w4.heap.size, 0, none⟩)) (t.val ⟨some ⟨g, off, none⟩, 12, c5⟩) rfl rfl W5 HST5.out ?_ | refine wpList_load _ rfl 24 (.tmp 2) rfl (.pointer (some ⟨w.heap.size, 0, none⟩)) (t.val v) rfl HLD5.out ?_)
        refine HF.out.mono ?_
        rintro e w6 ⟨rfl, hb6⟩
        have hc6 := HC5.out.keep hb6
        have d3 := hc6.pr.bt.c3
        have HI := hide (indexE_any v t.es w6 (HH.out.keep hc6.pr.below (Nat.le_refl _)))
        rw [← free_is HM.out, HFR.out] at HI
        unfold ixN at HI
        simp only at HI
        have HC6 := hide hc6
        clear hb6 HF HLD5 HST5 hc6
        go_wp2_with fail
        refine HI.out.mono ?_
        rintro e w7 ⟨rfl, hb7⟩
        have HC7 := hide (HC6.out.keep hb7)
        clear hb7 HI HC6 d3
        obtain ⟨W9, hst9, b9, o9, hB9⟩ := HC7.out.lay
        have HST9 := hide hst9
        have HB9 := hide b9
        have HO9 := hide o9
        have HW9 := hide hB9
        have HLC := hide (load_tb w4.heap.size _ _ _ HC7.out.bc)
        clear hst9 b9 o9 hB9
        go_wp2_with (first | refine wpList_load _ rfl 24 (.tmp 8) rfl (.pointer (some ⟨w4.heap.size, 0, none⟩)) (Tb.val t ⟨some ⟨g, off, none⟩, 12, c5⟩) rfl HLC.out ?_ | refine wpList_store _ rfl rfl 24 (.tmp 4) (.tmp 36) rfl (.pointer (some ⟨w.heap.size + 1, 0, none⟩)) (Tb.val t ⟨some ⟨g, off, none⟩, 12, c5⟩) rfl rfl W9 HST9.out ?_)
        refine bodyPost_ret (tb_results3 rfl HB9.out _ (.int .i64 (-1)) rfl (.int .i64 12) rfl rfl) rfl ?_
        exact ⟨_, rfl, HO9.out.es, fun _ => HO9.out.ty, HW9.out⟩
      | some i =>
        have HR : Hid (enterT t tx = ({ t.set i ⟨tx, 1, 0, 0⟩ with nx := if t.nx ≤ tx then tx + 1 else t.nx }, ((i : Nat) : Int), 0)) := by show _ = _; rw [HEN.out, hf, hr]
        have HFR := hide hr
        have hi := (free_some hr).1
        rw [HR.out]
        clear hf hr
        by_cases hn : t.nx ≤ tx
        · rw [if_pos hn]
          have hq : t.nx < tx + 1 := by omega
          clear hn
          unfold Tb.val
          go_enter Try.func21, Try.ntmps21
          go_wp2_with (refine wpList_load _ rfl 24 (.tmp 2) rfl (.pointer (some ⟨w.heap.size, 0, none⟩)) (t.val v) rfl HLD.out ?_)
          refine HC.out.mono ?_
          rintro e w3 ⟨rfl, hb3⟩
          have HP3 := hide (HP.out.keep hb3)
          have HLD3 := hide (load_tb w.heap.size t v w3 HP3.out.bt)
          have HCP := hide (copyT_any t v w3 (HH.out.keep HP3.out.below (Nat.le_refl _)) (by rw [HV.out]; decide) (by rw [HV.out]; decide))
          clear hb3 HC HLD
          go_wp2_with (refine wpList_load _ rfl 24 (.tmp 2) rfl (.pointer (some ⟨w.heap.size, 0, none⟩)) (t.val v) rfl HLD3.out ?_)
          refine HCP.out.mono ?_
          rintro e w4 ⟨s, rfl, ho4, hn4, hb4⟩
          simp only [id]
          obtain ⟨W5, hst5, hc5⟩ := Cpy.start HP3.out ho4 hn4 hb4
          have HST5 := hide hst5
          obtain ⟨g, off, c5, rfl⟩ := hc5.at HM.out.len
          have HC5 := hide hc5
          clear hst5 hc5 ho4 hn4 hb4 HCP HLD3 HP3
          have HF := hide (entryOfT_any t v tx W5 (HH.out.keep HC5.out.pr.below (Nat.le_refl _)))
          rw [HFN.out] at HF
          unfold ixN at HF
          simp only at HF
          have HLD5 := hide (load_tb w.heap.size t v W5 HC5.out.pr.bt)
          go_wp2_with (first | refine wpList_store _ rfl rfl 24 (.tmp 8) (.tmp 17) rfl (.pointer (some ⟨w4.heap.size, 0, none⟩)) (t.val ⟨some ⟨g, off, none⟩, 12, c5⟩) rfl rfl W5 HST5.out ?_ | refine wpList_load _ rfl 24 (.tmp 2) rfl (.pointer (some ⟨w.heap.size, 0, none⟩)) (t.val v) rfl HLD5.out ?_)
          refine HF.out.mono ?_
          rintro e w6 ⟨rfl, hb6⟩
          have hc6 := HC5.out.keep hb6
          have d3 := hc6.pr.bt.c3
          have HI := hide (indexE_any v t.es w6 (HH.out.keep hc6.pr.below (Nat.le_refl _)))
          rw [← free_is HM.out, HFR.out] at HI
          unfold ixN at HI
          simp only at HI
          have HC6 := hide hc6
          clear hb6 HF HLD5 HST5 hc6
          go_wp2_with fail
          refine HI.out.mono ?_
          rintro e w7 ⟨rfl, hb7⟩
          have hc7 := HC6.out.keep hb7
          have d4 := hc7.bc.c3
          have i12 : i < 12 := by rw [← HM.out.len]; exact hi
          have i1 : ((i : Nat) : Int) < 12 := by omega
          have i0 : ¬ ((i : Nat) : Int) < 0 := by omega
          obtain ⟨W8, hst8, hc8⟩ := hc7.setEn hi ⟨tx, 1, 0, 0⟩
          have HST8 : Hid ((Instr.storeAt 58 (.pointer (some ⟨g, off + i * 4, none⟩)) (.agg #[.int .i64 tx, .int .i64 1, .int .i64 0, .int .i64 0])).run Try.prog w7 = .ok () W8) := hst8
          have d0 := hc8.pr.bt.c0
          obtain ⟨W10, hst10, hc10⟩ := hc8.st0 (tx + 1)
          have HST10 := hide hst10
          have HC10 := hide hc10
          clear hb7 HI HC6 d3 hc7 hst8 hc8 hst10 hc10 hi i12
          obtain ⟨W9, hst9, b9, o9, hB9⟩ := HC10.out.lay
          have HST9 := hide hst9
          have HB9 := hide b9
          have HO9 := hide o9
          have HW9 := hide hB9
          have HLC := hide (load_tb w4.heap.size _ _ _ HC10.out.bc)
          clear hst9 b9 o9 hB9
          go_wp2_with (first | refine wpList_store _ rfl rfl 58 (.tmp 42) (.tmp 41) rfl (.pointer (some ⟨g, off + i * 4, none⟩)) (.agg #[.int .i64 tx, .int .i64 1, .int .i64 0, .int .i64 0]) rfl rfl W8 HST8.out ?_ | refine wpList_store _ rfl rfl 3 (.tmp 48) (.tmp 47) rfl (.pointer (some ⟨w4.heap.size, 0, none⟩)) (.int .i64 (tx + 1)) rfl rfl W10 HST10.out ?_ | refine wpList_load _ rfl 24 (.tmp 8) rfl (.pointer (some ⟨w4.heap.size, 0, none⟩)) (Tb.val ({ t.set i ⟨tx, 1, 0, 0⟩ with nx := tx + 1 } : Tb) ⟨some ⟨g, off, none⟩, 12, c5⟩) rfl HLC.out ?_ | refine wpList_store _ rfl rfl 24 (.tmp 4) (.tmp 49) rfl (.pointer (some ⟨w.heap.size + 1, 0, none⟩)) (Tb.val ({ t.set i ⟨tx, 1, 0, 0⟩ with nx := tx + 1 } : Tb) ⟨some ⟨g, off, none⟩, 12, c5⟩) rfl rfl W9 HST9.out ?_)
          refine bodyPost_ret (tb_results3 rfl HB9.out _ (.int .i64 ((i : Nat) : Int)) rfl (.int .i64 0) rfl rfl) rfl ?_
          exact ⟨_, rfl, HO9.out.es, fun _ => HO9.out.ty, HW9.out⟩
        · rw [if_neg hn]
          have hq : tx + 1 ≤ t.nx := by omega
          clear hn
          unfold Tb.val
          go_enter Try.func21, Try.ntmps21
          go_wp2_with (refine wpList_load _ rfl 24 (.tmp 2) rfl (.pointer (some ⟨w.heap.size, 0, none⟩)) (t.val v) rfl HLD.out ?_)
          refine HC.out.mono ?_
          rintro e w3 ⟨rfl, hb3⟩
          have HP3 := hide (HP.out.keep hb3)
          have HLD3 := hide (load_tb w.heap.size t v w3 HP3.out.bt)
          have HCP := hide (copyT_any t v w3 (HH.out.keep HP3.out.below (Nat.le_refl _)) (by rw [HV.out]; decide) (by rw [HV.out]; decide))
          clear hb3 HC HLD
          go_wp2_with (refine wpList_load _ rfl 24 (.tmp 2) rfl (.pointer (some ⟨w.heap.size, 0, none⟩)) (t.val v) rfl HLD3.out ?_)
          refine HCP.out.mono ?_
          rintro e w4 ⟨s, rfl, ho4, hn4, hb4⟩
          simp only [id]
          obtain ⟨W5, hst5, hc5⟩ := Cpy.start HP3.out ho4 hn4 hb4
          have HST5 := hide hst5
          obtain ⟨g, off, c5, rfl⟩ := hc5.at HM.out.len
          have HC5 := hide hc5
          clear hst5 hc5 ho4 hn4 hb4 HCP HLD3 HP3
          have HF := hide (entryOfT_any t v tx W5 (HH.out.keep HC5.out.pr.below (Nat.le_refl _)))
          rw [HFN.out] at HF
          unfold ixN at HF
          simp only at HF
          have HLD5 := hide (load_tb w.heap.size t v W5 HC5.out.pr.bt)
          go_wp2_with (first | refine wpList_store _ rfl rfl 24 (.tmp 8) (.tmp 17) rfl (.pointer (some ⟨w4.heap.size, 0, none⟩)) (t.val ⟨some ⟨g, off, none⟩, 12, c5⟩) rfl rfl W5 HST5.out ?_ | refine wpList_load _ rfl 24 (.tmp 2) rfl (.pointer (some ⟨w.heap.size, 0, none⟩)) (t.val v) rfl HLD5.out ?_)
          refine HF.out.mono ?_
          rintro e w6 ⟨rfl, hb6⟩
          have hc6 := HC5.out.keep hb6
          have d3 := hc6.pr.bt.c3
          have HI := hide (indexE_any v t.es w6 (HH.out.keep hc6.pr.below (Nat.le_refl _)))
          rw [← free_is HM.out, HFR.out] at HI
          unfold ixN at HI
          simp only at HI
          have HC6 := hide hc6
          clear hb6 HF HLD5 HST5 hc6
          go_wp2_with fail
          refine HI.out.mono ?_
          rintro e w7 ⟨rfl, hb7⟩
          have hc7 := HC6.out.keep hb7
          have d4 := hc7.bc.c3
          have i12 : i < 12 := by rw [← HM.out.len]; exact hi
          have i1 : ((i : Nat) : Int) < 12 := by omega
          have i0 : ¬ ((i : Nat) : Int) < 0 := by omega
          obtain ⟨W8, hst8, hc8⟩ := hc7.setEn hi ⟨tx, 1, 0, 0⟩
          have HST8 : Hid ((Instr.storeAt 58 (.pointer (some ⟨g, off + i * 4, none⟩)) (.agg #[.int .i64 tx, .int .i64 1, .int .i64 0, .int .i64 0])).run Try.prog w7 = .ok () W8) := hst8
          have d0 := hc8.pr.bt.c0
          obtain ⟨W10, hst10, hc10⟩ := hc8.st0 (t.nx)
          have HST10 := hide hst10
          have HC10 := hide hc10
          clear hb7 HI HC6 d3 hc7 hst8 hc8 hst10 hc10 hi i12
          obtain ⟨W9, hst9, b9, o9, hB9⟩ := HC10.out.lay
          have HST9 := hide hst9
          have HB9 := hide b9
          have HO9 := hide o9
          have HW9 := hide hB9
          have HLC := hide (load_tb w4.heap.size _ _ _ HC10.out.bc)
          clear hst9 b9 o9 hB9
          go_wp2_with (first | refine wpList_store _ rfl rfl 58 (.tmp 42) (.tmp 41) rfl (.pointer (some ⟨g, off + i * 4, none⟩)) (.agg #[.int .i64 tx, .int .i64 1, .int .i64 0, .int .i64 0]) rfl rfl W8 HST8.out ?_ | refine wpList_store _ rfl rfl 3 (.tmp 48) (.tmp 47) rfl (.pointer (some ⟨w4.heap.size, 0, none⟩)) (.int .i64 (t.nx)) rfl rfl W10 HST10.out ?_ | refine wpList_load _ rfl 24 (.tmp 8) rfl (.pointer (some ⟨w4.heap.size, 0, none⟩)) (Tb.val ({ t.set i ⟨tx, 1, 0, 0⟩ with nx := t.nx } : Tb) ⟨some ⟨g, off, none⟩, 12, c5⟩) rfl HLC.out ?_ | refine wpList_store _ rfl rfl 24 (.tmp 4) (.tmp 49) rfl (.pointer (some ⟨w.heap.size + 1, 0, none⟩)) (Tb.val ({ t.set i ⟨tx, 1, 0, 0⟩ with nx := t.nx } : Tb) ⟨some ⟨g, off, none⟩, 12, c5⟩) rfl rfl W9 HST9.out ?_)
          refine bodyPost_ret (tb_results3 rfl HB9.out _ (.int .i64 ((i : Nat) : Int)) rfl (.int .i64 0) rfl rfl) rfl ?_
          exact ⟨_, rfl, HO9.out.es, fun _ => HO9.out.ty, HW9.out⟩

end Go.Proofs.Ytdbgbldmjgonjaa

namespace Go.Proofs.Ytdbgbldmjgonjaa
open Go.RowKit
set_option linter.unusedVariables false

theorem Cpy.lay2 {w W : World} {p : Nat} {t u : Tb} {v s : Sl} (h : Cpy w W p t v u s) : ∃ W', (Instr.storeAt 24 (.pointer (some ⟨w.heap.size + 1, 0, none⟩)) (u.val s)).run Try.prog W.drew = .ok () W' ∧ TbBlk W' (w.heap.size + 1) u s ∧ OwnE W' s u.es ∧ Below w.heap.size w W' ∧ TbBlk W' p u s := by
  have hd := h.keep (below_drew W)
  obtain ⟨W', h1, h2, h3, h4⟩ := hd.pr.told u s
  have := hd.hp
  exact ⟨W', h1, h2, hd.oc.other h4 (fun k hk => by have := (hd.nw k hk).1; omega), h3, hd.bc.other h4 (by omega)⟩

set_option maxHeartbeats 2000000 in
set_option maxRecDepth 100000 in
theorem lcommit11 (w W9 : World) (p r : Nat) (u : Tb) (s : Sl) (hT : TbBlk w p u s) (hst : (Instr.storeAt 24 (.pointer (some ⟨r, 0, none⟩)) (u.val s)).run Try.prog w.drew = .ok () W9) (hT2 : TbBlk W9 p u s)
    {Q : Exit → Act → World → Prop} {A : Act} (hsz : A.tmps.size = 50) (hdf : A.defers = []) (s4 : A.tmps.getD 4 undef = .pointer (some ⟨r, 0, none⟩)) (s8 : A.tmps.getD 8 undef = .pointer (some ⟨p, 0, none⟩))
    (hend : ∀ uu : Nat → Value, Q .normal (((((A.put (some 47) (uu 47)).put (some 48) (uu 48)).put (some 49) (uu 49)).put (some 5) (.int .i64 u.cm)).put (some 6) (.int .i64 0)) W9) :
    (Code.region 11 (Pl.find 11 ((Try.f23.body).getD .skip)) true).wp Try.prog Q A w := by
  have hA := Pl.At.same (v := .pointer (some ⟨p, 0, none⟩)) (d := 8) (Pl.At.same (v := .pointer (some ⟨r, 0, none⟩)) (d := 4) (Pl.At.here hsz hdf) s4) s8
  have hS1 : TbBlk w.drew p u s := hT
  refine Pl.H.start (S := fun w' => TbBlk w' p u s) (by kernel_rfl) hA hS1 ?_
  rw [show (Pl.find 11 ((Try.f23.body).getD .skip)).size = 6 by kernel_rfl]
  refine Pl.H.take 0 47 (u.val s) (by kernel_rfl) (by kernel_rfl) (by kernel_rfl) (Pl.free 0 (by kernel_rfl)) (Pl.load 0 24 (.tmp 8) _ (by kernel_rfl) (by decide) (fun w' hS => load_tb p u s w' hS)) hS1 ?_
  refine Pl.H.take 1 48 (.pointer (some ⟨p, 2, none⟩)) (by kernel_rfl) (by kernel_rfl) (by kernel_rfl) (Pl.free 1 (by kernel_rfl)) (Pl.field 1 24 (.tmp 8) 2 _ (by kernel_rfl) (by decide) (fdTb2 p)) hS1 ?_
  refine Pl.H.take 2 49 (.int .i64 u.cm) (by kernel_rfl) (by kernel_rfl) (by kernel_rfl) (Pl.free 2 (by kernel_rfl)) (Pl.load 2 3 (.tmp 48) _ (by kernel_rfl) (by decide) (fun w' hS => ldInt p 2 u.cm w' hS.c2)) hS1 ?_
  refine Pl.H.store 3 W9 (by kernel_rfl) (by kernel_rfl) (by kernel_rfl) (Pl.free 3 (by kernel_rfl)) (Pl.storeV 3 24 (.tmp 4) (.tmp 47) _ (by kernel_rfl) (by decide) (by decide) hst) hT2 ?_
  refine Pl.H.take 4 5 (.int .i64 u.cm) (by kernel_rfl) (by kernel_rfl) (by kernel_rfl) (Pl.free 4 (by kernel_rfl)) (Pl.assign 4 (.tmp 49) (by kernel_rfl) (by decide)) hT2 ?_
  refine Pl.H.take 5 6 (.int .i64 0) (by kernel_rfl) (by kernel_rfl) (by kernel_rfl) (Pl.free 5 (by kernel_rfl)) (Pl.assign 5 (.const (.int .i64 0)) (by kernel_rfl) (by decide)) hT2 ?_
  refine Pl.H.done (by kernel_rfl) (fun A' hA' => ?_)
  rw [Pl.At.ext hA' (((((hA.put 47 _).put 48 _).put 49 _).put 5 _).put 6 _)]
  exact hend (fun d => if d = 47 then u.val s else if d = 48 then .pointer (some ⟨p, 2, none⟩) else if d = 49 then .int .i64 u.cm else undef)

theorem commit_two {t : Tb} {i : Nat} (hi : i < t.es.length) (z : Int) : (({ t with cm := z } : Tb).set i { ({ t with cm := z } : Tb).en i with st := 2 }).set i { (({ t with cm := z } : Tb).set i { ({ t with cm := z } : Tb).en i with st := 2 }).en i with com := z } = { t.set i { t.en i with st := 2, com := z } with cm := z } := by
  rw [Tb.set_en (t := { t with cm := z }) hi]
  rw [if_pos rfl]
  unfold Tb.set
  simp only [List.set_set]
  rfl

set_option maxHeartbeats 16000000 in
set_option maxRecDepth 100000 in
theorem lcommitT_any (t : Tb) (v : Sl) (tx : Int) (w : World) (h : Es w v t.es) :
    Calls Try.prog 23 #[t.val v, .int .i64 tx] w (TbSays (commitL t tx).1 v w (fun x => .tuple #[x, .int .i64 (commitL t tx).2.1, .int .i64 (commitL t tx).2.2])) := by
  have hl := h.len
  have HH := hide h
  have HP := hide (Pair.new w t v)
  generalize hW2 : (w.alloc (.cells #[.int .i64 t.nx, .int .i64 t.no, .int .i64 t.cm, .slice v.a v.len v.cap] 24)).alloc (.cells #[.int .i64 0, .int .i64 0, .int .i64 0, .slice none 0 0] 24) = W2 at *
  have HLD := hide (load_tb w.heap.size t v W2 HP.out.bt)
  cases hm : mayB t with
  | false =>
    rw [commitL_no hm]
    have HC := hide (checkT_no hm v W2 (h.keep HP.out.below (Nat.le_refl _)))
    clear h hm
    unfold Tb.val
    go_enter Try.func23, Try.ntmps23
    go_wp2_with (refine wpList_load _ rfl 24 (.tmp 2) rfl (.pointer (some ⟨w.heap.size, 0, none⟩)) (t.val v) rfl HLD.out ?_)
    refine HC.out.mono ?_
    rintro e w3 ⟨rfl, hb3⟩
    obtain ⟨W9, hst9, b9, hB9, hf9⟩ := (HP.out.keep hb3).told Tb.zero Sl.nil
    have HST9 : Hid ((Instr.storeAt 24 (.pointer (some ⟨w.heap.size + 1, 0, none⟩)) (.agg #[.int .i64 0, .int .i64 0, .int .i64 0, .slice none 0 0])).run Try.prog w3 = .ok () W9) := hst9
    have HB9 := hide b9
    have HW9 := hide hB9
    clear hst9 b9 hB9 hf9 hb3 HC HLD
    go_wp2_with (refine wpList_store _ rfl rfl 24 (.tmp 4) (.tmp 15) rfl (.pointer (some ⟨w.heap.size + 1, 0, none⟩)) (.agg #[.int .i64 0, .int .i64 0, .int .i64 0, .slice none 0 0]) rfl rfl W9 HST9.out ?_)
    refine bodyPost_ret (tb_results3 rfl HB9.out _ (.int .i64 0) rfl (.int .i64 1) rfl rfl) rfl ?_
    exact ⟨Sl.nil, rfl, Es.none _, fun _ => Ty.nil _, HW9.out⟩
  | true =>
    have hM := mayB_iff.1 hm
    rw [commitL_yes hM]
    have HC := hide (checkT_yes hM v W2 (h.keep HP.out.below (Nat.le_refl _)))
    have HV : Hid (v.len = 12) := by show _ = _; rw [← hl]; exact hM.len
    have HM := hide hM
    clear h hm hM hl
    cases hf : findN t tx with
    | none =>
      have HR : Hid (commitT t tx = (t, 0, 3)) := by show _ = _; unfold commitT; rw [hf]
      have HCT : Hid (countT t tx t.cm = (-1, 3)) := by show _ = _; unfold countT; rw [hf]
      rw [HR.out]
      clear hf
      unfold Tb.val
      go_enter Try.func23, Try.ntmps23
      go_wp2_with (refine wpList_load _ rfl 24 (.tmp 2) rfl (.pointer (some ⟨w.heap.size, 0, none⟩)) (t.val v) rfl HLD.out ?_)
      refine HC.out.mono ?_
      rintro e w3 ⟨rfl, hb3⟩
      have HP3 := hide (HP.out.keep hb3)
      have HLD3 := hide (load_tb w.heap.size t v w3 HP3.out.bt)
      have HCP := hide (copyT_any t v w3 (HH.out.keep HP3.out.below (Nat.le_refl _)) (by rw [HV.out]; decide) (by rw [HV.out]; decide))
      clear hb3 HC HLD
      go_wp2_with (refine wpList_load _ rfl 24 (.tmp 2) rfl (.pointer (some ⟨w.heap.size, 0, none⟩)) (t.val v) rfl HLD3.out ?_)
      refine HCP.out.mono ?_
      rintro e w4 ⟨s, rfl, ho4, hn4, hb4⟩
      simp only [id]
      obtain ⟨W5, hst5, hc5⟩ := Cpy.start HP3.out ho4 hn4 hb4
      have HST5 := hide hst5
      obtain ⟨g, off, c5, rfl⟩ := hc5.at HM.out.len
      have HC5 := hide hc5
      clear hst5 hc5 ho4 hn4 hb4 HCP HLD3 HP3
      have HF := hide (countT_any t v tx t.cm W5 (HH.out.keep HC5.out.pr.below (Nat.le_refl _)))
      rw [HCT.out] at HF
      simp only at HF
      have HLD5 := hide (load_tb w.heap.size t v W5 HC5.out.pr.bt)
      have d1 := HC5.out.pr.bt.c2
      go_wp2_with (first | refine wpList_store _ rfl rfl 24 (.tmp 8) (.tmp 18) rfl (.pointer (some ⟨w4.heap.size, 0, none⟩)) (t.val ⟨some ⟨g, off, none⟩, 12, c5⟩) rfl rfl W5 HST5.out ?_ | refine wpList_load _ rfl 24 (.tmp 2) rfl (.pointer (some ⟨w.heap.size, 0, none⟩)) (t.val v) rfl HLD5.out ?_)
      refine HF.out.mono ?_
      rintro e w6 ⟨rfl, hb6⟩
      have HC6 := hide (HC5.out.keep hb6)
      clear hb6 HF HLD5 HST5 d1
      obtain ⟨W9, hst9, b9, o9, hB9⟩ := HC6.out.lay
      have HST9 := hide hst9
      have HB9 := hide b9
      have HO9 := hide o9
      have HW9 := hide hB9
      have HLC := hide (load_tb w4.heap.size _ _ _ HC6.out.bc)
      clear hst9 b9 o9 hB9
      go_wp2_with (first | refine wpList_load _ rfl 24 (.tmp 8) rfl (.pointer (some ⟨w4.heap.size, 0, none⟩)) (Tb.val t ⟨some ⟨g, off, none⟩, 12, c5⟩) rfl HLC.out ?_ | refine wpList_store _ rfl rfl 24 (.tmp 4) (.tmp 29) rfl (.pointer (some ⟨w.heap.size + 1, 0, none⟩)) (Tb.val t ⟨some ⟨g, off, none⟩, 12, c5⟩) rfl rfl W9 HST9.out ?_)
      refine bodyPost_ret (tb_results3 rfl HB9.out _ (.int .i64 (0)) rfl (.int .i64 3) rfl rfl) rfl ?_
      exact ⟨_, rfl, HO9.out.es, fun _ => HO9.out.ty, HW9.out⟩
    | some i =>
      have hi := (find_some hf).1
      by_cases hst : (t.en i).st ≠ 1 ∨ t.cm = 2147483647
      · have HR : Hid (commitT t tx = (t, 0, 2)) := by show _ = _; unfold commitT; rw [hf]; exact if_pos hst
        have HCT : Hid (countT t tx t.cm = (-1, 2)) := by show _ = _; unfold countT; rw [hf]; exact if_pos hst
        rw [HR.out]
        clear hf hst
        unfold Tb.val
        go_enter Try.func23, Try.ntmps23
        go_wp2_with (refine wpList_load _ rfl 24 (.tmp 2) rfl (.pointer (some ⟨w.heap.size, 0, none⟩)) (t.val v) rfl HLD.out ?_)
        refine HC.out.mono ?_
        rintro e w3 ⟨rfl, hb3⟩
        have HP3 := hide (HP.out.keep hb3)
        have HLD3 := hide (load_tb w.heap.size t v w3 HP3.out.bt)
        have HCP := hide (copyT_any t v w3 (HH.out.keep HP3.out.below (Nat.le_refl _)) (by rw [HV.out]; decide) (by rw [HV.out]; decide))
        clear hb3 HC HLD
        go_wp2_with (refine wpList_load _ rfl 24 (.tmp 2) rfl (.pointer (some ⟨w.heap.size, 0, none⟩)) (t.val v) rfl HLD3.out ?_)
        refine HCP.out.mono ?_
        rintro e w4 ⟨s, rfl, ho4, hn4, hb4⟩
        simp only [id]
        obtain ⟨W5, hst5, hc5⟩ := Cpy.start HP3.out ho4 hn4 hb4
        have HST5 := hide hst5
        obtain ⟨g, off, c5, rfl⟩ := hc5.at HM.out.len
        have HC5 := hide hc5
        clear hst5 hc5 ho4 hn4 hb4 HCP HLD3 HP3
        have HF := hide (countT_any t v tx t.cm W5 (HH.out.keep HC5.out.pr.below (Nat.le_refl _)))
        rw [HCT.out] at HF
        simp only at HF
        have HLD5 := hide (load_tb w.heap.size t v W5 HC5.out.pr.bt)
        have d1 := HC5.out.pr.bt.c2
        go_wp2_with (first | refine wpList_store _ rfl rfl 24 (.tmp 8) (.tmp 18) rfl (.pointer (some ⟨w4.heap.size, 0, none⟩)) (t.val ⟨some ⟨g, off, none⟩, 12, c5⟩) rfl rfl W5 HST5.out ?_ | refine wpList_load _ rfl 24 (.tmp 2) rfl (.pointer (some ⟨w.heap.size, 0, none⟩)) (t.val v) rfl HLD5.out ?_)
        refine HF.out.mono ?_
        rintro e w6 ⟨rfl, hb6⟩
        have HC6 := hide (HC5.out.keep hb6)
        clear hb6 HF HLD5 HST5 d1
        obtain ⟨W9, hst9, b9, o9, hB9⟩ := HC6.out.lay
        have HST9 := hide hst9
        have HB9 := hide b9
        have HO9 := hide o9
        have HW9 := hide hB9
        have HLC := hide (load_tb w4.heap.size _ _ _ HC6.out.bc)
        clear hst9 b9 o9 hB9
        go_wp2_with (first | refine wpList_load _ rfl 24 (.tmp 8) rfl (.pointer (some ⟨w4.heap.size, 0, none⟩)) (Tb.val t ⟨some ⟨g, off, none⟩, 12, c5⟩) rfl HLC.out ?_ | refine wpList_store _ rfl rfl 24 (.tmp 4) (.tmp 29) rfl (.pointer (some ⟨w.heap.size + 1, 0, none⟩)) (Tb.val t ⟨some ⟨g, off, none⟩, 12, c5⟩) rfl rfl W9 HST9.out ?_)
        refine bodyPost_ret (tb_results3 rfl HB9.out _ (.int .i64 (0)) rfl (.int .i64 2) rfl rfl) rfl ?_
        exact ⟨_, rfl, HO9.out.es, fun _ => HO9.out.ty, HW9.out⟩
      · have HCT : Hid (countT t tx t.cm = (((i : Nat) : Int), 0)) := by show _ = _; unfold countT; rw [hf]; exact if_neg hst
        have HR : Hid (commitT t tx = ({ t.set i { t.en i with st := 2, com := t.cm + 1 } with cm := t.cm + 1 }, t.cm + 1, 0)) := by show _ = _; unfold commitT; rw [hf]; exact if_neg hst
        have hcm : t.cm < 2147483647 := by have := HM.out.cm; have : ¬ t.cm = 2147483647 := fun e => hst (.inr e); omega
        have hcm2 : 0 ≤ t.cm := HM.out.cm.1
        rw [HR.out]
        clear hf hst
        unfold Tb.val
        go_enter Try.func23, Try.ntmps23
        go_wp2_with (refine wpList_load _ rfl 24 (.tmp 2) rfl (.pointer (some ⟨w.heap.size, 0, none⟩)) (t.val v) rfl HLD.out ?_)
        refine HC.out.mono ?_
        rintro e w3 ⟨rfl, hb3⟩
        have HP3 := hide (HP.out.keep hb3)
        have HLD3 := hide (load_tb w.heap.size t v w3 HP3.out.bt)
        have HCP := hide (copyT_any t v w3 (HH.out.keep HP3.out.below (Nat.le_refl _)) (by rw [HV.out]; decide) (by rw [HV.out]; decide))
        clear hb3 HC HLD
        go_wp2_with (refine wpList_load _ rfl 24 (.tmp 2) rfl (.pointer (some ⟨w.heap.size, 0, none⟩)) (t.val v) rfl HLD3.out ?_)
        refine HCP.out.mono ?_
        rintro e w4 ⟨s, rfl, ho4, hn4, hb4⟩
        simp only [id]
        obtain ⟨W5, hst5, hc5⟩ := Cpy.start HP3.out ho4 hn4 hb4
        have HST5 := hide hst5
        obtain ⟨g, off, c5, rfl⟩ := hc5.at HM.out.len
        have HC5 := hide hc5
        clear hst5 hc5 ho4 hn4 hb4 HCP HLD3 HP3
        have HF := hide (countT_any t v tx t.cm W5 (HH.out.keep HC5.out.pr.below (Nat.le_refl _)))
        rw [HCT.out] at HF
        simp only at HF
        have HLD5 := hide (load_tb w.heap.size t v W5 HC5.out.pr.bt)
        have d1 := HC5.out.pr.bt.c2
        go_wp2_with (first | refine wpList_store _ rfl rfl 24 (.tmp 8) (.tmp 18) rfl (.pointer (some ⟨w4.heap.size, 0, none⟩)) (t.val ⟨some ⟨g, off, none⟩, 12, c5⟩) rfl rfl W5 HST5.out ?_ | refine wpList_load _ rfl 24 (.tmp 2) rfl (.pointer (some ⟨w.heap.size, 0, none⟩)) (t.val v) rfl HLD5.out ?_)
        refine HF.out.mono ?_
        rintro e w6 ⟨rfl, hb6⟩
        have hc6 := HC5.out.keep hb6
        have d2 := hc6.bc.c2
        have i12 : i < 12 := by rw [← HM.out.len]; exact hi
        have i1 : ((i : Nat) : Int) < 12 := by omega
        obtain ⟨W7, hst7, hc7⟩ := hc6.st2 (t.cm + 1)
        have d3 := hc7.bc.c3
        obtain ⟨W8, hst8, hc8⟩ := hc7.set1 (i := i) hi 2
        have d4 := hc8.bc.c3
        have d5 : W8.cell? ⟨w4.heap.size, 2, none⟩ = some (.int .i64 (t.cm + 1)) := hc8.bc.c2
        obtain ⟨W9, hst9, hc9⟩ := hc8.set3 (i := i) (by show i < (List.set _ _ _).length; rw [List.length_set]; exact hi) (t.cm + 1)
        rw [commit_two hi] at hc9
        have HST7 := hide hst7
        have HST8 := hide hst8
        have HST9 := hide hst9
        obtain ⟨W10, hst10, b10, o10, hB10, hT10⟩ := hc9.lay2
        have HB9 := hide b10
        have HO9 := hide o10
        have HW9 := hide hB10
        have HC9 := hide hc9.bc
        have HST10 := hide hst10
        have HT10 := hide hT10
        clear hb6 HF HLD5 HST5 hc6 hst7 hc7 hst8 hc8 hst9 hc9 hst10 b10 o10 hB10 hT10 hi i12 d1
        go_wp2_with (first | refine wpList_store _ rfl rfl 3 (.tmp 34) (.tmp 33) rfl (.pointer (some ⟨w4.heap.size, 2, none⟩)) (.int .i64 (t.cm + 1)) rfl rfl W7 HST7.out ?_ | refine wpList_store _ rfl rfl 3 (.tmp 39) (.const (.int .i64 2)) rfl (.pointer (some ⟨g, off + i * 4 + 1, none⟩)) (.int .i64 2) rfl rfl W8 HST8.out ?_ | refine wpList_store _ rfl rfl 3 (.tmp 46) (.tmp 44) rfl (.pointer (some ⟨g, off + i * 4 + 3, none⟩)) (.int .i64 (t.cm + 1)) rfl rfl W9 HST9.out ?_)
        refine Pl.region_is (ops := Pl.find 11 ((Try.f23.body).getD .skip)) (by kernel_rfl) ?_
        refine lcommit11 W9 W10 w4.heap.size (w.heap.size + 1) _ _ HC9.out HST10.out HT10.out (by rfl) rfl (by rfl) (by rfl) ?_
        intro uu
        simp only [Act.put, List.setIfInBounds_toArray, List.set_cons_zero, List.set_cons_succ]
        go_wp2_with fail
        refine bodyPost_ret (tb_results3 rfl HB9.out _ (.int .i64 (t.cm + 1)) rfl (.int .i64 0) rfl rfl) rfl ?_
        exact ⟨_, rfl, HO9.out.es, fun _ => HO9.out.ty, HW9.out⟩

end Go.Proofs.Ytdbgbldmjgonjaa
