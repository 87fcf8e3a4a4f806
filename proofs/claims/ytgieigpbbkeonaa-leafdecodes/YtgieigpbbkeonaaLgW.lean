/-
  Layer 8, the landed leaf: Decode.
-/
import Derived.Test.YtgieigpbbkeonaaLgV
namespace Go.Proofs.Ytgieigpbbkeonaa
open Go.RowKit

theorem Owns.came8 {w : World} {base : Nat} {v : Value} {xs : List Nat} {n : Nat} (h : Owns w base v xs) (hx : Bytes xs) (hn : xs.length = n) (hm : n ≤ 1000000) : ∃ a cap, v = .slice a n cap ∧ Came w a n cap xs := by
  subst hn
  obtain ⟨a, cap, hv, hbs, hn⟩ := h.bs hx
  refine ⟨a, cap, hv, hbs, hn, ?_, by omega⟩
  rcases h.2 with ⟨hv', h0'⟩ | ⟨g, cp, cur, hv', _, _, hle, _⟩
  · rw [h0']; exact Nat.zero_le _
  · rw [hv] at hv'
    simp only [Value.slice.injEq] at hv'
    rw [hv'.2.2]; exact hle
theorem Told.into0 {w w1 w2 : World} {x y : Value} {t : List Int} {s : List (List Nat)} {c : Int} {en : Ending} (h : Told w1 t s (mk2 c) en w2) (k : LfBlk w1 w.heap.size x y) (e : Below w.heap.size w w1) :
    ∃ (u v : Sl) (W : World), en = .returned (mk2 c (lfV u v)) ∧ (Instr.storeAt 25 (.pointer (some ⟨w.heap.size, 0, none⟩)) (lfV u v)).run Try.prog w2 = .ok () W ∧ LfBlk W w.heap.size u.val v.val ∧ Told w t s (mk2 c) (.returned (mk2 c (lfV u v))) W := by
  obtain ⟨hb2, u, v, l', he, gi, gb, hbs⟩ := h
  have hlt := k.lt
  obtain ⟨W, hst, k', hf⟩ := fin_lf0 (k.below hb2) (rBelow e hb2) (gi.wide (fun k hk => by omega)) (gb.wide (fun k hk => by omega))
  exact ⟨u, v, W, he, hst, k', hbs ▸ hf (mk2 c)⟩
theorem LoSays.into0 {w w1 w2 : World} {x y : Value} {xs : List Nat} {en : Ending} (h : LoSays w1 xs en w2) (k : LfBlk w1 w.heap.size x y) (e : Below w.heap.size w w1) :
    ∃ (c : Int) (a2 : Option Addr) (n2 c2 : Nat) (a5 : Option Addr) (n5 c5 : Nat) (W : World), en = .returned (mk2 c (lfV ⟨a2, n2, c2⟩ ⟨a5, n5, c5⟩)) ∧ (Instr.storeAt 25 (.pointer (some ⟨w.heap.size, 0, none⟩)) (lfV ⟨a2, n2, c2⟩ ⟨a5, n5, c5⟩)).run Try.prog w2 = .ok () W ∧ LfBlk W w.heap.size (Sl.val ⟨a2, n2, c2⟩) (Sl.val ⟨a5, n5, c5⟩) ∧ LoSays w xs (.returned (mk2 c (lfV ⟨a2, n2, c2⟩ ⟨a5, n5, c5⟩))) W := by
  rcases h with ⟨t, s, hg, ht⟩ | ⟨hn, ht⟩
  · obtain ⟨⟨a2, n2, c2⟩, ⟨a5, n5, c5⟩, W, he, hst, k', hf⟩ := ht.into0 k e
    exact ⟨0, a2, n2, c2, a5, n5, c5, W, he, hst, k', .inl ⟨t, s, hg, hf⟩⟩
  · obtain ⟨⟨a2, n2, c2⟩, ⟨a5, n5, c5⟩, W, he, hst, k', hf⟩ := ht.into0 k e
    exact ⟨4, a2, n2, c2, a5, n5, c5, W, he, hst, k', .inr ⟨hn, hf⟩⟩

/-- What Decode says of 512 bytes. -/
def DcSays (w : World) (xs : List Nat) (e : Ending) (w' : World) : Prop :=
  (nul xs = true ∧ Told w [0, 0, 0, 0] [] (mk2 0) e w') ∨ (nul xs = false ∧ ¬ Sealed xs ∧ Told w [] [] (mk2 5) e w') ∨ (nul xs = false ∧ Sealed xs ∧ LoSays w (xs.drop 4) e w')

set_option maxHeartbeats 8000000 in
set_option maxRecDepth 100000 in
theorem decode_says (w : World) (a : Option Addr) (cap : Nat) (xs : List Nat) (h : Came w a 512 cap xs) :
    Calls Try.prog 14 #[.slice a 512 cap] w fun e w' => DcSays w xs e w' := by
  cases hn : nul xs with
  | true => exact (decode_nul w a cap xs h.bs hn).mono fun e w' ht => .inl ⟨hn, ht⟩
  | false =>
    have hA := below_alloc w (.cells #[.slice none 0 0, .slice none 0 0] 25)
    have HN := hide (noughts_any _ a 512 cap xs (h.bs.keep hA (Nat.le_refl _)) (by decide))
    rw [hn] at HN
    have HNU := hide hn
    have HK := hide (lfBlk_new w (.slice none 0 0) (.slice none 0 0))
    have HA := hide hA
    have HCM := hide h
    obtain ⟨tb, tp, ha, _⟩ := h.bs.2.2 0 (by decide)
    subst ha
    clear hA hn h
    go_enter Try.func14, Try.ntmps14
    go_wp2_with fail
    refine HN.out.mono ?_
    rintro e w1 ⟨rfl, hw⟩
    rw [← hw] at HK HA
    clear hw HN
    by_cases hs : Sealed xs
    · have HOP := hide (open_yes tb tp 512 cap xs w1 (HCM.out.bs.keep HA.out (Nat.le_refl _)) (by decide) HCM.out.le (by decide) hs)
      have HSE := hide hs
      clear hs
      go_wp2_with fail
      refine HOP.out.mono ?_
      rintro e w2 ⟨v, rfl, ho, hb2⟩
      obtain ⟨a2, c2, rfl, hcm⟩ := ho.came8 (n := 508) (fun x hx => HCM.out.bs.2.1 x (List.mem_of_mem_drop hx)) (by rw [List.length_drop, HCM.out.bs.1]) (by decide)
      have HLO := hide (leafOf_says w2 a2 c2 (xs.drop 4) hcm)
      have HK2 := hide (HK.out.below hb2)
      have HA2 := hide (rBelow HA.out hb2)
      clear hcm ho hb2 HK HA HOP
      go_wp2_with fail
      refine HLO.out.mono ?_
      rintro e w3 hlo
      obtain ⟨c, a3, n3, c3, a5, n5, c5, W, rfl, hst, k9, hf⟩ := hlo.into0 HK2.out HA2.out
      have HST9 := hide hst
      have HK9 := hide k9
      have HF := hide hf
      clear hlo hst k9 hf HLO
      unfold mk2 lfV Sl.val at *
      simp only at *
      go_wp2_with (refine wpList_store _ rfl rfl 25 (.tmp 2) (.tmp 25) rfl (.pointer (some ⟨w.heap.size, 0, none⟩)) (.agg #[.slice a3 n3 c3, .slice a5 n5 c5]) rfl rfl W HST9.out ?_)
      refine bodyPost_ret (lf_results1 (u := ⟨a3, n3, c3⟩) (v := ⟨a5, n5, c5⟩) rfl HK9.out _ rfl rfl) rfl ?_
      exact .inr (.inr ⟨HNU.out, HSE.out, HF.out⟩)
    · have HOP := hide (open_no tb tp 512 cap xs w1 (HCM.out.bs.keep HA.out (Nat.le_refl _)) (by decide) HCM.out.le (by decide) hs)
      have HSE := hide hs
      clear hs
      go_wp2_with fail
      refine HOP.out.mono ?_
      rintro e w2 ⟨rfl, hb2⟩
      obtain ⟨W9, hst9, k9, hf9⟩ := fin_lf0 (HK.out.below hb2) (rBelow HA.out hb2) (Gi.none _) (Gb.none _)
      have HST9 := hide hst9
      have HK9 := hide k9
      have HF := hide (hf9 (mk2 5))
      clear hst9 k9 hf9 HK HA HOP hb2
      unfold lfV Sl.val Sl.nil at *
      simp only at *
      go_wp2_with (refine wpList_store _ rfl rfl 25 (.tmp 2) (.tmp 21) rfl (.pointer (some ⟨w.heap.size, 0, none⟩)) (.agg #[.slice none 0 0, .slice none 0 0]) rfl rfl W9 HST9.out ?_)
      refine bodyPost_ret (lf_results1 (u := Sl.nil) (v := Sl.nil) rfl HK9.out _ rfl rfl) rfl ?_
      exact .inr (.inl ⟨HNU.out, HSE.out, HF.out⟩)
end Go.Proofs.Ytgieigpbbkeonaa
