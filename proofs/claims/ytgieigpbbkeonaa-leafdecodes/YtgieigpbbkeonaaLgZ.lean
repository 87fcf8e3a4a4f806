/-
  Layer 8: the document's Decode.
-/
import Derived.Test.YtgieigpbbkeonaaLgY
namespace Go.Proofs.Ytgieigpbbkeonaa
open Go.RowKit

theorem sealed_take {xs : List Nat} : Sealed xs ↔ fourB (Ta.sum (xs.drop 4)) = xs.take 4 := by
  unfold Sealed
  constructor
  · intro h
    have h2 := congrArg (List.take 4) h
    rw [List.take_append_of_le_length (by simp [fourB])] at h2
    simpa [fourB] using h2
  · intro h
    rw [h]
    exact List.take_append_drop 4 xs
theorem nul_take_succ {xs : List Nat} {i : Nat} (hi : i < xs.length) : nul (xs.take (i + 1)) = (nul (xs.take i) && (xs.getD i 0 == 0)) := by
  unfold nul
  rw [List.take_add_one, List.all_append]
  congr 1
  simp [List.getD, hi]
theorem kinds_good (n : Nat) : ∀ t, t < (headK ++ List.replicate n (5 : Int)).length → 1 ≤ (headK ++ List.replicate n (5 : Int)).getD t 0 ∧ (headK ++ List.replicate n (5 : Int)).getD t 0 ≤ 5 := by
  intro t ht
  rw [List.length_append] at ht
  rcases Nat.lt_or_ge t headK.length with h | h
  · rw [show (headK ++ List.replicate n (5 : Int)).getD t 0 = headK.getD t 0 by simp [List.getD, List.getElem?_append_left h]]
    exact headK_good t h
  · rw [show (headK ++ List.replicate n (5 : Int)).getD t 0 = (List.replicate n (5 : Int)).getD (t - headK.length) 0 by simp [List.getD, List.getElem?_append_right h]]
    exact fives_good n _ (by omega)
theorem CatI.below {w wr W : World} {s : Sl} {l : List Int} (h : CatI w wr s l) (hb : Below wr.heap.size wr W) : CatI w W s l := ⟨Own.below h.o hb, h.si, rBelow h.e hb⟩
theorem CatI.gi {w wr : World} {s : Sl} {l : List Int} (h : CatI w wr s l) (hl : l.length ≤ 1000) : Gi (fun _ => True) wr s l := OwnN.gi h.o (fun _ _ => trivial) (by have := OwnN.len h.o; omega)
theorem take_bss {m : List Sb} {s : List (List Nat)} {j : Nat} (h : bss m = s.take j) (hj : j < s.length) (x : Sl) : bss (m ++ [⟨x, sl s j⟩]) = s.take (j + 1) := by
  have e : bss (m ++ [⟨x, sl s j⟩]) = bss m ++ [sl s j] := by simp [bss]
  rw [e, h, List.take_add_one, sl_get hj]
  simp [hj]

set_option maxHeartbeats 8000000 in
set_option maxRecDepth 100000 in
theorem rdecode_arg (w : World) (a : Option Addr) (len cap : Nat) (hl : len ≠ 512) :
    Calls Try.prog 18 #[.slice a len cap] w fun e w' => Told w [] [] (mk2 1) e w' := by
  have hA := below_alloc w (.cells #[.slice none 0 0, .slice none 0 0] 25)
  obtain ⟨W9, hst9, k9, hf9⟩ := fin_lf0 (lfBlk_new w (.slice none 0 0) (.slice none 0 0)) hA (Gi.none _) (Gb.none _)
  have HST9 := hide hst9
  have HK9 := hide k9
  have HF := hide (hf9 (mk2 1))
  have i1 : ¬ ((len : Nat) : Int) = 512 := by omega
  have i2 : (((len : Nat) : Int) != 512) = true := by simp; omega
  clear hA hst9 k9 hf9
  unfold lfV Sl.val Sl.nil at *
  simp only at *
  go_enter Try.func18, Try.ntmps18
  go_wp2_with (refine wpList_store _ rfl rfl 25 (.tmp 2) (.tmp 17) rfl (.pointer (some ⟨w.heap.size, 0, none⟩)) (.agg #[.slice none 0 0, .slice none 0 0]) rfl rfl W9 HST9.out ?_)
  refine bodyPost_ret (lf_results1 (u := Sl.nil) (v := Sl.nil) rfl HK9.out _ rfl rfl) rfl ?_
  exact HF.out

set_option maxHeartbeats 16000000 in
set_option maxRecDepth 100000 in
theorem rdecode_says (w : World) (a : Option Addr) (tc : Nat) (xs : List Nat) (hb : Came w a 512 tc xs) :
    Calls Try.prog 18 #[.slice a 512 tc] w fun e w' => DcSays w xs e w' := by
  obtain ⟨tb, tp, ha, _⟩ := hb.bs.2.2 0 (by decide)
  subst ha
  have hA := below_alloc w (.cells #[.slice none 0 0, .slice none 0 0] 25)
  have HK := hide (lfBlk_new w (.slice none 0 0) (.slice none 0 0))
  have HA := hide hA
  have HCM := hide hb
  have htc : 512 ≤ tc := hb.le
  have htc4 : ¬ tc = 4 := by omega
  have HXB : Hid (Bytes xs) := hb.bs.2.1
  have HXL : Hid (xs.length = 512) := hb.bs.1
  have HZ : Hid (∀ (c : Int) W, Below w.heap.size w W → LfBlk W w.heap.size (.slice none 0 0) (.slice none 0 0) → ∃ W9, (Instr.storeAt 25 (.pointer (some ⟨w.heap.size, 0, none⟩)) (.agg #[.slice none 0 0, .slice none 0 0])).run Try.prog W = .ok () W9 ∧ LfBlk W9 w.heap.size (.slice none 0 0) (.slice none 0 0) ∧ Told w [] [] (mk2 c) (.returned (mk2 c (lfV Sl.nil Sl.nil))) W9) := by
    intro c W hW k
    obtain ⟨W9, hst, k9, hf⟩ := fin_lf0 k hW (Gi.none W) (Gb.none W)
    exact ⟨W9, hst, k9, hf _⟩
  clear hA hb
  go_enter Try.func18, Try.ntmps18
  go_wp2_with fail
  go_loopw [4, 5] (fun bv iv wr => ∃ i : Nat, i ≤ 512 ∧ iv = .int .i64 ((i : Nat) : Int) ∧ bv = .bool (nul (xs.take i)) ∧ Hid (Below w.heap.size w wr) ∧ Hid (LfBlk wr w.heap.size (.slice none 0 0) (.slice none 0 0))) (fun _ iv _ => 512 - (intOf iv).toNat)
  case atStart => exact ⟨0, Nat.zero_le _, rfl, rfl, HA, HK⟩
  case round =>
    obtain ⟨i, hi, rfl, rfl, hbe, hkr⟩ := hrel
    clear HA HK
    rcases Nat.lt_or_ge i 512 with hlt | hge
    · have j1 : ((i : Nat) : Int) < 512 := by omega
      have hsucc := nul_take_succ (xs := xs) (i := i) (by rw [HXL.out]; exact hlt)
      obtain ⟨bb, oo, hbo, c0⟩ := (HCM.out.bs.keep hbe.out (Nat.le_refl _)).2.2 i hlt
      cases hbo
      obtain ⟨x, hx⟩ : ∃ x, x = xs.getD i 0 := ⟨_, rfl⟩
      rw [← hx] at c0 hsucc
      clear hx
      cases hn : nul (xs.take i) with
      | true =>
        rw [hn, Bool.true_and] at hsucc
        rcases Nat.eq_zero_or_pos x with h0 | h0
        · subst h0
          have HS : Hid (nul (xs.take (i + 1)) = true) := hsucc
          clear hsucc hn
          go_wp2_with fail
          go_roundw
          case rel => exact ⟨i + 1, by omega, by go_num, by rw [HS.out], hbe, hkr⟩
          case measure => simp only [intOf]; omega
        · have j2 : ¬ ((x : Nat) : Int) = 0 := by omega
          have HS : Hid (nul (xs.take (i + 1)) = false) := by
            show _ = _
            rw [hsucc]
            simp
            omega
          clear hsucc hn
          go_wp2_with fail
          go_roundw
          case rel => exact ⟨i + 1, by omega, by go_num, by rw [HS.out]; simp; omega, hbe, hkr⟩
          case measure => simp only [intOf]; omega
      | false =>
        rw [hn, Bool.false_and] at hsucc
        have HS := hide hsucc
        clear hsucc hn
        go_wp2_with fail
        go_roundw
        case rel => exact ⟨i + 1, by omega, by go_num, by rw [HS.out], hbe, hkr⟩
        case measure => simp only [intOf]; omega
    · have j1 : ¬ ((i : Nat) : Int) < 512 := by omega
      rw [List.take_of_length_le (by rw [HXL.out]; exact hge)]
      rename Nat => i0
      cases hn : nul xs with
      | true =>
        have HNU := hide hn
        clear hn
        have hA2 := below_alloc wr (.cells (cellsN [0, 0, 0, 0]).toArray 3)
        have HMK : Hid ((Instr.makeSlice 22 (.int .i64 4) (.int .i64 4)).run Try.prog wr = .ok (.slice (some ⟨wr.heap.size, 0, none⟩) 4 4) (wr.alloc (.cells (cellsN [0, 0, 0, 0]).toArray 3))) := make_ints 4 (by decide) wr
        have ho := ownN_made wr [0, 0, 0, 0] (by decide)
        have hsz := hkr.out.lt
        obtain ⟨W9, hst9, k9, hf9⟩ := fin_lf0 (hkr.out.below hA2) (rBelow hbe.out hA2) (OwnN.gi (D := fun k => w.heap.size + 1 ≤ k) ho (fun k hk => by have e : some wr.heap.size = some k := hk; cases e; omega) (by show 4 ≤ 1000000; decide)) (Gb.none _)
        have HST9 := hide hst9
        have HK9 := hide k9
        have HF := hide (hf9 (mk2 0))
        clear hA2 hst9 k9 hf9 ho hsz hbe hkr HZ
        unfold lfV Sl.val Sl.nil at HST9
        simp only at HST9
        go_wp2_with (first | refine wpList_make _ rfl 22 (.const (.int .i64 4)) (.const (.int .i64 4)) rfl (.int .i64 4) (.int .i64 4) _ rfl rfl _ HMK.out ?_ | refine wpList_store _ rfl rfl 25 (.tmp 2) (.tmp 32) rfl (.pointer (some ⟨w.heap.size, 0, none⟩)) (.agg #[.slice (some ⟨wr.heap.size, 0, none⟩) 4 4, .slice none 0 0]) rfl rfl W9 HST9.out ?_)
        refine bodyPost_ret (lf_results1 (u := ⟨some ⟨wr.heap.size, 0, none⟩, 4, 4⟩) (v := Sl.nil) rfl HK9.out _ rfl rfl) rfl ?_
        exact .inl ⟨HNU.out, HF.out⟩
      | false =>
        have HNU := hide hn
        clear hn
        have hbs := HCM.out.bs.keep hbe.out (Nat.le_refl _)
        have hbs0 := hbs.upto (k := 4) (cap := tc) (by decide)
        have hbs4 := hbs.from (k := 4) (cap := tc) (by decide) htc
        have e0 : fromA (some ⟨tb, tp, none⟩) tc 0 = some ⟨tb, tp, none⟩ := by
          unfold fromA
          rw [if_neg (by omega)]
          simp [Addr.add_lit]
        have e4 : fromA (some ⟨tb, tp, none⟩) tc 4 = some ⟨tb, tp + 4, none⟩ := by
          unfold fromA
          rw [if_neg (by omega)]
          simp [Addr.add_lit]
        rw [e0] at hbs0
        rw [e4] at hbs4
        have HB0 := hide hbs0
        have HB4 : Hid (Bs wr (some ⟨tb, tp + 4, none⟩) 508 (xs.drop 4)) := hbs4
        have hstr : (!((bstr (fourB (Ta.sum (xs.drop 4)))).toList == (bstr (xs.take 4)).toList)) = !decide (fourB (Ta.sum (xs.drop 4)) = xs.take 4) := by
          rw [str_is (fourB_bytes (Ta.sum_lt hbs4.2.1)) hbs0.2.1]
        have HSTR := hide hstr
        clear hbs hbs0 hbs4 e0 e4 hstr
        go_wp2_with fail
        refine Pl.region_is (ops := Pl.find 11 ((Try.f18.body).getD .skip)) (by kernel_rfl) ?_
        by_cases hs : Sealed xs
        · have hbb : (!((bstr (fourB (Ta.sum (xs.drop 4)))).toList == (bstr (xs.take 4)).toList)) = false := by
            rw [HSTR.out, decide_eq_true (sealed_take.1 hs)]
            rfl
          have HSE := hide hs
          refine rdc11 wr tb tp tc xs false htc HB0.out HB4.out hbb (by rfl) rfl (by rfl) (by rfl) ?_
          intro uu w2 hb2
          simp only [Act.put, List.setIfInBounds_toArray, List.set_cons_zero, List.set_cons_succ]
          have HB2 := hide (rBelow hbe.out hb2)
          have HK2 := hide (hkr.out.below hb2)
          have hx4 := HB4.out.keep hb2 (Nat.le_refl _)
          have HX4 := hide hx4
          obtain ⟨x, hx⟩ : ∃ x, x = xs.drop 4 := ⟨_, rfl⟩
          rw [← hx] at hx4 HX4
          have HX := hide hx
          have hxb : Bytes x := hx4.2.1
          have HXB4 := hide hxb
          obtain ⟨n, hn⟩ : ∃ n, n = x.getD 17 0 := ⟨_, rfl⟩
          have hn256 : n < 256 := by
            rw [hn]
            have hl : 17 < x.length := by rw [hx4.1]; decide
            rw [show x.getD 17 0 = x[17] by simp [List.getD, hl]]
            exact hxb _ (List.getElem_mem hl)
          have HN := hide hn
          clear hx4 hx hxb hn hbb hs hb2 hbe hkr HSTR HB0 HB4
          have hlit := below_alloc w2 (.cells (cellsN headK).toArray 3)
          have HC0 : Hid (CatI w2 (w2.alloc (.cells #[.int .i64 1, .int .i64 3, .int .i64 3, .int .i64 3, .int .i64 3, .int .i64 1] 3)) ⟨some ⟨w2.heap.size, 0, none⟩, 6, 6⟩ (headK ++ List.replicate 0 5)) := by
            rw [List.replicate_zero, List.append_nil]
            exact ⟨ownN_made w2 headK (by decide), fun k hk => by have e : some w2.heap.size = some k := hk; cases e; exact Nat.le_refl _, hlit⟩
          clear hlit
          go_wp2_with fail
          go_loopw [7, 8] (fun kv iv wr => ∃ (i : Nat) (a1 : Option Addr) (c1 : Nat), i ≤ n ∧ iv = .int .i64 ((i : Nat) : Int) ∧ kv = .slice a1 (6 + i) c1 ∧ Hid (CatI w2 wr ⟨a1, 6 + i, c1⟩ (headK ++ List.replicate i 5))) (fun _ iv _ => n - (intOf iv).toNat)
          case atStart => exact ⟨0, _, _, Nat.zero_le _, rfl, rfl, HC0⟩
          case round =>
            obtain ⟨i, a1, c1, hin, rfl, rfl, hcat⟩ := hrel
            clear HC0
            have c17 : wr.cell? ⟨tb, tp + 4 + 17, none⟩ = some (.int .u8 ((n : Nat) : Int)) := by
              obtain ⟨bb, oo, hbo, c0⟩ := (HX4.out.keep hcat.out.e (Nat.le_refl _)).2.2 17 (by decide)
              cases hbo
              rw [HN.out]
              exact c0
            rcases Nat.lt_or_ge i n with hlt | hge
            · have j1 : ((i : Nat) : Int) < ((n : Nat) : Int) := by omega
              have hA5 := below_alloc wr (.cells (cellsN [5]).toArray 3)
              have hg5 := OwnN.gi (D := fun _ => True) (ownN_made wr [5] (by decide)) (fun _ _ => trivial) (by show 1 ≤ 1000000; decide)
              obtain ⟨a2, n2, c2, W4, hap, hn2, cat⟩ := (hcat.out.below hA5).step hg5 (by show 6 + i + 1 ≤ _; omega)
              replace hn2 : n2 = 6 + (i + 1) := hn2
              subst hn2
              have HAP : Hid (∀ ty, (Builtin.append_ #[22, 22] ty #[.slice a1 (6 + i) c1, .slice (some ⟨wr.heap.size, 0, none⟩) 1 1]).run Try.prog (wr.alloc (.cells #[.int .i64 5] 3)) = .ok (.slice a2 (6 + (i + 1)) c2) W4) := hap
              rw [List.append_assoc, ← List.replicate_succ'] at cat
              have HC5 := hide cat
              clear hA5 hg5 hap cat hcat
              go_wp2_with (at_builtin; refine wpList_append_run _ rfl 22 (.tmp 53) (.tmp 54) rfl (.slice a1 (6 + i) c1) (.slice (some ⟨wr.heap.size, 0, none⟩) 1 1) (.slice a2 (6 + (i + 1)) c2) rfl rfl W4 HAP.out ?_)
              go_roundw
              case rel => exact ⟨i + 1, a2, c2, by omega, by go_num, rfl, HC5⟩
              case measure => simp only [intOf]; omega
            · have e0 : i = n := by omega
              subst e0
              have j1 : ¬ ((i : Nat) : Int) < ((i : Nat) : Int) := by omega
              have HB3 := hide (rBelow HB2.out hcat.out.e)
              have HK3 := hide (HK2.out.below hcat.out.e)
              have hcm3 : Came wr (some ⟨tb, tp + 4, none⟩) 508 (tc - 4) x := ⟨HX4.out.keep hcat.out.e (Nat.le_refl _), fun e => (by cases e), by omega, by decide⟩
              have HTK := hide (refTake_any (some ⟨tb, tp + 4, none⟩) 508 (tc - 4) x a1 (6 + i) c1 (headK ++ List.replicate i 5) wr hcm3 (hcat.out.gi (by rw [List.length_append, List.length_replicate]; show 6 + i ≤ 1000; omega)).ks (by decide) (by omega))
              clear hcm3 hcat HB2 HK2
              go_wp2_with fail
              obtain ⟨ob, hob⟩ : ∃ ob, ob = wr.heap.size := ⟨_, rfl⟩
              refine HTK.out.mono ?_
              rintro e w4 ⟨v4, rfl, hb4, ho4, hf4⟩
              rw [← hob] at ho4
              have HB4 := hide (rBelow HB3.out hb4)
              have HK4 := hide (HK3.out.below hb4)
              have hout := out_good (xs := x) (kinds_good i)
              cases htk : tks x (headK ++ List.replicate i 5) [] 0 with
              | none =>
                rw [htk] at hout
                simp only at hout
                rw [hout]
                have HNO : Hid (¬ ∃ t s, Got (xs.drop 4) t s) := by
                  rintro ⟨t, s, h⟩
                  rw [← HX.out] at h
                  have h1 := got_all h.1
                  rw [← h.2, ← got_17 h.1, ← h.2, ← HN.out, htk] at h1
                  cases h1
                obtain ⟨W9, hst9, k9, hf9⟩ := HZ.out 4 w4 HB4.out HK4.out
                have HST9 := hide hst9
                have HK9 := hide k9
                have HF := hide hf9
                clear hst9 k9 hf9 htk hout ho4 hf4 hb4 HTK HZ c17
                go_wp2_with (refine wpList_store _ rfl rfl 25 (.tmp 2) (.tmp 65) rfl (.pointer (some ⟨w.heap.size, 0, none⟩)) (.agg #[.slice none 0 0, .slice none 0 0]) rfl rfl W9 HST9.out ?_)
                refine bodyPost_ret (lf_results1 (u := Sl.nil) (v := Sl.nil) rfl HK9.out _ rfl rfl) rfl ?_
                exact .inr (.inr ⟨HNU.out, HSE.out, .inr ⟨HNO.out, HF.out⟩⟩)
              | some z =>
                obtain ⟨lz, q⟩ := z
                rw [htk] at hout
                simp only at hout
                rw [hout] at ho4
                rw [hout]
                simp only at ho4 ⊢
                obtain ⟨m0, wa, wb, wc, wd, n', s, rfl, hsl, hslb⟩ := took_is HXB4.out htk
                have hNG : ∀ t0 s0, Got x t0 s0 → t0 = [((wa : Nat) : Int), ((wb : Nat) : Int), ((wc : Nat) : Int), ((wd : Nat) : Int)] ∧ s0 = s := fun t0 s0 h => took_got h (by rw [← HN.out]; exact htk) hslb
                have HNG := hide hNG
                have HSL := hide hsl
                have HSB := hide hslb
                have hlen : ([itB m0, itF ((wa : Nat) : Int), itF ((wb : Nat) : Int), itF ((wc : Nat) : Int), itF ((wd : Nat) : Int), itB n'] ++ s.map itT).length = i + 6 := by
                  rw [List.length_append, List.length_map, hsl]
                  show 6 + i = _
                  omega
                obtain ⟨g2, c2, rfl, hg2, hc2⟩ := ho4.pos8 (by rw [hlen]; omega)
                have it1 := (ho4.cell8 rfl 1 (by rw [hlen]; omega)).2.1
                have it2 := (ho4.cell8 rfl 2 (by rw [hlen]; omega)).2.1
                have it3 := (ho4.cell8 rfl 3 (by rw [hlen]; omega)).2.1
                have it4 := (ho4.cell8 rfl 4 (by rw [hlen]; omega)).2.1
                rw [hlen] at ho4 ⊢
                have HO4 := hide ho4
                have HI1 : Hid (w4.cell? ⟨g2, 1 * 4 + 1, none⟩ = some (.int .i64 ((wa : Nat) : Int))) := it1
                have HI2 : Hid (w4.cell? ⟨g2, 2 * 4 + 1, none⟩ = some (.int .i64 ((wb : Nat) : Int))) := it2
                have HI3 : Hid (w4.cell? ⟨g2, 3 * 4 + 1, none⟩ = some (.int .i64 ((wc : Nat) : Int))) := it3
                have HI4 : Hid (w4.cell? ⟨g2, 4 * 4 + 1, none⟩ = some (.int .i64 ((wd : Nat) : Int))) := it4
                obtain ⟨nn, hnn⟩ : ∃ nn, nn = i + 6 := ⟨_, rfl⟩
                rw [← hnn] at HO4 ⊢
                have HNN := hide hnn
                have hn6 : 6 ≤ nn := by omega
                clear hob ho4 hf4 hb4 hout htk hNG hsl hslb hlen hg2 hc2 it1 it2 it3 it4 hnn HTK HB3 HK3 c17
                go_wp2_with fail
                refine Pl.region_is (ops := Pl.find 21 ((Try.f18.body).getD .skip)) (by kernel_rfl) ?_
                refine rdc21 w4 g2 nn c2 ((wa : Nat) : Int) ((wb : Nat) : Int) ((wc : Nat) : Int) ((wd : Nat) : Int) hn6 HI1.out HI2.out HI3.out HI4.out (by rfl) rfl (by rfl) ?_
                rintro uu w5 g3 s0 cp
                simp only [Act.put, List.setIfInBounds_toArray, List.set_cons_zero, List.set_cons_succ]
                have HL0 : Hid (∃ v m', Lr w w5 g3 s0 v [((wa : Nat) : Int), ((wb : Nat) : Int), ((wc : Nat) : Int), ((wd : Nat) : Int)] m' ∧ bss m' = s.take 0) := ⟨_, _, Lr.start HK4.out HB4.out cp, rfl⟩
                have HO5 := hide (HO4.out.keep cp.e (Nat.le_refl _))
                clear cp HI1 HI2 HI3 HI4 HO4 HB4 HK4
                go_wp2_with fail
                go_loopw [13] (fun iv wr => ∃ k : Nat, k ≤ nn ∧ iv = .int .i64 ((k : Nat) : Int) ∧ ∃ j : Nat, Hid (k = j + 6) ∧ Hid (∃ v m', Lr w wr g3 s0 v [((wa : Nat) : Int), ((wb : Nat) : Int), ((wc : Nat) : Int), ((wd : Nat) : Int)] m' ∧ bss m' = s.take j) ∧ Hid (OwnsI wr ob (.slice (some ⟨g2, 0, none⟩) nn c2) ([itB m0, itF ((wa : Nat) : Int), itF ((wb : Nat) : Int), itF ((wc : Nat) : Int), itF ((wd : Nat) : Int), itB n'] ++ s.map itT))) (fun iv _ => nn - (intOf iv).toNat)
                case atStart => exact ⟨6, hn6, rfl, 0, rfl, HL0, HO5⟩
                case round =>
                  obtain ⟨k, hkn, rfl, j, hkj, hlr, hoi⟩ := hrel
                  have hkj' := hkj.out
                  clear HL0 HO5
                  obtain ⟨v, m', lr, hbm⟩ := hlr.out
                  have hml : m'.length ≤ j := by
                    rw [← bss_length, hbm, List.length_take]
                    omega
                  have hnn := HNN.out
                  have hn300 : nn ≤ 300 := by omega
                  have hj255 : j ≤ 255 := by omega
                  rcases Nat.lt_or_ge k nn with hlt | hge
                  · have j1 : ((k : Nat) : Int) < ((nn : Nat) : Int) := by omega
                    have hjs : j < s.length := by have := HSL.out; omega
                    have hrow := HSB.out (sl s j) (by rw [sl_get hjs]; exact List.getElem_mem _)
                    have hge : ([itB m0, itF ((wa : Nat) : Int), itF ((wb : Nat) : Int), itF ((wc : Nat) : Int), itF ((wd : Nat) : Int), itB n'] ++ s.map itT).getD (j + 6) itD = itT (sl s j) := by
                      rw [← map_getD_it hjs]
                      rfl
                    have hlen : nn = ([itB m0, itF ((wa : Nat) : Int), itF ((wb : Nat) : Int), itF ((wc : Nat) : Int), itF ((wd : Nat) : Int), itB n'] ++ s.map itT).length := by
                      rw [List.length_append, List.length_map, HSL.out]
                      show nn = 6 + i
                      omega
                    have hfr : ∀ W, Frm (fun k => v.blk = some k ∨ k = g3) wr W → OwnsI W ob (.slice (some ⟨g2, 0, none⟩) nn c2) ([itB m0, itF ((wa : Nat) : Int), itF ((wb : Nat) : Int), itF ((wc : Nat) : Int), itF ((wd : Nat) : Int), itB n'] ++ s.map itT) := fun W hW => hoi.out.frm hW (fun k hk => by
                      rcases hk with hk | hk
                      · obtain ⟨cur, hcur⟩ := Own.kind lr.ob (k := k) hk
                        exact ⟨cur, _, hcur, by decide⟩
                      · rw [hk]
                        exact ⟨_, _, lr.k, by decide⟩)
                    have hst : ∀ W, Frm (fun k => v.blk = some k ∨ k = g3) wr W → W.cell? ⟨g2, k * 4 + 3, none⟩ = some (.string (bstr (sl s j))) := fun W hW => by
                      have h1 := ((hfr W hW).cell8 hlen (j + 6) (by omega)).2.2.2
                      rw [hge] at h1
                      rw [hkj']
                      exact h1
                    have hvl : v.len ≤ 1000 := by have := OwnB.len lr.ob; omega
                    have HLR := hide lr
                    have HBM := hide hbm
                    have HROW := hide hrow
                    have HST := hide hst
                    have HFR := hide hfr
                    have HJS := hide hjs
                    clear hlr hoi lr hbm hrow hge hlen hst hfr hjs hml hnn hkj' hj255
                    go_wp2_with fail
                    refine Pl.region_is (ops := Pl.find 25 ((Try.f18.body).getD .skip)) (by kernel_rfl) ?_
                    refine rdc25 wr g3 g2 nn c2 k s0 v m' (sl s j) hlt HROW.out.1 (by have := HROW.out.2; omega) hvl HLR.out.k HLR.out.ob HST.out (by rfl) rfl (by rfl) (by rfl) (by rfl) ?_
                    rintro uu w6 v9 s7 lq
                    simp only [Act.put, List.setIfInBounds_toArray, List.set_cons_zero, List.set_cons_succ]
                    have HL6 : Hid (∃ v m', Lr w w6 g3 s0 v [((wa : Nat) : Int), ((wb : Nat) : Int), ((wc : Nat) : Int), ((wd : Nat) : Int)] m' ∧ bss m' = s.take (j + 1)) := ⟨_, _, HLR.out.push lq (by have := HROW.out.2; omega), take_bss HBM.out HJS.out _⟩
                    have HO6 := hide (HFR.out w6 lq.f)
                    clear lq HLR HBM HROW HST HFR HJS
                    go_wp2_with fail
                    go_roundw
                    case rel => exact ⟨k + 1, by omega, by go_num, j + 1, by have := hkj.out; show k + 1 = j + 1 + 6; omega, HL6, HO6⟩
                    case measure => simp only [intOf]; omega
                  · have j1 : ¬ ((k : Nat) : Int) < ((nn : Nat) : Int) := by omega
                    have hbs : bss m' = s := by rw [hbm, List.take_of_length_le (by have := HSL.out; omega)]
                    subst hbs
                    have HLR := hide lr
                    have HML := hide hml
                    have hgs := lr.gs (by show 4 ≤ 1000; decide) (by omega)
                    have HGS := hide hgs
                    have HXW := hide (HCM.out.bs.keep lr.e (Nat.le_refl _))
                    clear hlr hoi lr hbm hml hnn hgs hkj' hkj
                    go_wp2_with fail
                    refine Pl.region_is (ops := Pl.find 26 ((Try.f18.body).getD .skip)) (by kernel_rfl) ?_
                    by_cases hm : MayL ⟨[((wa : Nat) : Int), ((wb : Nat) : Int), ((wc : Nat) : Int), ((wd : Nat) : Int)], bss m'⟩
                    · have hok : OkL [((wa : Nat) : Int), ((wb : Nat) : Int), ((wc : Nat) : Int), ((wd : Nat) : Int)] (bss m') := HGS.out.2.okl hm
                      have hstr : (!((bstr (pageL [((wa : Nat) : Int), ((wb : Nat) : Int), ((wc : Nat) : Int), ((wd : Nat) : Int)] (bss m'))).toList == (bstr xs).toList)) = !decide (pageL [((wa : Nat) : Int), ((wb : Nat) : Int), ((wc : Nat) : Int), ((wd : Nat) : Int)] (bss m') = xs) := by
                        rw [str_is (page_bytesD hok) HXB.out]
                      by_cases hpg : pageL [((wa : Nat) : Int), ((wb : Nat) : Int), ((wc : Nat) : Int), ((wd : Nat) : Int)] (bss m') = xs
                      · have hbb : (!((bstr (pageL [((wa : Nat) : Int), ((wb : Nat) : Int), ((wc : Nat) : Int), ((wd : Nat) : Int)] (bss m'))).toList == (bstr xs).toList)) = false := by
                          rw [hstr, decide_eq_true hpg]
                          rfl
                        have HGOT : Hid (Got (xs.drop 4) [((wa : Nat) : Int), ((wb : Nat) : Int), ((wc : Nat) : Int), ((wd : Nat) : Int)] (bss m')) := ⟨hok, (sealed_page HSE.out).2 hpg.symm⟩
                        refine rdc26B wr g3 tb tp tc s0 v [((wa : Nat) : Int), ((wb : Nat) : Int), ((wc : Nat) : Int), ((wd : Nat) : Int)] m' HGS.out.1 HGS.out.2 HLR.out.k xs false hok HXW.out hbb (by rfl) rfl (by rfl) (by rfl) ?_
                        intro uu w7 hb7
                        simp only [Act.put, List.setIfInBounds_toArray, List.set_cons_zero, List.set_cons_succ]
                        have lr7 := HLR.out.below hb7
                        have hgs7 := lr7.gs (by show 4 ≤ 1000; decide) (by have := HML.out; omega)
                        obtain ⟨W9, hst9, k9, hf9⟩ := fin_lf0 lr7.k0 lr7.e hgs7.1 hgs7.2
                        have HST9 := hide hst9
                        have HK9 := hide k9
                        have HF := hide (hf9 (mk2 0))
                        have c0 := lr7.k.c0
                        have c1 := lr7.k.c1
                        clear hst9 k9 hf9 hgs7 lr7 hb7 hbb hstr hok hm HZ HLR HGS hpg
                        obtain ⟨sa, sn, sc⟩ := s0
                        obtain ⟨va, vn, vc⟩ := v
                        unfold lfV at HST9
                        unfold Sl.val at HST9 c0 c1
                        simp only at HST9 c0 c1
                        go_wp2_with (refine wpList_store _ rfl rfl 25 (.tmp 2) (.tmp 113) rfl (.pointer (some ⟨w.heap.size, 0, none⟩)) (.agg #[.slice sa sn sc, .slice va vn vc]) rfl rfl W9 HST9.out ?_)
                        refine bodyPost_ret (lf_results1 (u := ⟨sa, sn, sc⟩) (v := ⟨va, vn, vc⟩) rfl HK9.out _ rfl rfl) rfl ?_
                        exact .inr (.inr ⟨HNU.out, HSE.out, .inl ⟨_, _, HGOT.out, HF.out⟩⟩)
                      · have hbb : (!((bstr (pageL [((wa : Nat) : Int), ((wb : Nat) : Int), ((wc : Nat) : Int), ((wd : Nat) : Int)] (bss m'))).toList == (bstr xs).toList)) = true := by
                          rw [hstr, decide_eq_false hpg]
                          rfl
                        have HNO : Hid (¬ ∃ t s, Got (xs.drop 4) t s) := by
                          rintro ⟨t, s1, h⟩
                          have h2 := h
                          rw [← HX.out] at h2
                          obtain ⟨h3, h4⟩ := HNG.out t s1 h2
                          subst h3 h4
                          exact hpg ((sealed_page HSE.out).1 h.2).symm
                        refine rdc26B wr g3 tb tp tc s0 v [((wa : Nat) : Int), ((wb : Nat) : Int), ((wc : Nat) : Int), ((wd : Nat) : Int)] m' HGS.out.1 HGS.out.2 HLR.out.k xs true hok HXW.out hbb (by rfl) rfl (by rfl) (by rfl) ?_
                        intro uu w7 hb7
                        simp only [Act.put, List.setIfInBounds_toArray, List.set_cons_zero, List.set_cons_succ]
                        have lr7 := HLR.out.below hb7
                        clear hbb hstr hok hm hpg HGS
                        obtain ⟨W9, hst9, k9, hf9⟩ := HZ.out 4 w7 lr7.e lr7.k0
                        have HST9 := hide hst9
                        have HK9 := hide k9
                        have HF := hide hf9
                        clear hst9 k9 hf9 lr7 hb7 HZ HLR
                        go_wp2_with (refine wpList_store _ rfl rfl 25 (.tmp 2) (.tmp 112) rfl (.pointer (some ⟨w.heap.size, 0, none⟩)) (.agg #[.slice none 0 0, .slice none 0 0]) rfl rfl W9 HST9.out ?_)
                        refine bodyPost_ret (lf_results1 (u := Sl.nil) (v := Sl.nil) rfl HK9.out _ rfl rfl) rfl ?_
                        exact .inr (.inr ⟨HNU.out, HSE.out, .inr ⟨HNO.out, HF.out⟩⟩)
                    · have HNO : Hid (¬ ∃ t s, Got (xs.drop 4) t s) := by
                        rintro ⟨t, s1, h⟩
                        have h2 := h
                        rw [← HX.out] at h2
                        obtain ⟨h3, h4⟩ := HNG.out t s1 h2
                        subst h3 h4
                        exact hm h.1.may
                      refine rdc26A wr g3 tb tp tc s0 v [((wa : Nat) : Int), ((wb : Nat) : Int), ((wc : Nat) : Int), ((wd : Nat) : Int)] m' HGS.out.1 HGS.out.2 HLR.out.k hm (by rfl) rfl (by rfl) (by rfl) ?_
                      intro uu w7 hb7
                      simp only [Act.put, List.setIfInBounds_toArray, List.set_cons_zero, List.set_cons_succ]
                      have lr7 := HLR.out.below hb7
                      clear hm HGS
                      obtain ⟨W9, hst9, k9, hf9⟩ := HZ.out 4 w7 lr7.e lr7.k0
                      have HST9 := hide hst9
                      have HK9 := hide k9
                      have HF := hide hf9
                      clear hst9 k9 hf9 lr7 hb7 HZ HLR
                      go_wp2_with (refine wpList_store _ rfl rfl 25 (.tmp 2) (.tmp 112) rfl (.pointer (some ⟨w.heap.size, 0, none⟩)) (.agg #[.slice none 0 0, .slice none 0 0]) rfl rfl W9 HST9.out ?_)
                      refine bodyPost_ret (lf_results1 (u := Sl.nil) (v := Sl.nil) rfl HK9.out _ rfl rfl) rfl ?_
                      exact .inr (.inr ⟨HNU.out, HSE.out, .inr ⟨HNO.out, HF.out⟩⟩)
        · have hbb : (!((bstr (fourB (Ta.sum (xs.drop 4)))).toList == (bstr (xs.take 4)).toList)) = true := by
            rw [HSTR.out, decide_eq_false (fun e => hs (sealed_take.2 e))]
            rfl
          have HSE := hide hs
          refine rdc11 wr tb tp tc xs true htc HB0.out HB4.out hbb (by rfl) rfl (by rfl) (by rfl) ?_
          intro uu w2 hb2
          simp only [Act.put, List.setIfInBounds_toArray, List.set_cons_zero, List.set_cons_succ]
          obtain ⟨W9, hst9, k9, hf9⟩ := HZ.out 5 w2 (rBelow hbe.out hb2) (hkr.out.below hb2)
          have HST9 := hide hst9
          have HK9 := hide k9
          have HF := hide hf9
          clear hst9 k9 hf9 hbb hs hb2 hbe hkr HZ HSTR
          go_wp2_with (refine wpList_store _ rfl rfl 25 (.tmp 2) (.tmp 43) rfl (.pointer (some ⟨w.heap.size, 0, none⟩)) (.agg #[.slice none 0 0, .slice none 0 0]) rfl rfl W9 HST9.out ?_)
          refine bodyPost_ret (lf_results1 (u := Sl.nil) (v := Sl.nil) rfl HK9.out _ rfl rfl) rfl ?_
          exact .inr (.inl ⟨HNU.out, HSE.out, HF.out⟩)
end Go.Proofs.Ytgieigpbbkeonaa
