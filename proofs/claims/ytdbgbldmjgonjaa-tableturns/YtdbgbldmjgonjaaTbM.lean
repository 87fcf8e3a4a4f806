/-
  The document's Decode of tables.
-/
import Derived.Test.YtdbgbldmjgonjaaTbL
namespace Go.Proofs.Ytdbgbldmjgonjaa
open Go.RowKit
set_option linter.unusedVariables false

section
variable {ops : Array Oper} {rest : List Oper} {o : Oper} {a : Act} {Q : Exit → Act → World → Prop}
theorem wpList_sliceT (w : World) (hgd : o.guard = none) (t : TypeId) (x : Operand) (lo hi : Option Operand) (ho : o.op = .slice t x lo hi none) (v : Value) (hrun : (Instr.sliceAt t (a.eval x) (lo.map a.eval) (hi.map a.eval) none).run Try.prog w = .ok v w) (hK : wpList Try.prog ops Q rest (a.put o.dst v) w) : wpList Try.prog ops Q (o :: rest) a w := by
  refine wpList_val w hgd v w ?_ hK
  have e : execOp a.eval o = (do pure (.value (← Instr.sliceAt t (a.eval x) (lo.map a.eval) (hi.map a.eval) none))) := by
    unfold execOp
    rw [ho]
    rfl
  rw [e]
  simp [hrun]
end

theorem tks_lenT (xs : List Nat) : ∀ (ks : List Int) (l : List It) (q : Nat) (r : List It × Nat), tks xs ks l q = some r → r.1.length = l.length + ks.length
  | [], l, q, r, h => by
    simp only [tks, Option.some.injEq] at h
    rw [← h]
    simp
  | k :: ks, l, q, r, h => by
    simp only [tks] at h
    split at h
    · cases h
    · have := tks_lenT xs ks _ _ r h
      rw [this]
      simp
      omega

theorem ks_of_vsT {w : World} {a : Option Addr} {len : Nat} {ks : List Int} (h : Vs w a len (kVals ks)) : Ks w a len ks := by
  have hl : ks.length = len := by have := h.1; simpa [kVals] using this
  refine ⟨hl, fun j hj => ?_⟩
  obtain ⟨b, off, ha, hc⟩ := h.2.2 j hj
  refine ⟨b, off, ha, ?_⟩
  have hj' : j < ks.length := by omega
  rw [hc]
  simp [kVals, List.getD, hj']

theorem kVals_oneT (ks : List Int) : ∀ u ∈ kVals ks, u.oneCell' = true := by
  intro u hu
  obtain ⟨_, _, rfl⟩ := List.mem_map.1 hu
  rfl

theorem vs_litT (w : World) (ks : List Int) (hm : ks.length ≤ 1000000) : Vs (w.alloc (.cells (kVals ks).toArray 3)) (some ⟨w.heap.size, 0, none⟩) ks.length (kVals ks) := by
  have hl : (kVals ks).length = ks.length := by simp [kVals]
  obtain ⟨a, cap, hv, hvs, _, _⟩ := (OwnsV.lit 3 w w.heap.size (kVals ks) (Nat.le_refl _) (by rw [hl]; exact hm)).vs (kVals_oneT ks)
  simp only [Value.slice.injEq] at hv
  obtain ⟨rfl, _, _⟩ := hv
  rw [hl] at hvs
  exact hvs

/-- Kinds, while they are listed. -/
def tbKP (i : Nat) : List Int := [1, 3, 3, 3] ++ (List.replicate i [1, 3, 2, 3]).flatten
theorem tbKP_succ (i : Nat) : tbKP (i + 1) = tbKP i ++ [1, 3, 2, 3] := by
  unfold tbKP
  rw [List.replicate_succ', List.flatten_append, List.append_assoc]
  rfl
theorem tbKP_len (i : Nat) : (tbKP i).length = 4 + 4 * i := by
  induction i with
  | zero => rfl
  | succ i ih => rw [tbKP_succ, List.length_append, ih]; simp; omega
theorem tbK_len : tbK.length = 52 := tbKP_len 12
theorem takeOut_none {xs : List Nat} (h : tks xs tbK [] 0 = none) : takeOut xs tbK = ([], 0, 4) := by
  unfold takeOut
  rw [if_pos (by decide), h]
theorem takeOut_some {xs : List Nat} {l : List It} {q : Nat} (h : tks xs tbK [] 0 = some (l, q)) : takeOut xs tbK = (l, q, 0) := by
  unfold takeOut
  rw [if_pos (by decide), h]

theorem TbBlk.zeroed {w : World} {p : Nat} (h : TbBlk w p Tb.zero Sl.nil) : ∃ W, (Instr.storeAt 24 (.pointer (some ⟨p, 0, none⟩)) (.agg #[.int .i64 0, .int .i64 0, .int .i64 0, .slice none 0 0])).run Try.prog w = .ok () W ∧ TbBlk W p Tb.zero Sl.nil ∧ Frm (fun k => k = p) w W := by
  obtain ⟨W, h1, h2, h3, _⟩ := h.store Tb.zero Sl.nil
  exact ⟨W, h1, h2, h3⟩

set_option maxHeartbeats 16000000 in
set_option maxRecDepth 100000 in
theorem rdecT_any (pa : Option Addr) (pl pc : Nat) (xs : List Nat) (w : World) (hc : Came w pa pl pc xs) (hl : pl ≤ 100000) :
    Calls Try.prog 18 #[.slice pa pl pc] w (TbTold (decT xs).1 w (fun x => .tuple #[x, .int .i64 (decT xs).2])) := by
  have HC := hide hc
  have HXL := hide hc.bs.1
  have HXB : Hid (Bytes xs) := hc.bs.2.1
  have HZ0 : Hid (TbBlk (w.alloc (.cells #[.int .i64 0, .int .i64 0, .int .i64 0, .slice none 0 0] 24)) w.heap.size Tb.zero Sl.nil) := TbBlk.new w Tb.zero Sl.nil
  have HB0 := hide (below_alloc w (.cells #[.int .i64 0, .int .i64 0, .int .i64 0, .slice none 0 0] 24))
  have HS0 : Hid ((w.alloc (.cells #[.int .i64 0, .int .i64 0, .int .i64 0, .slice none 0 0] 24)).heap.size = w.heap.size + 1) := by show _ = _; simp
  by_cases h512 : pl = 512
  case neg =>
    have HD : Hid (decT xs = (Tb.zero, 1)) := decT_len (by rw [HXL.out]; exact h512)
    have i1 : (((pl : Nat) : Int) != 512) = true := by simp; omega
    have i2 : ¬ ((pl : Nat) : Int) = 512 := by omega
    clear hc
    go_enter Try.func18, Try.ntmps18
    obtain ⟨W9, hst9, hbk9, hfr9⟩ := (HZ0.out).zeroed
    have HST9 := hide hst9
    have HBK9 := hide hbk9
    have HB9 : Hid (Below w.heap.size w W9) := (HB0.out).trans (hfr9.below (HB0.out).size (fun k hk => by omega))
    clear hst9 hbk9 hfr9
    go_wp2_with (refine wpList_store _ rfl rfl 24 (.tmp 2) (.tmp 14) rfl (.pointer (some ⟨w.heap.size, 0, none⟩)) (.agg #[.int .i64 0, .int .i64 0, .int .i64 0, .slice none 0 0]) rfl rfl W9 HST9.out ?_)
    refine bodyPost_ret (tb_results2 rfl HBK9.out _ _ rfl rfl) rfl ?_
    rw [HD.out]
    exact ⟨Sl.nil, rfl, Es.none _, HB9.out⟩
  subst h512
  have HL512 : Hid (xs.length = 512) := HXL.out
  clear hc hl
  go_enter Try.func18, Try.ntmps18
  go_wp2_with fail
  generalize w.alloc (.cells #[.int .i64 0, .int .i64 0, .int .i64 0, .slice none 0 0] 24) = W0 at *
  have HC0 := hide (cameT_keep HC.out HB0.out (Nat.le_refl _))
  refine Pl.region_is (ops := Pl.find 3 ((Try.f18.body).getD .skip)) (by kernel_rfl) ?_
  by_cases hz : xs = nulT
  case pos =>
    refine rdt3a W0 W0 pa 512 pc xs HC0.out hz (Below.refl _ _) (by rfl) (by rfl) (by rfl) ?_
    intro u w1 hb1
    simp only [Act.put, List.setIfInBounds_toArray, List.set_cons_zero, List.set_cons_succ]
    have HB1 := hide (rBelow HB0.out hb1)
    have HZ1 := hide (HZ0.out.keep hb1)
    have HD : Hid (decT xs = (firstT, 0)) := decT_nul hz
    clear hb1 hz
    go_wp2_with fail
    refine (rfirstT_any _).mono ?_
    rintro e w2 ⟨s2, rfl, ho2, hn2, hb2⟩
    have hlt1 := HZ1.out.lt
    obtain ⟨W9, hst9, hbk9, hfr9, hsz9⟩ := (HZ1.out.keep hb2).store firstT s2
    have HST9 := hide hst9
    have HBK9 := hide hbk9
    have HE9 : Hid (Es W9 s2 firstT.es) := (ho2.other hfr9 (fun k hk e => by have := hn2 k hk; omega)).es
    have HB9 : Hid (Below w.heap.size w W9) := (rBelow HB1.out hb2).trans (hfr9.below (rBelow HB1.out hb2).size (fun k hk => by omega))
    clear hst9 hbk9 hfr9 hsz9 ho2 hn2 hb2 hlt1
    simp only [id]
    go_wp2_with (refine wpList_store _ rfl rfl 24 (.tmp 2) (.tmp 20) rfl (.pointer (some ⟨w.heap.size, 0, none⟩)) (firstT.val s2) rfl rfl W9 HST9.out ?_)
    refine bodyPost_ret (tb_results2 rfl HBK9.out _ _ rfl rfl) rfl ?_
    rw [HD.out]
    exact ⟨s2, rfl, HE9.out, HB9.out⟩
  have hne : ¬ (bstr xs).toList = (bstr nulT).toList := beq_eq_false_iff_ne.1 (str_ne HXB.out nulT_bytes hz)
  have HNZ : Hid (xs ≠ List.replicate 512 0) := hz
  refine rdt3b W0 W0 pa 512 pc xs HC0.out hne (Below.refl _ _) (by rfl) (by rfl) (by rfl) ?_
  intro u w1 hb1
  simp only [Act.put, List.setIfInBounds_toArray, List.set_cons_zero, List.set_cons_succ]
  have HB1 := hide (rBelow HB0.out hb1)
  have HZ1 := hide (HZ0.out.keep hb1)
  have HC1 := hide (cameT_keep HC0.out hb1 (Nat.le_refl _))
  clear hb1 hne hz
  go_wp2_with fail
  refine Pl.region_is (ops := Pl.find 5 ((Try.f18.body).getD .skip)) (by kernel_rfl) ?_
  have hdb : Ta.Bytes (xs.drop 4) := fun x hx => HXB.out x (List.mem_of_mem_drop hx)
  by_cases hsl : Sealed xs
  case neg =>
    have HD : Hid (decT xs = (Tb.zero, 5)) := decT_sum HL512.out HNZ.out hsl
    have hne : ¬ (bstr (fourB (Ta.sum (xs.drop 4)) ++ xs.drop 4)).toList = (bstr xs).toList := beq_eq_false_iff_ne.1 (str_ne (sealed_bytes hdb) HXB.out hsl)
    refine rdt5b w1 w1 pa 512 pc xs HC1.out (by decide) (by decide) hdb hne (Below.refl _ _) (by rfl) (by rfl) (by rfl) ?_
    intro u2 w2 hb2
    simp only [Act.put, List.setIfInBounds_toArray, List.set_cons_zero, List.set_cons_succ]
    have HB2 := hide (rBelow HB1.out hb2)
    have HZ2 := hide (HZ1.out.keep hb2)
    clear hb2 hsl hne hdb
    obtain ⟨W9, hst9, hbk9, hfr9⟩ := (HZ2.out).zeroed
    have HST9 := hide hst9
    have HBK9 := hide hbk9
    have HB9 : Hid (Below w.heap.size w W9) := (HB2.out).trans (hfr9.below (HB2.out).size (fun k hk => by omega))
    clear hst9 hbk9 hfr9
    go_wp2_with (refine wpList_store _ rfl rfl 24 (.tmp 2) (.tmp 28) rfl (.pointer (some ⟨w.heap.size, 0, none⟩)) (.agg #[.int .i64 0, .int .i64 0, .int .i64 0, .slice none 0 0]) rfl rfl W9 HST9.out ?_)
    refine bodyPost_ret (tb_results2 rfl HBK9.out _ _ rfl rfl) rfl ?_
    rw [HD.out]
    exact ⟨Sl.nil, rfl, Es.none _, HB9.out⟩
  refine rdt5a w1 w1 pa 512 pc xs HC1.out (by decide) (by decide) hdb hsl (Below.refl _ _) (by rfl) (by rfl) (by rfl) ?_
  intro u2 w2 hb2
  simp only [Act.put, List.setIfInBounds_toArray, List.set_cons_zero, List.set_cons_succ]
  have HB2 := hide (rBelow HB1.out hb2)
  have HZ2 := hide (HZ1.out.keep hb2)
  have HC2 := hide (cameT_keep HC1.out hb2 (Nat.le_refl _))
  have HSL : Hid (sealT (xs.drop 4) = xs) := hsl
  clear hb2 hsl hdb
  go_wp2_with fail
  have HK0 : Hid (OwnsV 3 (w2.alloc (.cells #[.int .i64 1, .int .i64 3, .int .i64 3, .int .i64 3] 3)) w2.heap.size (.slice (some ⟨w2.heap.size, 0, none⟩) 4 4) (kVals (tbKP 0))) := OwnsV.lit 3 w2 w2.heap.size (kVals [1, 3, 3, 3]) (Nat.le_refl _) (by decide)
  have HKB := hide (below_alloc w2 (.cells #[.int .i64 1, .int .i64 3, .int .i64 3, .int .i64 3] 3))
  go_loopw [4, 5] (fun svx iv wr => ∃ (i : Nat) (sv : Value), sv = svx ∧ i ≤ 12 ∧ iv = .int .i64 (i : Nat) ∧ Hid (OwnsV 3 wr w2.heap.size sv (kVals (tbKP i))) ∧ Hid (Below w2.heap.size w2 wr)) (fun _ iv _ => 12 - (intOf iv).toNat)
  case atStart => exact ⟨0, _, rfl, Nat.zero_le _, rfl, HK0, HKB⟩
  case round =>
    obtain ⟨i, sv, rfl, hi, rfl, hox, hbr⟩ := hrel
    rename World => wk
    rcases Nat.lt_or_ge i 12 with hlt | hge
    · have i1 : ((i : Nat) : Int) < 12 := by omega
      have HV : Hid (Vs (wk.alloc (.cells #[.int .i64 1, .int .i64 3, .int .i64 2, .int .i64 3] 3)) (some ⟨wk.heap.size, 0, none⟩) 4 (kVals [1, 3, 2, 3])) := vs_litT wk [1, 3, 2, 3] (by decide)
      have hB1 := below_alloc wk (.cells #[.int .i64 1, .int .i64 3, .int .i64 2, .int .i64 3] 3)
      have HO1 := hide (hox.out.keep hB1 (Nat.le_refl _))
      have HBk := hide (rBelow hbr.out hB1)
      have HLEN : Hid ((kVals (tbKP i)).length + 4 ≤ 1000000) := by
        show _ ≤ _
        have := tbKP_len i
        simp only [kVals, List.length_map]
        omega
      clear hB1 hox
      go_wp2_with (at_builtin; refine wpList_append_vals oneIntT _ rfl (.tmp 34) (.tmp 35) rfl w2.heap.size _ _ rfl HO1.out _ 4 4 (kVals [1, 3, 2, 3]) rfl HV.out (fun h => by cases h) HLEN.out HBk.out.size ?_)
      intro v1 w3 ho1 hb1 hs1
      have HO2 : Hid (OwnsV 3 w3 w2.heap.size v1 (kVals (tbKP (i + 1)))) := by
        show OwnsV _ _ _ _ _
        rw [tbKP_succ]
        have e : kVals (tbKP i ++ [1, 3, 2, 3]) = kVals (tbKP i) ++ kVals [1, 3, 2, 3] := by simp [kVals]
        rw [e]
        exact ho1
      have HB3 : Hid (Below w2.heap.size w2 w3) := HBk.out.trans hb1
      clear ho1 hb1 hs1
      go_wp2_with fail
      go_roundw
      case rel => exact ⟨i + 1, _, rfl, by omega, by go_num, HO2, HB3⟩
      case measure => simp only [intOf]; omega
    · have i1 : ¬ ((i : Nat) : Int) < 12 := by omega
      have e12 : i = 12 := by omega
      subst e12
      have hkl : (kVals (tbKP 12)).length = 52 := by simp only [kVals, List.length_map]; exact tbKP_len 12
      obtain ⟨ka, kc, hsv, hvs, _, _⟩ := hox.out.vs (kVals_oneT _)
      rw [hkl] at hsv hvs
      subst hsv
      have hks : Ks wk ka 52 tbK := ks_of_vsT hvs
      have HZ3 := hide (HZ2.out.keep hbr.out)
      have HB3 := hide (rBelow HB2.out hbr.out)
      have hc3 := cameT_keep HC2.out hbr.out (Nat.le_refl _)
      have HC3 := hide hc3
      have HTk := refTake_any (fromA pa pc 4) 508 (pc - 4) (xs.drop 4) ka 52 kc tbK wk (cameT_from hc3 (q := 4) (by decide)) hks (by decide) (by decide)
      have HSF := hide (slice_from pa 512 pc 4 (by decide) wk)
      clear hox hvs hkl hks hc3
      cases htk : tks (xs.drop 4) tbK [] 0 with
      | none =>
        have HD : Hid (decT xs = (Tb.zero, 4)) := decT_none HL512.out HNZ.out HSL.out htk
        unfold TookIs at HTk
        rw [takeOut_none htk] at HTk
        simp only at HTk
        have HTk := hide HTk
        clear htk
        go_wp2_with (refine wpList_sliceT _ rfl 26 (.tmp 38) (some (.const (.int .i64 4))) none rfl _ HSF.out ?_)
        refine HTk.out.mono ?_
        rintro e w4 ⟨v4, rfl, hb4, ho4, hf4⟩
        have HB4 := hide (rBelow HB3.out hb4)
        have HZ4 := hide (HZ3.out.keep hb4)
        clear hb4 ho4 hf4
        obtain ⟨W9, hst9, hbk9, hfr9⟩ := (HZ4.out).zeroed
        have HST9 := hide hst9
        have HBK9 := hide hbk9
        have HB9 : Hid (Below w.heap.size w W9) := (HB4.out).trans (hfr9.below (HB4.out).size (fun k hk => by omega))
        clear hst9 hbk9 hfr9
        go_wp2_with (refine wpList_store _ rfl rfl 24 (.tmp 2) (.tmp 47) rfl (.pointer (some ⟨w.heap.size, 0, none⟩)) (.agg #[.int .i64 0, .int .i64 0, .int .i64 0, .slice none 0 0]) rfl rfl W9 HST9.out ?_)
        refine bodyPost_ret (tb_results2 rfl HBK9.out _ _ rfl rfl) rfl ?_
        rw [HD.out]
        exact ⟨Sl.nil, rfl, Es.none _, HB9.out⟩
      | some p =>
        obtain ⟨l, q⟩ := p
        have hll : l.length = 52 := by have := tks_lenT _ _ _ _ _ htk; rw [tbK_len] at this; simpa using this
        unfold TookIs at HTk
        rw [takeOut_some htk] at HTk
        simp only at HTk
        have HTk := hide HTk
        have HTS := hide htk
        clear htk
        go_wp2_with (refine wpList_sliceT _ rfl 26 (.tmp 38) (some (.const (.int .i64 4))) none rfl _ HSF.out ?_)
        refine HTk.out.mono ?_
        rintro e w4 ⟨v4, rfl, hb4, ho4, hf4⟩
        obtain ⟨ia, ic, hv4, his4, _, _⟩ := ho4.is hf4
        rw [hll] at hv4 his4
        subst hv4
        obtain ⟨b, off, hia, _⟩ := his4.2.2 0 (by decide)
        subst hia
        have hit : ∀ j, j < 52 → ItAt w4 b (off + j * 4) (l.getD j itD) := fun j hj => by
          obtain ⟨b', off', e', h'⟩ := his4.2.2 j hj
          simp only [Option.some.injEq, Addr.mk.injEq, and_true] at e'
          obtain ⟨rfl, rfl⟩ := e'
          exact h'
        have hbl : b < w4.heap.size := World.block_lt_of_cell? w4 _ (hit 0 (by decide)).1
        have HIT := hide hit
        have HBL := hide hbl
        have HB4 := hide (rBelow HB3.out hb4)
        have HZ4 := hide (HZ3.out.keep hb4)
        have HC4 := hide (cameT_keep HC3.out hb4 (Nat.le_refl _))
        clear hb4 ho4 hf4 his4 hit hbl hll HTk HSF
        go_wp2_with fail
        refine Pl.region_is (ops := Pl.find 15 ((Try.f18.body).getD .skip)) (by kernel_rfl) ?_
        refine rdt15 w4 w4 b off ic _ _ _ (HIT.out 1 (by decide)) (HIT.out 2 (by decide)) (HIT.out 3 (by decide)) (Below.refl _ _) (by rfl) (by rfl) (by rfl) ?_
        rintro u5 w5 g ⟨hb5, hT5, hg5⟩
        simp only [Act.put, List.setIfInBounds_toArray, List.set_cons_zero, List.set_cons_succ]
        have HB5 := hide (rBelow HB4.out hb5)
        have HZ5 := hide (HZ4.out.keep hb5)
        have HC5 := hide (cameT_keep HC4.out hb5 (Nat.le_refl _))
        have HIT5 : Hid (∀ j, j < 52 → ItAt w5 b (off + j * 4) (l.getD j itD)) := fun j hj => keep_item (HIT.out j hj) hb5
        have HBL5 : Hid (b < w5.heap.size) := Nat.lt_of_lt_of_le HBL.out hb5.size
        have HBG : Hid (b < g) := Nat.lt_of_lt_of_le HBL.out hg5
        have HG5 : Hid (w.heap.size < g) := Nat.lt_of_lt_of_le HZ4.out.lt hg5
        have HT5 : Hid (TbBlk w5 g ⟨(l.getD 1 itD).n, (l.getD 2 itD).n, (l.getD 3 itD).n, esOf l 0⟩ Sl.nil) := hT5
        have HO5 : Hid (OwnE w5 Sl.nil (esOf l 0)) := Own.nil _ _ _
        have HF5 := hide (Frm.refl (fun k => k = g) w5)
        clear hb5 hT5 hg5
        go_wp2_with fail
        go_loopw [10] (fun iv wr => ∃ (i : Nat) (v : Sl), i ≤ 12 ∧ iv = .int .i64 (i : Nat) ∧ Hid (TbBlk wr g ⟨(l.getD 1 itD).n, (l.getD 2 itD).n, (l.getD 3 itD).n, esOf l i⟩ v) ∧ Hid (OwnE wr v (esOf l i)) ∧ Hid (∀ k, v.blk = some k → w5.heap.size ≤ k) ∧ Hid (Frm (fun k => k = g) w5 wr)) (fun iv _ => 12 - (intOf iv).toNat)
        case atStart => exact ⟨0, Sl.nil, Nat.zero_le _, rfl, HT5, HO5, (fun k hk => by cases hk), HF5⟩
        case round =>
          obtain ⟨i, v, hi, rfl, hT, hO, hB, hF⟩ := hrel
          rename World => wr
          have hg5 : g < w5.heap.size := HT5.out.lt
          have hng : ¬ v.blk = some g := fun e => by have := hB.out g e; omega
          rcases Nat.lt_or_ge i 12 with hlt | hge
          · have i1 : ((i : Nat) : Int) < 12 := by omega
            have hit : ∀ j, j < 52 → ItAt wr b (off + j * 4) (l.getD j itD) := fun j hj => by
              obtain ⟨a0, a1, a2, a3⟩ := HIT5.out j hj
              have hne : ¬ b = g := by have := HBG.out; omega
              exact ⟨(hF.out.cellT (p := ⟨b, off + j * 4, none⟩) HBL5.out hne).trans a0, (hF.out.cellT (p := ⟨b, off + j * 4 + 1, none⟩) HBL5.out hne).trans a1, (hF.out.cellT (p := ⟨b, off + j * 4 + 2, none⟩) HBL5.out hne).trans a2, (hF.out.cellT (p := ⟨b, off + j * 4 + 3, none⟩) HBL5.out hne).trans a3⟩
            have hnb : ¬ (b = g ∨ v.blk = some b) := fun h => by
              have h1 := HBG.out
              have h2 := HBL5.out
              rcases h with h | h
              · omega
              · have := hB.out b h; omega
            have hroom : v.len + 1 ≤ 1000000 := by have := hO.out.len; rw [esOf_len] at this; omega
            have HI' := hide hit
            have HNG := hide hng
            have HNB := hide hnb
            have HRM := hide hroom
            clear hit hng hnb hroom hg5
            go_wp2_with fail
            refine Pl.region_is (ops := Pl.find 19 ((Try.f18.body).getD .skip)) (by kernel_rfl) ?_
            refine rdt19 wr b off ic g i _ v _ _ _ _ hlt (HI'.out (4 + 4 * i) (by omega)) (HI'.out (5 + 4 * i) (by omega)) (HI'.out (6 + 4 * i) (by omega)) (HI'.out (7 + 4 * i) (by omega)) hT.out hO.out HNG.out HNB.out HRM.out (by rfl) (by rfl) (by rfl) (by rfl) (by rfl) ?_
            rintro u6 w6 v6 ⟨hT6, hO6, hF6, hn6⟩
            simp only [Act.put, List.setIfInBounds_toArray, List.set_cons_zero, List.set_cons_succ]
            have HT6 : Hid (TbBlk w6 g ⟨(l.getD 1 itD).n, (l.getD 2 itD).n, (l.getD 3 itD).n, esOf l (i + 1)⟩ v6) := by show TbBlk _ _ _ _; rw [esOf_succ]; exact hT6
            have HO6 : Hid (OwnE w6 v6 (esOf l (i + 1))) := by show OwnE _ _ _; rw [esOf_succ]; exact hO6
            have HB6 : Hid (∀ k, v6.blk = some k → w5.heap.size ≤ k) := fun k hk => by
              rcases hn6 with h | ⟨j, h, hj⟩
              · exact hB.out k (by rw [← h]; exact hk)
              · rw [h] at hk
                have e := Option.some.inj hk
                have := hF.out.size
                omega
            have HF6 : Hid (Frm (fun k => k = g) w5 w6) := hF.out.trans hF6 (fun k hk h => by
              rcases h with h | h
              · exact h
              · have := hB.out k h
                omega)
            clear hT6 hO6 hF6 hn6
            go_wp2_with fail
            go_roundw
            case rel => exact ⟨i + 1, v6, by omega, by go_num, HT6, HO6, HB6, HF6⟩
            case measure => simp only [intOf]; omega
          · have i1 : ¬ ((i : Nat) : Int) < 12 := by omega
            have e12 : i = 12 := by omega
            subst e12
            have HB6 : Hid (Below w.heap.size w wr) := HB5.out.trans (hF.out.below HB5.out.size (fun k hk => by have := HG5.out; omega))
            have HZ6 : Hid (TbBlk wr w.heap.size Tb.zero Sl.nil) := HZ5.out.other hF.out (by have := HG5.out; omega)
            have HC6 := hide (cameT_keep HC.out HB6.out (Nat.le_refl _))
            have HT6 : Hid (TbBlk wr g (tbOf l) v) := hT.out
            have HO6 : Hid (OwnE wr v (tbOf l).es) := hO.out
            have HN6 : Hid (∀ k, v.blk = some k → w.heap.size < k) := fun k hk => by have h1 := hB.out k hk; have h2 := HZ5.out.lt; omega
            clear hT hO hB hF hng hg5
            go_wp2_with fail
            refine Pl.region_is (ops := Pl.find 20 ((Try.f18.body).getD .skip)) (by kernel_rfl) ?_
            cases hm : mayB (tbOf l) with
            | false =>
              have HD : Hid (decT xs = (Tb.zero, 4)) := decT_bad HL512.out HNZ.out HSL.out HTS.out (fun c => mayB_false hm c.1)
              refine rdt20a wr wr pa 512 pc xs HC6.out g (tbOf l) v HT6.out HO6.out.es hm (Below.refl _ _) (by rfl) (by rfl) (by rfl) (by rfl) ?_
              intro u7 w7 hb7
              simp only [Act.put, List.setIfInBounds_toArray, List.set_cons_zero, List.set_cons_succ]
              have HB7 := hide (rBelow HB6.out hb7)
              have HZ7 := hide (HZ6.out.keep hb7)
              clear hb7 hm
              obtain ⟨W9, hst9, hbk9, hfr9⟩ := (HZ7.out).zeroed
              have HST9 := hide hst9
              have HBK9 := hide hbk9
              have HB9 : Hid (Below w.heap.size w W9) := (HB7.out).trans (hfr9.below (HB7.out).size (fun k hk => by omega))
              clear hst9 hbk9 hfr9
              go_wp2_with (refine wpList_store _ rfl rfl 24 (.tmp 2) (.tmp 110) rfl (.pointer (some ⟨w.heap.size, 0, none⟩)) (.agg #[.int .i64 0, .int .i64 0, .int .i64 0, .slice none 0 0]) rfl rfl W9 HST9.out ?_)
              refine bodyPost_ret (tb_results2 rfl HBK9.out _ _ rfl rfl) rfl ?_
              rw [HD.out]
              exact ⟨Sl.nil, rfl, Es.none _, HB9.out⟩
            | true =>
              by_cases hpx : pageT (tbOf l) = xs
              case neg =>
                have HD : Hid (decT xs = (Tb.zero, 4)) := decT_bad HL512.out HNZ.out HSL.out HTS.out (fun c => hpx c.2)
                have hne : ¬ (bstr (pageT (tbOf l))).toList = (bstr xs).toList := beq_eq_false_iff_ne.1 (str_ne (sealed_bytes (bodyT_bytes (mayB_iff.1 hm))) HXB.out hpx)
                refine rdt20b wr wr pa 512 pc xs HC6.out g (tbOf l) v HT6.out HO6.out.es hm hne (Below.refl _ _) (by rfl) (by rfl) (by rfl) (by rfl) ?_
                intro u7 w7 hb7
                simp only [Act.put, List.setIfInBounds_toArray, List.set_cons_zero, List.set_cons_succ]
                have HB7 := hide (rBelow HB6.out hb7)
                have HZ7 := hide (HZ6.out.keep hb7)
                clear hb7 hm hpx hne
                obtain ⟨W9, hst9, hbk9, hfr9⟩ := (HZ7.out).zeroed
                have HST9 := hide hst9
                have HBK9 := hide hbk9
                have HB9 : Hid (Below w.heap.size w W9) := (HB7.out).trans (hfr9.below (HB7.out).size (fun k hk => by omega))
                clear hst9 hbk9 hfr9
                go_wp2_with (refine wpList_store _ rfl rfl 24 (.tmp 2) (.tmp 110) rfl (.pointer (some ⟨w.heap.size, 0, none⟩)) (.agg #[.int .i64 0, .int .i64 0, .int .i64 0, .slice none 0 0]) rfl rfl W9 HST9.out ?_)
                refine bodyPost_ret (tb_results2 rfl HBK9.out _ _ rfl rfl) rfl ?_
                rw [HD.out]
                exact ⟨Sl.nil, rfl, Es.none _, HB9.out⟩
              have HD : Hid (decT xs = (tbOf l, 0)) := decT_good HL512.out HNZ.out HSL.out HTS.out ⟨mayB_iff.1 hm, hpx⟩
              refine rdt20c wr wr pa 512 pc xs HC6.out g (tbOf l) v HT6.out HO6.out.es hm hpx (Below.refl _ _) (by rfl) (by rfl) (by rfl) (by rfl) ?_
              intro u7 w7 hb7
              simp only [Act.put, List.setIfInBounds_toArray, List.set_cons_zero, List.set_cons_succ]
              have HB7 := hide (rBelow HB6.out hb7)
              have HT7 := hide (HT6.out.keep hb7)
              have HO7 := hide (HO6.out.keep hb7)
              have HLD := hide (load_tb g (tbOf l) v w7 HT7.out)
              obtain ⟨W9, hst9, hbk9, hfr9, hsz9⟩ := (HZ6.out.keep hb7).store (tbOf l) v
              have HST9 := hide hst9
              have HBK9 := hide hbk9
              have HE9 : Hid (Es W9 v (tbOf l).es) := (HO7.out.other hfr9 (fun k hk e => by have := HN6.out k hk; omega)).es
              have HB9 : Hid (Below w.heap.size w W9) := HB7.out.trans (hfr9.below HB7.out.size (fun k hk => by omega))
              clear hb7 hm hpx hst9 hbk9 hfr9 hsz9
              go_wp2_with (first | refine wpList_load _ rfl 24 (.tmp 9) rfl (.pointer (some ⟨g, 0, none⟩)) ((tbOf l).val v) rfl HLD.out ?_ | refine wpList_store _ rfl rfl 24 (.tmp 2) (.tmp 111) rfl (.pointer (some ⟨w.heap.size, 0, none⟩)) ((tbOf l).val v) rfl rfl W9 HST9.out ?_)
              refine bodyPost_ret (tb_results2 rfl HBK9.out _ _ rfl rfl) rfl ?_
              rw [HD.out]
              exact ⟨v, rfl, HE9.out, HB9.out⟩

end Go.Proofs.Ytdbgbldmjgonjaa
