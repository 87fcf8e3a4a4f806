/-
  Layer 8, the landed leaf: leafOf.
-/
import Derived.Test.YtgieigpbbkeonaaLgU
namespace Go.Proofs.Ytgieigpbbkeonaa
open Go.RowKit

theorem OwnsI.frm {F : Nat → Prop} {w w' : World} {base : Nat} {v : Value} {l : List It} (h : OwnsI w base v l) (f : Frm F w w') (hF : ∀ k, F k → ∃ cur e, w.heap[k]? = some (Obj.cells cur e (0, 0)) ∧ e ≠ 59) : OwnsI w' base v l := by
  refine ⟨h.1, ?_⟩
  rcases h.2 with hn | ⟨g, cap, cur, hv, hbg, hg, rest⟩
  · exact .inl hn
  · refine .inr ⟨g, cap, cur, hv, hbg, ?_, rest⟩
    rw [f.block g (Array.getElem?_eq_some_iff.1 hg).1 ?_]
    · exact hg
    · intro e
      obtain ⟨c2, e2, h2, hne⟩ := hF g e
      rw [hg] at h2
      simp only [Option.some.injEq, Obj.cells.injEq] at h2
      exact hne h2.2.1.symm
/-- A leaf being read, in its box, beside the answer's. -/
structure Lp (w wr : World) (g : Nat) (u v : Sl) (t : List Int) (m : List Sb) : Prop where
  k0 : LfBlk wr w.heap.size (.slice none 0 0) (.slice none 0 0)
  k : LfBlk wr g u.val v.val
  oi : OwnN wr u t
  ob : OwnB wr v m
  ui : ∀ k, u.blk = some k → w.heap.size + 1 ≤ k
  vi : ∀ k, v.blk = some k → w.heap.size + 1 ≤ k
  bs : ∀ x ∈ m, Cm (Off (w.heap.size + 1) u v) wr x.s x.bs ∧ x.bs.length ≤ 1000
  e : Below w.heap.size w wr
  gi : w.heap.size + 1 ≤ g
theorem Lp.below {w wr W : World} {g : Nat} {u v : Sl} {t : List Int} {m : List Sb} (h : Lp w wr g u v t m) (hb : Below wr.heap.size wr W) : Lp w W g u v t m :=
  ⟨h.k0.below hb, h.k.below hb, Own.below h.oi hb, Own.below h.ob hb, h.ui, h.vi, fun x hx => ⟨(h.bs x hx).1.keep (Kept.all hb (Nat.le_refl _)), (h.bs x hx).2⟩, rBelow h.e hb, h.gi⟩
theorem Lp.start {w W w' : World} {g : Nat} {u v : Sl} {t : List Int} {n : Nat} (k0 : LfBlk W w.heap.size (.slice none 0 0) (.slice none 0 0)) (e : Below w.heap.size w W) (c : Cp W w' g u v t (List.replicate n Sb.zero)) : Lp w w' g u v t (List.replicate n Sb.zero) := by
  have hs := k0.lt
  refine ⟨k0.below c.e, c.k, c.oi, c.ob, fun k hk => by have := c.ui k hk; omega, fun k hk => by have := c.vi k hk; omega, fun x hx => ?_, rBelow e c.e, by have := c.gi; omega⟩
  rw [List.eq_of_mem_replicate hx]
  exact ⟨Cm.none w', Nat.zero_le _⟩
theorem Lp.setI {w wr : World} {g b o n c : Nat} {v : Sl} {t : List Int} {m : List Sb} (h : Lp w wr g ⟨some ⟨b, o, none⟩, n, c⟩ v t m) (i : Nat) (hi : i < n) (x : Int) :
    ∃ W, (Instr.storeAt 3 (.pointer (some ⟨b, o + i, none⟩)) (.int .i64 x)).run Try.prog wr = .ok () W ∧ Lp w W g ⟨some ⟨b, o, none⟩, n, c⟩ v (t.set i x) m ∧ Frm (fun k => k = b) wr W := by
  obtain ⟨W, hst, o', f⟩ := st_num wr b o n c t h.oi i hi x
  have hb := h.ui b rfl
  refine ⟨W, hst, ⟨h.k0.off f (by omega), h.k.off f (fun e => Own.unbox h.oi h.k (by decide) (by rw [e]; rfl)), o', Own.kept h.ob f (fun e => Own.apart h.oi h.ob (by decide) b rfl e), h.ui, h.vi, fun x hx => ⟨(h.bs x hx).1.keep (Kept.frm f (fun k hk e => hk.2.1 (by rw [e]; rfl))), (h.bs x hx).2⟩, h.e.trans (f.below h.e.size (fun k hk => by omega)), h.gi⟩, f⟩
theorem Lp.setZ {w wr W : World} {g : Nat} {u v : Sl} {t : List Int} {m : List Sb} (h : Lp w wr g u v t m) {i : Nat} {xs : List Nat} {s : Sl} (z : Lz wr W g u v m i xs s) (hl : xs.length ≤ 1000) : Lp w W g u v t (m.set i ⟨s, xs⟩) := by
  have hoi : OwnN W u t := Own.frame h.oi (fun k hk => z.f.block k (Own.lt h.oi hk) (Own.apart h.oi h.ob (by decide) k hk))
  have hsz := h.k0.lt
  refine ⟨z.f.lf h.k0 (fun e => by have := h.vi _ e; omega), z.k, hoi, z.ob, h.ui, h.vi, fun x hx => ?_, h.e.trans (z.f.below h.e.size (fun k hk => by have := h.vi k hk; omega)), h.gi⟩
  rcases List.mem_or_eq_of_mem_set hx with hx | rfl
  · exact ⟨(h.bs x hx).1.keep (Kept.frm z.f (fun k hk => hk.2.2)), (h.bs x hx).2⟩
  · refine ⟨⟨z.cm, fun ad ha _ => ?_⟩, hl⟩
    have h1 := z.si ad.block (by rw [Sl.blk, ha]; rfl)
    refine ⟨by omega, fun e => ?_, fun e => ?_⟩
    · have := Own.lt h.oi e; omega
    · have := Own.lt h.ob e; omega
theorem Lp.gs {w wr : World} {g : Nat} {u v : Sl} {t : List Int} {m : List Sb} (h : Lp w wr g u v t m) (ht : t.length ≤ 1000) (hm : m.length ≤ 1000) : Gi (fun k => w.heap.size + 1 ≤ k) wr u t ∧ Gb (fun k => w.heap.size + 1 ≤ k) wr v m :=
  ⟨OwnN.gi h.oi h.ui (by have := OwnN.len h.oi; omega), OwnB.gb h.ob (fun x hx => ⟨(h.bs x hx).1.wide (fun k hk => hk.1), (h.bs x hx).2⟩) h.vi (by have := OwnB.len h.ob; omega)⟩
theorem got_facts {x : List Nat} {t : List Int} {s : List (List Nat)} (h : Got x t s) : tks x headK [] 0 = some (headL t s.length, 18) ∧ tks (x.drop 18) (List.replicate s.length 5) [] 0 = some (s.map itT, needS s) ∧ nul (x.drop (18 + needS s)) = true := by
  obtain ⟨hok, rfl⟩ := h
  exact ⟨got_head hok, got_rows hok, by rw [got_rest hok]; exact nul_rep _⟩
/-- What is told of a text. -/
def LoSays (w : World) (x : List Nat) (e : Ending) (w' : World) : Prop := (∃ t s, Got x t s ∧ Told w t s (mk2 0) e w') ∨ ((¬ ∃ t s, Got x t s) ∧ Told w [] [] (mk2 4) e w')
theorem headK_good : ∀ t, t < headK.length → 1 ≤ headK.getD t 0 ∧ headK.getD t 0 ≤ 5 := by decide
theorem fives_good (n : Nat) : ∀ t, t < (List.replicate n (5 : Int)).length → 1 ≤ (List.replicate n (5 : Int)).getD t 0 ∧ (List.replicate n (5 : Int)).getD t 0 ≤ 5 := by
  intro t ht
  rw [List.length_replicate] at ht
  simp [List.getD, ht]
theorem OwnsI.pos8 {w : World} {base : Nat} {v : Value} {l : List It} (h : OwnsI w base v l) (hp : 0 < l.length) : ∃ g cap, v = .slice (some ⟨g, 0, none⟩) l.length cap ∧ base ≤ g ∧ l.length ≤ cap := by
  rcases h.2 with ⟨hv, h0⟩ | ⟨g, cap, cur, hv, hbg, hg, hle, hr⟩
  · omega
  · exact ⟨g, cap, hv, hbg, hle⟩
theorem OwnsI.cell8 {w : World} {base g n cap : Nat} {l : List It} (h : OwnsI w base (.slice (some ⟨g, 0, none⟩) n cap) l) (hn : n = l.length) (i : Nat) (hi : i < l.length) : ItAt w g (i * 4) (l.getD i itD) := by
  subst hn
  have hc : ∀ k, k < 4 → w.cell? ⟨g, i * 4 + k, none⟩ = (l.getD i itD).cells[k]? := fun k hk => by
    rw [← itVals_get l i k hi hk]
    exact World.ownsRow.cellAt h (i * 4 + k) (by omega)
  exact ⟨hc 0 (by decide), hc 1 (by decide), hc 2 (by decide), hc 3 (by decide)⟩
theorem map_getD_it {s : List (List Nat)} {i : Nat} (h : i < s.length) : (s.map itT).getD i itD = itT (sl s i) := by
  rw [sl_get h]
  simp [List.getD, h]

set_option maxHeartbeats 32000000 in
set_option maxRecDepth 100000 in
theorem leafOf_says (w : World) (a : Option Addr) (tc : Nat) (xs : List Nat) (hb : Came w a 508 tc xs) :
    Calls Try.prog 33 #[.slice a 508 tc] w fun e w' => LoSays w xs e w' := by
  have hsf : ∀ (w : World) (a : Addr) (m : Mode) (x : Nat), (store a (.float .f64 x) m).run Try.prog w = stored Try.prog w a (.float .f64 x) m := fun w a m x => run_store Try.prog w a _ m rfl
  obtain ⟨tb, tp, ha, _⟩ := hb.bs.2.2 0 (by decide)
  subst ha
  have hA := below_alloc w (.cells #[.slice none 0 0, .slice none 0 0] 25)
  have HK := hide (lfBlk_new w (.slice none 0 0) (.slice none 0 0))
  have HHK := hide (headKinds_any (w.alloc (.cells #[.slice none 0 0, .slice none 0 0] 25)))
  have HA := hide hA
  have HCM := hide hb
  have htc : 508 ≤ tc := hb.le
  have HXB : Hid (Bytes xs) := hb.bs.2.1
  have HXL : Hid (xs.length = 508) := hb.bs.1
  have HZ : Hid (∀ W, Below w.heap.size w W → LfBlk W w.heap.size (.slice none 0 0) (.slice none 0 0) → (¬ ∃ t s, Got xs t s) → ∃ W9, (Instr.storeAt 25 (.pointer (some ⟨w.heap.size, 0, none⟩)) (.agg #[.slice none 0 0, .slice none 0 0])).run Try.prog W = .ok () W9 ∧ LfBlk W9 w.heap.size (.slice none 0 0) (.slice none 0 0) ∧ LoSays w xs (.returned (mk2 4 (lfV Sl.nil Sl.nil))) W9) := by
    intro W hW k hn
    obtain ⟨W9, hst, k9, hf⟩ := fin_lf0 k hW (Gi.none W) (Gb.none W)
    exact ⟨W9, hst, k9, .inr ⟨hn, hf _⟩⟩
  clear hA hb
  go_enter Try.func33, Try.ntmps33
  go_wp2_with fail
  refine HHK.out.mono ?_
  rintro e w1 ⟨⟨a1, n1, c1⟩, rfl, hc1⟩
  have hB1 := rBelow HA.out hc1.e
  have HK1 := hide (HK.out.below hc1.e)
  have hg1 := OwnN.gi (D := fun _ => True) hc1.o (fun _ _ => trivial) (by have := OwnN.len hc1.o; show n1 ≤ _; have e : headK.length = 6 := rfl; rw [e] at this; have : 6 = n1 := this; omega)
  have hn6 : n1 = 6 := by have := OwnN.len hc1.o; exact this.symm
  subst hn6
  have HTK := hide (take_any (some ⟨tb, tp, none⟩) 508 tc xs a1 6 c1 headK w1 ⟨HCM.out.bs.keep hB1 (Nat.le_refl _), HCM.out.nil, HCM.out.le, HCM.out.big⟩ hg1.ks (by decide) (by decide))
  have HB1 := hide hB1
  clear hB1 hc1 hg1 HHK HK HA
  unfold Sl.val
  simp only
  go_wp2_with fail
  refine HTK.out.mono ?_
  rintro e w2 ⟨v2, rfl, hb2, ho2, hf2⟩
  have HB2 := hide (rBelow HB1.out hb2)
  have HK2 := hide (HK1.out.below hb2)
  have hout := out_good (xs := xs) headK_good
  cases htk : tks xs headK [] 0 with
  | none =>
    rw [htk] at hout
    simp only at hout
    rw [hout]
    have hno : ¬ ∃ t s, Got xs t s := fun ⟨t, s, h⟩ => by have := (got_facts h).1; rw [htk] at this; cases this
    obtain ⟨W9, hst9, k9, hf9⟩ := HZ.out w2 HB2.out HK2.out hno
    have HST9 := hide hst9
    have HK9 := hide k9
    have HF := hide hf9
    clear hst9 k9 hf9 hno htk hout ho2 hf2 hb2 HTK HZ
    go_wp2_with (refine wpList_store _ rfl rfl 25 (.tmp 2) (.tmp 32) rfl (.pointer (some ⟨w.heap.size, 0, none⟩)) (.agg #[.slice none 0 0, .slice none 0 0]) rfl rfl W9 HST9.out ?_)
    refine bodyPost_ret (lf_results1 (u := Sl.nil) (v := Sl.nil) rfl HK9.out _ rfl rfl) rfl ?_
    exact HF.out
  | some z =>
    obtain ⟨h, q⟩ := z
    rw [htk] at hout
    simp only at hout
    rw [hout] at ho2 hf2
    rw [hout]
    simp only at ho2 hf2 ⊢
    obtain ⟨m, wa, wb, wc, wd, n, hm256, hn256, hwa, hwb, hwc, hwd, rfl, rfl, _, _⟩ := head_is HXB.out htk
    obtain ⟨g2, c2, rfl, hg2, hc2⟩ := ho2.pos8 (by show 0 < 6; decide)
    replace hc2 : 6 ≤ c2 := hc2
    have HO2 := hide ho2
    have HTK0 := hide htk
    have it0 := ho2.cell8 rfl 0 (by show 0 < 6; decide)
    have it5 := ho2.cell8 rfl 5 (by show 5 < 6; decide)
    have cc0 : w2.cell? ⟨g2, 1, none⟩ = some (.int .i64 ((m : Nat) : Int)) := it0.2.1
    have HC5 : Hid (w2.cell? ⟨g2, 5 * 4 + 1, none⟩ = some (.int .i64 ((n : Nat) : Int))) := it5.2.1
    clear ho2 hf2 hb2 htk hout it0 it5 HTK
    by_cases hm : m = 76
    · subst hm
      have hnotN : ∀ t s, Got xs t s → t = [((wa : Nat) : Int), ((wb : Nat) : Int), ((wc : Nat) : Int), ((wd : Nat) : Int)] ∧ s.length = n := by
        intro t s h
        have h1 := (got_facts h).1
        rw [HTK0.out] at h1
        have h2 := congrArg Prod.fst (Option.some.inj h1)
        obtain ⟨p1, p2, p3, p4, rfl⟩ := four_list h.1.may.itl.1
        simp only [headL, List.map_cons, List.map_nil, List.cons_append, List.nil_append, List.cons.injEq, and_true, true_and] at h2
        have f : ∀ {p q : Int}, itF p = itF q → p = q := fun e => congrArg It.n e
        have fb : ∀ {p q : Nat}, itB p = itB q → p = q := fun e => by have : ((_ : Nat) : Int) = ((_ : Nat) : Int) := congrArg It.n e; omega
        rw [← f h2.1, ← f h2.2.1, ← f h2.2.2.1, ← f h2.2.2.2.1]
        exact ⟨rfl, (fb h2.2.2.2.2).symm⟩
      have HNN := hide hnotN
      clear hnotN
      go_wp2_with fail
      refine Pl.region_is (ops := Pl.find 4 ((Try.f33.body).getD .skip)) (by kernel_rfl) ?_
      refine leaf4 w2 g2 c2 ((n : Nat) : Int) hc2 HC5.out (by rfl) rfl (by rfl) ?_
      intro uu w3 hb3
      simp only [Act.put, List.setIfInBounds_toArray, List.set_cons_zero, List.set_cons_succ]
      have HB3 := hide (rBelow HB2.out hb3)
      have HK3 := hide (HK2.out.below hb3)
      have HO3 := hide (HO2.out.keep hb3 (Nat.le_refl _))
      have HT3 : Hid (∀ W, Below w3.heap.size w3 W → Came W (some ⟨tb, tp + 18, none⟩) 490 (tc - 18) (xs.drop 18)) := by
        intro W hW
        have h1 := HCM.out.bs.keep (rBelow HB3.out hW) (Nat.le_refl _)
        have h2 := h1.from (k := 18) (cap := tc) (by decide) htc
        have e : fromA (some ⟨tb, tp, none⟩) tc 18 = some ⟨tb, tp + 18, none⟩ := by
          unfold fromA
          rw [if_neg (by omega)]
          simp [Addr.add_lit]
        rw [e] at h2
        exact ⟨h2, fun e => (by cases e), by omega, by decide⟩
      clear hb3 HB2 HK2 HO2 HC5 HB1 HK1 cc0
      go_wp2_with fail
      refine Pl.region_is (ops := Pl.find 5 ((Try.f33.body).getD .skip)) (by kernel_rfl) ?_
      refine leaf5 w3 tb tp tc n xs htc (by omega) HT3.out (by rfl) rfl (by rfl) (by rfl) (by rfl) ?_
      rintro uu w4 v4 ⟨hb4, ho4, hf4⟩
      simp only [Act.put, List.setIfInBounds_toArray, List.set_cons_zero, List.set_cons_succ]
      have HB4 := hide (rBelow HB3.out hb4)
      have HK4 := hide (HK3.out.below hb4)
      have HO3' := hide (HO3.out.keep hb4 (Nat.le_refl _))
      clear hb4 HB3 HK3 HO3 HT3
      have hout := out_good (xs := xs.drop 18) (fives_good n)
      cases htk : tks (xs.drop 18) (List.replicate n 5) [] 0 with
      | none =>
        rw [htk] at hout
        simp only at hout
        rw [hout]
        have hno : ¬ ∃ t s, Got xs t s := fun ⟨t, s, h⟩ => by
          have h1 := (got_facts h).2.1
          rw [(HNN.out t s h).2, htk] at h1
          cases h1
        obtain ⟨W9, hst9, k9, hf9⟩ := HZ.out w4 HB4.out HK4.out hno
        have HST9 := hide hst9
        have HK9 := hide k9
        have HF := hide hf9
        clear hst9 k9 hf9 hno htk hout ho4 hf4 HZ
        go_wp2_with (refine wpList_store _ rfl rfl 25 (.tmp 2) (.tmp 61) rfl (.pointer (some ⟨w.heap.size, 0, none⟩)) (.agg #[.slice none 0 0, .slice none 0 0]) rfl rfl W9 HST9.out ?_)
        refine bodyPost_ret (lf_results1 (u := Sl.nil) (v := Sl.nil) rfl HK9.out _ rfl rfl) rfl ?_
        exact HF.out
      | some z =>
        obtain ⟨r, p⟩ := z
        rw [htk] at hout
        simp only at hout
        rw [hout] at ho4 hf4
        rw [hout]
        simp only at ho4 hf4 ⊢
        have hx18 : Bytes (xs.drop 18) := fun y hy => HXB.out y (List.mem_of_mem_drop hy)
        obtain ⟨s, rfl, hsl, hslb, rfl, hple, _⟩ := rows_is hx18 htk
        rw [List.length_drop, HXL.out] at hple
        have HTK1 := hide htk
        have HSB := hide hslb
        have HO4 := hide ho4
        have hbs5 := (HCM.out.bs.keep HB4.out (Nat.le_refl _)).from (k := 18 + needS s) (cap := tc) (by omega) htc
        have HNO := hide (noughts_any w4 (fromA (some ⟨tb, tp, none⟩) tc (18 + needS s)) _ (tc - (18 + needS s)) _ hbs5 (by omega))
        have hSN : ∀ t s', Got xs t s' → s' = s := by
          intro t s' h
          have h1 := (got_facts h).2.1
          rw [(HNN.out t s' h).2, HTK1.out] at h1
          have h2 := congrArg Prod.fst (Option.some.inj h1)
          exact (rows_inj (fun b hb => (HSB.out b hb).1) h.1.by_ h2).symm
        have HSN := hide hSN
        have HSL := hide hsl
        clear hout ho4 hf4 htk hslb hbs5 hx18 hSN hsl
        obtain ⟨p, hp⟩ : ∃ p, p = needS s := ⟨_, rfl⟩
        rw [← hp] at HNO hple
        rw [← hp]
        have HP := hide hp
        clear hp
        have hoi := HO4.out.is (fun it hit => by obtain ⟨b, hb, rfl⟩ := List.mem_map.1 hit; exact itT_fits (by have := HSB.out b hb; omega))
        obtain ⟨ra, rc, hv4, _, _, _⟩ := hoi
        rw [List.length_map, HSL.out] at hv4
        subst hv4
        by_cases hfull : tc = 18 + p
        · have e5 : fromA (some ⟨tb, tp, none⟩) tc (18 + p) = some ⟨tb, tp, none⟩ := by
            unfold fromA
            rw [if_pos hfull]
          have HN5 := HNO
          rw [e5, show tc - (18 + p) = 0 by omega] at HN5
          clear e5
          go_wp2_with fail
          refine HN5.out.mono ?_
          rintro e w5 ⟨rfl, hw⟩
          obtain rfl := hw
          clear HN5
          cases hnul : nul (xs.drop (18 + p)) with
          | false =>
            have hno : ¬ ∃ t s, Got xs t s := fun ⟨t, s', h⟩ => by
              have h1 := (got_facts h).2.2
              rw [HSN.out t s' h, ← HP.out, hnul] at h1
              cases h1
            obtain ⟨W9, hst9, k9, hf9⟩ := HZ.out w5 HB4.out HK4.out hno
            have HST9 := hide hst9
            have HK9 := hide k9
            have HF := hide hf9
            clear hst9 k9 hf9 hno hnul HZ
            go_wp2_with (refine wpList_store _ rfl rfl 25 (.tmp 2) (.tmp 61) rfl (.pointer (some ⟨w.heap.size, 0, none⟩)) (.agg #[.slice none 0 0, .slice none 0 0]) rfl rfl W9 HST9.out ?_)
            refine bodyPost_ret (lf_results1 (u := Sl.nil) (v := Sl.nil) rfl HK9.out _ rfl rfl) rfl ?_
            exact HF.out
          | true =>
            have HNU := hide hnul
            clear hnul
            go_wp2_with fail
            refine Pl.region_is (ops := Pl.find 8 ((Try.f33.body).getD .skip)) (by kernel_rfl) ?_
            refine leaf8 w5 n (by omega) (by rfl) rfl (by rfl) ?_
            rintro uu w6 g3 ⟨ua, un, uc⟩ ⟨va, vn, vc⟩ cp
            simp only [Act.put, List.setIfInBounds_toArray, List.set_cons_zero, List.set_cons_succ]
            have lp := Lp.start HK4.out HB4.out cp
            have HO6 := hide (HO3'.out.keep cp.e (Nat.le_refl _))
            have HR6 := hide (HO4.out.keep cp.e (Nat.le_refl _))
            have hun : un = 4 := by have := OwnN.len cp.oi; rw [List.length_replicate] at this; exact this.symm
            subst hun
            have hvn : vn = n := by have := OwnB.len cp.ob; rw [List.length_replicate] at this; exact this.symm
            subst hvn
            obtain ⟨ub, uo, hua⟩ := OwnN.pos cp.oi (by show 0 < 4; decide)
            replace hua : ua = some ⟨ub, uo, none⟩ := hua
            subst hua
            have HLP : Hid (∃ t', Lp w w6 g3 ⟨some ⟨ub, uo, none⟩, 4, uc⟩ ⟨va, vn, vc⟩ t' (List.replicate vn Sb.zero) ∧ t'.length = 4 ∧ ∀ j, j < 0 → t'.getD j 0 = [((wa : Nat) : Int), ((wb : Nat) : Int), ((wc : Nat) : Int), ((wd : Nat) : Int)].getD j 0) := ⟨_, lp, rfl, fun _ h => absurd h (Nat.not_lt_zero _)⟩
            clear cp lp HO3' HO4 HB4 HK4 HNO
            go_wp2_with fail
            go_loopw [68] (fun iv wr => ∃ i : Nat, i ≤ 4 ∧ iv = .int .i64 (i : Nat) ∧ Hid (∃ t', Lp w wr g3 ⟨some ⟨ub, uo, none⟩, 4, uc⟩ ⟨va, vn, vc⟩ t' (List.replicate vn Sb.zero) ∧ t'.length = 4 ∧ ∀ j, j < i → t'.getD j 0 = [((wa : Nat) : Int), ((wb : Nat) : Int), ((wc : Nat) : Int), ((wd : Nat) : Int)].getD j 0) ∧ Hid (OwnsI wr w1.heap.size (.slice (some ⟨g2, 0, none⟩) 6 c2) [itB 76, itF ((wa : Nat) : Int), itF ((wb : Nat) : Int), itF ((wc : Nat) : Int), itF ((wd : Nat) : Int), itB vn]) ∧ Hid (OwnsI wr w3.heap.size (.slice ra vn rc) (s.map itT))) (fun iv _ => 4 - (intOf iv).toNat)
            case atStart => exact ⟨0, by omega, rfl, HLP, HO6, HR6⟩
            case round =>
              obtain ⟨i, hi4, rfl, hlp, hoh, hor⟩ := hrel
              obtain ⟨t', lp, htl, hget⟩ := hlp.out
              rcases Nat.lt_or_ge i 4 with hlt | hge
              · have j1 : ((i : Nat) : Int) < 4 := by omega
                have hit := hoh.out.cell8 rfl (i + 1) (by show i + 1 < 6; omega)
                obtain ⟨nn, hnn⟩ : ∃ nn : Nat, nn = [wa, wb, wc, wd].getD i 0 := ⟨_, rfl⟩
                have hie : [itB 76, itF ((wa : Nat) : Int), itF ((wb : Nat) : Int), itF ((wc : Nat) : Int), itF ((wd : Nat) : Int), itB vn].getD (i + 1) itD = itF ((nn : Nat) : Int) ∧ [((wa : Nat) : Int), ((wb : Nat) : Int), ((wc : Nat) : Int), ((wd : Nat) : Int)].getD i 0 = ((nn : Nat) : Int) := by
                  rw [hnn]
                  have : i = 0 ∨ i = 1 ∨ i = 2 ∨ i = 3 := by omega
                  rcases this with rfl | rfl | rfl | rfl <;> exact ⟨rfl, rfl⟩
                rw [hie.1, show (i + 1) * 4 = 4 + i * 4 by omega] at hit
                obtain ⟨q0, q1, q2, q3⟩ := hit
                have hA6 := below_alloc wr (.cells #[.int .i64 3, .int .i64 ((nn : Nat) : Int), .float .f64 0, .string ⟨#[]⟩] 59)
                have lpa := lp.below hA6
                obtain ⟨W7, hst7, lp7, f7⟩ := lpa.setI i hlt ((nn : Nat) : Int)
                have hbk : ∀ k, k = ub → ∃ cur e, (wr.alloc (.cells #[.int .i64 3, .int .i64 ((nn : Nat) : Int), .float .f64 0, .string ⟨#[]⟩] 59)).heap[k]? = some (Obj.cells cur e (0, 0)) ∧ e ≠ 59 := by
                  intro k hk
                  obtain ⟨cur, hcur⟩ := Own.kind lpa.oi (k := ub) rfl
                  exact ⟨cur, _, by rw [hk]; exact hcur, by decide⟩
                have HO7 := hide ((hoh.out.keep hA6 (Nat.le_refl _)).frm f7 hbk)
                have HR7 := hide ((hor.out.keep hA6 (Nat.le_refl _)).frm f7 hbk)
                have HL7 : Hid (∃ t', Lp w W7 g3 ⟨some ⟨ub, uo, none⟩, 4, uc⟩ ⟨va, vn, vc⟩ t' (List.replicate vn Sb.zero) ∧ t'.length = 4 ∧ ∀ j, j < i + 1 → t'.getD j 0 = [((wa : Nat) : Int), ((wb : Nat) : Int), ((wc : Nat) : Int), ((wd : Nat) : Int)].getD j 0) := by
                  refine ⟨_, lp7, by rw [List.length_set]; exact htl, fun j hj => ?_⟩
                  by_cases e : i = j
                  · subst e
                    rw [getD_set_same (by omega), hie.2]
                  · rw [getD_set_other e]
                    exact hget j (by omega)
                have c0 := lpa.k.c0
                have c1 := lpa.k.c1
                have HST7 := hide hst7
                clear hlp hoh hor lp hget lpa lp7 f7 hbk hst7 hA6 hie hnn HO6 HR6 HLP
                unfold itF noS at q0 q1 q2 q3
                unfold Sl.val at *
                simp only at *
                go_wp2_with (refine wpList_store _ rfl rfl 3 (.tmp 78) (.tmp 77) rfl (.pointer (some ⟨ub, uo + i, none⟩)) (.int .i64 ((nn : Nat) : Int)) rfl rfl W7 HST7.out ?_)
                go_roundw
                case rel => exact ⟨i + 1, by omega, by go_num, HL7, HO7, HR7⟩
                case measure => simp only [intOf]; omega
              · have e0 : i = 4 := by omega
                subst e0
                have htw : t' = [((wa : Nat) : Int), ((wb : Nat) : Int), ((wc : Nat) : Int), ((wd : Nat) : Int)] := ints_ext (by rw [htl]; rfl) (fun j hj => hget j (by rw [htl] at hj; exact hj))
                subst htw
                have HM0 : Hid (∃ m', Lp w wr g3 ⟨some ⟨ub, uo, none⟩, 4, uc⟩ ⟨va, vn, vc⟩ [((wa : Nat) : Int), ((wb : Nat) : Int), ((wc : Nat) : Int), ((wd : Nat) : Int)] m' ∧ m'.length = vn ∧ ∀ j, j < 0 → (m'.getD j Sb.zero).bs = sl s j) := ⟨_, lp, List.length_replicate .., fun _ h => absurd h (Nat.not_lt_zero _)⟩
                have HR0 := hide hor.out
                clear hlp hoh hor lp hget HO6 HR6 HLP htl
                go_wp2_with fail
                rename World => wq
                go_loopw [82] (fun iv wr => ∃ i : Nat, i ≤ vn ∧ iv = .int .i64 (i : Nat) ∧ Hid (∃ m', Lp w wr g3 ⟨some ⟨ub, uo, none⟩, 4, uc⟩ ⟨va, vn, vc⟩ [((wa : Nat) : Int), ((wb : Nat) : Int), ((wc : Nat) : Int), ((wd : Nat) : Int)] m' ∧ m'.length = vn ∧ ∀ j, j < i → (m'.getD j Sb.zero).bs = sl s j) ∧ Hid (OwnsI wr w3.heap.size (.slice ra vn rc) (s.map itT))) (fun iv _ => vn - (intOf iv).toNat)
                case atStart => exact ⟨0, Nat.zero_le _, rfl, HM0, HR0⟩
                case round =>
                  obtain ⟨i, hiv, rfl, hlm, hor⟩ := hrel
                  obtain ⟨m', lp, hml, hget⟩ := hlm.out
                  have hsl := HSL.out
                  rcases Nat.lt_or_ge i vn with hlt | hge
                  · have j1 : ((i : Nat) : Int) < ((vn : Nat) : Int) := by omega
                    obtain ⟨g4, c4, hv4, _, _⟩ := hor.out.pos8 (by rw [List.length_map, hsl]; omega)
                    have hor2 := hor.out
                    rw [hv4] at hor2
                    have hit := hor2.cell8 rfl i (by rw [List.length_map, hsl]; exact hlt)
                    rw [map_getD_it (by rw [hsl]; exact hlt)] at hit
                    obtain ⟨q0, q1, q2, q3⟩ := hit
                    simp only [Value.slice.injEq] at hv4
                    obtain ⟨rfl, hvv, rfl⟩ := hv4
                    clear hvv
                    have hrow := HSB.out (sl s i) (by rw [sl_get (by rw [hsl]; exact hlt)]; exact List.getElem_mem _)
                    obtain ⟨bb, hbb⟩ : ∃ bb, bb = sl s i := ⟨_, rfl⟩
                    rw [← hbb] at q0 q1 q2 q3 hrow
                    obtain ⟨vb, vo, hva⟩ := OwnB.pos lp.ob (by show 0 < vn; omega)
                    replace hva : va = some ⟨vb, vo, none⟩ := hva
                    subst hva
                    have hA6 := below_alloc wr (.cells #[.int .i64 5, .int .i64 0, .float .f64 0, .string (bstr bb)] 59)
                    have lpa := lp.below hA6
                    have hvb : vb < wr.heap.size := Own.lt lp.ob rfl
                    have hstr : ∀ W, Frm (fun k => Sl.blk ⟨some ⟨vb, vo, none⟩, vn, vc⟩ = some k) (wr.alloc (.cells #[.int .i64 5, .int .i64 0, .float .f64 0, .string (bstr bb)] 59)) W → W.cell? ⟨wr.heap.size, 3, none⟩ = some (.string (bstr bb)) := by
                      intro W hW
                      have hb9 := hW.block wr.heap.size (by rw [alloc_size]; exact Nat.lt_succ_self _) (fun e => by have e : some vb = some wr.heap.size := e; cases e; omega)
                      have hn9 := heap_alloc_new wr (.cells #[.int .i64 5, .int .i64 0, .float .f64 0, .string (bstr bb)] 59)
                      simp only [World.cell?]
                      rw [hb9, hn9]
                      rfl
                    have HSTR := hide hstr
                    have HLPA := hide lpa
                    have HROW := hide hrow
                    have HOR := hide (hor.out.keep hA6 (Nat.le_refl _))
                    have HML := hide hml
                    have HGET := hide hget
                    have HBB := hide hbb
                    clear hlm hor hor2 lp hget lpa hstr hrow hbb hml hA6 hsl HM0 HR0
                    unfold itT at q0 q1 q2 q3
                    simp only at *
                    go_wp2_with fail
                    refine Pl.region_is (ops := Pl.find 17 ((Try.f33.body).getD .skip)) (by kernel_rfl) ?_
                    refine leaf17 _ g3 wr.heap.size vb vo vn vc i ⟨some ⟨ub, uo, none⟩, 4, uc⟩ m' bb hlt HROW.out.1 (by have := HROW.out.2; omega) HLPA.out.k HLPA.out.ob (Own.unbox HLPA.out.ob HLPA.out.k (by decide)) HSTR.out (by rfl) rfl (by rfl) (by rfl) (by rfl) ?_
                    rintro uu w8 s8 lz
                    simp only [Act.put, List.setIfInBounds_toArray, List.set_cons_zero, List.set_cons_succ]
                    have lp8 := HLPA.out.setZ lz (by have := HROW.out.2; omega)
                    have HR8 := hide (HOR.out.frm lz.f (fun k hk => by
                      obtain ⟨cur, hcur⟩ := Own.kind HLPA.out.ob (k := k) hk
                      exact ⟨cur, _, hcur, by decide⟩))
                    have HL8 : Hid (∃ m', Lp w w8 g3 ⟨some ⟨ub, uo, none⟩, 4, uc⟩ ⟨some ⟨vb, vo, none⟩, vn, vc⟩ [((wa : Nat) : Int), ((wb : Nat) : Int), ((wc : Nat) : Int), ((wd : Nat) : Int)] m' ∧ m'.length = vn ∧ ∀ j, j < i + 1 → (m'.getD j Sb.zero).bs = sl s j) := by
                      refine ⟨_, lp8, by rw [List.length_set]; exact HML.out, fun j hj => ?_⟩
                      by_cases e : i = j
                      · subst e
                        rw [getD_set_sameB (by rw [HML.out]; exact hlt), ← HBB.out]
                      · rw [getD_set_otherB e]
                        exact HGET.out j (by omega)
                    clear lz lp8 HLPA HSTR HROW HOR HML HGET HBB q0 q1 q2 q3
                    go_wp2_with fail
                    go_roundw
                    case rel => exact ⟨i + 1, by omega, by go_num, HL8, HR8⟩
                    case measure => simp only [intOf]; omega
                  · have j1 : ¬ ((i : Nat) : Int) < ((vn : Nat) : Int) := by omega
                    have e0 : i = vn := by omega
                    subst e0
                    have hbs : bss m' = s := sl_ext (by rw [bss_length, hml, hsl]) (fun j hj => by rw [bss_sl]; exact hget j (by rw [bss_length, hml] at hj; exact hj))
                    have hgs := lp.gs (by show 4 ≤ 1000; decide) (by omega)
                    have HCK := hide (check_says wr ⟨some ⟨ub, uo, none⟩, 4, uc⟩ ⟨va, i, vc⟩ _ m' hgs.1 hgs.2)
                    rw [hbs] at HCK
                    have c0 := lp.k.c0
                    have c1 := lp.k.c1
                    have HLP := hide lp
                    have HML := hide hml
                    have HBS := hide hbs
                    clear hlm hor lp hget hgs hml hbs hsl HM0 HR0
                    unfold lfV Sl.val at *
                    simp only at *
                    go_wp2_with fail
                    refine HCK.out.mono ?_
                    rintro e w9 ⟨hc, hb9⟩
                    have lp9 := HLP.out.below hb9
                    rcases hc with ⟨hm, rfl⟩ | ⟨hm, rfl⟩
                    · have hgs := lp9.gs (by show 4 ≤ 1000; decide) (by rw [HML.out]; omega)
                      obtain ⟨W9, hst9, k9, hf9⟩ := fin_lf0 lp9.k0 lp9.e hgs.1 hgs.2
                      have htk0 := HTK0.out
                      have htk1 := HTK1.out
                      have hnu := HNU.out
                      rw [HP.out] at hnu
                      rw [← HSL.out] at htk0 htk1
                      have hgot := got_make HXB.out HXL.out htk0 htk1 hnu HSB.out hm
                      have HF : Hid (LoSays w xs (.returned (mk2 0 (lfV ⟨some ⟨ub, uo, none⟩, 4, uc⟩ ⟨va, i, vc⟩))) W9) := by
                        have h1 := hf9 (mk2 0)
                        rw [HBS.out] at h1
                        exact .inl ⟨_, _, hgot, h1⟩
                      have HST9 := hide hst9
                      have HK9 := hide k9
                      have d0 := lp9.k.c0
                      have d1 := lp9.k.c1
                      clear hst9 k9 hf9 hgot htk0 htk1 hnu hgs lp9 hb9 hm HLP HCK c0 c1 HZ
                      unfold lfV Sl.val at *
                      simp only at *
                      go_wp2_with (refine wpList_store _ rfl rfl 25 (.tmp 2) (.tmp 103) rfl (.pointer (some ⟨w.heap.size, 0, none⟩)) (.agg #[.slice (some ⟨ub, uo, none⟩) 4 uc, .slice va i vc]) rfl rfl W9 HST9.out ?_)
                      refine bodyPost_ret (lf_results1 (u := ⟨some ⟨ub, uo, none⟩, 4, uc⟩) (v := ⟨va, i, vc⟩) rfl HK9.out _ rfl rfl) rfl ?_
                      exact HF.out
                    · have hno : ¬ ∃ t s, Got xs t s := fun ⟨t, s', h⟩ => by
                        have h1 := (HNN.out t s' h).1
                        have h2 := HSN.out t s' h
                        subst h1 h2
                        exact hm h.1.may
                      obtain ⟨W9, hst9, k9, hf9⟩ := HZ.out w9 lp9.e lp9.k0 hno
                      have HST9 := hide hst9
                      have HK9 := hide k9
                      have HF := hide hf9
                      clear hst9 k9 hf9 hno lp9 hb9 hm HLP HCK c0 c1 HZ
                      go_wp2_with (refine wpList_store _ rfl rfl 25 (.tmp 2) (.tmp 102) rfl (.pointer (some ⟨w.heap.size, 0, none⟩)) (.agg #[.slice none 0 0, .slice none 0 0]) rfl rfl W9 HST9.out ?_)
                      refine bodyPost_ret (lf_results1 (u := Sl.nil) (v := Sl.nil) rfl HK9.out _ rfl rfl) rfl ?_
                      exact HF.out
        · have e5 : fromA (some ⟨tb, tp, none⟩) tc (18 + p) = some ⟨tb, tp + (18 + p), none⟩ := by
            unfold fromA
            rw [if_neg hfull]
            simp [Addr.add_lit]
          have HN5 := HNO
          rw [e5] at HN5
          clear e5
          go_wp2_with fail
          refine HN5.out.mono ?_
          rintro e w5 ⟨rfl, hw⟩
          obtain rfl := hw
          clear HN5
          cases hnul : nul (xs.drop (18 + p)) with
          | false =>
            have hno : ¬ ∃ t s, Got xs t s := fun ⟨t, s', h⟩ => by
              have h1 := (got_facts h).2.2
              rw [HSN.out t s' h, ← HP.out, hnul] at h1
              cases h1
            obtain ⟨W9, hst9, k9, hf9⟩ := HZ.out w5 HB4.out HK4.out hno
            have HST9 := hide hst9
            have HK9 := hide k9
            have HF := hide hf9
            clear hst9 k9 hf9 hno hnul HZ
            go_wp2_with (refine wpList_store _ rfl rfl 25 (.tmp 2) (.tmp 61) rfl (.pointer (some ⟨w.heap.size, 0, none⟩)) (.agg #[.slice none 0 0, .slice none 0 0]) rfl rfl W9 HST9.out ?_)
            refine bodyPost_ret (lf_results1 (u := Sl.nil) (v := Sl.nil) rfl HK9.out _ rfl rfl) rfl ?_
            exact HF.out
          | true =>
            have HNU := hide hnul
            clear hnul
            go_wp2_with fail
            refine Pl.region_is (ops := Pl.find 8 ((Try.f33.body).getD .skip)) (by kernel_rfl) ?_
            refine leaf8 w5 n (by omega) (by rfl) rfl (by rfl) ?_
            rintro uu w6 g3 ⟨ua, un, uc⟩ ⟨va, vn, vc⟩ cp
            simp only [Act.put, List.setIfInBounds_toArray, List.set_cons_zero, List.set_cons_succ]
            have lp := Lp.start HK4.out HB4.out cp
            have HO6 := hide (HO3'.out.keep cp.e (Nat.le_refl _))
            have HR6 := hide (HO4.out.keep cp.e (Nat.le_refl _))
            have hun : un = 4 := by have := OwnN.len cp.oi; rw [List.length_replicate] at this; exact this.symm
            subst hun
            have hvn : vn = n := by have := OwnB.len cp.ob; rw [List.length_replicate] at this; exact this.symm
            subst hvn
            obtain ⟨ub, uo, hua⟩ := OwnN.pos cp.oi (by show 0 < 4; decide)
            replace hua : ua = some ⟨ub, uo, none⟩ := hua
            subst hua
            have HLP : Hid (∃ t', Lp w w6 g3 ⟨some ⟨ub, uo, none⟩, 4, uc⟩ ⟨va, vn, vc⟩ t' (List.replicate vn Sb.zero) ∧ t'.length = 4 ∧ ∀ j, j < 0 → t'.getD j 0 = [((wa : Nat) : Int), ((wb : Nat) : Int), ((wc : Nat) : Int), ((wd : Nat) : Int)].getD j 0) := ⟨_, lp, rfl, fun _ h => absurd h (Nat.not_lt_zero _)⟩
            clear cp lp HO3' HO4 HB4 HK4 HNO
            go_wp2_with fail
            go_loopw [68] (fun iv wr => ∃ i : Nat, i ≤ 4 ∧ iv = .int .i64 (i : Nat) ∧ Hid (∃ t', Lp w wr g3 ⟨some ⟨ub, uo, none⟩, 4, uc⟩ ⟨va, vn, vc⟩ t' (List.replicate vn Sb.zero) ∧ t'.length = 4 ∧ ∀ j, j < i → t'.getD j 0 = [((wa : Nat) : Int), ((wb : Nat) : Int), ((wc : Nat) : Int), ((wd : Nat) : Int)].getD j 0) ∧ Hid (OwnsI wr w1.heap.size (.slice (some ⟨g2, 0, none⟩) 6 c2) [itB 76, itF ((wa : Nat) : Int), itF ((wb : Nat) : Int), itF ((wc : Nat) : Int), itF ((wd : Nat) : Int), itB vn]) ∧ Hid (OwnsI wr w3.heap.size (.slice ra vn rc) (s.map itT))) (fun iv _ => 4 - (intOf iv).toNat)
            case atStart => exact ⟨0, by omega, rfl, HLP, HO6, HR6⟩
            case round =>
              obtain ⟨i, hi4, rfl, hlp, hoh, hor⟩ := hrel
              obtain ⟨t', lp, htl, hget⟩ := hlp.out
              rcases Nat.lt_or_ge i 4 with hlt | hge
              · have j1 : ((i : Nat) : Int) < 4 := by omega
                have hit := hoh.out.cell8 rfl (i + 1) (by show i + 1 < 6; omega)
                obtain ⟨nn, hnn⟩ : ∃ nn : Nat, nn = [wa, wb, wc, wd].getD i 0 := ⟨_, rfl⟩
                have hie : [itB 76, itF ((wa : Nat) : Int), itF ((wb : Nat) : Int), itF ((wc : Nat) : Int), itF ((wd : Nat) : Int), itB vn].getD (i + 1) itD = itF ((nn : Nat) : Int) ∧ [((wa : Nat) : Int), ((wb : Nat) : Int), ((wc : Nat) : Int), ((wd : Nat) : Int)].getD i 0 = ((nn : Nat) : Int) := by
                  rw [hnn]
                  have : i = 0 ∨ i = 1 ∨ i = 2 ∨ i = 3 := by omega
                  rcases this with rfl | rfl | rfl | rfl <;> exact ⟨rfl, rfl⟩
                rw [hie.1, show (i + 1) * 4 = 4 + i * 4 by omega] at hit
                obtain ⟨q0, q1, q2, q3⟩ := hit
                have hA6 := below_alloc wr (.cells #[.int .i64 3, .int .i64 ((nn : Nat) : Int), .float .f64 0, .string ⟨#[]⟩] 59)
                have lpa := lp.below hA6
                obtain ⟨W7, hst7, lp7, f7⟩ := lpa.setI i hlt ((nn : Nat) : Int)
                have hbk : ∀ k, k = ub → ∃ cur e, (wr.alloc (.cells #[.int .i64 3, .int .i64 ((nn : Nat) : Int), .float .f64 0, .string ⟨#[]⟩] 59)).heap[k]? = some (Obj.cells cur e (0, 0)) ∧ e ≠ 59 := by
                  intro k hk
                  obtain ⟨cur, hcur⟩ := Own.kind lpa.oi (k := ub) rfl
                  exact ⟨cur, _, by rw [hk]; exact hcur, by decide⟩
                have HO7 := hide ((hoh.out.keep hA6 (Nat.le_refl _)).frm f7 hbk)
                have HR7 := hide ((hor.out.keep hA6 (Nat.le_refl _)).frm f7 hbk)
                have HL7 : Hid (∃ t', Lp w W7 g3 ⟨some ⟨ub, uo, none⟩, 4, uc⟩ ⟨va, vn, vc⟩ t' (List.replicate vn Sb.zero) ∧ t'.length = 4 ∧ ∀ j, j < i + 1 → t'.getD j 0 = [((wa : Nat) : Int), ((wb : Nat) : Int), ((wc : Nat) : Int), ((wd : Nat) : Int)].getD j 0) := by
                  refine ⟨_, lp7, by rw [List.length_set]; exact htl, fun j hj => ?_⟩
                  by_cases e : i = j
                  · subst e
                    rw [getD_set_same (by omega), hie.2]
                  · rw [getD_set_other e]
                    exact hget j (by omega)
                have c0 := lpa.k.c0
                have c1 := lpa.k.c1
                have HST7 := hide hst7
                clear hlp hoh hor lp hget lpa lp7 f7 hbk hst7 hA6 hie hnn HO6 HR6 HLP
                unfold itF noS at q0 q1 q2 q3
                unfold Sl.val at *
                simp only at *
                go_wp2_with (refine wpList_store _ rfl rfl 3 (.tmp 78) (.tmp 77) rfl (.pointer (some ⟨ub, uo + i, none⟩)) (.int .i64 ((nn : Nat) : Int)) rfl rfl W7 HST7.out ?_)
                go_roundw
                case rel => exact ⟨i + 1, by omega, by go_num, HL7, HO7, HR7⟩
                case measure => simp only [intOf]; omega
              · have e0 : i = 4 := by omega
                subst e0
                have htw : t' = [((wa : Nat) : Int), ((wb : Nat) : Int), ((wc : Nat) : Int), ((wd : Nat) : Int)] := ints_ext (by rw [htl]; rfl) (fun j hj => hget j (by rw [htl] at hj; exact hj))
                subst htw
                have HM0 : Hid (∃ m', Lp w wr g3 ⟨some ⟨ub, uo, none⟩, 4, uc⟩ ⟨va, vn, vc⟩ [((wa : Nat) : Int), ((wb : Nat) : Int), ((wc : Nat) : Int), ((wd : Nat) : Int)] m' ∧ m'.length = vn ∧ ∀ j, j < 0 → (m'.getD j Sb.zero).bs = sl s j) := ⟨_, lp, List.length_replicate .., fun _ h => absurd h (Nat.not_lt_zero _)⟩
                have HR0 := hide hor.out
                clear hlp hoh hor lp hget HO6 HR6 HLP htl
                go_wp2_with fail
                rename World => wq
                go_loopw [82] (fun iv wr => ∃ i : Nat, i ≤ vn ∧ iv = .int .i64 (i : Nat) ∧ Hid (∃ m', Lp w wr g3 ⟨some ⟨ub, uo, none⟩, 4, uc⟩ ⟨va, vn, vc⟩ [((wa : Nat) : Int), ((wb : Nat) : Int), ((wc : Nat) : Int), ((wd : Nat) : Int)] m' ∧ m'.length = vn ∧ ∀ j, j < i → (m'.getD j Sb.zero).bs = sl s j) ∧ Hid (OwnsI wr w3.heap.size (.slice ra vn rc) (s.map itT))) (fun iv _ => vn - (intOf iv).toNat)
                case atStart => exact ⟨0, Nat.zero_le _, rfl, HM0, HR0⟩
                case round =>
                  obtain ⟨i, hiv, rfl, hlm, hor⟩ := hrel
                  obtain ⟨m', lp, hml, hget⟩ := hlm.out
                  have hsl := HSL.out
                  rcases Nat.lt_or_ge i vn with hlt | hge
                  · have j1 : ((i : Nat) : Int) < ((vn : Nat) : Int) := by omega
                    obtain ⟨g4, c4, hv4, _, _⟩ := hor.out.pos8 (by rw [List.length_map, hsl]; omega)
                    have hor2 := hor.out
                    rw [hv4] at hor2
                    have hit := hor2.cell8 rfl i (by rw [List.length_map, hsl]; exact hlt)
                    rw [map_getD_it (by rw [hsl]; exact hlt)] at hit
                    obtain ⟨q0, q1, q2, q3⟩ := hit
                    simp only [Value.slice.injEq] at hv4
                    obtain ⟨rfl, hvv, rfl⟩ := hv4
                    clear hvv
                    have hrow := HSB.out (sl s i) (by rw [sl_get (by rw [hsl]; exact hlt)]; exact List.getElem_mem _)
                    obtain ⟨bb, hbb⟩ : ∃ bb, bb = sl s i := ⟨_, rfl⟩
                    rw [← hbb] at q0 q1 q2 q3 hrow
                    obtain ⟨vb, vo, hva⟩ := OwnB.pos lp.ob (by show 0 < vn; omega)
                    replace hva : va = some ⟨vb, vo, none⟩ := hva
                    subst hva
                    have hA6 := below_alloc wr (.cells #[.int .i64 5, .int .i64 0, .float .f64 0, .string (bstr bb)] 59)
                    have lpa := lp.below hA6
                    have hvb : vb < wr.heap.size := Own.lt lp.ob rfl
                    have hstr : ∀ W, Frm (fun k => Sl.blk ⟨some ⟨vb, vo, none⟩, vn, vc⟩ = some k) (wr.alloc (.cells #[.int .i64 5, .int .i64 0, .float .f64 0, .string (bstr bb)] 59)) W → W.cell? ⟨wr.heap.size, 3, none⟩ = some (.string (bstr bb)) := by
                      intro W hW
                      have hb9 := hW.block wr.heap.size (by rw [alloc_size]; exact Nat.lt_succ_self _) (fun e => by have e : some vb = some wr.heap.size := e; cases e; omega)
                      have hn9 := heap_alloc_new wr (.cells #[.int .i64 5, .int .i64 0, .float .f64 0, .string (bstr bb)] 59)
                      simp only [World.cell?]
                      rw [hb9, hn9]
                      rfl
                    have HSTR := hide hstr
                    have HLPA := hide lpa
                    have HROW := hide hrow
                    have HOR := hide (hor.out.keep hA6 (Nat.le_refl _))
                    have HML := hide hml
                    have HGET := hide hget
                    have HBB := hide hbb
                    clear hlm hor hor2 lp hget lpa hstr hrow hbb hml hA6 hsl HM0 HR0
                    unfold itT at q0 q1 q2 q3
                    simp only at *
                    go_wp2_with fail
                    refine Pl.region_is (ops := Pl.find 17 ((Try.f33.body).getD .skip)) (by kernel_rfl) ?_
                    refine leaf17 _ g3 wr.heap.size vb vo vn vc i ⟨some ⟨ub, uo, none⟩, 4, uc⟩ m' bb hlt HROW.out.1 (by have := HROW.out.2; omega) HLPA.out.k HLPA.out.ob (Own.unbox HLPA.out.ob HLPA.out.k (by decide)) HSTR.out (by rfl) rfl (by rfl) (by rfl) (by rfl) ?_
                    rintro uu w8 s8 lz
                    simp only [Act.put, List.setIfInBounds_toArray, List.set_cons_zero, List.set_cons_succ]
                    have lp8 := HLPA.out.setZ lz (by have := HROW.out.2; omega)
                    have HR8 := hide (HOR.out.frm lz.f (fun k hk => by
                      obtain ⟨cur, hcur⟩ := Own.kind HLPA.out.ob (k := k) hk
                      exact ⟨cur, _, hcur, by decide⟩))
                    have HL8 : Hid (∃ m', Lp w w8 g3 ⟨some ⟨ub, uo, none⟩, 4, uc⟩ ⟨some ⟨vb, vo, none⟩, vn, vc⟩ [((wa : Nat) : Int), ((wb : Nat) : Int), ((wc : Nat) : Int), ((wd : Nat) : Int)] m' ∧ m'.length = vn ∧ ∀ j, j < i + 1 → (m'.getD j Sb.zero).bs = sl s j) := by
                      refine ⟨_, lp8, by rw [List.length_set]; exact HML.out, fun j hj => ?_⟩
                      by_cases e : i = j
                      · subst e
                        rw [getD_set_sameB (by rw [HML.out]; exact hlt), ← HBB.out]
                      · rw [getD_set_otherB e]
                        exact HGET.out j (by omega)
                    clear lz lp8 HLPA HSTR HROW HOR HML HGET HBB q0 q1 q2 q3
                    go_wp2_with fail
                    go_roundw
                    case rel => exact ⟨i + 1, by omega, by go_num, HL8, HR8⟩
                    case measure => simp only [intOf]; omega
                  · have j1 : ¬ ((i : Nat) : Int) < ((vn : Nat) : Int) := by omega
                    have e0 : i = vn := by omega
                    subst e0
                    have hbs : bss m' = s := sl_ext (by rw [bss_length, hml, hsl]) (fun j hj => by rw [bss_sl]; exact hget j (by rw [bss_length, hml] at hj; exact hj))
                    have hgs := lp.gs (by show 4 ≤ 1000; decide) (by omega)
                    have HCK := hide (check_says wr ⟨some ⟨ub, uo, none⟩, 4, uc⟩ ⟨va, i, vc⟩ _ m' hgs.1 hgs.2)
                    rw [hbs] at HCK
                    have c0 := lp.k.c0
                    have c1 := lp.k.c1
                    have HLP := hide lp
                    have HML := hide hml
                    have HBS := hide hbs
                    clear hlm hor lp hget hgs hml hbs hsl HM0 HR0
                    unfold lfV Sl.val at *
                    simp only at *
                    go_wp2_with fail
                    refine HCK.out.mono ?_
                    rintro e w9 ⟨hc, hb9⟩
                    have lp9 := HLP.out.below hb9
                    rcases hc with ⟨hm, rfl⟩ | ⟨hm, rfl⟩
                    · have hgs := lp9.gs (by show 4 ≤ 1000; decide) (by rw [HML.out]; omega)
                      obtain ⟨W9, hst9, k9, hf9⟩ := fin_lf0 lp9.k0 lp9.e hgs.1 hgs.2
                      have htk0 := HTK0.out
                      have htk1 := HTK1.out
                      have hnu := HNU.out
                      rw [HP.out] at hnu
                      rw [← HSL.out] at htk0 htk1
                      have hgot := got_make HXB.out HXL.out htk0 htk1 hnu HSB.out hm
                      have HF : Hid (LoSays w xs (.returned (mk2 0 (lfV ⟨some ⟨ub, uo, none⟩, 4, uc⟩ ⟨va, i, vc⟩))) W9) := by
                        have h1 := hf9 (mk2 0)
                        rw [HBS.out] at h1
                        exact .inl ⟨_, _, hgot, h1⟩
                      have HST9 := hide hst9
                      have HK9 := hide k9
                      have d0 := lp9.k.c0
                      have d1 := lp9.k.c1
                      clear hst9 k9 hf9 hgot htk0 htk1 hnu hgs lp9 hb9 hm HLP HCK c0 c1 HZ
                      unfold lfV Sl.val at *
                      simp only at *
                      go_wp2_with (refine wpList_store _ rfl rfl 25 (.tmp 2) (.tmp 103) rfl (.pointer (some ⟨w.heap.size, 0, none⟩)) (.agg #[.slice (some ⟨ub, uo, none⟩) 4 uc, .slice va i vc]) rfl rfl W9 HST9.out ?_)
                      refine bodyPost_ret (lf_results1 (u := ⟨some ⟨ub, uo, none⟩, 4, uc⟩) (v := ⟨va, i, vc⟩) rfl HK9.out _ rfl rfl) rfl ?_
                      exact HF.out
                    · have hno : ¬ ∃ t s, Got xs t s := fun ⟨t, s', h⟩ => by
                        have h1 := (HNN.out t s' h).1
                        have h2 := HSN.out t s' h
                        subst h1 h2
                        exact hm h.1.may
                      obtain ⟨W9, hst9, k9, hf9⟩ := HZ.out w9 lp9.e lp9.k0 hno
                      have HST9 := hide hst9
                      have HK9 := hide k9
                      have HF := hide hf9
                      clear hst9 k9 hf9 hno lp9 hb9 hm HLP HCK c0 c1 HZ
                      go_wp2_with (refine wpList_store _ rfl rfl 25 (.tmp 2) (.tmp 102) rfl (.pointer (some ⟨w.heap.size, 0, none⟩)) (.agg #[.slice none 0 0, .slice none 0 0]) rfl rfl W9 HST9.out ?_)
                      refine bodyPost_ret (lf_results1 (u := Sl.nil) (v := Sl.nil) rfl HK9.out _ rfl rfl) rfl ?_
                      exact HF.out
    · have hno : ¬ ∃ t s, Got xs t s := fun ⟨t, s, h⟩ => by
        have h1 := (got_facts h).1
        rw [HTK0.out] at h1
        have h2 := congrArg Prod.fst (Option.some.inj h1)
        have h3 := (List.cons.inj h2).1
        have h4 : ((m : Nat) : Int) = ((76 : Nat) : Int) := congrArg It.n h3
        omega
      obtain ⟨W9, hst9, k9, hf9⟩ := HZ.out w2 HB2.out HK2.out hno
      have HST9 := hide hst9
      have HK9 := hide k9
      have HF := hide hf9
      have i1 : ¬ ((m : Nat) : Int) = 76 := by omega
      have i2 : (((m : Nat) : Int) != 76) = true := by simp; omega
      clear hst9 k9 hf9 hno HZ
      go_wp2_with (refine wpList_store _ rfl rfl 25 (.tmp 2) (.tmp 32) rfl (.pointer (some ⟨w.heap.size, 0, none⟩)) (.agg #[.slice none 0 0, .slice none 0 0]) rfl rfl W9 HST9.out ?_)
      refine bodyPost_ret (lf_results1 (u := Sl.nil) (v := Sl.nil) rfl HK9.out _ rfl rfl) rfl ?_
      exact HF.out
end Go.Proofs.Ytgieigpbbkeonaa
