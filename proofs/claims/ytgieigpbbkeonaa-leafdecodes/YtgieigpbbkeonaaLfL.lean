/-
  Layer 8: the document's Join.
-/
import Derived.Test.YtgieigpbbkeonaaLfK
namespace Go.Proofs.Ytgieigpbbkeonaa
open Go.RowKit

theorem ixI_drop (f : Int → Bool) {t : List Int} {m : Nat} (h : m < t.length) : ixI f (t.drop m) m = if f (t.getD m 0) = true then ((m : Nat) : Int) else ixI f (t.drop (m + 1)) (m + 1) := by
  have e : t.drop m = t.getD m 0 :: t.drop (m + 1) := by
    rw [List.drop_eq_getElem_cons h]
    simp [List.getD, h]
  rw [e, ixI]
theorem contains_take_snoc {t : List Int} {k : Nat} (h : k < t.length) (y : Int) : (t.take (k + 1)).contains y = ((t.take k).contains y || (t.getD k 0 == y)) := by
  have e : t.take (k + 1) = t.take k ++ [t.getD k 0] := by
    rw [List.take_succ_eq_append_getElem h]
    simp [List.getD, h]
  rw [e, Bool.eq_iff_iff]
  simp only [List.contains_iff_mem, List.mem_append, List.mem_singleton, Bool.or_eq_true, beq_iff_eq]
  exact or_congr Iff.rfl ⟨fun h => h.symm, fun h => h.symm⟩

theorem OwnN.off {w W : World} {v : Sl} {t : List Int} {q b o : Nat} (h : OwnN w v t) (f : Frm (fun k => k = q) w W) (ha : v.a = some ⟨b, o, none⟩) (hne : b ≠ q) : OwnN W v t := by
  refine Own.frame h (fun k hk => f.block k (Own.lt h hk) (fun e => ?_))
  rw [Sl.blk, ha] at hk
  have e2 : some b = some k := hk
  cases e2
  exact hne e
theorem Tb.join {D : Nat → Prop} {w wr w2 : World} {u v : Sl} {l : List Sb} {t : List Int} (t1 : Tb D w wr u v l) (hold : ∀ W, Below w.heap.size w W → Gb (Old D w) W v l) (p : Int) (f : Nat) (hf : f < 4) (hb : Below wr.heap.size wr w2) {b o cc : Nat} (ho : OwnN w2 ⟨some ⟨b, o, none⟩, 4, cc⟩ t) (hw : wr.heap.size ≤ b) : ∃ W3 W4 W5, (Instr.storeAt 22 (.pointer (some ⟨w.heap.size, 0, none⟩)) (.slice (some ⟨b, o, none⟩) 4 cc)).run Try.prog w2 = .ok () W3 ∧ LfBlk W3 w.heap.size (.slice (some ⟨b, o, none⟩) 4 cc) v.val ∧ (Instr.storeAt 3 (.pointer (some ⟨b, o + f, none⟩)) (.int .i64 p)).run Try.prog W3 = .ok () W4 ∧ LfBlk W4 w.heap.size (.slice (some ⟨b, o, none⟩) 4 cc) v.val ∧ (Instr.storeAt 25 (.pointer (some ⟨w.heap.size + 1, 0, none⟩)) (lfV ⟨some ⟨b, o, none⟩, 4, cc⟩ v)).run Try.prog W4 = .ok () W5 ∧ LfBlk W5 (w.heap.size + 1) (.slice (some ⟨b, o, none⟩) 4 cc) v.val ∧ JnIs D w l ⟨t.set f p, 0⟩ (.returned (.tuple #[lfV ⟨some ⟨b, o, none⟩, 4, cc⟩ v, .int .i64 0])) W5 := by
  have t2 := t1.below hb
  have hsz := t1.sz
  obtain ⟨W3, hst3, k3, f3⟩ := st_itl w2 _ _ _ t2.k1 ⟨some ⟨b, o, none⟩, 4, cc⟩
  have o3 := ho.off f3 rfl (by omega)
  have r3 := t2.k2.off f3 (by omega)
  have e3 : Below w.heap.size w W3 := t2.e.trans (f3.below t2.e.size (fun k hk => by rw [hk]; exact Nat.le_refl _))
  obtain ⟨W4, hst4, o4, f4⟩ := st_num W3 b o 4 cc t o3 f hf p
  have k4 := k3.off f4 (by omega)
  have r4 := r3.off f4 (by omega)
  have e4 : Below w.heap.size w W4 := e3.trans (f4.below e3.size (fun k hk => by rw [hk]; omega))
  obtain ⟨W5, hst5, k5, f5⟩ := st_lf W4 _ _ _ r4 ⟨some ⟨b, o, none⟩, 4, cc⟩ v
  have o5 := o4.off f5 rfl (by omega)
  have e5 : Below w.heap.size w W5 := e4.trans (f5.below e4.size (fun k hk => by rw [hk]; omega))
  refine ⟨W3, W4, W5, hst3, k3, hst4, k4, hst5, k5, e5, _, v, rfl, o5.gi (fun k hk => ?_) (by show 4 ≤ _; omega), hold W5 e5⟩
  have e : some b = some k := hk
  cases e
  exact .inr (by omega)

set_option maxHeartbeats 8000000 in
set_option maxRecDepth 100000 in
theorem rjoin_on {D : Nat → Prop} (w : World) (u v : Sl) (t : List Int) (l : List Sb) (hi : Gi D w u t) (hg : Gb D w v l) (p : Int) (r : Sl) (live : List Int) (hr : Gi D w r live) (hu : u.len = 4) (h1 : 1 ≤ p) (h2 : p ≤ 2147483647) (X : Js) (hXi : p ∈ t → X = ⟨t, 0⟩) (hX8 : ¬ p ∈ t → freeI t live < 0 → X = ⟨t, 8⟩) (hX0 : ¬ p ∈ t → ∀ f : Nat, freeI t live = ((f : Nat) : Int) → X = ⟨t.set f p, 0⟩) :
    Calls Try.prog 21 #[lfV u v, .int .i64 p, r.val] w fun e w' => JnIs D w l X e w' := by
  have hT := Tb.start u hg
  have c0 := hT.k1.c0
  have c1 := hT.k1.c1
  have htl : t.length = 4 := by rw [hi.len]; exact hu
  have hll := hr.len
  have hrb := hr.big
  have HI := hide (hi.below hT.e (Nat.le_refl _))
  have HR := hide (hr.below hT.e (Nat.le_refl _))
  have HT := hide hT
  have HOI : Hid (∀ W, Below w.heap.size w W → Gi (Old D w) W u t) := fun W hB => hi.old hB
  have HOB : Hid (∀ W, Below w.heap.size w W → Gb (Old D w) W v l) := fun W hB => hg.old hB
  have HXI := hide hXi
  have HX8 := hide hX8
  have HX0 := hide hX0
  have HFIN : Hid (∀ (w1 : World) (c : Int), Tb D w w1 u v l → X = ⟨t, c⟩ → ∃ W, (Instr.storeAt 25 (.pointer (some ⟨w.heap.size + 1, 0, none⟩)) (lfV u v)).run Try.prog w1 = .ok () W ∧ LfBlk W (w.heap.size + 1) u.val v.val ∧ JnIs D w l X (.returned (.tuple #[lfV u v, .int .i64 c])) W) := by
    intro w1 c t1 hX
    obtain ⟨W, hst, k, f, hB⟩ := t1.lay v
    rw [hX]
    exact ⟨W, hst, k, hB, u, v, rfl, hi.old hB, hg.old hB⟩
  clear hi hr hg hT hXi hX8 hX0
  obtain ⟨a, len, cap⟩ := v
  obtain ⟨ua, ul, uc⟩ := u
  obtain ⟨ra, rl, rc⟩ := r
  replace hu : ul = 4 := hu
  subst hu
  unfold lfV Sl.val at *
  simp only at *
  have i1 : ¬ p < 1 := by omega
  have i2 : ¬ 2147483647 < p := by omega
  go_enter Try.func21, Try.ntmps21
  go_wp2_with fail
  generalize (w.alloc (.cells #[.slice ua 4 uc, .slice a len cap] 25)).alloc (.cells #[.slice none 0 0, .slice none 0 0] 25) = W at *
  have H0 := hide (Below.refl W.heap.size W)
  obtain ⟨ub, uo, hua, _⟩ := HI.out.cell 0 (by show 0 < 4; omega)
  replace hua : ua = some ⟨ub, uo, none⟩ := hua
  subst hua
  have HCI : Hid (∀ i, i < 4 → W.cell? ⟨ub, uo + i, none⟩ = some (.int .i64 (t.getD i 0))) := by
    intro i hi
    obtain ⟨b', o', ha, hc⟩ := HI.out.cell i hi
    simp only [Option.some.injEq, Addr.mk.injEq, and_true] at ha
    obtain ⟨rfl, rfl⟩ := ha
    exact hc
  clear c0 c1
  go_loopw [8, 9, 10] (fun fv dv iv wr => ∃ c : Nat, c ≤ 4 ∧ iv = .int .i64 (((c : Nat) : Int) - 1) ∧ fv = .int .i64 (ixI (fun x => x == 0) (t.drop c) c) ∧ dv = .int .i64 (ixI (fun x => !(live.contains x)) (t.drop c) c) ∧ Hid (Below W.heap.size W wr) ∧ Hid (∀ j, c ≤ j → j < 4 → t.getD j 0 ≠ p)) (fun _ _ iv _ => (intOf iv + 1).toNat)
  case atStart =>
    have e : t.drop 4 = [] := List.drop_of_length_le (by omega)
    exact ⟨4, by omega, rfl, by rw [e]; rfl, by rw [e]; rfl, H0, fun j h h' => by omega⟩
  case round =>
    obtain ⟨c, hc4, rfl, rfl, rfl, hbr, hne⟩ := hrel
    have HTr := hide (HT.out.below hbr.out)
    have c0 := HTr.out.k1.c0
    have c1 := HTr.out.k1.c1
    unfold Sl.val at c0 c1
    simp only at c0 c1
    cases c with
    | zero =>
      have HIr := hide (HI.out.below hbr.out (Nat.le_refl _))
      have d2 := (HTr.out.k1.below (below_alloc _ (.cells #[] 3))).c0
      unfold Sl.val at d2
      simp only at d2
      have hnp : ¬ p ∈ t := by
        intro hm
        obtain ⟨j, hj, e⟩ := mem_at hm
        exact hne.out j (Nat.zero_le _) (by omega) e
      have hfl := freeI_lt (t := t) live
      rw [List.drop_zero]
      have hfe : freeI t live = if 0 ≤ ixI (fun x => x == 0) t 0 then ixI (fun x => x == 0) t 0 else ixI (fun x => !(live.contains x)) t 0 := rfl
      obtain ⟨F0, hF0⟩ : ∃ F0, F0 = ixI (fun x => x == 0) t 0 := ⟨_, rfl⟩
      obtain ⟨D0, hD0⟩ : ∃ D0, D0 = ixI (fun x => !(live.contains x)) t 0 := ⟨_, rfl⟩
      rw [← hF0, ← hD0] at hfe ⊢
      clear hF0 hD0 hne
      by_cases hf : F0 < 0
      · rw [if_neg (by omega)] at hfe
        by_cases hd : D0 < 0
        · obtain ⟨W2, hst, k2, hF⟩ := HFIN.out _ 8 HTr.out (HX8.out hnp (by omega))
          have HST2 := hide hst
          have HK := hide k2
          have HF := hide hF
          clear hst k2 hF hfe hfl hnp
          unfold Sl.val at HK
          go_wp2_with (refine wpList_store _ rfl rfl 25 (.tmp 6) (.tmp 66) rfl (.pointer (some ⟨w.heap.size + 1, 0, none⟩)) (.agg #[.slice (some ⟨ub, uo, none⟩) 4 uc, .slice a len cap]) rfl rfl W2 HST2.out ?_)
          refine bodyPost_ret (lf_results1 (u := ⟨some ⟨ub, uo, none⟩, 4, uc⟩) (v := ⟨a, len, cap⟩) rfl HK.out _ rfl rfl) rfl ?_
          exact HF.out
        · obtain ⟨f, rfl⟩ := Int.eq_ofNat_of_zero_le (by omega : 0 ≤ D0)
          have hf4 : f < 4 := by omega
          have HX := hide (HX0.out hnp f hfe)
          clear hfe hfl hnp HXI HX8 HX0 HFIN HOI HI HR HT HCI H0
          go_wp2_with (at_builtin; refine wpList_append_newN _ rfl (.tmp 67) (.tmp 69) rfl ⟨some ⟨ub, uo, none⟩, 4, uc⟩ t rfl rfl HIr.out ?_)
          intro u2 w2 ho hl2 hb2 hk2
          obtain ⟨b, o, ha⟩ := ho.pos (by rw [hl2]; show 0 < 4; omega)
          obtain ⟨sa, sn, sc⟩ := u2
          replace ha : sa = some ⟨b, o, none⟩ := ha
          replace hl2 : sn = 4 := hl2
          subst ha
          subst hl2
          obtain ⟨W3, W4, W5, hst3, k3, hst4, k4, hst5, k5, hF⟩ := HTr.out.join HOB.out p f hf4 hb2 ho (hk2 b rfl)
          have g0 := k3.c0
          have g1 := k4.c0
          have g2 := k4.c1
          have HST3 := hide hst3
          have HST4 := hide hst4
          have HST5 := hide hst5
          have HK5 := hide k5
          have HF : Hid (JnIs D w l X (.returned (.tuple #[lfV ⟨some ⟨b, o, none⟩, 4, sc⟩ ⟨a, len, cap⟩, .int .i64 0])) W5) := by
            show JnIs _ _ _ _ _ _
            rw [HX.out]
            exact hF
          clear ho hb2 hk2 k3 k4 k5 hst3 hst4 hst5 hF HTr HOB HIr HX c0 c1 d2
          unfold lfV Sl.val at *
          simp only at *
          go_wp2_with (first | refine wpList_store _ rfl rfl 22 (.tmp 71) (.tmp 70) rfl (.pointer (some ⟨w.heap.size, 0, none⟩)) (.slice (some ⟨b, o, none⟩) 4 sc) rfl rfl W3 HST3.out ?_ | refine wpList_store _ rfl rfl 3 (.tmp 76) (.tmp 75) rfl (.pointer (some ⟨b, o + f, none⟩)) (.int .i64 p) rfl rfl W4 HST4.out ?_ | refine wpList_store _ rfl rfl 25 (.tmp 6) (.tmp 77) rfl (.pointer (some ⟨w.heap.size + 1, 0, none⟩)) (.agg #[.slice (some ⟨b, o, none⟩) 4 sc, .slice a len cap]) rfl rfl W5 HST5.out ?_)
          refine bodyPost_ret (lf_results1 (u := ⟨some ⟨b, o, none⟩, 4, sc⟩) (v := ⟨a, len, cap⟩) rfl HK5.out _ rfl rfl) rfl ?_
          exact HF.out
      · rw [if_pos (by omega)] at hfe
        obtain ⟨f, rfl⟩ := Int.eq_ofNat_of_zero_le (by omega : 0 ≤ F0)
        have hf4 : f < 4 := by omega
        have HX := hide (HX0.out hnp f hfe)
        clear hfe hfl hnp HXI HX8 HX0 HFIN HOI HI HR HT HCI H0
        go_wp2_with (at_builtin; refine wpList_append_newN _ rfl (.tmp 67) (.tmp 69) rfl ⟨some ⟨ub, uo, none⟩, 4, uc⟩ t rfl rfl HIr.out ?_)
        intro u2 w2 ho hl2 hb2 hk2
        obtain ⟨b, o, ha⟩ := ho.pos (by rw [hl2]; show 0 < 4; omega)
        obtain ⟨sa, sn, sc⟩ := u2
        replace ha : sa = some ⟨b, o, none⟩ := ha
        replace hl2 : sn = 4 := hl2
        subst ha
        subst hl2
        obtain ⟨W3, W4, W5, hst3, k3, hst4, k4, hst5, k5, hF⟩ := HTr.out.join HOB.out p f hf4 hb2 ho (hk2 b rfl)
        have g0 := k3.c0
        have g1 := k4.c0
        have g2 := k4.c1
        have HST3 := hide hst3
        have HST4 := hide hst4
        have HST5 := hide hst5
        have HK5 := hide k5
        have HF : Hid (JnIs D w l X (.returned (.tuple #[lfV ⟨some ⟨b, o, none⟩, 4, sc⟩ ⟨a, len, cap⟩, .int .i64 0])) W5) := by
          show JnIs _ _ _ _ _ _
          rw [HX.out]
          exact hF
        clear ho hb2 hk2 k3 k4 k5 hst3 hst4 hst5 hF HTr HOB HIr HX c0 c1 d2
        unfold lfV Sl.val at *
        simp only at *
        go_wp2_with (first | refine wpList_store _ rfl rfl 22 (.tmp 71) (.tmp 70) rfl (.pointer (some ⟨w.heap.size, 0, none⟩)) (.slice (some ⟨b, o, none⟩) 4 sc) rfl rfl W3 HST3.out ?_ | refine wpList_store _ rfl rfl 3 (.tmp 76) (.tmp 75) rfl (.pointer (some ⟨b, o + f, none⟩)) (.int .i64 p) rfl rfl W4 HST4.out ?_ | refine wpList_store _ rfl rfl 25 (.tmp 6) (.tmp 77) rfl (.pointer (some ⟨w.heap.size + 1, 0, none⟩)) (.agg #[.slice (some ⟨b, o, none⟩) 4 sc, .slice a len cap]) rfl rfl W5 HST5.out ?_)
        refine bodyPost_ret (lf_results1 (u := ⟨some ⟨b, o, none⟩, 4, sc⟩) (v := ⟨a, len, cap⟩) rfl HK5.out _ rfl rfl) rfl ?_
        exact HF.out
    | succ m =>
      have e : (((m + 1 : Nat) : Int) - 1) = ((m : Nat) : Int) := by omega
      rw [e]
      have ci := cell_below (HCI.out m (by omega)) hbr.out
      obtain ⟨y, hy⟩ : ∃ y, y = t.getD m 0 := ⟨_, rfl⟩
      rw [← hy] at ci
      by_cases hyp : y = p
      · have hX : X = ⟨t, 0⟩ := HXI.out (by rw [← hyp, hy]; exact mem_getD (by omega))
        obtain ⟨W2, hst, k2, hF⟩ := HFIN.out _ 0 HTr.out hX
        have HST2 := hide hst
        have HK := hide k2
        have HF := hide hF
        clear hX hst k2 hF hy
        unfold Sl.val at HK
        go_wp2_with (refine wpList_store _ rfl rfl 25 (.tmp 6) (.tmp 31) rfl (.pointer (some ⟨w.heap.size + 1, 0, none⟩)) (.agg #[.slice (some ⟨ub, uo, none⟩) 4 uc, .slice a len cap]) rfl rfl W2 HST2.out ?_)
        refine bodyPost_ret (lf_results1 (u := ⟨some ⟨ub, uo, none⟩, 4, uc⟩) (v := ⟨a, len, cap⟩) rfl HK.out _ rfl rfl) rfl ?_
        exact HF.out
      · have HY := hide hy
        clear hy
        go_wp2_with fail
        go_loopw [11, 12] (fun lv kv wz => ∃ k : Nat, k ≤ rl ∧ kv = .int .i64 ((k : Nat) : Int) ∧ lv = .bool ((live.take k).contains y) ∧ Hid (Below W.heap.size W wz)) (fun _ kv _ => rl - (intOf kv).toNat)
        case atStart => exact ⟨0, Nat.zero_le _, rfl, rfl, hbr⟩
        case round =>
          rename World => wo
          obtain ⟨k, hk, rfl, rfl, hbz⟩ := hrel
          rcases Nat.lt_or_ge k rl with hlk | hgk
          · have i3 : ((k : Nat) : Int) < ((rl : Nat) : Int) := by omega
            obtain ⟨rb, ro, ha, hx⟩ := HR.out.cell k hlk
            replace ha : ra = some ⟨rb, ro, none⟩ := ha
            subst ha
            have HKz := hide (HT.out.k1.below hbz.out)
            have HCx := hide (cell_below hx hbz.out)
            have HCy : Hid (wo.cell? ⟨ub, uo + m, none⟩ = some (.int .i64 y)) := by rw [HY.out]; exact cell_below (HCI.out m (by omega)) hbz.out
            have hq := contains_take_snoc (t := live) (k := k) (by rw [hll]; exact hlk) y
            clear hx c0 c1 ci HTr
            obtain ⟨q, hqe⟩ : ∃ q, q = (live.take k).contains y := ⟨_, rfl⟩
            rw [← hqe] at hq ⊢
            clear hqe
            cases q with
            | true =>
              have HQ : Hid ((live.take (k + 1)).contains y = true) := by show _ = _; rw [hq]; rfl
              clear hq
              go_wp2_with fail
              refine Pl.region_is (ops := Pl.find 13 ((Try.f21.body).getD .skip)) (by kernel_rfl) ?_
              refine join13A _ w.heap.size rb ro rl rc m k (by rfl) rfl (by rfl) (by rfl) (by rfl) (by rfl) (by rfl) ?_
              intro u1 w2 hb2
              simp only [Act.put, List.setIfInBounds_toArray, List.set_cons_zero, List.set_cons_succ]
              have HB2 := hide (rBelow hbz.out hb2)
              clear hb2 HKz HCx HCy
              go_wp2_with fail
              go_roundw
              case rel => exact ⟨k + 1, by omega, by go_num, by rw [HQ.out], HB2⟩
              case measure => simp only [intOf]; omega
            | false =>
              by_cases hxy : live.getD k 0 = y
              · have HQ : Hid ((live.take (k + 1)).contains y = true) := by
                  show _ = _
                  rw [hq, hxy]
                  simp
                have HXY := hide hxy
                clear hq hxy
                go_wp2_with fail
                refine Pl.region_is (ops := Pl.find 13 ((Try.f21.body).getD .skip)) (by kernel_rfl) ?_
                refine join13B _ w.heap.size ub uo 4 uc rb ro rl rc m k _ (live.getD k 0) y (by omega) hlk HKz.out HCx.out HCy.out HXY.out (by rfl) rfl (by rfl) (by rfl) (by rfl) (by rfl) (by rfl) ?_
                intro u1 w2 hb2
                simp only [Act.put, List.setIfInBounds_toArray, List.set_cons_zero, List.set_cons_succ]
                have HB2 := hide (rBelow hbz.out hb2)
                clear hb2 HKz HCx HCy
                go_wp2_with fail
                go_roundw
                case rel => exact ⟨k + 1, by omega, by go_num, by rw [HQ.out], HB2⟩
                case measure => simp only [intOf]; omega
              · have HQ : Hid ((live.take (k + 1)).contains y = false) := by
                  show _ = _
                  rw [hq]
                  simpa using hxy
                have HXY := hide hxy
                clear hq hxy
                go_wp2_with fail
                refine Pl.region_is (ops := Pl.find 13 ((Try.f21.body).getD .skip)) (by kernel_rfl) ?_
                refine join13C _ w.heap.size ub uo 4 uc rb ro rl rc m k _ (live.getD k 0) y (by omega) hlk HKz.out HCx.out HCy.out HXY.out (by rfl) rfl (by rfl) (by rfl) (by rfl) (by rfl) (by rfl) ?_
                intro u1 w2 hb2
                simp only [Act.put, List.setIfInBounds_toArray, List.set_cons_zero, List.set_cons_succ]
                have HB2 := hide (rBelow hbz.out hb2)
                clear hb2 HKz HCx HCy
                go_wp2_with fail
                go_roundw
                case rel => exact ⟨k + 1, by omega, by go_num, by rw [HQ.out], HB2⟩
                case measure => simp only [intOf]; omega
          · have i3 : ¬ ((k : Nat) : Int) < ((rl : Nat) : Int) := by omega
            have HNE : Hid (∀ j, m ≤ j → j < 4 → t.getD j 0 ≠ p) := by
              intro j hj hj4
              by_cases e : j = m
              · rw [e, ← HY.out]; exact hyp
              · exact hne.out j (by omega) hj4
            have z0 := (HT.out.k1.below hbz.out).c0
            have zy := cell_below (HCI.out m (by omega)) hbz.out
            rw [← HY.out] at zy
            unfold Sl.val at z0
            simp only at z0
            have s1 := ixI_drop (fun x => x == 0) (t := t) (m := m) (by omega)
            have s2 := ixI_drop (fun x => !(live.contains x)) (t := t) (m := m) (by omega)
            rw [← HY.out] at s1 s2
            rw [List.take_of_length_le (by rw [hll]; exact hgk)]
            obtain ⟨F0, hF0⟩ : ∃ F0, F0 = ixI (fun x => x == 0) (t.drop (m + 1)) (m + 1) := ⟨_, rfl⟩
            obtain ⟨D0, hD0⟩ : ∃ D0, D0 = ixI (fun x => !(live.contains x)) (t.drop (m + 1)) (m + 1) := ⟨_, rfl⟩
            rw [← hF0] at s1 ⊢
            rw [← hD0] at s2 ⊢
            obtain ⟨q, hqe⟩ : ∃ q, q = live.contains y := ⟨_, rfl⟩
            rw [← hqe] at s2 ⊢
            clear hF0 hD0 hqe c0 c1 ci HTr hne
            by_cases hy0 : y = 0
            · have HS1 : Hid (ixI (fun x => x == 0) (t.drop m) m = ((m : Nat) : Int)) := by show _ = _; rw [s1, if_pos (by simp [hy0])]
              clear s1
              cases q with
              | true =>
                have HS2 : Hid (ixI (fun x => !(live.contains x)) (t.drop m) m = D0) := by show _ = _; rw [s2]; rfl
                clear s2
                go_wp2_with fail
                go_roundw
                case rel => exact ⟨m, by omega, by go_num, by rw [HS1.out], by rw [HS2.out], hbz, HNE⟩
                case measure => simp only [intOf]; omega
              | false =>
                have HS2 : Hid (ixI (fun x => !(live.contains x)) (t.drop m) m = ((m : Nat) : Int)) := by show _ = _; rw [s2]; rfl
                clear s2
                go_wp2_with fail
                go_roundw
                case rel => exact ⟨m, by omega, by go_num, by rw [HS1.out], by rw [HS2.out], hbz, HNE⟩
                case measure => simp only [intOf]; omega
            · have HS1 : Hid (ixI (fun x => x == 0) (t.drop m) m = F0) := by show _ = _; rw [s1, if_neg (by simp [hy0])]
              clear s1
              cases q with
              | true =>
                have HS2 : Hid (ixI (fun x => !(live.contains x)) (t.drop m) m = D0) := by show _ = _; rw [s2]; rfl
                clear s2
                go_wp2_with fail
                go_roundw
                case rel => exact ⟨m, by omega, by go_num, by rw [HS1.out], by rw [HS2.out], hbz, HNE⟩
                case measure => simp only [intOf]; omega
              | false =>
                have HS2 : Hid (ixI (fun x => !(live.contains x)) (t.drop m) m = ((m : Nat) : Int)) := by show _ = _; rw [s2]; rfl
                clear s2
                go_wp2_with fail
                go_roundw
                case rel => exact ⟨m, by omega, by go_num, by rw [HS1.out], by rw [HS2.out], hbz, HNE⟩
                case measure => simp only [intOf]; omega

theorem rjoin_any {D : Nat → Prop} (w : World) (u v : Sl) (t : List Int) (l : List Sb) (hi : Gi D w u t) (hg : Gb D w v l) (p : Int) (r : Sl) (live : List Int) (hr : Gi D w r live) (hu : u.len = 4) :
    Calls Try.prog 21 #[lfV u v, .int .i64 p, r.val] w fun e w' => JnIs D w l (joinI t p live) e w' := by
  by_cases hp : p < 1 ∨ 2147483647 < p
  · have e : joinI t p live = ⟨t, 1⟩ := if_pos hp
    rw [e]
    exact rjoin_arg w u v t l hi hg p r hp
  · refine rjoin_on w u v t l hi hg p r live hr hu (by omega) (by omega) _ (fun hm => ?_) (fun hm hf => ?_) (fun hm f hf => ?_)
    · unfold joinI
      rw [if_neg hp, if_pos (by simpa using hm)]
    · unfold joinI
      rw [if_neg hp, if_neg (by simpa using hm), if_pos hf]
    · unfold joinI
      rw [if_neg hp, if_neg (by simpa using hm), if_neg (by omega), hf]
      rfl
end Go.Proofs.Ytgieigpbbkeonaa
