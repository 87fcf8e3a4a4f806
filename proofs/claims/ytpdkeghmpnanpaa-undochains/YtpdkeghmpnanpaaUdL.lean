/-
  The document's Put, Drop, Get.
-/
import Derived.Test.YtpdkeghmpnanpaaUdK
namespace Go.Proofs.Ytpdkeghmpnanpaa
open Go.RowKit

set_option maxHeartbeats 4000000 in
set_option maxRecDepth 100000 in
theorem rDrop_any (a : Option Addr) (n cap : Nat) (l : List Ux) (w : World) (h : Us w a n l) (hbig : n ≤ 1000) (c : Int) :
    Calls Try.prog 17 #[.slice a n cap, .int .i64 c] w fun e w' => ∃ s : Sl, e = .returned (.tuple #[s.val, .int .i64 (dropU (uns l) c).2]) ∧ RowU w' s (dropU (uns l) c).1 ∧ Below w.heap.size w w' := by
  have HUL : Hid ((uns l).length = n) := by show _ = _; rw [uns_len, h.len]
  have HAT := hide (rAt_any a n cap l w h (by omega) c)
  have HE := hide h
  clear h
  cases hem : (atU (uns l) c).emp with
  | true =>
    have hd : dropU (uns l) c = (uns l, 3) := by unfold dropU; rw [if_pos hem]
    rw [hd]
    have HEM := hide hem
    clear hd hem
    go_enter Try.func17, Try.ntmps17
    go_wp2_with fail
    refine HAT.out.mono ?_
    rintro e w1 ⟨x, rfl, hxu, hxm, hb1⟩
    have hfx := (HE.out.mz hxm).1
    have HCL := hide (empty_is (m := true) (by rw [hxu]; exact HEM.out) w1 (hfx.keep hb1 (Nat.le_refl _)))
    have HB1 := hide hb1
    clear hxu hfx hxm hb1
    go_wp2_with fail
    refine HCL.out.mono ?_
    rintro e w2 ⟨rfl, hb2⟩
    have HB2 := hide (rBelow HB1.out hb2)
    clear hb2
    go_wp2_with fail
    go_ret2
    exact ⟨⟨a, n, cap⟩, rfl, ⟨l, HE.out.keep HB2.out (Nat.le_refl _), rfl⟩, HB2.out⟩
  | false =>
    have hc := atU_used hem
    rw [HUL.out] at hc
    have hd : dropU (uns l) c = ((uns l).set (c - 1).toNat zeroU, 0) := by unfold dropU; rw [if_neg (by rw [hem]; decide)]
    rw [hd]
    have HEM := hide hem
    clear hd hem
    obtain ⟨k, rfl⟩ : ∃ k : Nat, c = (k : Int) + 1 := ⟨(c - 1).toNat, by omega⟩
    have ek : ((k : Int) + 1 - 1).toNat = k := by omega
    rw [ek]
    have hk : k < n := by omega
    clear hc ek
    go_enter Try.func17, Try.ntmps17
    go_wp2_with fail
    refine HAT.out.mono ?_
    rintro e w1 ⟨x, rfl, hxu, hxm, hb1⟩
    have hfx := (HE.out.mz hxm).1
    have HCL := hide (empty_is (m := false) (by rw [hxu]; exact HEM.out) w1 (hfx.keep hb1 (Nat.le_refl _)))
    have HB1 := hide hb1
    clear hxu hfx hxm hb1
    go_wp2_with fail
    refine HCL.out.mono ?_
    rintro e w2 ⟨rfl, hb2⟩
    have HB2 := hide (rBelow HB1.out hb2)
    have HSE := hide (rSet_any a n cap l w2 (HE.out.keep HB2.out (Nat.le_refl _)) hbig k hk Ux.zero (fs_nil _) zeroU_fits)
    clear hb2
    go_wp2_with fail
    refine HSE.out.mono ?_
    rintro e w3 ⟨⟨sa, sl, sc⟩, rfl, hrow, hb3⟩
    have HROW := hide hrow
    have HB3 := hide (rBelow HB2.out hb3)
    clear hrow hb3
    simp only [Sl.val]
    go_wp2_with fail
    go_ret2
    exact ⟨⟨sa, sl, sc⟩, rfl, HROW.out, HB3.out⟩

theorem hasNo_yes {l : List Un} {n : Int} (h : hasNo l n = true) : ¬ ∀ j, j < l.length → (l.getD j zeroU).no ≠ n := by
  intro hall
  unfold hasNo at h
  rw [idxU_no (p := fun y => y.no == n) (fun j hj => beq_eq_false_iff_ne.2 (hall j hj))] at h
  cases h

set_option maxHeartbeats 4000000 in
set_option maxRecDepth 100000 in
theorem rPut_any (a : Option Addr) (n cap : Nat) (l : List Ux) (w : World) (h : Us w a n l) (hbig : n ≤ 1000) (x : Ux) (hx : Fs w x.a x.n x.c x.u.row.xs) (hf : x.u.fits) :
    Calls Try.prog 15 #[.slice a n cap, x.val] w fun e w' => ∃ s : Sl, e = .returned (.tuple #[s.val, .int .i64 (putU (uns l) x.u).n, .int .i64 (putU (uns l) x.u).e]) ∧ RowU w' s (putU (uns l) x.u).l ∧ Below w.heap.size w w' := by
  have HUL : Hid ((uns l).length = n) := by show _ = _; rw [uns_len, h.len]
  have HA := hide (below_alloc w (.cells #[.int .i64 x.u.tx, .int .i64 x.u.no, .int .i64 x.u.prev, .int .i64 x.u.kind, .int .i64 x.u.page, .int .i64 x.u.slot, .float .f64 x.u.row.key, .bool x.u.row.dead, .slice x.a x.n x.c, .int .i64 x.u.row.wr, .int .i64 x.u.row.cell, .int .i64 x.u.row.no] 30))
  have HBK := hide (unBlk_new w x.u (.slice x.a x.n x.c))
  have HL0 := hide (load_un _ x.u (.slice x.a x.n x.c) ⟨_, _, _, rfl⟩ _ HBK.out)
  have HMY := hide (refMayU_any x.u x.a x.n x.c _ (hx.keep HA.out (Nat.le_refl _)) hf.row)
  have hval : x.u.val (.slice x.a x.n x.c) = x.val := rfl
  rw [hval] at HL0 HMY
  have HE := hide h
  have HX := hide hx
  have HXF := hide hf
  clear h hx hf hval
  cases hmy : x.u.may with
  | false =>
    have hpu : putU (uns l) x.u = ⟨uns l, 0, 1⟩ := by unfold putU; rw [if_pos hmy]
    rw [hpu]
    rw [hmy] at HMY
    clear hpu hmy
    unfold Ux.val Un.val
    go_enter Try.func15, Try.ntmps15
    go_wp2_with (refine wpList_load _ rfl 30 (.tmp 3) rfl (.pointer (some ⟨w.heap.size, 0, none⟩)) x.val rfl HL0.out ?_)
    refine HMY.out.mono ?_
    rintro e w1 ⟨rfl, hb1⟩
    have HB1 := hide (rBelow HA.out hb1)
    have HBK1 := hide (HBK.out.keep hb1)
    clear hb1 HA HBK HL0 HMY
    go_wp2_with fail
    go_ret3
    exact ⟨⟨a, n, cap⟩, rfl, ⟨l, HE.out.keep HB1.out (Nat.le_refl _), rfl⟩, HB1.out⟩
  | true =>
    rw [hmy] at HMY
    cases hhn : hasNo (uns l) x.u.no with
    | true =>
      have hpu : putU (uns l) x.u = ⟨uns l, 0, 1⟩ := by unfold putU; rw [if_neg (by rw [hmy]; decide), if_pos hhn]
      rw [hpu]
      have HHN := hide (hasNo_yes hhn)
      clear hpu hmy hhn
      unfold Ux.val Un.val
      go_enter Try.func15, Try.ntmps15
      go_wp2_with (refine wpList_load _ rfl 30 (.tmp 3) rfl (.pointer (some ⟨w.heap.size, 0, none⟩)) x.val rfl HL0.out ?_)
      refine HMY.out.mono ?_
      rintro e w1 ⟨rfl, hb1⟩
      have HB1 := hide (rBelow HA.out hb1)
      have HBK1 := hide (HBK.out.keep hb1)
      clear hb1 HA HBK HL0 HMY
      go_wp2_with fail
      go_loopw [7] (fun iv wr => ∃ i : Nat, i ≤ n ∧ iv = .int .i64 (i : Nat) ∧ Hid (∀ j, j < i → ((uns l).getD j zeroU).no ≠ x.u.no) ∧ Hid (UnBlk wr w.heap.size x.u (.slice x.a x.n x.c)) ∧ Hid (Below w.heap.size w wr)) (fun iv _ => n - (intOf iv).toNat)
      case atStart => exact ⟨0, Nat.zero_le _, rfl, (fun j hj => absurd hj (Nat.not_lt_zero _)), HBK1, HB1⟩
      case round =>
        obtain ⟨i, hi, rfl, hno, hbk, hbr⟩ := hrel
        rcases Nat.lt_or_ge i n with hlt | hge
        · have i1 : ((i : Nat) : Int) < ((n : Nat) : Int) := by omega
          obtain ⟨b1, off, rfl, hat⟩ := (HE.out.keep hbr.out (Nat.le_refl _)).at' i hlt
          have hyu : (uns l).getD i zeroU = (l.getD i Ux.zero).u := uns_get l i
          generalize l.getD i Ux.zero = y at *
          have HAT := hide hat
          have HYU := hide hyu
          clear hat hyu
          go_wp2_with fail
          refine Pl.region_is (ops := Pl.find 6 ((Try.f15.body).getD .skip)) (by kernel_rfl) ?_
          by_cases hq : y.u.no = x.u.no
          · refine rput6T _ _ b1 off cap n i w.heap.size hlt y x HAT.out hbk.out hq (Below.refl _ _) (by rfl) (by rfl) (by rfl) (by rfl) (by rfl) ?_
            intro u w4 hb4
            simp only [Act.put, List.setIfInBounds_toArray, List.set_cons_zero, List.set_cons_succ]
            have HB4 := hide (rBelow hbr.out hb4)
            clear hb4 hq
            go_wp2_with fail
            go_ret3
            exact ⟨⟨some ⟨b1, off, none⟩, n, cap⟩, rfl, ⟨l, HE.out.keep HB4.out (Nat.le_refl _), rfl⟩, HB4.out⟩
          · refine rput6F _ _ b1 off cap n i w.heap.size hlt y x HAT.out hbk.out hq (Below.refl _ _) (by rfl) (by rfl) (by rfl) (by rfl) (by rfl) ?_
            intro u w4 hb4
            simp only [Act.put, List.setIfInBounds_toArray, List.set_cons_zero, List.set_cons_succ]
            have HB4 := hide (rBelow hbr.out hb4)
            have HBK4 := hide (hbk.out.keep hb4)
            have HN : Hid (∀ j, j < i + 1 → ((uns l).getD j zeroU).no ≠ x.u.no) := by
              intro j hj
              by_cases e : j = i
              · rw [e, HYU.out]; exact hq
              · exact hno.out j (by omega)
            clear hb4 hq hno
            go_wp2_with fail
            go_roundw
            case rel => exact ⟨i + 1, by omega, by go_num, HN, HBK4, HB4⟩
            case measure => simp only [intOf]; omega
        · have i1 : ¬ ((i : Nat) : Int) < ((n : Nat) : Int) := by omega
          exact absurd (fun j hj => hno.out j (by rw [HUL.out] at hj; omega)) HHN.out
    | false =>
      have HHN : Hid (∀ j, j < (uns l).length → ((uns l).getD j zeroU).no ≠ x.u.no) := fun j hj => hasNo_no hhn hj
      cases hfi : (uns l).findIdx? Un.emp with
      | none =>
        have HFR : Hid (freeU (uns l) = 0) := by show _ = _; unfold freeU; rw [hfi]
        have hpu : putU (uns l) x.u = ⟨uns l, 0, 9⟩ := by unfold putU; rw [if_neg (by rw [hmy]; decide), if_neg (by rw [hhn]; decide), hfi]
        rw [hpu]
        clear hpu hmy hhn hfi
        unfold Ux.val Un.val
        go_enter Try.func15, Try.ntmps15
        go_wp2_with (refine wpList_load _ rfl 30 (.tmp 3) rfl (.pointer (some ⟨w.heap.size, 0, none⟩)) x.val rfl HL0.out ?_)
        refine HMY.out.mono ?_
        rintro e w1 ⟨rfl, hb1⟩
        have HB1 := hide (rBelow HA.out hb1)
        have HBK1 := hide (HBK.out.keep hb1)
        clear hb1 HA HBK HL0 HMY
        go_wp2_with fail
        go_loopw [7] (fun iv wr => ∃ i : Nat, i ≤ n ∧ iv = .int .i64 (i : Nat) ∧ Hid (∀ j, j < i → ((uns l).getD j zeroU).no ≠ x.u.no) ∧ Hid (UnBlk wr w.heap.size x.u (.slice x.a x.n x.c)) ∧ Hid (Below w.heap.size w wr)) (fun iv _ => n - (intOf iv).toNat)
        case atStart => exact ⟨0, Nat.zero_le _, rfl, (fun j hj => absurd hj (Nat.not_lt_zero _)), HBK1, HB1⟩
        case round =>
          obtain ⟨i, hi, rfl, hno, hbk, hbr⟩ := hrel
          rcases Nat.lt_or_ge i n with hlt | hge
          · have i1 : ((i : Nat) : Int) < ((n : Nat) : Int) := by omega
            obtain ⟨b1, off, rfl, hat⟩ := (HE.out.keep hbr.out (Nat.le_refl _)).at' i hlt
            have hyu : (uns l).getD i zeroU = (l.getD i Ux.zero).u := uns_get l i
            generalize l.getD i Ux.zero = y at *
            have HAT := hide hat
            have HYU := hide hyu
            clear hat hyu
            go_wp2_with fail
            refine Pl.region_is (ops := Pl.find 6 ((Try.f15.body).getD .skip)) (by kernel_rfl) ?_
            by_cases hq : y.u.no = x.u.no
            · exact absurd (by rw [HYU.out]; exact hq) (HHN.out i (by rw [HUL.out]; exact hlt))
            · refine rput6F _ _ b1 off cap n i w.heap.size hlt y x HAT.out hbk.out hq (Below.refl _ _) (by rfl) (by rfl) (by rfl) (by rfl) (by rfl) ?_
              intro u w4 hb4
              simp only [Act.put, List.setIfInBounds_toArray, List.set_cons_zero, List.set_cons_succ]
              have HB4 := hide (rBelow hbr.out hb4)
              have HBK4 := hide (hbk.out.keep hb4)
              have HN : Hid (∀ j, j < i + 1 → ((uns l).getD j zeroU).no ≠ x.u.no) := by
                intro j hj
                by_cases e : j = i
                · rw [e, HYU.out]; exact hq
                · exact hno.out j (by omega)
              clear hb4 hq hno
              go_wp2_with fail
              go_roundw
              case rel => exact ⟨i + 1, by omega, by go_num, HN, HBK4, HB4⟩
              case measure => simp only [intOf]; omega
          · have i1 : ¬ ((i : Nat) : Int) < ((n : Nat) : Int) := by omega
            have HFE := hide (rFree_any a n cap l _ (HE.out.keep hbr.out (Nat.le_refl _)) (by omega))
            rw [HFR.out] at HFE
            clear hno
            go_wp2_with fail
            refine HFE.out.mono ?_
            rintro e w5 ⟨rfl, hb5⟩
            have HB5 := hide (rBelow hbr.out hb5)
            have HBK5 := hide (hbk.out.keep hb5)
            clear hb5 HFE
            go_wp2_with fail
            go_ret3
            exact ⟨⟨a, n, cap⟩, rfl, ⟨l, HE.out.keep HB5.out (Nat.le_refl _), rfl⟩, HB5.out⟩
      | some k =>
        have HFR : Hid (freeU (uns l) = (k : Int) + 1) := by show _ = _; unfold freeU; rw [hfi]
        have hk := (idxU_some hfi).1
        have hpu : putU (uns l) x.u = ⟨(uns l).set k x.u, (k : Int) + 1, 0⟩ := by unfold putU; rw [if_neg (by rw [hmy]; decide), if_neg (by rw [hhn]; decide), hfi]
        rw [hpu]
        have HK : Hid (k < n) := by show _ < _; rw [HUL.out] at hk; exact hk
        have hk3 : (((k : Nat) : Int) + 1 == 0) = false := beq_eq_false_iff_ne.2 (by omega)
        clear hpu hmy hhn hfi hk
        unfold Ux.val Un.val
        go_enter Try.func15, Try.ntmps15
        go_wp2_with (refine wpList_load _ rfl 30 (.tmp 3) rfl (.pointer (some ⟨w.heap.size, 0, none⟩)) x.val rfl HL0.out ?_)
        refine HMY.out.mono ?_
        rintro e w1 ⟨rfl, hb1⟩
        have HB1 := hide (rBelow HA.out hb1)
        have HBK1 := hide (HBK.out.keep hb1)
        clear hb1 HA HBK HL0 HMY
        go_wp2_with fail
        go_loopw [7] (fun iv wr => ∃ i : Nat, i ≤ n ∧ iv = .int .i64 (i : Nat) ∧ Hid (∀ j, j < i → ((uns l).getD j zeroU).no ≠ x.u.no) ∧ Hid (UnBlk wr w.heap.size x.u (.slice x.a x.n x.c)) ∧ Hid (Below w.heap.size w wr)) (fun iv _ => n - (intOf iv).toNat)
        case atStart => exact ⟨0, Nat.zero_le _, rfl, (fun j hj => absurd hj (Nat.not_lt_zero _)), HBK1, HB1⟩
        case round =>
          obtain ⟨i, hi, rfl, hno, hbk, hbr⟩ := hrel
          rcases Nat.lt_or_ge i n with hlt | hge
          · have i1 : ((i : Nat) : Int) < ((n : Nat) : Int) := by omega
            obtain ⟨b1, off, rfl, hat⟩ := (HE.out.keep hbr.out (Nat.le_refl _)).at' i hlt
            have hyu : (uns l).getD i zeroU = (l.getD i Ux.zero).u := uns_get l i
            generalize l.getD i Ux.zero = y at *
            have HAT := hide hat
            have HYU := hide hyu
            clear hat hyu
            go_wp2_with fail
            refine Pl.region_is (ops := Pl.find 6 ((Try.f15.body).getD .skip)) (by kernel_rfl) ?_
            by_cases hq : y.u.no = x.u.no
            · exact absurd (by rw [HYU.out]; exact hq) (HHN.out i (by rw [HUL.out]; exact hlt))
            · refine rput6F _ _ b1 off cap n i w.heap.size hlt y x HAT.out hbk.out hq (Below.refl _ _) (by rfl) (by rfl) (by rfl) (by rfl) (by rfl) ?_
              intro u w4 hb4
              simp only [Act.put, List.setIfInBounds_toArray, List.set_cons_zero, List.set_cons_succ]
              have HB4 := hide (rBelow hbr.out hb4)
              have HBK4 := hide (hbk.out.keep hb4)
              have HN : Hid (∀ j, j < i + 1 → ((uns l).getD j zeroU).no ≠ x.u.no) := by
                intro j hj
                by_cases e : j = i
                · rw [e, HYU.out]; exact hq
                · exact hno.out j (by omega)
              clear hb4 hq hno
              go_wp2_with fail
              go_roundw
              case rel => exact ⟨i + 1, by omega, by go_num, HN, HBK4, HB4⟩
              case measure => simp only [intOf]; omega
          · have i1 : ¬ ((i : Nat) : Int) < ((n : Nat) : Int) := by omega
            have HFE := hide (rFree_any a n cap l _ (HE.out.keep hbr.out (Nat.le_refl _)) (by omega))
            rw [HFR.out] at HFE
            clear hno
            go_wp2_with fail
            refine HFE.out.mono ?_
            rintro e w5 ⟨rfl, hb5⟩
            have HB5 := hide (rBelow hbr.out hb5)
            have HBK5 := hide (hbk.out.keep hb5)
            clear hb5 HFE
            have HL5 := hide (load_un _ x.u (.slice x.a x.n x.c) ⟨_, _, _, rfl⟩ w5 HBK5.out)
            have HSE := hide (rSet_any a n cap l w5 (HE.out.keep HB5.out (Nat.le_refl _)) hbig k HK.out x (HX.out.keep HB5.out (Nat.le_refl _)) HXF.out)
            have hval : x.u.val (.slice x.a x.n x.c) = x.val := rfl
            rw [hval] at HL5
            clear hval
            go_wp2_with (refine wpList_load _ rfl 30 (.tmp 3) rfl (.pointer (some ⟨w.heap.size, 0, none⟩)) x.val rfl HL5.out ?_)
            refine HSE.out.mono ?_
            rintro e w6 ⟨⟨sa, sl, sc⟩, rfl, hrow, hb6⟩
            have HROW := hide hrow
            have HB6 := hide (rBelow HB5.out hb6)
            clear hrow hb6
            simp only [Sl.val]
            go_wp2_with fail
            go_ret3
            exact ⟨⟨sa, sl, sc⟩, rfl, HROW.out, HB6.out⟩

end Go.Proofs.Ytpdkeghmpnanpaa
