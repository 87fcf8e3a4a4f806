/-
  The landed undo's Check.
-/
import Derived.Test.YtpdkeghmpnanpaaUdD
namespace Go.Proofs.Ytpdkeghmpnanpaa
open Go.RowKit

theorem kVals_append (a b : List Int) : kVals (a ++ b) = kVals a ++ kVals b := by simp [kVals]
theorem kVals_len (a : List Int) : (kVals a).length = a.length := by simp [kVals]
theorem nosU_takes (l : List Un) (k : Nat) : (nosU (l.take k)).length ≤ k := Nat.le_trans (nosU_len _) (by rw [List.length_take]; omega)

set_option maxHeartbeats 4000000 in
set_option maxRecDepth 100000 in
theorem checkL_any (a : Option Addr) (n cap : Nat) (l : List Ux) (w : World) (h : Us w a n l) (hbig : n ≤ 1000000) :
    Calls Try.prog 12 #[.slice a n cap] w fun e w' => e = .returned (.int .i64 (chk (MayU (uns l)))) ∧ Below w.heap.size w w' := by
  have hul : (uns l).length = n := by rw [uns_len, h.len]
  have H0 := hide (Below.refl w.heap.size w)
  have hlen := len_no (l := uns l)
  rw [hul] at hlen
  by_cases h6 : n < 6
  · have h6' : ((n : Nat) : Int) < 6 := by omega
    rw [hlen (by unfold lenU; simp; omega)]
    clear h hul hlen h6
    go_enter Try.func12, Try.ntmps12
    go_wp2_with fail
    go_ret
    exact ⟨rfl, H0.out⟩
  by_cases h378 : 378 < n
  · have h6' : ¬ ((n : Nat) : Int) < 6 := by omega
    have h378' : (378 : Int) < ((n : Nat) : Int) := by omega
    rw [hlen (by unfold lenU; simp; omega)]
    clear h hul hlen h6 h378
    go_enter Try.func12, Try.ntmps12
    go_wp2_with fail
    go_ret
    exact ⟨rfl, H0.out⟩
  have h6' : ¬ ((n : Nat) : Int) < 6 := by omega
  have h378' : ¬ (378 : Int) < ((n : Nat) : Int) := by omega
  have htm : ((n : Nat) : Int).tmod 6 = ((n % 6 : Nat) : Int) := by rw [Int.ofNat_tmod]; rfl
  by_cases hm : n % 6 = 0
  rotate_left
  · have hm' : ((((n % 6 : Nat) : Int)) == 0) = false := beq_eq_false_iff_ne.2 (by omega)
    rw [hlen (by unfold lenU; simp; omega)]
    clear h hul hlen h6 h378
    go_enter Try.func12, Try.ntmps12
    go_wp2_with fail
    go_ret
    exact ⟨rfl, H0.out⟩
  rw [hm] at htm
  have HLU : Hid (lenU (uns l).length = true) := (lenU_iff _).2 (by omega)
  have HUL := hide hul
  have HE := hide h
  have HLN := hide h.len
  have hn378 : n ≤ 378 := by omega
  have HO0 : Hid (OwnsV 3 w w.heap.size (.slice none 0 0) (kVals (nosU ((uns l).take 0)))) := OwnsV.nil _ _ _
  clear h hul hlen h6 h378 hm
  go_enter Try.func12, Try.ntmps12
  go_wp2_with fail
  go_loopw [3, 23] (fun v iv wr => ∃ i : Nat, i ≤ n ∧ iv = .int .i64 (i : Nat) ∧ Hid (OwnsV 3 wr w.heap.size v (kVals (nosU ((uns l).take i)))) ∧ Hid (∀ j, j < i → okU ((uns l).getD j zeroU) = true) ∧ Hid (Below w.heap.size w wr)) (fun _ iv _ => n - (intOf iv).toNat)
  case atStart => exact ⟨0, Nat.zero_le _, rfl, HO0, (fun j hj => absurd hj (Nat.not_lt_zero _)), H0⟩
  case round =>
    obtain ⟨i, hi, rfl, hov, hok, hbr⟩ := hrel
    rcases Nat.lt_or_ge i n with hlt | hge
    · have i1 : ((i : Nat) : Int) < ((n : Nat) : Int) := by omega
      have hr := HE.out.keep hbr.out (Nat.le_refl _)
      obtain ⟨b1, off, rfl, hat⟩ := hr.at' i hlt
      have hmem := hr.mem hlt
      have hcol := hr.cols _ hmem
      have hfit := hr.fits _ hmem
      have hyu : (uns l).getD i zeroU = (l.getD i Ux.zero).u := uns_get l i
      generalize l.getD i Ux.zero = y at *
      have HLD := hide (load_unAt b1 (off + i * 12) y _ hat)
      obtain ⟨W2, hst, hblk, hb2⟩ := box_un _ y
      have HST := hide hst
      have HL2 := hide (load_un _ y.u (.slice y.a y.n y.c) ⟨_, _, _, rfl⟩ W2 hblk)
      have HIE := hide (isEmpty_any y.u y.a y.n y.c W2 (hcol.keep hb2 (Nat.le_refl _)))
      have HBK := hide hblk
      have HCOL := hide (hcol.keep hb2 (Nat.le_refl _))
      have HFT := hide hfit
      have HOV2 := hide (hov.out.keep hb2 (Nat.le_refl _))
      have HW2 := hide (rBelow hbr.out hb2)
      have HNT := hide (nosU_take (l := uns l) (k := i) (by rw [HUL.out]; exact hlt))
      have HYU := hide hyu
      have hval : y.u.val (.slice y.a y.n y.c) = y.val := rfl
      rw [hval] at HIE HL2
      clear hat hmem hcol hfit hst hblk hb2 hr hov hbr hyu hval
      cases he : y.u.emp with
      | true =>
        rw [he] at HIE
        have HOK : Hid (∀ j, j < i + 1 → okU ((uns l).getD j zeroU) = true) := fun j hj => by
          by_cases e : j = i
          · rw [e, HYU.out, okU, he]; rfl
          · exact hok.out j (by omega)
        have HNT2 : Hid (nosU ((uns l).take (i + 1)) = nosU ((uns l).take i)) := by
          show _ = _
          rw [HNT.out, HYU.out, he]; simp
        clear he hok HNT
        go_wp2_with (first | refine wpList_load _ rfl 30 (.tmp 25) rfl (.pointer (some ⟨b1, off + i * 12, none⟩)) y.val rfl HLD.out ?_ | refine wpList_store _ rfl rfl 30 (.tmp 5) (.tmp 26) rfl (.pointer (some ⟨_, 0, none⟩)) y.val rfl rfl W2 HST.out ?_ | refine wpList_load _ rfl 30 (.tmp 5) rfl (.pointer (some ⟨_, 0, none⟩)) y.val rfl HL2.out ?_)
        refine HIE.out.mono ?_
        rintro e w3 ⟨rfl, hb3⟩
        have HW3 := hide (rBelow HW2.out hb3)
        have HOV3 := HOV2.out.keep hb3 (Nat.le_refl _)
        rw [← HNT2.out] at HOV3
        replace HOV3 := hide HOV3
        clear hb3
        go_wp2_with fail
        go_roundw
        case rel => exact ⟨i + 1, by omega, by go_num, HOV3, HOK, HW3⟩
        case measure => simp only [intOf]; omega
      | false =>
        rw [he] at HIE
        have HNT2 : Hid (nosU ((uns l).take (i + 1)) = nosU ((uns l).take i) ++ [y.u.no]) := by
          show _ = _
          rw [HNT.out, HYU.out, he]; simp
        have HE0 := hide he
        clear he HNT
        go_wp2_with (first | refine wpList_load _ rfl 30 (.tmp 25) rfl (.pointer (some ⟨b1, off + i * 12, none⟩)) y.val rfl HLD.out ?_ | refine wpList_store _ rfl rfl 30 (.tmp 5) (.tmp 26) rfl (.pointer (some ⟨_, 0, none⟩)) y.val rfl rfl W2 HST.out ?_ | refine wpList_load _ rfl 30 (.tmp 5) rfl (.pointer (some ⟨_, 0, none⟩)) y.val rfl HL2.out ?_)
        refine HIE.out.mono ?_
        rintro e w3 ⟨rfl, hb3⟩
        have HW3 := hide (rBelow HW2.out hb3)
        have HOV3 := hide (HOV2.out.keep hb3 (Nat.le_refl _))
        have HBK3 := hide (HBK.out.keep hb3)
        have HL3 := hide (load_un _ y.u (.slice y.a y.n y.c) ⟨_, _, _, rfl⟩ w3 HBK3.out)
        have HCK := hide (checkU_any y.u y.a y.n y.c w3 (HCOL.out.keep hb3 (Nat.le_refl _)) HFT.out.row)
        have hval : y.u.val (.slice y.a y.n y.c) = y.val := rfl
        rw [hval] at HL3 HCK
        clear hb3 hval HL2 HLD HST HIE HOV2 HBK HCOL HW2
        cases hmy : y.u.may with
        | false =>
          rw [hmy] at HCK
          have HN : Hid (MayU (uns l) = false) := met_no (i := i) (by rw [HUL.out]; exact hlt) (by rw [HYU.out, okU, HE0.out, hmy]; rfl)
          clear hmy
          go_wp2_with (refine wpList_load _ rfl 30 (.tmp 5) rfl (.pointer (some ⟨_, 0, none⟩)) y.val rfl HL3.out ?_)
          refine HCK.out.mono ?_
          rintro e w4 ⟨rfl, hb4⟩
          have HW4 := hide (rBelow HW3.out hb4)
          clear hb4
          simp only [chk]
          go_wp2_with fail
          go_ret
          exact ⟨by rw [HN.out]; rfl, HW4.out⟩
        | true =>
          rw [hmy] at HCK
          have HOK : Hid (∀ j, j < i + 1 → okU ((uns l).getD j zeroU) = true) := fun j hj => by
            by_cases e : j = i
            · rw [e, HYU.out, okU, hmy]; simp
            · exact hok.out j (by omega)
          clear hmy hok
          go_wp2_with (refine wpList_load _ rfl 30 (.tmp 5) rfl (.pointer (some ⟨_, 0, none⟩)) y.val rfl HL3.out ?_)
          refine HCK.out.mono ?_
          rintro e w4 ⟨rfl, hb4⟩
          have HW4 := hide (rBelow HW3.out hb4)
          have x1 := (HBK3.out.keep hb4).c1
          have HA4 := hide (below_alloc w4 (.cells #[.int .i64 y.u.no] 3))
          have HOV4 := hide ((HOV3.out.keep hb4 (Nat.le_refl _)).keep HA4.out (Nat.le_refl _))
          have HV1 := hide (vs_one 3 w4 (.int .i64 y.u.no) rfl)
          have HLE : Hid ((kVals (nosU ((uns l).take i))).length + 1 ≤ 1000000) := by show _ ≤ _; rw [kVals_len]; have := nosU_takes (uns l) i; omega
          have HBS : Hid (w.heap.size ≤ (w4.alloc (.cells #[.int .i64 y.u.no] 3)).heap.size) := Nat.le_trans HW4.out.size HA4.out.size
          clear hb4 HOV3 HBK3 HCK HL3
          simp only [chk]
          go_wp2_with (at_builtin; refine wpList_append_vals oneInt _ rfl (.tmp 34) (.tmp 37) rfl w.heap.size _ (kVals (nosU ((uns l).take i))) rfl HOV4.out _ _ _ [.int .i64 y.u.no] rfl HV1.out (fun h => by cases h) HLE.out HBS.out ?_)
          intro v5 w5 ho5 hb5 _
          have HOV5 : Hid (OwnsV 3 w5 w.heap.size v5 (kVals (nosU ((uns l).take (i + 1))))) := by
            show OwnsV _ _ _ _ _
            rw [HNT2.out, kVals_append]
            exact ho5
          have HW5 := hide ((HW4.out.trans (HA4.out.mono HW4.out.size)).trans hb5)
          clear ho5 hb5
          go_wp2_with fail
          go_roundw
          case rel => exact ⟨i + 1, by omega, by go_num, HOV5, HOK, HW5⟩
          case measure => simp only [intOf]; omega
    · have i1 : ¬ ((i : Nat) : Int) < ((n : Nat) : Int) := by omega
      have hin : i = n := by omega
      have htk : (uns l).take i = uns l := List.take_of_length_le (by rw [HUL.out]; omega)
      have hov' := hov.out
      rw [htk] at hov'
      have HHT := hide (hasTwice_any _ (nosU (uns l)) _ w.heap.size hbr.out.size hov' (by have := nosU_len (uns l); rw [HUL.out] at this; omega))
      have hme := met_end HLU.out (fun j hj => hok.out j (by rw [HUL.out] at hj; omega))
      clear hov hov' htk hok hin
      cases hnd : decide (nosU (uns l)).Nodup with
      | true =>
        rw [hnd] at hme HHT
        have HME := hide hme
        clear hme hnd
        go_wp2_with fail
        refine HHT.out.mono ?_
        rintro e w2 ⟨rfl, hb2⟩
        have HW2 := hide (hbr.out.trans hb2)
        clear hb2
        go_wp2_with fail
        go_ret
        exact ⟨by rw [HME.out]; rfl, HW2.out⟩
      | false =>
        rw [hnd] at hme HHT
        have HME := hide hme
        clear hme hnd
        go_wp2_with fail
        refine HHT.out.mono ?_
        rintro e w2 ⟨rfl, hb2⟩
        have HW2 := hide (hbr.out.trans hb2)
        clear hb2
        go_wp2_with fail
        go_ret
        exact ⟨by rw [HME.out]; rfl, HW2.out⟩

end Go.Proofs.Ytpdkeghmpnanpaa
