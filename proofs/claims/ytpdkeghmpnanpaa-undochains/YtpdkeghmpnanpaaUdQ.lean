/-
  The law of what is put and dropped.
-/
import Derived.Test.YtpdkeghmpnanpaaUdP
import Derived.Test.YtpdkeghmpnanpaaUdL
import Derived.Test.YtpdkeghmpnanpaaUdM
namespace Go.Proofs.Ytpdkeghmpnanpaa
open Go.RowKit

theorem rows_alike {w : World} {s t : Sl} {L : List Un} (h : RowU w s L) (k : RowU w t L) (hl : L.length ≤ 1000000) : Calls Try.prog 16 #[.slice s.a s.len s.cap, .slice t.a t.len t.cap] w fun e w' => e = .returned (.bool true) ∧ Below w.heap.size w w' := by
  have h1 := h.len
  have h2 := k.len
  obtain ⟨l, hu, rfl⟩ := h
  obtain ⟨m, ku, e⟩ := k
  have e3 : t.len = s.len := by omega
  rw [e3] at ku ⊢
  exact refListU_same s.a s.len s.cap l t.a t.cap m w hu ku e.symm (by omega)

set_option maxHeartbeats 4000000 in
set_option maxRecDepth 100000 in
theorem turns_walk (a : Option Addr) (n cap : Nat) (l : List Ux) (w : World) (h : Us w a n l) (hbig : n ≤ 9223372036854775807) (x : Ux) (hx : Fs w x.a x.n x.c x.u.row.xs) (hf : x.u.fits) (c : Int) :
    Calls Try.prog 3 #[.slice a n cap, x.val, .int .i64 c] w fun e w' => e = .returned (.bool true) ∧ Below w.heap.size w w' := by
  have HA := hide (below_alloc w (.cells #[.int .i64 x.u.tx, .int .i64 x.u.no, .int .i64 x.u.prev, .int .i64 x.u.kind, .int .i64 x.u.page, .int .i64 x.u.slot, .float .f64 x.u.row.key, .bool x.u.row.dead, .slice x.a x.n x.c, .int .i64 x.u.row.wr, .int .i64 x.u.row.cell, .int .i64 x.u.row.no] 30))
  have HBK := hide (unBlk_new w x.u (.slice x.a x.n x.c))
  have HLI := hide (fun w' (hb : Below w.heap.size w w') => light_any a n cap l w' (h.keep hb (Nat.le_refl _)) hbig)
  have HAW := hide awake_any
  have HUL : Hid ((uns l).length = n) := by show _ = _; rw [uns_len, h.len]
  have HE := hide h
  have HX := hide hx
  have HXF := hide hf
  clear h hx hf
  unfold Ux.val Un.val
  go_enter Try.func3, Try.ntmps3
  go_wp2_with fail
  refine (HLI.out _ HA.out).mono ?_
  rintro e w1 ⟨b, rfl, hb30, hw1⟩
  have HW1 : Hid (Below w.heap.size w w1) := by rw [hw1]; exact HA.out
  have HBK1 : Hid (UnBlk w1 w.heap.size x.u (.slice x.a x.n x.c)) := by rw [hw1]; exact HBK.out
  have x8 := HBK1.out.c8
  clear hw1 HA HBK HLI
  cases b with
  | false =>
    clear hb30
    go_wp2_with fail
    refine (HAW.out _).mono ?_
    rintro e w2 ⟨rfl, hb2⟩
    have HW2 := hide (rBelow HW1.out hb2)
    clear hb2
    go_wp2_with fail
    go_ret
    exact ⟨rfl, HW2.out⟩
  | true =>
    have h30 : n ≤ 30 := hb30 rfl
    clear hb30
    by_cases hc : 20 < x.n
    · have i3 : (20 : Int) < ((x.n : Nat) : Int) := by omega
      clear hc
      go_wp2_with fail
      refine (HAW.out _).mono ?_
      rintro e w2 ⟨rfl, hb2⟩
      have HW2 := hide (rBelow HW1.out hb2)
      clear hb2
      go_wp2_with fail
      go_ret
      exact ⟨rfl, HW2.out⟩
    · have i3 : ¬ (20 : Int) < ((x.n : Nat) : Int) := by omega
      clear hc
      have HL1 := hide (load_un _ x.u (.slice x.a x.n x.c) ⟨_, _, _, rfl⟩ w1 HBK1.out)
      have hval : x.u.val (.slice x.a x.n x.c) = x.val := rfl
      rw [hval] at HL1
      cases hm : MayU (uns l) with
      | false =>
        have HM := hide hm
        have HPU := hide (putL_no a n cap l w1 (HE.out.keep HW1.out (Nat.le_refl _)) (by omega) x (HX.out.keep HW1.out (Nat.le_refl _)) HXF.out hm)
        clear hm hval
        go_wp2_with (refine wpList_load _ rfl 30 (.tmp 4) rfl (.pointer (some ⟨w.heap.size, 0, none⟩)) x.val rfl HL1.out ?_)
        refine HPU.out.mono ?_
        rintro e w2 ⟨rfl, hb2⟩
        have HW2 := hide (rBelow HW1.out hb2)
        have HDR := hide (dropL_no a n cap l w2 (HE.out.keep HW2.out (Nat.le_refl _)) (by omega) c HM.out)
        clear hb2 HPU HL1 x8 HBK1
        go_wp2_with fail
        refine HDR.out.mono ?_
        rintro e w3 ⟨rfl, hb3⟩
        have HW3 := hide (rBelow HW2.out hb3)
        have HMA := hide (rMay_any a n cap l w3 (HE.out.keep HW3.out (Nat.le_refl _)) (by omega))
        rw [HM.out] at HMA
        clear hb3 HDR
        go_wp2_with fail
        refine HMA.out.mono ?_
        rintro e w4 ⟨rfl, hb4⟩
        have HW4 := hide (rBelow HW3.out hb4)
        have HCK := hide (checkL_any a n cap l w4 (HE.out.keep HW4.out (Nat.le_refl _)) (by omega))
        rw [HM.out] at HCK
        clear hb4 HMA
        go_wp2_with fail
        refine HCK.out.mono ?_
        rintro e w5 ⟨rfl, hb5⟩
        have HW5 := hide (rBelow HW4.out hb5)
        have HFR := hide (freeL_any a n cap l w5 (HE.out.keep HW5.out (Nat.le_refl _)) (by omega))
        rw [HM.out, if_neg (by decide)] at HFR
        clear hb5 HCK
        simp only [chk]
        go_wp2_with fail
        refine HFR.out.mono ?_
        rintro e w6 ⟨rfl, hb6⟩
        have HW6 := hide (rBelow HW5.out hb6)
        have HUS := hide (usedL_any a n cap l w6 (HE.out.keep HW6.out (Nat.le_refl _)) (by omega))
        rw [HM.out, if_neg (by decide)] at HUS
        clear hb6 HFR
        go_wp2_with fail
        refine HUS.out.mono ?_
        rintro e w7 ⟨rfl, hb7⟩
        have HW7 := hide (rBelow HW6.out hb7)
        clear hb7 HUS
        go_wp2_with fail
        refine (HAW.out _).mono ?_
        rintro e w8 ⟨rfl, hb8⟩
        have HW8 := hide (rBelow HW7.out hb8)
        clear hb8
        go_wp2_with fail
        go_ret
        exact ⟨rfl, HW8.out⟩
      | true =>
        have HM := hide hm
        have hP := (mayU_iff _).1 hm
        have HPM := hide ((mayU_iff _).2 (putU_may hP x.u))
        have HPL : Hid ((putU (uns l) x.u).l.length ≤ 1000000) := by have := (putU_may hP x.u).hi; show _ ≤ _; omega
        have HDL : Hid ((dropU (uns l) c).1.length ≤ 1000000) := by have := (dropU_may hP c).hi; show _ ≤ _; omega
        have HPU := hide (putL_ok a n cap l w1 (HE.out.keep HW1.out (Nat.le_refl _)) (by omega) x (HX.out.keep HW1.out (Nat.le_refl _)) HXF.out hm)
        have HDR : Hid (∀ w', Below w.heap.size w w' → _) := fun w' hb => dropL_ok a n cap l w' (HE.out.keep hb (Nat.le_refl _)) (by omega) c HM.out
        have HRP : Hid (∀ w', Below w.heap.size w w' → _) := fun w' hb => rPut_any a n cap l w' (HE.out.keep hb (Nat.le_refl _)) (by omega) x (HX.out.keep hb (Nat.le_refl _)) HXF.out
        have HRD : Hid (∀ w', Below w.heap.size w w' → _) := fun w' hb => rDrop_any a n cap l w' (HE.out.keep hb (Nat.le_refl _)) (by omega) c
        have HMA : Hid (∀ w', Below w.heap.size w w' → Calls Try.prog 11 #[.slice a n cap] w' fun e w'' => e = .returned (.bool true) ∧ Below w'.heap.size w' w'') := fun w' hb => by have := rMay_any a n cap l w' (HE.out.keep hb (Nat.le_refl _)) (by omega); rw [HM.out] at this; exact this
        have HCK : Hid (∀ w', Below w.heap.size w w' → Calls Try.prog 12 #[.slice a n cap] w' fun e w'' => e = .returned (.int .i64 0) ∧ Below w'.heap.size w' w'') := fun w' hb => by have := checkL_any a n cap l w' (HE.out.keep hb (Nat.le_refl _)) (by omega); rw [HM.out] at this; exact this
        have HFR : Hid (∀ w', Below w.heap.size w w' → Calls Try.prog 13 #[.slice a n cap] w' fun e w'' => e = .returned (.int .i64 (freeU (uns l))) ∧ Below w'.heap.size w' w'') := fun w' hb => by have := freeL_any a n cap l w' (HE.out.keep hb (Nat.le_refl _)) (by omega); rw [HM.out, if_pos rfl] at this; exact this
        have HUS : Hid (∀ w', Below w.heap.size w w' → Calls Try.prog 14 #[.slice a n cap] w' fun e w'' => e = .returned (.int .i64 ((usedN (uns l) : Nat) : Int)) ∧ Below w'.heap.size w' w'') := fun w' hb => by have := usedL_any a n cap l w' (HE.out.keep hb (Nat.le_refl _)) (by omega); rw [HM.out, if_pos rfl] at this; exact this
        have HRF : Hid (∀ w', Below w.heap.size w w' → _) := fun w' hb => rFree_any a n cap l w' (HE.out.keep hb (Nat.le_refl _)) (by omega)
        have HRU : Hid (∀ w', Below w.heap.size w w' → _) := fun w' hb => rUsed_any a n cap l w' (HE.out.keep hb (Nat.le_refl _)) (by omega)
        clear hm hval hP
        generalize putU (uns l) x.u = PS at *
        obtain ⟨pl, pn, pe⟩ := PS
        simp only at HPU HRP HPM HPL
        generalize dropU (uns l) c = DS at *
        obtain ⟨dl, de⟩ := DS
        simp only at HDR HRD HDL
        generalize freeU (uns l) = fr at *
        generalize usedN (uns l) = us at *
        go_wp2_with (refine wpList_load _ rfl 30 (.tmp 4) rfl (.pointer (some ⟨w.heap.size, 0, none⟩)) x.val rfl HL1.out ?_)
        refine HPU.out.mono ?_
        rintro e w2 ⟨⟨sa, sl, sc⟩, rfl, hrow2, hb2⟩
        have HW2 := hide (rBelow HW1.out hb2)
        have HR2 := hide hrow2.row
        have HBK2 := hide (HBK1.out.keep hb2)
        clear hb2 hrow2 HPU HL1 x8 HBK1
        simp only [Sl.val]
        go_wp2_with fail
        refine (HDR.out _ HW2.out).mono ?_
        rintro e w3 ⟨⟨ta, tl, tc⟩, rfl, hrow3, hb3⟩
        have HW3 := hide (rBelow HW2.out hb3)
        have HR3 := hide hrow3.row
        have HR23 := hide (HR2.out.keep hb3)
        have HBK3 := hide (HBK2.out.keep hb3)
        clear hb3 hrow3 HDR HR2 HBK2
        simp only [Sl.val]
        go_wp2_with fail
        refine (HMA.out _ HW3.out).mono ?_
        rintro e w4 ⟨rfl, hb4⟩
        have HW4 := hide (rBelow HW3.out hb4)
        have HR4 := hide (HR3.out.keep hb4)
        have HR24 := hide (HR23.out.keep hb4)
        have HBK4 := hide (HBK3.out.keep hb4)
        have HL4 := hide (load_un _ x.u (.slice x.a x.n x.c) ⟨_, _, _, rfl⟩ w4 HBK4.out)
        have hval : x.u.val (.slice x.a x.n x.c) = x.val := rfl
        rw [hval] at HL4
        clear hb4 HMA HR3 HR23 HBK3 hval
        go_wp2_with (refine wpList_load _ rfl 30 (.tmp 4) rfl (.pointer (some ⟨w.heap.size, 0, none⟩)) x.val rfl HL4.out ?_)
        refine (HRP.out _ HW4.out).mono ?_
        rintro e w5 ⟨⟨ua, ul, uc⟩, rfl, hrow5, hb5⟩
        have HW5 := hide (rBelow HW4.out hb5)
        have HLS := hide (rows_alike (HR24.out.keep hb5) hrow5 HPL.out)
        have HR5 := hide (HR4.out.keep hb5)
        have HR25 := hide (HR24.out.keep hb5)
        clear hb5 hrow5 HRP HR4 HR24 HL4 HBK4
        simp only [Sl.val]
        simp only at HLS
        go_wp2_with fail
        refine HLS.out.mono ?_
        rintro e w6 ⟨rfl, hb6⟩
        have HW6 := hide (rBelow HW5.out hb6)
        have HR6 := hide (HR5.out.keep hb6)
        have hr26 := HR25.out.keep hb6
        have hsl : sl ≤ 1000000 := by have h1 := hr26.len; have h2 := HPL.out; simp only at h1; omega
        have HM6 : Hid (Calls Try.prog 11 #[.slice sa sl sc] w6 fun e w'' => e = .returned (.bool true) ∧ Below w6.heap.size w6 w'') := by
          obtain ⟨l2, hu2, he2⟩ := hr26
          have := rMay_any sa sl sc l2 w6 hu2 hsl
          rw [he2, HPM.out] at this
          exact this
        clear hb6 hr26 hsl HLS HR5 HR25
        go_wp2_with fail
        refine HM6.out.mono ?_
        rintro e w7 ⟨rfl, hb7⟩
        have HW7 := hide (rBelow HW6.out hb7)
        have HR7 := hide (HR6.out.keep hb7)
        clear hb7 HM6 HR6
        go_wp2_with fail
        refine (HRD.out _ HW7.out).mono ?_
        rintro e w8 ⟨⟨va, vl, vc⟩, rfl, hrow8, hb8⟩
        have HW8 := hide (rBelow HW7.out hb8)
        have HLS := hide (rows_alike (HR7.out.keep hb8) hrow8 HDL.out)
        clear hb8 hrow8 HRD HR7
        simp only [Sl.val]
        simp only at HLS
        go_wp2_with fail
        refine HLS.out.mono ?_
        rintro e w9 ⟨rfl, hb9⟩
        have HW9 := hide (rBelow HW8.out hb9)
        clear hb9 HLS
        go_wp2_with fail
        refine (HCK.out _ HW9.out).mono ?_
        rintro e w10 ⟨rfl, hb10⟩
        have HW10 := hide (rBelow HW9.out hb10)
        clear hb10 HCK
        go_wp2_with fail
        refine (HFR.out _ HW10.out).mono ?_
        rintro e w11 ⟨rfl, hb11⟩
        have HW11 := hide (rBelow HW10.out hb11)
        clear hb11 HFR
        go_wp2_with fail
        refine (HRF.out _ HW11.out).mono ?_
        rintro e w12 ⟨rfl, hb12⟩
        have HW12 := hide (rBelow HW11.out hb12)
        clear hb12 HRF
        go_wp2_with fail
        refine (HUS.out _ HW12.out).mono ?_
        rintro e w13 ⟨rfl, hb13⟩
        have HW13 := hide (rBelow HW12.out hb13)
        clear hb13 HUS
        go_wp2_with fail
        refine (HRU.out _ HW13.out).mono ?_
        rintro e w14 ⟨rfl, hb14⟩
        have HW14 := hide (rBelow HW13.out hb14)
        clear hb14 HRU
        go_wp2_with fail
        refine (HAW.out _).mono ?_
        rintro e w15 ⟨rfl, hb15⟩
        have HW15 := hide (rBelow HW14.out hb15)
        clear hb15
        go_wp2_with fail
        go_ret
        exact ⟨rfl, HW15.out⟩

end Go.Proofs.Ytpdkeghmpnanpaa
