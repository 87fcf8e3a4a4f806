/-
  The landed undo's Free, Used, Get, Put, Drop.
-/
import Derived.Test.YtpdkeghmpnanpaaUdE
namespace Go.Proofs.Ytpdkeghmpnanpaa
open Go.RowKit

/-- A row of undoings behind a slice. -/
def RowU (w : World) (s : Sl) (L : List Un) : Prop := ∃ l, Us w s.a s.len l ∧ uns l = L
theorem RowU.keep {w w' : World} {s : Sl} {L : List Un} (h : RowU w s L) (hb : Below w.heap.size w w') : RowU w' s L := by
  obtain ⟨l, h1, h2⟩ := h
  exact ⟨l, h1.keep hb (Nat.le_refl _), h2⟩
theorem Ud.row {w0 w : World} {s : Sl} {l : List Ux} (h : Ud w0 w s l) : RowU w s (uns l) := ⟨l, h.us, rfl⟩
theorem RowT.row {w w' : World} {s : Sl} {L : List Un} (h : RowT w w' s L) : RowU w' s L := by
  obtain ⟨l, h1, h2, _⟩ := h
  exact ⟨l, h1.us, h2⟩
theorem RowU.len {w : World} {s : Sl} {L : List Un} (h : RowU w s L) : L.length = s.len := by
  obtain ⟨l, h1, rfl⟩ := h
  rw [uns_len, h1.len]

theorem Un.may_cols {u : Un} (h : u.may = true) : u.row.xs.length ≤ 4 := by
  have hu : undoB u.kind u.row = true := by
    unfold Un.may at h
    simp only [Bool.and_eq_true] at h
    exact h.2
  unfold undoB at hu
  split at hu
  · rw [Rw.same_eq hu]; decide
  · split at hu
    · unfold Rw.may haveB at hu
      simp only [Bool.and_eq_true, decide_eq_true_eq] at hu
      exact hu.1.1.2.1.1
    · cases hu
theorem MayP.cols {l : List Un} (h : MayP l) : ∀ u ∈ l, u.row.xs.length ≤ 1000 := by
  intro u hu
  obtain ⟨i, hi, rfl⟩ := List.getElem_of_mem hu
  have := h.ok i hi
  rw [unget hi, okU, Bool.or_eq_true] at this
  rcases this with e | e
  · rw [(Un.emp_iff _).1 e]; decide
  · have := Un.may_cols e; omega

set_option maxHeartbeats 4000000 in
set_option maxRecDepth 100000 in
theorem freeL_any (a : Option Addr) (n cap : Nat) (l : List Ux) (w : World) (h : Us w a n l) (hbig : n ≤ 1000000) :
    Calls Try.prog 13 #[.slice a n cap] w fun e w' => e = .returned (.int .i64 (if MayU (uns l) = true then freeU (uns l) else 0)) ∧ Below w.heap.size w w' := by
  have HCK := hide (checkL_any a n cap l w h hbig)
  have HFE : Hid (∀ w', Below w.heap.size w w' → Calls Try.prog 30 #[.slice a n cap] w' fun e w'' => e = .returned (.int .i64 (freeU (uns l))) ∧ Below w'.heap.size w' w'') := fun w' hb => firstEmpty_any w' a n cap l (h.keep hb (Nat.le_refl _)) hbig
  clear h
  generalize freeU (uns l) = z at *
  cases hm : MayU (uns l) with
  | false =>
    rw [hm] at HCK
    rw [if_neg (by decide)]
    clear hm
    go_enter Try.func13, Try.ntmps13
    go_wp2_with fail
    refine HCK.out.mono ?_
    rintro e w1 ⟨rfl, hb1⟩
    have HB1 := hide hb1
    clear hb1
    simp only [chk]
    go_wp2_with fail
    go_ret
    exact ⟨rfl, HB1.out⟩
  | true =>
    rw [hm] at HCK
    rw [if_pos rfl]
    clear hm
    go_enter Try.func13, Try.ntmps13
    go_wp2_with fail
    refine HCK.out.mono ?_
    rintro e w1 ⟨rfl, hb1⟩
    have HB1 := hide hb1
    clear hb1
    simp only [chk]
    go_wp2_with fail
    refine (HFE.out _ HB1.out).mono ?_
    rintro e w2 ⟨rfl, hb2⟩
    have HB2 := hide (rBelow HB1.out hb2)
    clear hb2
    go_wp2_with fail
    go_ret
    exact ⟨rfl, HB2.out⟩

theorem usedN_take {l : List Un} {k : Nat} (hk : k < l.length) : usedN (l.take (k + 1)) = usedN (l.take k) + (if (l.getD k zeroU).emp then 0 else 1) := by
  rw [List.take_succ_eq_append_getElem hk, unget hk]
  unfold usedN
  rw [List.filter_append, List.length_append]
  congr 1
  cases h : (l[k]).emp <;> simp [h]
theorem usedN_le (l : List Un) : usedN l ≤ l.length := List.length_filter_le _ _

set_option maxHeartbeats 4000000 in
set_option maxRecDepth 100000 in
theorem usedL_any (a : Option Addr) (n cap : Nat) (l : List Ux) (w : World) (h : Us w a n l) (hbig : n ≤ 1000000) :
    Calls Try.prog 14 #[.slice a n cap] w fun e w' => e = .returned (.int .i64 (if MayU (uns l) = true then ((usedN (uns l) : Nat) : Int) else 0)) ∧ Below w.heap.size w w' := by
  have HCK := hide (checkL_any a n cap l w h hbig)
  have HUL : Hid ((uns l).length = n) := by show _ = _; rw [uns_len, h.len]
  have HE := hide h
  clear h
  cases hm : MayU (uns l) with
  | false =>
    rw [hm] at HCK
    rw [if_neg (by decide)]
    clear hm
    go_enter Try.func14, Try.ntmps14
    go_wp2_with fail
    refine HCK.out.mono ?_
    rintro e w1 ⟨rfl, hb1⟩
    have HB1 := hide hb1
    clear hb1
    simp only [chk]
    go_wp2_with fail
    go_ret
    exact ⟨rfl, HB1.out⟩
  | true =>
    rw [hm] at HCK
    rw [if_pos rfl]
    clear hm
    go_enter Try.func14, Try.ntmps14
    go_wp2_with fail
    refine HCK.out.mono ?_
    rintro e w1 ⟨rfl, hb1⟩
    have HB1 := hide hb1
    clear hb1 HCK
    simp only [chk]
    go_wp2_with fail
    go_loopw [3, 11] (fun v iv wr => ∃ i m : Nat, i ≤ n ∧ m ≤ i ∧ iv = .int .i64 (i : Nat) ∧ v = .int .i64 (m : Nat) ∧ Hid (m = usedN ((uns l).take i)) ∧ Hid (Below w.heap.size w wr)) (fun _ iv _ => n - (intOf iv).toNat)
    case atStart => exact ⟨0, 0, Nat.zero_le _, Nat.le_refl _, rfl, rfl, rfl, HB1⟩
    case round =>
      obtain ⟨i, m, hi, hmi, rfl, rfl, hmu, hbr⟩ := hrel
      rcases Nat.lt_or_ge i n with hlt | hge
      · have i1 : ((i : Nat) : Int) < ((n : Nat) : Int) := by omega
        have hr := HE.out.keep hbr.out (Nat.le_refl _)
        obtain ⟨b1, off, rfl, hat⟩ := hr.at' i hlt
        have hmem := hr.mem hlt
        have hcol := hr.cols _ hmem
        have hyu : (uns l).getD i zeroU = (l.getD i Ux.zero).u := uns_get l i
        generalize l.getD i Ux.zero = y at *
        have HLD := hide (load_unAt b1 (off + i * 12) y _ hat)
        obtain ⟨W2, hst, hblk, hb2⟩ := box_un _ y
        have HST := hide hst
        have HL2 := hide (load_un _ y.u (.slice y.a y.n y.c) ⟨_, _, _, rfl⟩ W2 hblk)
        have HIE := hide (isEmpty_any y.u y.a y.n y.c W2 (hcol.keep hb2 (Nat.le_refl _)))
        have HW2 := hide (rBelow hbr.out hb2)
        have HNT := hide (usedN_take (l := uns l) (k := i) (by rw [HUL.out]; exact hlt))
        have HYU := hide hyu
        have hval : y.u.val (.slice y.a y.n y.c) = y.val := rfl
        rw [hval] at HIE HL2
        clear hat hmem hcol hst hblk hb2 hr hbr hyu hval
        cases he : y.u.emp with
        | true =>
          rw [he] at HIE
          have HNT2 : Hid (m = usedN ((uns l).take (i + 1))) := by
            show _ = _
            rw [HNT.out, HYU.out, he, hmu.out]; simp
          clear he HNT
          go_wp2_with (first | refine wpList_load _ rfl 30 (.tmp 13) rfl (.pointer (some ⟨b1, off + i * 12, none⟩)) y.val rfl HLD.out ?_ | refine wpList_store _ rfl rfl 30 (.tmp 5) (.tmp 14) rfl (.pointer (some ⟨_, 0, none⟩)) y.val rfl rfl W2 HST.out ?_ | refine wpList_load _ rfl 30 (.tmp 5) rfl (.pointer (some ⟨_, 0, none⟩)) y.val rfl HL2.out ?_)
          refine HIE.out.mono ?_
          rintro e w3 ⟨rfl, hb3⟩
          have HW3 := hide (rBelow HW2.out hb3)
          clear hb3
          go_wp2_with fail
          go_roundw
          case rel => exact ⟨i + 1, m, by omega, by omega, by go_num, rfl, HNT2, HW3⟩
          case measure => simp only [intOf]; omega
        | false =>
          rw [he] at HIE
          have HNT2 : Hid (m + 1 = usedN ((uns l).take (i + 1))) := by
            show _ = _
            rw [HNT.out, HYU.out, he, hmu.out]; simp
          clear he HNT
          go_wp2_with (first | refine wpList_load _ rfl 30 (.tmp 13) rfl (.pointer (some ⟨b1, off + i * 12, none⟩)) y.val rfl HLD.out ?_ | refine wpList_store _ rfl rfl 30 (.tmp 5) (.tmp 14) rfl (.pointer (some ⟨_, 0, none⟩)) y.val rfl rfl W2 HST.out ?_ | refine wpList_load _ rfl 30 (.tmp 5) rfl (.pointer (some ⟨_, 0, none⟩)) y.val rfl HL2.out ?_)
          refine HIE.out.mono ?_
          rintro e w3 ⟨rfl, hb3⟩
          have HW3 := hide (rBelow HW2.out hb3)
          clear hb3
          go_wp2_with fail
          go_roundw
          case rel => exact ⟨i + 1, m + 1, by omega, by omega, by go_num, by go_num, HNT2, HW3⟩
          case measure => simp only [intOf]; omega
      · have i1 : ¬ ((i : Nat) : Int) < ((n : Nat) : Int) := by omega
        have HM : Hid (m = usedN (uns l)) := by
          show _ = _
          rw [hmu.out, List.take_of_length_le (by rw [HUL.out]; omega)]
        clear hmu
        go_wp2_with fail
        go_ret
        exact ⟨by rw [← HM.out]; rfl, hbr.out⟩

end Go.Proofs.Ytpdkeghmpnanpaa
