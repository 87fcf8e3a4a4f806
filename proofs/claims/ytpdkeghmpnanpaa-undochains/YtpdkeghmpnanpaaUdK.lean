/-
  The document's At, Free, Used, set.
-/
import Derived.Test.YtpdkeghmpnanpaaUdJ
namespace Go.Proofs.Ytpdkeghmpnanpaa
open Go.RowKit

theorem Us.mz {w : World} {a : Option Addr} {n : Nat} {l : List Ux} (h : Us w a n l) {x : Ux} (hx : x ∈ l ∨ x = Ux.zero) : Fs w x.a x.n x.c x.u.row.xs ∧ x.u.fits := by
  rcases hx with hx | rfl
  · exact ⟨h.cols x hx, h.fits x hx⟩
  · exact ⟨fs_nil _, zeroU_fits⟩

set_option maxHeartbeats 4000000 in
set_option maxRecDepth 100000 in
/-- The undoing of a cell. -/
theorem rAt_any (a : Option Addr) (n cap : Nat) (l : List Ux) (w : World) (h : Us w a n l) (hbig : n ≤ 1000000) (c : Int) :
    Calls Try.prog 25 #[.slice a n cap, .int .i64 c] w fun e w' => ∃ x : Ux, e = .returned x.val ∧ x.u = atU (uns l) c ∧ (x ∈ l ∨ x = Ux.zero) ∧ Below w.heap.size w w' := by
  have HUL : Hid ((uns l).length = n) := by show _ = _; rw [uns_len, h.len]
  have HA := hide (below_alloc w (.cells #[.int .i64 0, .int .i64 0, .int .i64 0, .int .i64 0, .int .i64 0, .int .i64 0, .float .f64 0, .bool false, .slice none 0 0, .int .i64 0, .int .i64 0, .int .i64 0] 30))
  have HZ : Hid (UnBlk (w.alloc (.cells #[.int .i64 0, .int .i64 0, .int .i64 0, .int .i64 0, .int .i64 0, .int .i64 0, .float .f64 0, .bool false, .slice none 0 0, .int .i64 0, .int .i64 0, .int .i64 0] 30)) w.heap.size zeroU (.slice none 0 0)) := unBlk_new w zeroU _
  have HE := hide h
  clear h
  go_enter Try.func25, Try.ntmps25
  go_wp2_with fail
  go_loopw [5] (fun iv wr => ∃ i : Nat, i ≤ n ∧ iv = .int .i64 (i : Nat) ∧ Hid (∀ j : Nat, j < i → (j : Int) + 1 ≠ c) ∧ Hid (UnBlk wr w.heap.size zeroU (.slice none 0 0)) ∧ Hid (Below w.heap.size w wr)) (fun iv _ => n - (intOf iv).toNat)
  case atStart => exact ⟨0, Nat.zero_le _, rfl, (fun j hj => absurd hj (Nat.not_lt_zero _)), HZ, HA⟩
  case round =>
    obtain ⟨i, hi, rfl, hno, hzr, hbr⟩ := hrel
    rcases Nat.lt_or_ge i n with hlt | hge
    · have i1 : ((i : Nat) : Int) < ((n : Nat) : Int) := by omega
      by_cases hc : (i : Int) + 1 = c
      · have hq : ((i : Int) + 1 == c) = true := by simp [hc]
        have HAU : Hid (atU (uns l) c = (l.getD i Ux.zero).u) := by show _ = _; rw [← hc, atU_at _ (by rw [HUL.out]; exact hlt), uns_get]
        have hmem := HE.out.mem hlt
        have HC1 := hide hmem
        obtain ⟨b1, off, rfl, hat⟩ := HE.out.at' i hlt
        generalize l.getD i Ux.zero = y at *
        have HLD := hide (load_unAt b1 (off + i * 12) y _ (hat.keep hbr.out (Nat.le_refl _)))
        have HST := hide (store_un hzr.out y.u y.a y.n y.c)
        clear hc hmem hat hno
        go_wp2_with (first | refine wpList_load _ rfl 30 (.tmp 18) rfl (.pointer (some ⟨b1, off + i * 12, none⟩)) y.val rfl HLD.out ?_ | refine wpList_store _ rfl rfl 30 (.tmp 4) (.tmp 19) rfl (.pointer (some ⟨w.heap.size, 0, none⟩)) y.val rfl rfl _ HST.out ?_)
        refine un_end1 rfl hzr.out y.u (.slice y.a y.n y.c) ⟨_, _, _, rfl⟩ (by rfl) (by rfl) ?_
        exact ⟨y, rfl, HAU.out.symm, .inl HC1.out, setUn_below hbr.out (Nat.le_refl _) _ _⟩
      · have hq : ((i : Int) + 1 == c) = false := beq_eq_false_iff_ne.2 hc
        have HN : Hid (∀ j : Nat, j < i + 1 → (j : Int) + 1 ≠ c) := fun j hj => by
          by_cases e : j = i
          · rw [e]; exact hc
          · exact hno.out j (by omega)
        clear hc hno
        go_wp2_with fail
        go_roundw
        case rel => exact ⟨i + 1, by omega, by go_num, HN, hzr, hbr⟩
        case measure => simp only [intOf]; omega
    · have i1 : ¬ ((i : Nat) : Int) < ((n : Nat) : Int) := by omega
      have HAU : Hid (atU (uns l) c = zeroU) := atU_out (by
        rw [HUL.out]
        rintro ⟨h1, h2⟩
        exact hno.out (c - 1).toNat (by omega) (by omega))
      have HST := hide (store_un hzr.out zeroU none 0 0)
      clear hno
      go_wp2_with (refine wpList_store _ rfl rfl 30 (.tmp 4) (.tmp 20) rfl (.pointer (some ⟨w.heap.size, 0, none⟩)) (zeroU.val (.slice none 0 0)) rfl rfl _ HST.out ?_)
      refine un_end1 rfl hzr.out zeroU (.slice none 0 0) ⟨_, _, _, rfl⟩ (by rfl) (by rfl) ?_
      exact ⟨Ux.zero, rfl, HAU.out.symm, .inr rfl, setUn_below hbr.out (Nat.le_refl _) _ _⟩

set_option maxHeartbeats 4000000 in
set_option maxRecDepth 100000 in
theorem rFree_any (a : Option Addr) (n cap : Nat) (l : List Ux) (w : World) (h : Us w a n l) (hbig : n ≤ 1000000) :
    Calls Try.prog 18 #[.slice a n cap] w fun e w' => e = .returned (.int .i64 (freeU (uns l))) ∧ Below w.heap.size w w' := by
  have HUL : Hid ((uns l).length = n) := by show _ = _; rw [uns_len, h.len]
  have HE := hide h
  have H0 := hide (Below.refl w.heap.size w)
  clear h
  go_enter Try.func18, Try.ntmps18
  go_wp2_with fail
  go_loopw [3] (fun iv wr => ∃ i : Nat, i ≤ n ∧ iv = .int .i64 (i : Nat) ∧ Hid (∀ j, j < i → Un.emp ((uns l).getD j zeroU) = false) ∧ Hid (Below w.heap.size w wr)) (fun iv _ => n - (intOf iv).toNat)
  case atStart => exact ⟨0, Nat.zero_le _, rfl, (fun j hj => absurd hj (Nat.not_lt_zero _)), H0⟩
  case round =>
    obtain ⟨i, hi, rfl, hix, hbr⟩ := hrel
    rcases Nat.lt_or_ge i n with hlt | hge
    · have i1 : ((i : Nat) : Int) < ((n : Nat) : Int) := by omega
      have hr := HE.out.keep hbr.out (Nat.le_refl _)
      obtain ⟨b1, off, rfl, hat⟩ := hr.at' i hlt
      have hcol := hr.cols _ (hr.mem hlt)
      have hyu : (uns l).getD i zeroU = (l.getD i Ux.zero).u := uns_get l i
      generalize l.getD i Ux.zero = y at *
      have HLD := hide (load_unAt b1 (off + i * 12) y _ hat)
      have HYU := hide hyu
      clear hat hr hyu
      cases hon : y.u.emp with
      | true =>
        have HCL := hide (empty_is hon _ hcol)
        have HF : Hid (freeU (uns l) = (i : Int) + 1) := by
          show _ = _
          unfold freeU
          rw [idxU_is (by rw [HUL.out]; exact hlt) (by rw [HYU.out]; exact hon) hix.out]
        clear hix HYU hon hcol
        go_wp2_with (refine wpList_load _ rfl 30 (.tmp 12) rfl (.pointer (some ⟨b1, off + i * 12, none⟩)) y.val rfl HLD.out ?_)
        refine HCL.out.mono ?_
        rintro e w1 ⟨rfl, hb1⟩
        have HB1 := hide (rBelow hbr.out hb1)
        clear hb1
        go_wp2_with fail
        go_ret
        exact ⟨by rw [HF.out]; rfl, HB1.out⟩
      | false =>
        have HCL := hide (empty_is hon _ hcol)
        have HN : Hid (∀ j, j < i + 1 → Un.emp ((uns l).getD j zeroU) = false) := by
          intro j hj
          by_cases e : j = i
          · rw [e, HYU.out]; exact hon
          · exact hix.out j (by omega)
        clear hix HYU hon hcol
        go_wp2_with (refine wpList_load _ rfl 30 (.tmp 12) rfl (.pointer (some ⟨b1, off + i * 12, none⟩)) y.val rfl HLD.out ?_)
        refine HCL.out.mono ?_
        rintro e w1 ⟨rfl, hb1⟩
        have HB1 := hide (rBelow hbr.out hb1)
        clear hb1
        go_wp2_with fail
        go_roundw
        case rel => exact ⟨i + 1, by omega, by go_num, HN, HB1⟩
        case measure => simp only [intOf]; omega
    · have i1 : ¬ ((i : Nat) : Int) < ((n : Nat) : Int) := by omega
      have HF : Hid (freeU (uns l) = 0) := by
        show _ = _
        unfold freeU
        rw [idxU_no (fun j hj => hix.out j (by rw [HUL.out] at hj; omega))]
      clear hix
      go_wp2_with fail
      go_ret
      exact ⟨by rw [HF.out]; rfl, hbr.out⟩

set_option maxHeartbeats 4000000 in
set_option maxRecDepth 100000 in
theorem rUsed_any (a : Option Addr) (n cap : Nat) (l : List Ux) (w : World) (h : Us w a n l) (hbig : n ≤ 1000000) :
    Calls Try.prog 19 #[.slice a n cap] w fun e w' => e = .returned (.int .i64 ((usedN (uns l) : Nat) : Int)) ∧ Below w.heap.size w w' := by
  have HUL : Hid ((uns l).length = n) := by show _ = _; rw [uns_len, h.len]
  have HE := hide h
  have H0 := hide (Below.refl w.heap.size w)
  clear h
  go_enter Try.func19, Try.ntmps19
  go_wp2_with fail
  go_loopw [3, 4] (fun v iv wr => ∃ i m : Nat, i ≤ n ∧ m ≤ i ∧ iv = .int .i64 (i : Nat) ∧ v = .int .i64 (m : Nat) ∧ Hid (m = usedN ((uns l).take i)) ∧ Hid (Below w.heap.size w wr)) (fun _ iv _ => n - (intOf iv).toNat)
  case atStart => exact ⟨0, 0, Nat.zero_le _, Nat.le_refl _, rfl, rfl, rfl, H0⟩
  case round =>
    obtain ⟨i, m, hi, hmi, rfl, rfl, hmu, hbr⟩ := hrel
    rcases Nat.lt_or_ge i n with hlt | hge
    · have i1 : ((i : Nat) : Int) < ((n : Nat) : Int) := by omega
      have hr := HE.out.keep hbr.out (Nat.le_refl _)
      obtain ⟨b1, off, rfl, hat⟩ := hr.at' i hlt
      have hcol := hr.cols _ (hr.mem hlt)
      have hyu : (uns l).getD i zeroU = (l.getD i Ux.zero).u := uns_get l i
      generalize l.getD i Ux.zero = y at *
      have HLD := hide (load_unAt b1 (off + i * 12) y _ hat)
      have HYU := hide hyu
      have HNT := hide (usedN_take (l := uns l) (k := i) (by rw [HUL.out]; exact hlt))
      clear hat hr hyu
      cases hon : y.u.emp with
      | true =>
        have HCL := hide (empty_is hon _ hcol)
        have HNT2 : Hid (m = usedN ((uns l).take (i + 1))) := by
          show _ = _
          rw [HNT.out, HYU.out, hon, hmu.out]; simp
        clear HNT HYU hon hcol
        go_wp2_with (refine wpList_load _ rfl 30 (.tmp 13) rfl (.pointer (some ⟨b1, off + i * 12, none⟩)) y.val rfl HLD.out ?_)
        refine HCL.out.mono ?_
        rintro e w1 ⟨rfl, hb1⟩
        have HB1 := hide (rBelow hbr.out hb1)
        clear hb1
        go_wp2_with fail
        go_roundw
        case rel => exact ⟨i + 1, m, by omega, by omega, by go_num, rfl, HNT2, HB1⟩
        case measure => simp only [intOf]; omega
      | false =>
        have HCL := hide (empty_is hon _ hcol)
        have HNT2 : Hid (m + 1 = usedN ((uns l).take (i + 1))) := by
          show _ = _
          rw [HNT.out, HYU.out, hon, hmu.out]; simp
        clear HNT HYU hon hcol
        go_wp2_with (refine wpList_load _ rfl 30 (.tmp 13) rfl (.pointer (some ⟨b1, off + i * 12, none⟩)) y.val rfl HLD.out ?_)
        refine HCL.out.mono ?_
        rintro e w1 ⟨rfl, hb1⟩
        have HB1 := hide (rBelow hbr.out hb1)
        clear hb1
        go_wp2_with fail
        go_roundw
        case rel => exact ⟨i + 1, m + 1, by omega, by omega, by go_num, by go_num, HNT2, HB1⟩
        case measure => simp only [intOf]; omega
    · have i1 : ¬ ((i : Nat) : Int) < ((n : Nat) : Int) := by omega
      have HM : Hid (m = usedN (uns l)) := by
        show _ = _
        rw [hmu.out, List.take_of_length_le (by rw [HUL.out]; omega)]
      clear hmu
      go_wp2_with fail
      go_ret
      exact ⟨by rw [← HM.out]; rfl, hbr.out⟩

set_option maxHeartbeats 4000000 in
set_option maxRecDepth 100000 in
theorem rSet_any (a : Option Addr) (n cap : Nat) (l : List Ux) (w : World) (h : Us w a n l) (hbig : n ≤ 1000) (k : Nat) (hk : k < n) (x : Ux) (hx : Fs w x.a x.n x.c x.u.row.xs) (hf : x.u.fits) :
    Calls Try.prog 37 #[.slice a n cap, .int .i64 ((k : Int) + 1), x.val] w fun e w' => ∃ s : Sl, e = .returned s.val ∧ RowU w' s ((uns l).set k x.u) ∧ Below w.heap.size w w' := by
  have HA := hide (below_alloc w (.cells #[.int .i64 x.u.tx, .int .i64 x.u.no, .int .i64 x.u.prev, .int .i64 x.u.kind, .int .i64 x.u.page, .int .i64 x.u.slot, .float .f64 x.u.row.key, .bool x.u.row.dead, .slice x.a x.n x.c, .int .i64 x.u.row.wr, .int .i64 x.u.row.cell, .int .i64 x.u.row.no] 30))
  have HBK := hide (unBlk_new w x.u (.slice x.a x.n x.c))
  obtain ⟨⟨sa, sl, sc⟩, W, hrun, hud, hb, hnew⟩ := Ud.copy (cap := cap) h HA.out (by omega) hbig
  have hsl : sl = n := by have h1 := hud.len; have h2 := h.len; rw [h2] at h1; exact h1.symm
  subst hsl
  obtain ⟨g, off, ha, _⟩ := hud.us.at' 0 (by show 0 < sl; omega)
  replace ha : sa = some ⟨g, off, none⟩ := ha
  subst ha
  rw [show (w.alloc (.cells #[.int .i64 x.u.tx, .int .i64 x.u.no, .int .i64 x.u.prev, .int .i64 x.u.kind, .int .i64 x.u.page, .int .i64 x.u.slot, .float .f64 x.u.row.key, .bool x.u.row.dead, .slice x.a x.n x.c, .int .i64 x.u.row.wr, .int .i64 x.u.row.cell, .int .i64 x.u.row.no] 30)).heap.size = w.heap.size + 1 by simp] at hrun
  have HR := hide hrun
  simp only [Sl.val] at HR
  have hbk2 := HBK.out.keep hb
  have HLD := hide (load_un _ x.u (.slice x.a x.n x.c) ⟨_, _, _, rfl⟩ W hbk2)
  obtain ⟨W4, hrun4, hud4, _⟩ := hud.set (g := g) (off := off) rfl k (by rw [hud.len]; exact hk) x (Col.old hx hud.below) hf
  have HR4 := hide hrun4
  have HUD4 := hide hud4
  have hi1 : ((k : Nat) : Int) < ((sl : Nat) : Int) := by omega
  have hval : x.u.val (.slice x.a x.n x.c) = x.val := rfl
  rw [hval] at HLD
  clear h hx hf hrun hud hb hnew hbk2 hrun4 hud4 hval HA HBK
  unfold Ux.val Un.val
  go_enter Try.func37, Try.ntmps37
  go_wp2_with (first | (at_builtin; refine wpList_app _ rfl 22 (.tmp 8) (.tmp 9) rfl _ _ rfl rfl (.slice (some ⟨g, off, none⟩) sl sc) W HR.out ?_) | refine wpList_load _ rfl 30 (.tmp 5) rfl (.pointer (some ⟨w.heap.size, 0, none⟩)) x.val rfl HLD.out ?_ | refine wpList_store _ rfl rfl 30 (.tmp 15) (.tmp 14) rfl (.pointer (some ⟨g, off + k * 12, none⟩)) x.val rfl rfl W4 HR4.out ?_)
  go_ret
  exact ⟨⟨some ⟨g, off, none⟩, sl, sc⟩, rfl, ⟨_, HUD4.out.us, uns_set l k x⟩, HUD4.out.below⟩

end Go.Proofs.Ytpdkeghmpnanpaa
