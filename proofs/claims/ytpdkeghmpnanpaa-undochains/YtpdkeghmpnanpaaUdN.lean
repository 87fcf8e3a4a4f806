/-
  The document's Get and Chain.
-/
import Derived.Test.YtpdkeghmpnanpaaUdK
namespace Go.Proofs.Ytpdkeghmpnanpaa
open Go.RowKit

set_option maxHeartbeats 4000000 in
set_option maxRecDepth 100000 in
theorem rGet_any (a : Option Addr) (n cap : Nat) (l : List Ux) (w : World) (h : Us w a n l) (hbig : n ≤ 1000000) (c m : Int) :
    Calls Try.prog 23 #[.slice a n cap, .agg #[.int .i64 c, .int .i64 m]] w fun e w' => ∃ x : Ux, e = .returned (.tuple #[x.val, .bool (getU (uns l) c m).2]) ∧ x.u = (getU (uns l) c m).1 ∧ Fs w' x.a x.n x.c x.u.row.xs ∧ Below w.heap.size w w' := by
  have HA := hide (below_two w (.cells #[.int .i64 c, .int .i64 m] 26) (.cells #[.int .i64 0, .int .i64 0, .int .i64 0, .int .i64 0, .int .i64 0, .int .i64 0, .float .f64 0, .bool false, .slice none 0 0, .int .i64 0, .int .i64 0, .int .i64 0] 30))
  have hz0 := unBlk_new (w.alloc (.cells #[.int .i64 c, .int .i64 m] 26)) zeroU (.slice none 0 0)
  rw [show (w.alloc (.cells #[.int .i64 c, .int .i64 m] 26)).heap.size = w.heap.size + 1 by simp] at hz0
  have HZ0 : Hid (UnBlk ((w.alloc (.cells #[.int .i64 c, .int .i64 m] 26)).alloc (.cells #[.int .i64 0, .int .i64 0, .int .i64 0, .int .i64 0, .int .i64 0, .int .i64 0, .float .f64 0, .bool false, .slice none 0 0, .int .i64 0, .int .i64 0, .int .i64 0] 30)) (w.heap.size + 1) zeroU (.slice none 0 0)) := hz0
  have HRB : Hid (((w.alloc (.cells #[.int .i64 c, .int .i64 m] 26)).alloc (.cells #[.int .i64 0, .int .i64 0, .int .i64 0, .int .i64 0, .int .i64 0, .int .i64 0, .float .f64 0, .bool false, .slice none 0 0, .int .i64 0, .int .i64 0, .int .i64 0] 30)).heap[w.heap.size]? = some (.cells #[.int .i64 c, .int .i64 m] 26)) := by
    show _ = _
    have h1 := heap_alloc_new w (.cells #[.int .i64 c, .int .i64 m] 26)
    have h2 := (below_alloc (w.alloc (.cells #[.int .i64 c, .int .i64 m] 26)) (.cells #[.int .i64 0, .int .i64 0, .int .i64 0, .int .i64 0, .int .i64 0, .int .i64 0, .float .f64 0, .bool false, .slice none 0 0, .int .i64 0, .int .i64 0, .int .i64 0] 30)).block w.heap.size (by simp)
    exact h2.trans h1
  have HAT : Hid (∀ w', Below w.heap.size w w' → Calls Try.prog 25 #[.slice a n cap, .int .i64 c] w' fun e w'' => ∃ x : Ux, e = .returned x.val ∧ x.u = atU (uns l) c ∧ (x ∈ l ∨ x = Ux.zero) ∧ Below w'.heap.size w' w'') := fun w' hb => rAt_any a n cap l w' (h.keep hb (Nat.le_refl _)) hbig c
  have HE := hide h
  clear h hz0
  cases hem : (atU (uns l) c).emp with
  | true =>
    have hg : getU (uns l) c m = (zeroU, false) := by unfold getU; rw [if_pos (.inl hem)]
    rw [hg]
    simp only
    have HEM := hide hem
    clear hg hem
    go_enter Try.func23, Try.ntmps23
    go_wp2_with fail
    refine (HAT.out _ HA.out).mono ?_
    rintro e w2 ⟨x, rfl, hxu, hxm, hb2⟩
    have hfx0 := (HE.out.mz hxm).1
    have HXU := hide hxu
    have HHOME : Hid (∀ b off, x.a = some ⟨b, off, none⟩ → 0 < x.n → b < w.heap.size) := fun b off ha hn => by
      obtain ⟨b', off', ha', hc, _, _⟩ := hfx0.at 0 hn
      rw [ha'] at ha
      cases ha
      exact World.block_lt_of_cell? _ _ hc
    have HB2 := hide (rBelow HA.out hb2)
    have HZ2 := hide (HZ0.out.keep hb2)
    have hrb := (hb2.block w.heap.size (Array.getElem?_eq_some_iff.1 HRB.out).1).trans HRB.out
    have r1 : w2.cell? ⟨w.heap.size, 1, none⟩ = some (.int .i64 m) := by rw [cell_of_row _ _ _ _ _ _ hrb]; rfl
    obtain ⟨W3, hst3, hblk3, hb3⟩ := box_un w2 x
    have HST := hide hst3
    have HB3 := hide (rBelow HB2.out hb3)
    have HZ3 := hide (HZ2.out.keep hb3)
    have HBK3 := hide hblk3
    have HFX := hide (hfx0.keep HB3.out (Nat.le_refl _))
    have HL3 := hide (load_un _ x.u (.slice x.a x.n x.c) ⟨_, _, _, rfl⟩ W3 hblk3)
    have HCL := hide (empty_is (m := true) (by rw [hxu]; exact HEM.out) W3 HFX.out)
    have u1 := (hb3.cell (p := ⟨w.heap.size, 1, none⟩) (World.block_lt_of_cell? _ _ r1)).trans r1
    have hval0 : x.u.val (.slice x.a x.n x.c) = x.val := rfl
    rw [hval0] at HL3
    clear hxu hxm hfx0 hb2 hrb r1 hst3 hblk3 hb3 hval0
    go_wp2_with (first | refine wpList_store _ rfl rfl 30 (.tmp 6) (.tmp 10) rfl (.pointer (some ⟨w2.heap.size, 0, none⟩)) x.val rfl rfl W3 HST.out ?_ | refine wpList_load _ rfl 30 (.tmp 6) rfl (.pointer (some ⟨w2.heap.size, 0, none⟩)) x.val rfl HL3.out ?_)
    refine HCL.out.mono ?_
    rintro e w4 ⟨rfl, hb4⟩
    have HZ4 := hide (HZ3.out.keep hb4)
    have HSZ := hide (store_un HZ4.out zeroU none 0 0)
    have HB4 := hide (rBelow HB3.out hb4)
    clear hb4
    go_wp2_with (refine wpList_store _ rfl rfl 30 (.tmp 4) (.tmp 20) rfl (.pointer (some ⟨w.heap.size + 1, 0, none⟩)) (zeroU.val (.slice none 0 0)) rfl rfl _ HSZ.out ?_)
    refine un_end2 rfl HZ4.out zeroU (.slice none 0 0) (.bool false) ⟨_, _, _, rfl⟩ (by rfl) (by rfl) (by rfl) ?_
    exact ⟨Ux.zero, rfl, rfl, fs_nil _, setUn_below HB4.out (Nat.le_succ _) _ _⟩
  | false =>
    have HEM := hide hem
    by_cases hno : (atU (uns l) c).no = m
    · have hg : getU (uns l) c m = (atU (uns l) c, true) := by unfold getU; rw [if_neg (by rw [hem]; simp [hno])]
      rw [hg]
      simp only
      have HNO := hide hno
      clear hg hem hno
      go_enter Try.func23, Try.ntmps23
      go_wp2_with fail
      refine (HAT.out _ HA.out).mono ?_
      rintro e w2 ⟨x, rfl, hxu, hxm, hb2⟩
      have hfx0 := (HE.out.mz hxm).1
      have HXU := hide hxu
      have HHOME : Hid (∀ b off, x.a = some ⟨b, off, none⟩ → 0 < x.n → b < w.heap.size) := fun b off ha hn => by
        obtain ⟨b', off', ha', hc, _, _⟩ := hfx0.at 0 hn
        rw [ha'] at ha
        cases ha
        exact World.block_lt_of_cell? _ _ hc
      have HB2 := hide (rBelow HA.out hb2)
      have HZ2 := hide (HZ0.out.keep hb2)
      have hrb := (hb2.block w.heap.size (Array.getElem?_eq_some_iff.1 HRB.out).1).trans HRB.out
      have r1 : w2.cell? ⟨w.heap.size, 1, none⟩ = some (.int .i64 m) := by rw [cell_of_row _ _ _ _ _ _ hrb]; rfl
      obtain ⟨W3, hst3, hblk3, hb3⟩ := box_un w2 x
      have HST := hide hst3
      have HB3 := hide (rBelow HB2.out hb3)
      have HZ3 := hide (HZ2.out.keep hb3)
      have HBK3 := hide hblk3
      have HFX := hide (hfx0.keep HB3.out (Nat.le_refl _))
      have HL3 := hide (load_un _ x.u (.slice x.a x.n x.c) ⟨_, _, _, rfl⟩ W3 hblk3)
      have HCL := hide (empty_is (m := false) (by rw [hxu]; exact HEM.out) W3 HFX.out)
      have u1 := (hb3.cell (p := ⟨w.heap.size, 1, none⟩) (World.block_lt_of_cell? _ _ r1)).trans r1
      have hval0 : x.u.val (.slice x.a x.n x.c) = x.val := rfl
      rw [hval0] at HL3
      clear hxu hxm hfx0 hb2 hrb r1 hst3 hblk3 hb3 hval0
      go_wp2_with (first | refine wpList_store _ rfl rfl 30 (.tmp 6) (.tmp 10) rfl (.pointer (some ⟨w2.heap.size, 0, none⟩)) x.val rfl rfl W3 HST.out ?_ | refine wpList_load _ rfl 30 (.tmp 6) rfl (.pointer (some ⟨w2.heap.size, 0, none⟩)) x.val rfl HL3.out ?_)
      refine HCL.out.mono ?_
      rintro e w4 ⟨rfl, hb4⟩
      have HZ4 := hide (HZ3.out.keep hb4)
      have hbk4 := HBK3.out.keep hb4
      have y1 := hbk4.c1
      have HL4 := hide (load_un _ x.u (.slice x.a x.n x.c) ⟨_, _, _, rfl⟩ w4 hbk4)
      have hval : x.u.val (.slice x.a x.n x.c) = x.val := rfl
      rw [hval] at HL4
      have HSZ := hide (store_un HZ4.out x.u x.a x.n x.c)
      have v1 := (hb4.cell (p := ⟨w.heap.size, 1, none⟩) (World.block_lt_of_cell? _ _ u1)).trans u1
      have HB4 := hide (rBelow HB3.out hb4)
      have HF4 := hide ((HFX.out.keep hb4 (Nat.le_refl _)).same (W := setUn w4 (w.heap.size + 1) x.u (.slice x.a x.n x.c)) (fun b off ha hn => setUn_other _ _ _ _ _ (fun e => by have := HHOME.out b off ha hn; omega)))
      have hq : (x.u.no == m) = true := by rw [HXU.out]; simp [HNO.out]
      clear hb4 hbk4 hval u1
      go_wp2_with (first | refine wpList_load _ rfl 30 (.tmp 6) rfl (.pointer (some ⟨w2.heap.size, 0, none⟩)) x.val rfl HL4.out ?_ | refine wpList_store _ rfl rfl 30 (.tmp 4) (.tmp 21) rfl (.pointer (some ⟨w.heap.size + 1, 0, none⟩)) x.val rfl rfl _ HSZ.out ?_)
      refine un_end2 rfl HZ4.out x.u (.slice x.a x.n x.c) (.bool true) ⟨_, _, _, rfl⟩ (by rfl) (by rfl) (by rfl) ?_
      exact ⟨x, rfl, HXU.out, HF4.out, setUn_below HB4.out (Nat.le_succ _) _ _⟩
    · have hg : getU (uns l) c m = (zeroU, false) := by unfold getU; rw [if_pos (.inr hno)]
      rw [hg]
      simp only
      have HNO := hide hno
      clear hg hem hno
      go_enter Try.func23, Try.ntmps23
      go_wp2_with fail
      refine (HAT.out _ HA.out).mono ?_
      rintro e w2 ⟨x, rfl, hxu, hxm, hb2⟩
      have hfx0 := (HE.out.mz hxm).1
      have HXU := hide hxu
      have HHOME : Hid (∀ b off, x.a = some ⟨b, off, none⟩ → 0 < x.n → b < w.heap.size) := fun b off ha hn => by
        obtain ⟨b', off', ha', hc, _, _⟩ := hfx0.at 0 hn
        rw [ha'] at ha
        cases ha
        exact World.block_lt_of_cell? _ _ hc
      have HB2 := hide (rBelow HA.out hb2)
      have HZ2 := hide (HZ0.out.keep hb2)
      have hrb := (hb2.block w.heap.size (Array.getElem?_eq_some_iff.1 HRB.out).1).trans HRB.out
      have r1 : w2.cell? ⟨w.heap.size, 1, none⟩ = some (.int .i64 m) := by rw [cell_of_row _ _ _ _ _ _ hrb]; rfl
      obtain ⟨W3, hst3, hblk3, hb3⟩ := box_un w2 x
      have HST := hide hst3
      have HB3 := hide (rBelow HB2.out hb3)
      have HZ3 := hide (HZ2.out.keep hb3)
      have HBK3 := hide hblk3
      have HFX := hide (hfx0.keep HB3.out (Nat.le_refl _))
      have HL3 := hide (load_un _ x.u (.slice x.a x.n x.c) ⟨_, _, _, rfl⟩ W3 hblk3)
      have HCL := hide (empty_is (m := false) (by rw [hxu]; exact HEM.out) W3 HFX.out)
      have u1 := (hb3.cell (p := ⟨w.heap.size, 1, none⟩) (World.block_lt_of_cell? _ _ r1)).trans r1
      have hval0 : x.u.val (.slice x.a x.n x.c) = x.val := rfl
      rw [hval0] at HL3
      clear hxu hxm hfx0 hb2 hrb r1 hst3 hblk3 hb3 hval0
      go_wp2_with (first | refine wpList_store _ rfl rfl 30 (.tmp 6) (.tmp 10) rfl (.pointer (some ⟨w2.heap.size, 0, none⟩)) x.val rfl rfl W3 HST.out ?_ | refine wpList_load _ rfl 30 (.tmp 6) rfl (.pointer (some ⟨w2.heap.size, 0, none⟩)) x.val rfl HL3.out ?_)
      refine HCL.out.mono ?_
      rintro e w4 ⟨rfl, hb4⟩
      have HZ4 := hide (HZ3.out.keep hb4)
      have y1 := (HBK3.out.keep hb4).c1
      have HSZ := hide (store_un HZ4.out zeroU none 0 0)
      have v1 := (hb4.cell (p := ⟨w.heap.size, 1, none⟩) (World.block_lt_of_cell? _ _ u1)).trans u1
      have HB4 := hide (rBelow HB3.out hb4)
      have hq : (x.u.no == m) = false := by rw [HXU.out]; exact beq_eq_false_iff_ne.2 HNO.out
      clear hb4 u1
      go_wp2_with (refine wpList_store _ rfl rfl 30 (.tmp 4) (.tmp 20) rfl (.pointer (some ⟨w.heap.size + 1, 0, none⟩)) (zeroU.val (.slice none 0 0)) rfl rfl _ HSZ.out ?_)
      refine un_end2 rfl HZ4.out zeroU (.slice none 0 0) (.bool false) ⟨_, _, _, rfl⟩ (by rfl) (by rfl) (by rfl) ?_
      exact ⟨Ux.zero, rfl, rfl, fs_nil _, setUn_below HB4.out (Nat.le_succ _) _ _⟩

end Go.Proofs.Ytpdkeghmpnanpaa
