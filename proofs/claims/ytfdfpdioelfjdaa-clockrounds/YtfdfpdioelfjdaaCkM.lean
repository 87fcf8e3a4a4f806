/-
  Layer 7: New; what the law asks first.
-/
import Derived.Test.YtfdfpdioelfjdaaCkK
import Derived.Test.YtfdfpdioelfjdaaCkL
namespace Go.Proofs.Ytfdfpdioelfjdaa
open Go.RowKit

theorem Rp.own {w : World} {g n : Nat} (h : Rp w g n n) (hn : n ≤ 64) : OwnS w ⟨some ⟨g, 0, none⟩, n, n⟩ (List.replicate n Sp.none) := by
  unfold Rp at h
  rw [rp_all] at h
  refine ⟨by rw [cellsS_length, List.length_replicate], .inr ⟨g, 0, _, rfl, h, ?_, Nat.le_refl _, by show n ≤ maxLen; unfold maxLen; omega, ?_⟩⟩
  · simp [cellsS_length]
  · rw [List.drop_zero, List.take_of_length_le (by simp [cellsS_length])]

set_option maxHeartbeats 4000000 in
theorem new_bad (n : Int) (hn : n < 1 ∨ 64 < n) (w : World) : Calls Try.prog 18 #[.int .i64 n] w fun e w' => Below w.heap.size w w' ∧ e = .returned (.tuple #[ckV Sl.nil 0, .int .i64 1]) := by
  have HB := hide (below_alloc w (.cells #[.slice none 0 0, .int .i64 0] 24))
  have HK := hide (ckBlk_new w (.slice none 0 0) 0)
  by_cases h1 : n < 1
  · clear hn
    go_enter Try.func18, Try.ntmps18
    go_wp2_with fail
    refine bodyPost_ret (ck_results1 (v := Sl.nil) rfl HK.out _ rfl rfl) rfl ?_
    exact ⟨HB.out, rfl⟩
  · have h2 : 64 < n := by omega
    clear hn
    go_enter Try.func18, Try.ntmps18
    go_wp2_with fail
    refine bodyPost_ret (ck_results1 (v := Sl.nil) rfl HK.out _ rfl rfl) rfl ?_
    exact ⟨HB.out, rfl⟩

set_option maxHeartbeats 4000000 in
theorem new_ok (n : Nat) (h1 : 1 ≤ n) (h64 : n ≤ 64) (w : World) : Calls Try.prog 18 #[.int .i64 ((n : Nat) : Int)] w fun e w' => Below w.heap.size w w' ∧ ∃ s : Sl, e = .returned (.tuple #[ckV s 0, .int .i64 0]) ∧ Gs (fun k => w.heap.size ≤ k) w' s (List.replicate n Sp.none) := by
  have i1 : ¬ ((n : Nat) : Int) < 1 := by omega
  have i2 : ¬ (64 : Int) < ((n : Nat) : Int) := by omega
  have HE := hide empty_any
  have HR := hide (fun b W hx => repeat_any b n W hx h1 h64)
  have HB := hide (below_alloc w (.cells #[.slice none 0 0, .int .i64 0] 24))
  have HK := hide (ckBlk_new w (.slice none 0 0) 0)
  go_enter Try.func18, Try.ntmps18
  go_wp2_with fail
  refine (HE.out _).mono ?_
  rintro e w1 ⟨rfl, hb1⟩
  have HB1 := hide (rBelow HB.out hb1)
  have HK1 := hide (HK.out.below hb1)
  have HS := hide (spBlk_new w1 Sp.none)
  have hA := below_alloc w1 (.cells #[.int .i64 (-1), .bool false, .bool false] 38)
  have HB2 := hide (rBelow HB1.out hA)
  have HK2 := hide (HK1.out.below hA)
  clear hb1 HB HK hA
  unfold Sp.val Sp.none at *
  simp only at *
  go_wp2_with fail
  refine (HR.out w1.heap.size _ HS.out.cell3).mono ?_
  rintro e w2 ⟨hb2, g, rfl, hg, hr⟩
  have hb3 := rBelow HB2.out hb2
  have hk3 := HK2.out.below hb2
  obtain ⟨W, hst, k, f⟩ := st_ck w2 _ _ _ hk3 ⟨some ⟨g, 0, none⟩, n, n⟩ 0
  have hgw : w.heap.size < g := by
    have e1 := HK1.out.lt
    rw [alloc_size] at hg
    omega
  have HG := hide (((hr.own h64).off f (by omega)).gs (D := fun k => w.heap.size ≤ k) (fun k hk => by have e : some g = some k := hk; cases e; omega) (by show n ≤ _; omega))
  have HBW := hide (Below.more hb3 f hb3.size (Nat.le_refl _))
  have HST := hide hst
  have HKW := hide k
  clear hb2 hg hr hb3 hk3 hst k f hgw HB1 HK1 HS HB2 HK2 HR HE
  unfold ckV Sl.val at *
  simp only at *
  go_wp2_with (refine wpList_store _ rfl rfl 24 (.tmp 2) (.tmp 15) rfl (.pointer (some ⟨w.heap.size, 0, none⟩)) (.agg #[.slice (some ⟨g, 0, none⟩) n n, .int .i64 0]) rfl rfl W HST.out ?_)
  refine bodyPost_ret (ck_results1 (v := ⟨some ⟨g, 0, none⟩, n, n⟩) rfl HKW.out _ rfl rfl) rfl ?_
  exact ⟨HBW.out, ⟨some ⟨g, 0, none⟩, n, n⟩, rfl, HG.out⟩

/-- A law's own clock, in a box. -/
structure Lb (w wr : World) (g : Nat) (s : Sl) (h : Int) (l : List Sp) : Prop where
  k : CkBlk wr g s.val h
  sp : Gs (fun k => k ≠ g) wr s l
  e : Below w.heap.size w wr
  le : w.heap.size ≤ g
theorem Lb.below {w wr w' : World} {g : Nat} {s : Sl} {h : Int} {l : List Sp} (x : Lb w wr g s h l) (hb : Below wr.heap.size wr w') : Lb w w' g s h l := ⟨x.k.below hb, x.sp.below hb (Nat.le_refl _), rBelow x.e hb, x.le⟩
theorem Lb.start {w w1 : World} {s : Sl} {h : Int} {l : List Sp} (hb : Below w.heap.size w w1) (hg : Gs (fun k => w.heap.size ≤ k) w1 s l) : Lb w (w1.alloc (.cells #[s.val, .int .i64 h] 24)) w1.heap.size s h l :=
  ⟨ckBlk_new w1 s.val h, (hg.mono (fun k _ hl => (by omega : k ≠ w1.heap.size))).below (below_alloc w1 _) (Nat.le_refl _), rBelow hb (below_alloc w1 _), hb.size⟩
/-- Another clock is laid there. -/
theorem Lb.store {w wr w' : World} {g : Nat} {s : Sl} {h : Int} {l : List Sp} (x : Lb w wr g s h l) (hb : Below wr.heap.size wr w') {s' : Sl} {l' : List Sp} (hg : Gs (fun k => wr.heap.size ≤ k) w' s' l') (h' : Int) : ∃ W, (Instr.storeAt 24 (.pointer (some ⟨g, 0, none⟩)) (ckV s' h')).run Try.prog w' = .ok () W ∧ Lb w W g s' h' l' ∧ W.heap.size = w'.heap.size := by
  have x1 := x.below hb
  have hlt := x.k.lt
  refine ⟨_, store_ck g s' h' w' x1.k, ⟨x1.k.set s'.val h', ?_, Below.more x1.e (setCk_frm w' g s'.val h') x1.e.size x.le, x.le⟩, setCk_size w' g _ _⟩
  exact (hg.off (setCk_frm w' g s'.val h') hlt).mono (fun k hk _ => (by omega : k ≠ g))

def aw0 : List Sp := List.replicate 2 Sp.none
def aw1 : List Sp := [⟨1, true, false⟩, Sp.none]
def aw2 : List Sp := [⟨1, true, false⟩, ⟨2, true, false⟩]
def aw3 : List Sp := [⟨3, true, false⟩, ⟨2, false, false⟩]
theorem aw_t1 : touch aw0 0 1 = ⟨aw1, 0, 0, -1, 0⟩ := rfl
theorem aw_t2 : touch aw1 0 2 = ⟨aw2, 0, 1, -1, 0⟩ := rfl
theorem aw_t3 : touch aw2 0 3 = ⟨aw3, 1, 0, 1, 0⟩ := rfl
theorem aw_m0 : may aw0 0 = true := by decide
theorem aw_m1 : may aw1 0 = true := by decide
theorem aw_m2 : may aw2 0 = true := by decide
theorem touch_at {D : Nat → Prop} (l l' : List Sp) (h h' p i was : Int) (ht : touch l h p = ⟨l', h', i, was, 0⟩) (hm : may l h = true) (w : World) (a : Option Addr) (len cap : Nat) (hg : Gs D w ⟨a, len, cap⟩ l) :
    Calls Try.prog 8 #[.agg #[.slice a len cap, .int .i64 h], .int .i64 p] w fun e w' => Below w.heap.size w w' ∧ ∃ s : Sl, e = .returned (.tuple #[.agg #[.slice s.a s.len s.cap, .int .i64 h'], .int .i64 i, .int .i64 was, .int .i64 0]) ∧ Gs (fun k => w.heap.size ≤ k) w' s l' := by
  have h := touch_any w ⟨a, len, cap⟩ h l hg p hm
  rw [ht] at h
  exact h

set_option maxHeartbeats 8000000 in
set_option maxRecDepth 100000 in
theorem awake_any (w : World) : Calls Try.prog 7 #[] w fun e w' => e = .returned (.bool true) ∧ Below w.heap.size w w' := by
  have HN : Hid (Calls Try.prog 18 #[.int .i64 2] w fun e w' => Below w.heap.size w w' ∧ ∃ s : Sl, e = .returned (.tuple #[ckV s 0, .int .i64 0]) ∧ Gs (fun k => w.heap.size ≤ k) w' s aw0) := new_ok 2 (by omega) (by omega) w
  go_enter Try.func7, Try.ntmps7
  go_wp2_with fail
  refine HN.out.mono ?_
  rintro e w1 ⟨hb1, s1, rfl, hg1⟩
  have hL := Lb.start (h := 0) hb1 hg1
  have c0 := hL.k.c0
  have c1 := hL.k.c1
  obtain ⟨a1, l1, p1⟩ := s1
  have HL := hide hL
  have HT := hide (touch_at aw0 aw1 0 0 1 0 (-1) aw_t1 aw_m0 _ a1 l1 p1 hL.sp)
  clear hL hb1 hg1 HN
  unfold ckV Sl.val at *
  simp only at *
  go_wp2_with fail
  generalize w1.alloc (.cells #[.slice a1 l1 p1, .int .i64 0] 24) = V1 at *
  refine HT.out.mono ?_
  rintro e w2 ⟨hb2, s2, rfl, hg2⟩
  obtain ⟨a2, l2, p2⟩ := s2
  obtain ⟨V2, hst, hL2, _⟩ := HL.out.store hb2 hg2 0
  have d0 := hL2.k.c0
  have d1 := hL2.k.c1
  have HST := hide hst
  have HL2 := hide hL2
  have HT2 := hide (touch_at aw1 aw2 0 0 2 1 (-1) aw_t2 aw_m1 _ a2 l2 p2 hL2.sp)
  clear hst hL2 hb2 hg2 HL HT c0 c1
  unfold ckV Sl.val at *
  simp only at *
  go_wp2_with (refine wpList_store _ rfl rfl 24 (.tmp 1) (.tmp 13) rfl (.pointer (some ⟨w1.heap.size, 0, none⟩)) (.agg #[.slice a2 l2 p2, .int .i64 0]) rfl rfl V2 HST.out ?_)
  refine HT2.out.mono ?_
  rintro e w3 ⟨hb3, s3, rfl, hg3⟩
  obtain ⟨a3, l3, p3⟩ := s3
  obtain ⟨V3, hst, hL3, _⟩ := HL2.out.store hb3 hg3 0
  have e0 := hL3.k.c0
  have e1 := hL3.k.c1
  have HST3 := hide hst
  have HL3 := hide hL3
  have HT3 := hide (touch_at aw2 aw3 0 1 3 0 1 aw_t3 aw_m2 _ a3 l3 p3 hL3.sp)
  clear hst hL3 hb3 hg3 HL2 HT2 d0 d1
  unfold ckV Sl.val at *
  simp only at *
  go_wp2_with (refine wpList_store _ rfl rfl 24 (.tmp 1) (.tmp 20) rfl (.pointer (some ⟨w1.heap.size, 0, none⟩)) (.agg #[.slice a3 l3 p3, .int .i64 0]) rfl rfl V3 HST3.out ?_)
  refine HT3.out.mono ?_
  rintro e w4 ⟨hb4, s4, rfl, hg4⟩
  have hl4 : 2 = s4.len := hg4.len
  obtain ⟨a4, l4, p4⟩ := s4
  obtain rfl : 2 = l4 := hl4
  obtain ⟨V4, hst, hL4, _⟩ := HL3.out.store hb4 hg4 1
  have f0 := hL4.k.c0
  have HST4 := hide hst
  have HB := hide hL4.e
  clear hst hL4 hb4 hg4 HL3 HT3 e0 e1
  unfold ckV Sl.val at *
  simp only at *
  go_wp2_with (refine wpList_store _ rfl rfl 24 (.tmp 1) (.tmp 27) rfl (.pointer (some ⟨w1.heap.size, 0, none⟩)) (.agg #[.slice a4 2 p4, .int .i64 1]) rfl rfl V4 HST4.out ?_)
  go_ret
  exact ⟨rfl, HB.out⟩
end Go.Proofs.Ytfdfpdioelfjdaa
