/-
  Layer 7: Touch.
-/
import Derived.Test.YtfdfpdioelfjdaaCkI
namespace Go.Proofs.Ytfdfpdioelfjdaa
open Go.RowKit

theorem isPg_iff {p : Int} : isPg p = true ↔ 0 ≤ p ∧ p < 64 := by unfold isPg; simp
theorem touch_arg {l : List Sp} {h p : Int} (hp : isPg p = false) : touch l h p = ⟨l, h, -1, -1, 1⟩ := by
  have : p < 0 ∨ 63 < p := by
    rcases Int.lt_or_le p 0 with h1 | h1
    · exact .inl h1
    · rcases Int.lt_or_le 63 p with h2 | h2
      · exact .inr h2
      · rw [isPg_iff.2 ⟨h1, by omega⟩] at hp
        cases hp
  unfold touch
  rw [if_pos this]
theorem touch_in {l : List Sp} {h p : Int} {i : Nat} (hp : isPg p = true) (hi : ixP l p = ((i : Nat) : Int)) : touch l h p = ⟨l.set i ⟨(fr l i).page, true, (fr l i).pin⟩, h, ((i : Nat) : Int), -1, 0⟩ := by
  obtain ⟨h1, h2⟩ := isPg_iff.1 hp
  unfold touch
  rw [if_neg (by omega), if_pos (by omega), hi]
  rfl
theorem touch_find {l : List Sp} {h p : Int} (hm : may l h = true) (hp : isPg p = true) (hi : ixP l p = -1) : touch l h p = if (fnd l h.toNat).at_ < 0 then ⟨l, h, -1, -1, 11⟩ else ⟨(fnd l h.toNat).l.set (fnd l h.toNat).at_.toNat ⟨p, true, false⟩, ((fnd l h.toNat).h : Int), (fnd l h.toNat).at_, (fr (fnd l h.toNat).l (fnd l h.toNat).at_.toNat).page, 0⟩ := by
  obtain ⟨h1, h2⟩ := isPg_iff.1 hp
  obtain ⟨_, _, h0, _, hg⟩ := may_iff.1 hm
  have e := ixN_is hg
  unfold touch
  rw [if_neg (by omega), if_neg (by omega)]
  by_cases hn : 0 ≤ ixP l (-1)
  · have ef : fnd l h.toNat = ⟨l, h.toNat, ixN l⟩ := if_pos (by rw [e]; exact hn)
    rw [if_pos hn, ef, e]
    simp only
    rw [if_neg (by omega), Int.toNat_of_nonneg h0]
    rcases ixP_cases l (-1) with ⟨h3, _⟩ | ⟨i, hi2, h3, h4, _⟩
    · omega
    · rw [h3]
      simp only [Int.toNat_natCast]
      rw [h4]
  · have ef : fnd l h.toNat = rnd (2 * l.length) l h.toNat := if_neg (by rw [e]; exact hn)
    rw [if_neg hn, ef]

/-- A call's own boxes: what it was handed, and its answer. -/
structure Tb (D : Nat → Prop) (w wr : World) (v : Sl) (h : Int) (l : List Sp) : Prop where
  k2 : CkBlk wr w.heap.size v.val h
  k4 : CkBlk wr (w.heap.size + 1) (.slice none 0 0) 0
  g : Gs D wr v l
  e : Below w.heap.size w wr
theorem Tb.below {D : Nat → Prop} {w wr w' : World} {v : Sl} {h : Int} {l : List Sp} (t : Tb D w wr v h l) (hb : Below wr.heap.size wr w') : Tb D w w' v h l :=
  ⟨t.k2.below hb, t.k4.below hb, t.g.below hb (Nat.le_refl _), rBelow t.e hb⟩
theorem Tb.start {D : Nat → Prop} {w : World} {v : Sl} {h : Int} {l : List Sp} (hg : Gs D w v l) : Tb D w ((w.alloc (.cells #[v.val, .int .i64 h] 24)).alloc (.cells #[.slice none 0 0, .int .i64 0] 24)) v h l := by
  have hA1 := below_alloc w (.cells #[v.val, .int .i64 h] 24)
  have hA2 := below_alloc (w.alloc (.cells #[v.val, .int .i64 h] 24)) (.cells #[.slice none 0 0, .int .i64 0] 24)
  have hk2 := ckBlk_new (w.alloc (.cells #[v.val, .int .i64 h] 24)) (.slice none 0 0) 0
  rw [alloc_size] at hk2
  exact ⟨(ckBlk_new w v.val h).below hA2, hk2, hg.below (rBelow hA1 hA2) (Nat.le_refl _), rBelow hA1 hA2⟩
/-- The answer is laid. -/
theorem Tb.lay {D : Nat → Prop} {w wr : World} {v : Sl} {h : Int} {l : List Sp} (t : Tb D w wr v h l) (s : Sl) (h' : Int) : ∃ W, (Instr.storeAt 24 (.pointer (some ⟨w.heap.size + 1, 0, none⟩)) (ckV s h')).run Try.prog wr = .ok () W ∧ CkBlk W (w.heap.size + 1) s.val h' ∧ Frm (fun k => k = w.heap.size + 1) wr W ∧ Below w.heap.size w W := by
  obtain ⟨W, hst, k, f⟩ := st_ck wr _ _ _ t.k4 s h'
  exact ⟨W, hst, k, f, Below.more t.e f t.e.size (Nat.le_succ _)⟩
theorem Gs.off {w W : World} {s : Sl} {l : List Sp} {B p : Nat} (g : Gs (fun k => B ≤ k) w s l) (f : Frm (fun k => k = p) w W) (hp : p < B) : Gs (fun k => B ≤ k) W s l := g.keep (Kept.frm f (fun k hk e => by rw [e] at hk; omega))

set_option maxHeartbeats 8000000 in
set_option maxRecDepth 100000 in
theorem touch_bad {D : Nat → Prop} (w : World) (v : Sl) (h : Int) (l : List Sp) (hg : Gs D w v l) (p : Int) (hm : may l h = false) :
    Calls Try.prog 8 #[ckV v h, .int .i64 p] w fun e w' => Below w.heap.size w w' ∧ e = .returned (.tuple #[ckV Sl.nil 0, .int .i64 (-1), .int .i64 (-1), .int .i64 1]) := by
  have hT := Tb.start (h := h) hg
  have HC := hide (check_any _ v h l hT.g)
  rw [chk_no hm] at HC
  have HT := hide hT
  clear hg hT
  obtain ⟨a, len, cap⟩ := v
  unfold ckV Sl.val at *
  simp only at *
  go_enter Try.func8, Try.ntmps8
  go_wp2_with fail
  refine HC.out.mono ?_
  rintro e w1 ⟨rfl, hb1⟩
  have hT1 := HT.out.below hb1
  obtain ⟨W, hst, k, f, hB⟩ := hT1.lay Sl.nil 0
  have HST := hide hst
  have HK := hide k
  have HB := hide hB
  clear hT1 hst k f hB hb1
  unfold ckV Sl.val Sl.nil at *
  simp only at *
  go_wp2_with (refine wpList_store _ rfl rfl 24 (.tmp 4) (.tmp 17) rfl (.pointer (some ⟨w.heap.size + 1, 0, none⟩)) (.agg #[.slice none 0 0, .int .i64 0]) rfl rfl W HST.out ?_)
  refine bodyPost_ret (ck_results3 (v := Sl.nil) rfl HK.out _ rfl rfl rfl rfl) rfl ?_
  exact ⟨HB.out, rfl⟩

set_option maxHeartbeats 8000000 in
set_option maxRecDepth 100000 in
theorem touch_one {D : Nat → Prop} (w : World) (v : Sl) (h : Int) (l : List Sp) (hg : Gs D w v l) (p : Int) (hm : may l h = true) (hp : isPg p = false) :
    Calls Try.prog 8 #[ckV v h, .int .i64 p] w fun e w' => Below w.heap.size w w' ∧ ∃ s : Sl, e = .returned (.tuple #[ckV s h, .int .i64 (-1), .int .i64 (-1), .int .i64 1]) ∧ Gs (fun k => w.heap.size ≤ k) w' s l := by
  have hT := Tb.start (h := h) hg
  have HC := hide (check_any _ v h l hT.g)
  rw [chk_ok hm] at HC
  have HT := hide hT
  have HP := hide (isPage_any p)
  rw [hp] at HP
  have HCP : Hid (∀ W, Tb D w W v h l → Calls Try.prog 20 #[ckV v h] W fun e w' => Below W.heap.size W w' ∧ ∃ s : Sl, e = .returned (ckV s h) ∧ OwnS w' s l ∧ s.len = v.len ∧ ∀ k, s.blk = some k → W.heap.size ≤ k) := fun W hW => copyOf_any W v h l hW.g
  have hbig : v.len ≤ 1000000 := hg.big
  clear hg hT hp
  obtain ⟨a, len, cap⟩ := v
  unfold ckV Sl.val at *
  simp only at *
  go_enter Try.func8, Try.ntmps8
  go_wp2_with fail
  refine HC.out.mono ?_
  rintro e w1 ⟨rfl, hb1⟩
  have hT1 := HT.out.below hb1
  have c0 := hT1.k2.c0
  have c1 := hT1.k2.c1
  have HT1 := hide hT1
  clear hT1 hb1 HT
  unfold Sl.val at c0
  simp only at c0
  go_wp2_with fail
  refine (HP.out _).mono ?_
  rintro e w2 ⟨rfl, hw2⟩
  obtain rfl := hw2.symm
  go_wp2_with fail
  refine (HCP.out _ HT1.out).mono ?_
  rintro e w2 ⟨hb2, s, rfl, ho, hl, hk⟩
  have hT2 := HT1.out.below hb2
  obtain ⟨W, hst, k, f, hB⟩ := hT2.lay s h
  have HST := hide hst
  have HK := hide k
  have HB := hide hB
  have hsz := HT1.out.k4.lt
  have HG := hide (((ho.gs (D := fun k => w1.heap.size ≤ k) hk (by omega)).off f hsz).mono (fun k hk _ => (by have := HT1.out.e.size; omega : w.heap.size ≤ k)))
  clear hT2 hst k f hB hb2 ho hk hsz
  obtain ⟨sa, sl, sc⟩ := s
  unfold ckV Sl.val at *
  simp only at *
  go_wp2_with (refine wpList_store _ rfl rfl 24 (.tmp 4) (.tmp 23) rfl (.pointer (some ⟨w.heap.size + 1, 0, none⟩)) (.agg #[.slice sa sl sc, .int .i64 h]) rfl rfl W HST.out ?_)
  refine bodyPost_ret (ck_results3 (v := ⟨sa, sl, sc⟩) rfl HK.out _ rfl rfl rfl rfl) rfl ?_
  exact ⟨HB.out, ⟨sa, sl, sc⟩, rfl, HG.out⟩
end Go.Proofs.Ytfdfpdioelfjdaa
