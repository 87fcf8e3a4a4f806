/-
  Layer 7: the document's Touch, ahead of the hand's round.
-/
import Derived.Test.YtfdfpdioelfjdaaCkR
namespace Go.Proofs.Ytfdfpdioelfjdaa
open Go.RowKit

/-- Where an answer of the document may lie: where the question lies, or in what is new. -/
def Old (D : Nat → Prop) (w : World) : Nat → Prop := fun k => D k ∨ w.heap.size ≤ k
theorem Gs.old {D : Nat → Prop} {w w' W : World} {s : Sl} {l : List Sp} {p : Nat} (g : Gs D w s l) (hb : Below w.heap.size w w') (f : Frm (fun k => k = p) w' W) (hp : w.heap.size ≤ p) : Gs (Old D w) W s l := by
  have h1 := (g.mono (fun k hk hl => (⟨hk, hl⟩ : D k ∧ k < w.heap.size))).below hb (Nat.le_refl _)
  exact (h1.keep (Kept.frm f (fun k hk e => by have := hk.2; omega))).mono (fun k hk _ => .inl hk.1)
theorem Gs.fresh {D : Nat → Prop} {B : Nat} {w w' W : World} {s : Sl} {l : List Sp} {p : Nat} (g : Gs (fun k => B ≤ k) w' s l) (hB : w.heap.size ≤ B) (f : Frm (fun k => k = p) w' W) (hp : p < B) : Gs (Old D w) W s l :=
  (g.off f hp).mono (fun _ hk _ => .inr (Nat.le_trans hB hk))

set_option maxHeartbeats 8000000 in
set_option maxRecDepth 100000 in
theorem rtouch_arg {D : Nat → Prop} (w : World) (v : Sl) (h : Int) (l : List Sp) (hg : Gs D w v l) (p : Int) (hp : isPg p = false) :
    Calls Try.prog 14 #[ckV v h, .int .i64 p] w fun e w' => Below w.heap.size w w' ∧ ∃ s : Sl, e = .returned (.tuple #[ckV s h, .int .i64 (-1), .int .i64 (-1), .int .i64 1]) ∧ Gs (Old D w) w' s l := by
  have hT := Tb.start (h := h) hg
  obtain ⟨W, hst, k, f, hB⟩ := hT.lay v h
  have c0 := hT.k2.c0
  have c1 := hT.k2.c1
  have HST := hide hst
  have HK := hide k
  have HB := hide hB
  have HG := hide (hg.old hT.e f (Nat.le_succ _))
  have hno : p < 0 ∨ 63 < p := by
    rcases Int.lt_or_le p 0 with h1 | h1
    · exact .inl h1
    · rcases Int.lt_or_le 63 p with h2 | h2
      · exact .inr h2
      · rw [isPg_iff.2 ⟨h1, by omega⟩] at hp
        cases hp
  clear hg hT hst k f hB hp
  obtain ⟨a, len, cap⟩ := v
  unfold ckV Sl.val at *
  simp only at *
  by_cases h1 : p < 0
  · clear hno
    go_enter Try.func14, Try.ntmps14
    go_wp2_with (refine wpList_store _ rfl rfl 24 (.tmp 4) (.tmp 21) rfl (.pointer (some ⟨w.heap.size + 1, 0, none⟩)) (.agg #[.slice a len cap, .int .i64 h]) rfl rfl W HST.out ?_)
    refine bodyPost_ret (ck_results3 (v := ⟨a, len, cap⟩) rfl HK.out _ rfl rfl rfl rfl) rfl ?_
    exact ⟨HB.out, ⟨a, len, cap⟩, rfl, HG.out⟩
  · have h2 : 63 < p := by omega
    clear hno
    go_enter Try.func14, Try.ntmps14
    go_wp2_with (refine wpList_store _ rfl rfl 24 (.tmp 4) (.tmp 21) rfl (.pointer (some ⟨w.heap.size + 1, 0, none⟩)) (.agg #[.slice a len cap, .int .i64 h]) rfl rfl W HST.out ?_)
    refine bodyPost_ret (ck_results3 (v := ⟨a, len, cap⟩) rfl HK.out _ rfl rfl rfl rfl) rfl ?_
    exact ⟨HB.out, ⟨a, len, cap⟩, rfl, HG.out⟩

set_option maxHeartbeats 8000000 in
set_option maxRecDepth 100000 in
theorem rtouch_hit {D : Nat → Prop} (w : World) (v : Sl) (h : Int) (l : List Sp) (hg : Gs D w v l) (p : Int) (hp : isPg p = true) (i : Nat) (hi : ixP l p = ((i : Nat) : Int)) (hil : i < l.length) :
    Calls Try.prog 14 #[ckV v h, .int .i64 p] w fun e w' => Below w.heap.size w w' ∧ ∃ s : Sl, e = .returned (.tuple #[ckV s h, .int .i64 ((i : Nat) : Int), .int .i64 (-1), .int .i64 0]) ∧ Gs (Old D w) w' s (l.set i ⟨(fr l i).page, true, (fr l i).pin⟩) := by
  obtain ⟨p0, p1⟩ := isPg_iff.1 hp
  have j1 : ¬ p < 0 := by omega
  have j2 : ¬ (63 : Int) < p := by omega
  have hT := Tb.start (h := h) hg
  have HAT := hide (at_any _ v h l hT.g p)
  rw [hi] at HAT
  have HT := hide hT
  have c0 := hT.k2.c0
  have c1 := hT.k2.c1
  have hlv : i < v.len := by rw [← hg.len]; exact hil
  clear hg hT hp hi hil p0 p1
  obtain ⟨a, len, cap⟩ := v
  replace hlv : i < len := hlv
  unfold ckV Sl.val at *
  simp only at *
  go_enter Try.func14, Try.ntmps14
  go_wp2_with fail
  refine HAT.out.mono ?_
  rintro e w1 ⟨rfl, hb1⟩
  have hT1 := HT.out.below hb1
  obtain ⟨bb, oo, ha, q0, q1, q2⟩ := hT1.g.cell i hlv
  replace ha : a = some ⟨bb, oo, none⟩ := ha
  subst ha
  obtain ⟨x, hx⟩ : ∃ x, x = fr l i := ⟨_, rfl⟩
  rw [← hx] at q0 q1 q2
  have HX := hide hx
  have d0 := hT1.k2.c0
  have d1 := hT1.k2.c1
  have i2 : ((i : Nat) : Int) < ((len : Nat) : Int) := by omega
  have hA := below_alloc w1 (.cells #[.int .i64 x.page, .bool true, .bool x.pin] 38)
  have hT2 := hT1.below hA
  have HT2 := hide hT2
  have e0 := hT2.k2.c0
  have e1 := hT2.k2.c1
  have HRS := hide (rset_any _ ⟨some ⟨bb, oo, none⟩, len, cap⟩ h l hT2.g i hlv ⟨x.page, true, x.pin⟩)
  clear hb1 hT1 hx hA hT2 HT HAT c0 c1
  unfold ckV Sl.val Sp.val at *
  simp only at *
  go_wp2_with fail
  generalize w1.alloc (.cells #[.int .i64 x.page, .bool true, .bool x.pin] 38) = V2 at *
  refine HRS.out.mono ?_
  rintro e w3 ⟨hb3, s3, rfl, hg3⟩
  have hT3 := HT2.out.below hb3
  obtain ⟨W, hst, k, f, hB⟩ := hT3.lay s3 h
  have HST := hide hst
  have HK := hide k
  have HB := hide hB
  have HG : Hid (Gs (Old D w) W s3 (l.set i ⟨(fr l i).page, true, (fr l i).pin⟩)) := by
    rw [← HX.out]
    exact hg3.fresh HT2.out.e.size f HT2.out.k4.lt
  clear hb3 hg3 hT3 hst k f hB HT2 HRS
  obtain ⟨a3, l3, p3⟩ := s3
  unfold ckV Sl.val at *
  simp only at *
  go_wp2_with (refine wpList_store _ rfl rfl 24 (.tmp 4) (.tmp 36) rfl (.pointer (some ⟨w.heap.size + 1, 0, none⟩)) (.agg #[.slice a3 l3 p3, .int .i64 h]) rfl rfl W HST.out ?_)
  refine bodyPost_ret (ck_results3 (v := ⟨a3, l3, p3⟩) rfl HK.out _ rfl rfl rfl rfl) rfl ?_
  exact ⟨HB.out, ⟨a3, l3, p3⟩, rfl, HG.out⟩

set_option maxHeartbeats 8000000 in
set_option maxRecDepth 100000 in
theorem rtouch_empty {D : Nat → Prop} (w : World) (v : Sl) (h : Int) (l : List Sp) (hg : Gs D w v l) (p : Int) (hp : isPg p = true) (hi0 : ixP l p = -1) (i : Nat) (hi : ixP l (-1) = ((i : Nat) : Int)) (hil : i < l.length) :
    Calls Try.prog 14 #[ckV v h, .int .i64 p] w fun e w' => Below w.heap.size w w' ∧ ∃ s : Sl, e = .returned (.tuple #[ckV s h, .int .i64 ((i : Nat) : Int), .int .i64 (-1), .int .i64 0]) ∧ Gs (Old D w) w' s (l.set i ⟨p, true, false⟩) := by
  obtain ⟨p0, p1⟩ := isPg_iff.1 hp
  have j1 : ¬ p < 0 := by omega
  have j2 : ¬ (63 : Int) < p := by omega
  have hT := Tb.start (h := h) hg
  have HAT := hide (at_any _ v h l hT.g p)
  rw [hi0] at HAT
  have HAT2 : Hid (∀ W, Gs D W v l → Calls Try.prog 24 #[ckV v h, .int .i64 (-1)] W fun e w' => e = .returned (.int .i64 ((i : Nat) : Int)) ∧ Below W.heap.size W w') := fun W hW => by have := at_any W v h l hW (-1); rwa [hi] at this
  have HT := hide hT
  have c0 := hT.k2.c0
  have c1 := hT.k2.c1
  have hlv : i < v.len := by rw [← hg.len]; exact hil
  clear hg hT hp hi hi0 hil p0 p1
  obtain ⟨a, len, cap⟩ := v
  replace hlv : i < len := hlv
  unfold ckV Sl.val at *
  simp only at *
  go_enter Try.func14, Try.ntmps14
  go_wp2_with fail
  refine HAT.out.mono ?_
  rintro e w1 ⟨rfl, hb1⟩
  have hT1 := HT.out.below hb1
  have HT1 := hide hT1
  have d0 := hT1.k2.c0
  have d1 := hT1.k2.c1
  clear hb1 hT1 HT HAT c0 c1
  unfold Sl.val at d0
  simp only at d0
  go_wp2_with fail
  refine (HAT2.out _ HT1.out.g).mono ?_
  rintro e w2 ⟨rfl, hb2⟩
  have hT2 := HT1.out.below hb2
  have HT2 := hide hT2
  have e0 := hT2.k2.c0
  have e1 := hT2.k2.c1
  have HRS := hide (rset_any _ ⟨a, len, cap⟩ h l hT2.g i hlv ⟨p, true, false⟩)
  clear hb2 hT2 HT1 HAT2 d0 d1
  unfold ckV Sl.val Sp.val at *
  simp only at *
  go_wp2_with fail
  refine HRS.out.mono ?_
  rintro e w3 ⟨hb3, s3, rfl, hg3⟩
  have hT3 := HT2.out.below hb3
  obtain ⟨W, hst, k, f, hB⟩ := hT3.lay s3 h
  have HST := hide hst
  have HK := hide k
  have HB := hide hB
  have HG : Hid (Gs (Old D w) W s3 (l.set i ⟨p, true, false⟩)) := hg3.fresh HT2.out.e.size f HT2.out.k4.lt
  clear hb3 hg3 hT3 hst k f hB HT2 HRS
  obtain ⟨a3, l3, p3⟩ := s3
  unfold ckV Sl.val at *
  simp only at *
  go_wp2_with (refine wpList_store _ rfl rfl 24 (.tmp 4) (.tmp 46) rfl (.pointer (some ⟨w.heap.size + 1, 0, none⟩)) (.agg #[.slice a3 l3 p3, .int .i64 h]) rfl rfl W HST.out ?_)
  refine bodyPost_ret (ck_results3 (v := ⟨a3, l3, p3⟩) rfl HK.out _ rfl rfl rfl rfl) rfl ?_
  exact ⟨HB.out, ⟨a3, l3, p3⟩, rfl, HG.out⟩
end Go.Proofs.Ytfdfpdioelfjdaa
