/-
  Layer 7: the document's Touch, ahead of the hand's round.
  Layer 7: the document's Touch, the hand's round: the drawn statement.
  Layer 7: the document's Touch, the hand's round.
  Layer 7: the document's Touch, Pin and Drop.
-/
import Derived.Test.YtcaaiihjolnkgaaGreatBf
namespace Go.Proofs.YtcaaiihjolnkgaaGreat
open Go.RowKit
set_option maxRecDepth 100000

/-- Where an answer of the document may lie: where the question lies, or in what is new. -/
def Old (D : Nat → Prop) (w : World) : Nat → Prop := fun k => D k ∨ w.heap.size ≤ k
theorem Gs.old {D : Nat → Prop} {w w' W : World} {s : Sl} {l : List Sp} {p : Nat} (g : Gs D w s l) (hb : Below w.heap.size w w') (f : Frm (fun k => k = p) w' W) (hp : w.heap.size ≤ p) : Gs (Old D w) W s l := by
  have h1 := (g.mono (fun k hk hl => (⟨hk, hl⟩ : D k ∧ k < w.heap.size))).below hb (Nat.le_refl _)
  exact (h1.keep (Kept.frm f (fun k hk e => by have := hk.2; omega))).mono (fun k hk _ => .inl hk.1)
theorem Gs.fresh {D : Nat → Prop} {B : Nat} {w w' W : World} {s : Sl} {l : List Sp} {p : Nat} (g : Gs (fun k => B ≤ k) w' s l) (hB : w.heap.size ≤ B) (f : Frm (fun k => k = p) w' W) (hp : p < B) : Gs (Old D w) W s l :=
  (g.off f hp).mono (fun _ hk _ => .inr (Nat.le_trans hB hk))

set_option maxHeartbeats 8000000 in
set_option maxRecDepth 100000 in
theorem rtouch_arg {D : Nat → Prop} (w : World) (v : Sl) (h : Int) (l : List Sp) (hg : Gs D w v l) (p : Int) (hp : isPg p = false) :
    Calls Tryz.prog 59 #[ckV v h, .int .i64 p] w fun e w' => Below w.heap.size w w' ∧ ∃ s : Sl, e = .returned (.tuple #[ckV s h, .int .i64 (-1), .int .i64 (-1), .int .i64 1]) ∧ Gs (Old D w) w' s l := by
  have hT := Tb.start (h := h) hg
  obtain ⟨W, hst, k, f, hB⟩ := hT.lay v h
  have c0 := hT.k2.c0
  have c1 := hT.k2.c1
  have HST := hide hst
  have HK := hide k
  have HB := hide hB
  have HG := hide (hg.old hT.e f (Nat.le_succ _))
  have hno : p < 0 ∨ 63 < p := by
    rcases Int.lt_or_le p 0 with h1 | h1
    · exact .inl h1
    · rcases Int.lt_or_le 63 p with h2 | h2
      · exact .inr h2
      · rw [isPg_iff.2 ⟨h1, by omega⟩] at hp
        cases hp
  clear hg hT hst k f hB hp
  obtain ⟨a, len, cap⟩ := v
  unfold ckV Sl.val at *
  simp only at *
  by_cases h1 : p < 0
  · clear hno
    go_enter Tryz.func59, Tryz.ntmps59
    go_wp2_with (refine wpList_store _ rfl rfl 40 (.tmp 4) (.tmp 21) rfl (.pointer (some ⟨w.heap.size + 1, 0, none⟩)) (.agg #[.slice a len cap, .int .i64 h]) rfl rfl W HST.out ?_)
    refine bodyPost_ret (ck_results3 (v := ⟨a, len, cap⟩) rfl HK.out _ rfl rfl rfl rfl) rfl ?_
    exact ⟨HB.out, ⟨a, len, cap⟩, rfl, HG.out⟩
  · have h2 : 63 < p := by omega
    clear hno
    go_enter Tryz.func59, Tryz.ntmps59
    go_wp2_with (refine wpList_store _ rfl rfl 40 (.tmp 4) (.tmp 21) rfl (.pointer (some ⟨w.heap.size + 1, 0, none⟩)) (.agg #[.slice a len cap, .int .i64 h]) rfl rfl W HST.out ?_)
    refine bodyPost_ret (ck_results3 (v := ⟨a, len, cap⟩) rfl HK.out _ rfl rfl rfl rfl) rfl ?_
    exact ⟨HB.out, ⟨a, len, cap⟩, rfl, HG.out⟩

set_option maxHeartbeats 8000000 in
set_option maxRecDepth 100000 in
theorem rtouch_hit {D : Nat → Prop} (w : World) (v : Sl) (h : Int) (l : List Sp) (hg : Gs D w v l) (p : Int) (hp : isPg p = true) (i : Nat) (hi : ixP l p = ((i : Nat) : Int)) (hil : i < l.length) :
    Calls Tryz.prog 59 #[ckV v h, .int .i64 p] w fun e w' => Below w.heap.size w w' ∧ ∃ s : Sl, e = .returned (.tuple #[ckV s h, .int .i64 ((i : Nat) : Int), .int .i64 (-1), .int .i64 0]) ∧ Gs (Old D w) w' s (l.set i ⟨(fr l i).page, true, (fr l i).pin⟩) := by
  obtain ⟨p0, p1⟩ := isPg_iff.1 hp
  have j1 : ¬ p < 0 := by omega
  have j2 : ¬ (63 : Int) < p := by omega
  have hT := Tb.start (h := h) hg
  have HAT := hide (at_any _ v h l hT.g p)
  rw [hi] at HAT
  have HT := hide hT
  have c0 := hT.k2.c0
  have c1 := hT.k2.c1
  have hlv : i < v.len := by rw [← hg.len]; exact hil
  clear hg hT hp hi hil p0 p1
  obtain ⟨a, len, cap⟩ := v
  replace hlv : i < len := hlv
  unfold ckV Sl.val at *
  simp only at *
  go_enter Tryz.func59, Tryz.ntmps59
  go_wp2_with fail
  refine HAT.out.mono ?_
  rintro e w1 ⟨rfl, hb1⟩
  have hT1 := HT.out.below hb1
  obtain ⟨bb, oo, ha, q0, q1, q2⟩ := hT1.g.cell i hlv
  replace ha : a = some ⟨bb, oo, none⟩ := ha
  subst ha
  obtain ⟨x, hx⟩ : ∃ x, x = fr l i := ⟨_, rfl⟩
  rw [← hx] at q0 q1 q2
  have HX := hide hx
  have d0 := hT1.k2.c0
  have d1 := hT1.k2.c1
  have i2 : ((i : Nat) : Int) < ((len : Nat) : Int) := by omega
  have hA := below_alloc w1 (.cells #[.int .i64 x.page, .bool true, .bool x.pin] 85)
  have hT2 := hT1.below hA
  have HT2 := hide hT2
  have e0 := hT2.k2.c0
  have e1 := hT2.k2.c1
  have HRS := hide (rset_any _ ⟨some ⟨bb, oo, none⟩, len, cap⟩ h l hT2.g i hlv ⟨x.page, true, x.pin⟩)
  clear hb1 hT1 hx hA hT2 HT HAT c0 c1
  unfold ckV Sl.val Sp.val at *
  simp only at *
  go_wp2_with fail
  generalize w1.alloc (.cells #[.int .i64 x.page, .bool true, .bool x.pin] 85) = V2 at *
  refine HRS.out.mono ?_
  rintro e w3 ⟨hb3, s3, rfl, hg3⟩
  have hT3 := HT2.out.below hb3
  obtain ⟨W, hst, k, f, hB⟩ := hT3.lay s3 h
  have HST := hide hst
  have HK := hide k
  have HB := hide hB
  have HG : Hid (Gs (Old D w) W s3 (l.set i ⟨(fr l i).page, true, (fr l i).pin⟩)) := by
    rw [← HX.out]
    exact hg3.fresh HT2.out.e.size f HT2.out.k4.lt
  clear hb3 hg3 hT3 hst k f hB HT2 HRS
  obtain ⟨a3, l3, p3⟩ := s3
  unfold ckV Sl.val at *
  simp only at *
  go_wp2_with (refine wpList_store _ rfl rfl 40 (.tmp 4) (.tmp 36) rfl (.pointer (some ⟨w.heap.size + 1, 0, none⟩)) (.agg #[.slice a3 l3 p3, .int .i64 h]) rfl rfl W HST.out ?_)
  refine bodyPost_ret (ck_results3 (v := ⟨a3, l3, p3⟩) rfl HK.out _ rfl rfl rfl rfl) rfl ?_
  exact ⟨HB.out, ⟨a3, l3, p3⟩, rfl, HG.out⟩

set_option maxHeartbeats 8000000 in
set_option maxRecDepth 100000 in
theorem rtouch_empty {D : Nat → Prop} (w : World) (v : Sl) (h : Int) (l : List Sp) (hg : Gs D w v l) (p : Int) (hp : isPg p = true) (hi0 : ixP l p = -1) (i : Nat) (hi : ixP l (-1) = ((i : Nat) : Int)) (hil : i < l.length) :
    Calls Tryz.prog 59 #[ckV v h, .int .i64 p] w fun e w' => Below w.heap.size w w' ∧ ∃ s : Sl, e = .returned (.tuple #[ckV s h, .int .i64 ((i : Nat) : Int), .int .i64 (-1), .int .i64 0]) ∧ Gs (Old D w) w' s (l.set i ⟨p, true, false⟩) := by
  obtain ⟨p0, p1⟩ := isPg_iff.1 hp
  have j1 : ¬ p < 0 := by omega
  have j2 : ¬ (63 : Int) < p := by omega
  have hT := Tb.start (h := h) hg
  have HAT := hide (at_any _ v h l hT.g p)
  rw [hi0] at HAT
  have HAT2 : Hid (∀ W, Gs D W v l → Calls Tryz.prog 67 #[ckV v h, .int .i64 (-1)] W fun e w' => e = .returned (.int .i64 ((i : Nat) : Int)) ∧ Below W.heap.size W w') := fun W hW => by have := at_any W v h l hW (-1); rwa [hi] at this
  have HT := hide hT
  have c0 := hT.k2.c0
  have c1 := hT.k2.c1
  have hlv : i < v.len := by rw [← hg.len]; exact hil
  clear hg hT hp hi hi0 hil p0 p1
  obtain ⟨a, len, cap⟩ := v
  replace hlv : i < len := hlv
  unfold ckV Sl.val at *
  simp only at *
  go_enter Tryz.func59, Tryz.ntmps59
  go_wp2_with fail
  refine HAT.out.mono ?_
  rintro e w1 ⟨rfl, hb1⟩
  have hT1 := HT.out.below hb1
  have HT1 := hide hT1
  have d0 := hT1.k2.c0
  have d1 := hT1.k2.c1
  clear hb1 hT1 HT HAT c0 c1
  unfold Sl.val at d0
  simp only at d0
  go_wp2_with fail
  refine (HAT2.out _ HT1.out.g).mono ?_
  rintro e w2 ⟨rfl, hb2⟩
  have hT2 := HT1.out.below hb2
  have HT2 := hide hT2
  have e0 := hT2.k2.c0
  have e1 := hT2.k2.c1
  have HRS := hide (rset_any _ ⟨a, len, cap⟩ h l hT2.g i hlv ⟨p, true, false⟩)
  clear hb2 hT2 HT1 HAT2 d0 d1
  unfold ckV Sl.val Sp.val at *
  simp only at *
  go_wp2_with fail
  refine HRS.out.mono ?_
  rintro e w3 ⟨hb3, s3, rfl, hg3⟩
  have hT3 := HT2.out.below hb3
  obtain ⟨W, hst, k, f, hB⟩ := hT3.lay s3 h
  have HST := hide hst
  have HK := hide k
  have HB := hide hB
  have HG : Hid (Gs (Old D w) W s3 (l.set i ⟨p, true, false⟩)) := hg3.fresh HT2.out.e.size f HT2.out.k4.lt
  clear hb3 hg3 hT3 hst k f hB HT2 HRS
  obtain ⟨a3, l3, p3⟩ := s3
  unfold ckV Sl.val at *
  simp only at *
  go_wp2_with (refine wpList_store _ rfl rfl 40 (.tmp 4) (.tmp 46) rfl (.pointer (some ⟨w.heap.size + 1, 0, none⟩)) (.agg #[.slice a3 l3 p3, .int .i64 h]) rfl rfl W HST.out ?_)
  refine bodyPost_ret (ck_results3 (v := ⟨a3, l3, p3⟩) rfl HK.out _ rfl rfl rfl rfl) rfl ?_
  exact ⟨HB.out, ⟨a3, l3, p3⟩, rfl, HG.out⟩
end Go.Proofs.YtcaaiihjolnkgaaGreat

namespace Go.Proofs.YtcaaiihjolnkgaaGreat
open Go.RowKit
set_option maxRecDepth 100000

theorem fdSpB0 (p : Nat) (w : World) : (Instr.fieldAt 85 (.pointer (some ⟨p, 0, none⟩)) 0).run Tryz.prog w = .ok (.pointer (some ⟨p, 0, none⟩)) w := by simp [go_sem, Instr.fieldAt]
theorem ldPage (p : Nat) (x : Sp) (w : World) (k : SpBlk w p x) : (Instr.loadAt 3 (.pointer (some ⟨p, 0, none⟩))).run Tryz.prog w = .ok (.int .i64 x.page) w := by
  have c0 := k.c0
  simp [go_sem, Instr.loadAt, c0]
theorem build_sp (p : Int) (w : World) : (Instr.build 85 #[(0, .int .i64 p), (1, .bool true)]).run Tryz.prog w = .ok (Sp.val ⟨p, true, false⟩) w := by
  unfold Sp.val
  simp [go_sem, Instr.build]
theorem entSet : ∀ args w, (callFunc 68 args).run Tryz.prog w = .ok (.enter 68 args) w := Pl.enters Tryz.func68 (by kernel_rfl) (by kernel_rfl)
/-- The hand's clock, and the frame where it stands. -/
def RtS (gX gS : Nat) (s : Sl) (h : Int) (x : Sp) (w : World) : Prop := CkBlk w gX s.val h ∧ SpBlk w gS x
theorem RtS.below {gX gS : Nat} {s : Sl} {h : Int} {x : Sp} {w w' : World} (k : RtS gX gS s h x w) (hb : Below w.heap.size w w') : RtS gX gS s h x w' := ⟨k.1.below hb, k.2.below hb⟩
theorem RtS.off {gX gS r : Nat} {s : Sl} {h : Int} {x : Sp} {w w' : World} (k : RtS gX gS s h x w) (f : Frm (fun k => k = r) w w') (h1 : gX ≠ r) (h2 : gS ≠ r) : RtS gX gS s h x w' := ⟨k.1.off f h1, k.2.off f h2⟩

set_option maxHeartbeats 2000000 in
set_option maxRecDepth 100000 in
theorem rt21 (w : World) (gX gS r i : Nat) (s : Sl) (h p : Int) (x : Sp) (l' : List Sp) (v0 : Value) (h0 : Int) (hS : RtS gX gS s h x w) (hr : CkBlk w r v0 h0) (h1 : gX ≠ r) (h2 : gS ≠ r) (hR : ∀ W, Below w.heap.size w W → Calls Tryz.prog 68 #[ckV s h, .int .i64 ((i : Nat) : Int), Sp.val ⟨p, true, false⟩] W fun e w' => Below W.heap.size W w' ∧ ∃ s' : Sl, e = .returned (ckV s' h) ∧ Gs (fun k => W.heap.size ≤ k) w' s' l')
    {Q : Exit → Act → World → Prop} {A : Act} (hsz : A.tmps.size = 99) (hdf : A.defers = []) (s1 : A.tmps.getD 1 undef = .int .i64 p) (s4 : A.tmps.getD 4 undef = .pointer (some ⟨r, 0, none⟩)) (s11 : A.tmps.getD 11 undef = .pointer (some ⟨gX, 0, none⟩)) (s13 : A.tmps.getD 13 undef = .int .i64 ((i : Nat) : Int)) (s14 : A.tmps.getD 14 undef = .pointer (some ⟨gS, 0, none⟩))
    (hend : ∀ (u : Nat → Value) w' (s' : Sl), (CkBlk w' r s'.val h ∧ Gs (fun k => w.heap.size ≤ k) w' s' l' ∧ Frm (fun k => k = r) w w') → Q .normal ((((((((((((A).put (some 82) (u 82)).put (some 83) (u 83)).put (some 84) (u 84)).put (some 85) (u 85)).put (some 87) (u 87)).put (some 88) (u 88)).put (some 89) (u 89)).put (some 86) (u 86)).put (some 5) (.int .i64 ((i : Nat) : Int))).put (some 6) (.int .i64 x.page)).put (some 7) (.int .i64 0)) w') :
    (Code.region 21 (Pl.find 21 ((Tryz.f59.body).getD .skip)) true).wp Tryz.prog Q A w := by
  have hA := Pl.At.same (v := .pointer (some ⟨gS, 0, none⟩)) (d := 14) (Pl.At.same (v := .int .i64 ((i : Nat) : Int)) (d := 13) (Pl.At.same (v := .pointer (some ⟨gX, 0, none⟩)) (d := 11) (Pl.At.same (v := .pointer (some ⟨r, 0, none⟩)) (d := 4) (Pl.At.same (v := .int .i64 p) (d := 1) (Pl.At.here hsz hdf) s1) s4) s11) s13) s14
  refine Pl.H.start (S := (RtS gX gS s h x)) (by kernel_rfl) hA (hS.below (below_drewC w)) ?_
  rw [show (Pl.find 21 ((Tryz.f59.body).getD .skip)).size = 12 by kernel_rfl]
  refine Pl.H.take 0 82 (ckV s h) (by kernel_rfl) (by kernel_rfl) (by kernel_rfl) (Pl.free 0 (by kernel_rfl)) (Pl.load 0 40 (.tmp 11) _ (by kernel_rfl) (by decide) (fun w' hS => ldCk gX s h w' hS.1)) (hS.below (below_drewC w)) ?_
  refine Pl.H.take 1 83 (.int .i64 ((i : Nat) : Int)) (by kernel_rfl) (by kernel_rfl) (by kernel_rfl) (Pl.free 1 (by kernel_rfl)) (Pl.move 1 (.tmp 13) (by kernel_rfl) (by decide)) (hS.below (below_drewC w)) ?_
  refine Pl.H.take 2 84 (.int .i64 p) (by kernel_rfl) (by kernel_rfl) (by kernel_rfl) (Pl.free 2 (by kernel_rfl)) (Pl.move 2 (.tmp 1) (by kernel_rfl) (by decide)) (hS.below (below_drewC w)) ?_
  refine Pl.H.take 3 85 (Sp.val ⟨p, true, false⟩) (by kernel_rfl) (by kernel_rfl) (by kernel_rfl) (Pl.free 3 (by kernel_rfl)) (Pl.buildV 3 85 [(0, .tmp 84), (1, .const (.bool true))] _ (by kernel_rfl) (by decide) (fun w => build_sp p w)) (hS.below (below_drewC w)) ?_
  refine Pl.H.take 5 87 (.int .i64 ((i : Nat) : Int)) (by kernel_rfl) (by kernel_rfl) (by kernel_rfl) (Pl.free 5 (by kernel_rfl)) (Pl.move 5 (.tmp 13) (by kernel_rfl) (by decide)) (hS.below (below_drewC w)) ?_
  refine Pl.H.take 6 88 (.pointer (some ⟨gS, 0, none⟩)) (by kernel_rfl) (by kernel_rfl) (by kernel_rfl) (Pl.free 6 (by kernel_rfl)) (Pl.field 6 85 (.tmp 14) 0 _ (by kernel_rfl) (by decide) (fdSpB0 gS)) (hS.below (below_drewC w)) ?_
  refine Pl.H.take 7 89 (.int .i64 x.page) (by kernel_rfl) (by kernel_rfl) (by kernel_rfl) (Pl.free 7 (by kernel_rfl)) (Pl.load 7 3 (.tmp 88) _ (by kernel_rfl) (by decide) (fun w' hS => ldPage gS x w' hS.2)) (hS.below (below_drewC w)) ?_
  refine Pl.H.call 4 86 68 [(.tmp 82), (.tmp 83), (.tmp 85)] #[40, 3, 85] (by kernel_rfl) (by kernel_rfl) (by kernel_rfl) (Pl.free 4 (by kernel_rfl)) (by kernel_rfl) (by decide) entSet (Calls.mono (hR w.drew (below_drewC w)) ?_)
  rintro e w1 ⟨hb1, s1, rfl, hg1⟩
  have hE1 := rBelow (below_drewC w) hb1
  have hS1 := hS.below hE1
  have hr1 := hr.below hE1
  refine ⟨ckV s1 h, rfl, hS1, ?_⟩
  have hS2 := hS1.off (setCk_frm w1 r s1.val h) h1 h2
  refine Pl.H.store 8 (setCk w1 r s1.val h) (by kernel_rfl) (by kernel_rfl) (by kernel_rfl) (Pl.free 8 (by kernel_rfl)) (Pl.storeV 8 40 (.tmp 4) (.tmp 86) _ (by kernel_rfl) (by decide) (by decide) (store_ck r s1 h w1 hr1)) hS2 ?_
  refine Pl.H.take 9 5 (.int .i64 ((i : Nat) : Int)) (by kernel_rfl) (by kernel_rfl) (by kernel_rfl) (Pl.free 9 (by kernel_rfl)) (Pl.assign 9 (.tmp 87) (by kernel_rfl) (by decide)) hS2 ?_
  refine Pl.H.take 10 6 (.int .i64 x.page) (by kernel_rfl) (by kernel_rfl) (by kernel_rfl) (Pl.free 10 (by kernel_rfl)) (Pl.assign 10 (.tmp 89) (by kernel_rfl) (by decide)) hS2 ?_
  refine Pl.H.take 11 7 (.int .i64 0) (by kernel_rfl) (by kernel_rfl) (by kernel_rfl) (Pl.free 11 (by kernel_rfl)) (Pl.assign 11 (.const (.int .i64 0)) (by kernel_rfl) (by decide)) hS2 ?_
  refine Pl.H.done (by kernel_rfl) (fun A' hA' => ?_)
  rw [Pl.At.ext hA' (((((((((((hA.put 82 _).put 83 _).put 84 _).put 85 _).put 87 _).put 88 _).put 89 _).put 86 _).put 5 _).put 6 _).put 7 _)]
  exact hend (fun d => if d = 82 then ckV s h else if d = 83 then .int .i64 ((i : Nat) : Int) else if d = 84 then .int .i64 p else if d = 85 then Sp.val ⟨p, true, false⟩ else if d = 87 then .int .i64 ((i : Nat) : Int) else if d = 88 then .pointer (some ⟨gS, 0, none⟩) else if d = 89 then .int .i64 x.page else if d = 86 then ckV s1 h else undef) _ s1 ⟨hr1.set s1.val h, hg1.off (setCk_frm w1 r s1.val h) hr.lt, (Frm.ofBelow (F := fun k => k = r) hE1).trans (setCk_frm w1 r s1.val h) (fun _ _ e => e)⟩
end Go.Proofs.YtcaaiihjolnkgaaGreat

namespace Go.Proofs.YtcaaiihjolnkgaaGreat
open Go.RowKit
set_option maxRecDepth 100000

/-- What is kept on the round. -/
structure Rl (D : Nat → Prop) (w wr : World) (gX : Nat) (v : Sl) (h : Int) (l : List Sp) (vx : Sl) (hx : Int) (lx : List Sp) : Prop where
  tb : Tb (fun k => D k ∧ k < w.heap.size) w wr v h l
  kx : CkBlk wr gX vx.val hx
  sx : Gs (fun k => k ≠ gX ∧ k ≠ w.heap.size + 1) wr vx lx
  le : w.heap.size + 2 ≤ gX
theorem Rl.below {D : Nat → Prop} {w wr w' : World} {gX : Nat} {v : Sl} {h : Int} {l : List Sp} {vx : Sl} {hx : Int} {lx : List Sp} (x : Rl D w wr gX v h l vx hx lx) (hb : Below wr.heap.size wr w') : Rl D w w' gX v h l vx hx lx :=
  ⟨x.tb.below hb, x.kx.below hb, x.sx.below hb (Nat.le_refl _), x.le⟩
theorem Tb.turn {D : Nat → Prop} {w wr W : World} {v : Sl} {h : Int} {l : List Sp} {p : Nat} (t : Tb (fun k => D k ∧ k < w.heap.size) w wr v h l) (f : Frm (fun k => k = p) wr W) (hp : w.heap.size + 2 ≤ p) : Tb (fun k => D k ∧ k < w.heap.size) w W v h l :=
  ⟨t.k2.off f (by omega), t.k4.off f (by omega), t.g.keep (Kept.frm f (fun k hk e => by have := hk.2; omega)), Below.more t.e f t.e.size (by omega)⟩
theorem Rl.hand {D : Nat → Prop} {w wr : World} {gX : Nat} {v : Sl} {h : Int} {l : List Sp} {vx : Sl} {hx : Int} {lx : List Sp} (x : Rl D w wr gX v h l vx hx lx) (h' : Int) : ∃ W, (Instr.storeAt 3 (.pointer (some ⟨gX, 1, none⟩)) (.int .i64 h')).run Tryz.prog wr = .ok () W ∧ Rl D w W gX v h l vx h' lx ∧ Frm (fun k => k = gX) wr W := by
  obtain ⟨W, hst, k, f⟩ := st_hand wr gX _ _ x.kx h'
  exact ⟨W, hst, ⟨x.tb.turn f x.le, k, x.sx.keep (Kept.frm f (fun k hk e => hk.1 e)), x.le⟩, f⟩
/-- Another clock is laid there. -/
theorem Rl.lay {D : Nat → Prop} {w wr w' : World} {gX : Nat} {v : Sl} {h : Int} {l : List Sp} {vx : Sl} {hx : Int} {lx : List Sp} (x : Rl D w wr gX v h l vx hx lx) (hb : Below wr.heap.size wr w') {s' : Sl} {l' : List Sp} (hg : Gs (fun k => wr.heap.size ≤ k) w' s' l') (h' : Int) : ∃ W, (Instr.storeAt 40 (.pointer (some ⟨gX, 0, none⟩)) (ckV s' h')).run Tryz.prog w' = .ok () W ∧ Rl D w W gX v h l s' h' l' := by
  have x1 := x.below hb
  have hlt := x.kx.lt
  have hlt4 := x.tb.k4.lt
  have f := setCk_frm w' gX s'.val h'
  exact ⟨_, store_ck gX s' h' w' x1.kx, ⟨x1.tb.turn f x.le, x1.kx.set s'.val h', (hg.off f hlt).mono (fun k hk _ => ⟨by omega, by omega⟩), x.le⟩⟩
theorem st_sp1 (w : World) (p : Nat) (x : Sp) (k : SpBlk w p x) (u : Bool) : ∃ W, (Instr.storeAt 4 (.pointer (some ⟨p, 1, none⟩)) (.bool u)).run Tryz.prog w = .ok () W ∧ SpBlk W p ⟨x.page, u, x.pin⟩ ∧ Frm (fun k => k = p) w W := by
  refine ⟨w.setCell ⟨p, 1, none⟩ (.bool u), ?_, k.use u, (Frm.refl (fun k => k = p) w).setCell (p := ⟨p, 1, none⟩) rfl _⟩
  have c0 := k.c1
  have f0 := k.fz 1
  simp [go_sem, Instr.storeAt, c0, f0]
theorem touch_round {l : List Sp} {h p : Int} (hm : may l h = true) (hp : isPg p = true) (hi : ixP l p = -1) (hn : ixP l (-1) = -1) : touch l h p = if (rnd (2 * l.length) l h.toNat).at_ < 0 then ⟨l, h, -1, -1, 11⟩ else ⟨(rnd (2 * l.length) l h.toNat).l.set (rnd (2 * l.length) l h.toNat).at_.toNat ⟨p, true, false⟩, ((rnd (2 * l.length) l h.toNat).h : Int), (rnd (2 * l.length) l h.toNat).at_, (fr (rnd (2 * l.length) l h.toNat).l (rnd (2 * l.length) l h.toNat).at_.toNat).page, 0⟩ := by
  obtain ⟨_, _, _, _, mg⟩ := may_iff.1 hm
  have ef : fnd l h.toNat = rnd (2 * l.length) l h.toNat := if_neg (by rw [ixN_is mg, hn]; decide)
  rw [touch_find hm hp hi, ef]

set_option maxHeartbeats 8000000 in
set_option maxRecDepth 100000 in
theorem rtouch_round {D : Nat → Prop} (w : World) (v : Sl) (h : Int) (l : List Sp) (hg : Gs D w v l) (p : Int) (hm : may l h = true) (hp : isPg p = true) (hi : ixP l p = -1) (hi2 : ixP l (-1) = -1) :
    Calls Tryz.prog 59 #[ckV v h, .int .i64 p] w fun e w' => Below w.heap.size w w' ∧ ∃ s : Sl, e = .returned (.tuple #[ckV s (touch l h p).h, .int .i64 (touch l h p).at_, .int .i64 (touch l h p).was, .int .i64 (touch l h p).e]) ∧ Gs (Old D w) w' s (touch l h p).l := by
  obtain ⟨hl1, hl64, h0, hh0, _⟩ := may_iff.1 hm
  obtain ⟨n, rfl⟩ := Int.eq_ofNat_of_zero_le h0
  obtain ⟨p0, p1⟩ := isPg_iff.1 hp
  have j1 : ¬ p < 0 := by omega
  have j2 : ¬ (63 : Int) < p := by omega
  have HTR := hide (touch_round hm hp hi hi2)
  simp only [Int.toNat_natCast] at HTR
  have hg' := hg.mono (fun k hk hl => (⟨hk, hl⟩ : D k ∧ k < w.heap.size))
  have hT := Tb.start (h := ((n : Nat) : Int)) hg'
  have HAT := hide (at_any _ v ((n : Nat) : Int) l hT.g p)
  rw [hi] at HAT
  have HAT2 : Hid (∀ W, Gs (fun k => D k ∧ k < w.heap.size) W v l → Calls Tryz.prog 67 #[ckV v ((n : Nat) : Int), .int .i64 (-1)] W fun e w' => e = .returned (.int .i64 (-1)) ∧ Below W.heap.size W w') := fun W hW => by have := at_any W v ((n : Nat) : Int) l hW (-1); rwa [hi2] at this
  have HT := hide hT
  have c0 := hT.k2.c0
  have c1 := hT.k2.c1
  have HLV : Hid (l.length = v.len) := hg.len
  have hv1 : 1 ≤ v.len := by rw [← hg.len]; exact hl1
  have hv64 : v.len ≤ 64 := by rw [← hg.len]; exact hl64
  have hnv : n < v.len := by rw [← hg.len]; omega
  have HR0 : Hid (rnd (2 * v.len) l n = rnd (2 * v.len - 0) l n) := rfl
  rw [hg.len] at HTR
  clear hg hg' hT hp hi hi2 p0 p1 hm h0 hl1 hl64 hh0
  obtain ⟨a, len, cap⟩ := v
  unfold ckV Sl.val at *
  simp only at *
  go_enter Tryz.func59, Tryz.ntmps59
  go_wp2_with fail
  refine HAT.out.mono ?_
  rintro e w1 ⟨rfl, hb1⟩
  have hT1 := HT.out.below hb1
  have HT1 := hide hT1
  have d0 := hT1.k2.c0
  have d1 := hT1.k2.c1
  clear hb1 hT1 HT HAT c0 c1
  unfold Sl.val at d0
  simp only at d0
  go_wp2_with fail
  refine (HAT2.out _ HT1.out.g).mono ?_
  rintro e w2 ⟨rfl, hb2⟩
  have hT2 := HT1.out.below hb2
  have e0 := hT2.k2.c0
  have e1 := hT2.k2.c1
  have hA := below_alloc w2 (.cells #[.slice a len cap, .int .i64 ((n : Nat) : Int)] 40)
  have hT3 := hT2.below hA
  have hlt4 := hT2.k4.lt
  have HRL : Hid (Rl D w (w2.alloc (.cells #[.slice a len cap, .int .i64 ((n : Nat) : Int)] 40)) w2.heap.size ⟨a, len, cap⟩ ((n : Nat) : Int) l ⟨a, len, cap⟩ ((n : Nat) : Int) l) := by
    refine ⟨hT3, ckBlk_new w2 _ _, ?_, by omega⟩
    exact (hT2.g.mono (fun k hk hl => (⟨by omega, by have := hk.2; omega⟩ : k ≠ w2.heap.size ∧ k ≠ w.heap.size + 1))).below hA (Nat.le_refl _)
  clear hb2 hT2 hA hT3 hlt4 HT1 HAT2 d0 d1
  unfold Sl.val at e0
  simp only at e0
  go_wp2_with fail
  generalize w2.alloc (.cells #[.slice a len cap, .int .i64 ((n : Nat) : Int)] 40) = V0 at *
  go_loopw [12] (fun iv wr => ∃ k : Nat, k ≤ 2 * len ∧ iv = .int .i64 (k : Nat) ∧ ∃ vx h' lx, Hid (rnd (2 * len) l n = rnd (2 * len - k) lx h') ∧ Hid (lx.length = len) ∧ h' < len ∧ Hid (Rl D w wr w2.heap.size ⟨a, len, cap⟩ ((n : Nat) : Int) l vx ((h' : Nat) : Int) lx)) (fun iv _ => 2 * len - (intOf iv).toNat)
  case atStart => exact ⟨0, Nat.zero_le _, rfl, _, n, l, HR0, HLV, hnv, HRL⟩
  case round =>
    obtain ⟨k, hk, rfl, vx, h', lx, hr, hlx, hh', hrl⟩ := hrel
    have c0 := hrl.out.tb.k2.c0
    have c1 := hrl.out.tb.k2.c1
    rcases Nat.lt_or_ge k (2 * len) with hlt | hge
    · have i1 : ((k : Nat) : Int) < 2 * ((len : Nat) : Int) := by omega
      have i2 : ((h' : Nat) : Int) < ((len : Nat) : Int) := by omega
      have hxl : len = vx.len := by rw [← hlx.out]; exact hrl.out.sx.len
      obtain ⟨bb, oo, ha, q0, q1, q2⟩ := hrl.out.sx.cell h' (by omega)
      obtain ⟨xa, xl, xc⟩ := vx
      replace ha : xa = some ⟨bb, oo, none⟩ := ha
      replace hxl : xl = len := hxl.symm
      subst ha
      subst hxl
      have x0 := hrl.out.kx.c0
      have x1 := hrl.out.kx.c1
      obtain ⟨x, hx⟩ : ∃ x, x = fr lx h' := ⟨_, rfl⟩
      rw [← hx] at q0 q1 q2
      have hAS := below_alloc wr (.cells #[.int .i64 x.page, .bool x.used, .bool x.pin] 85)
      have hrlS := hrl.out.below hAS
      have hsS := spBlk_new wr x
      have y0 := hrlS.kx.c0
      have y1 := hrlS.kx.c1
      have hne : wr.heap.size ≠ w2.heap.size := by have := hrl.out.kx.lt; omega
      have hsub : 2 * xl - k = (2 * xl - (k + 1)) + 1 := by omega
      have hmod : (h' + 1) % xl < xl := Nat.mod_lt _ (by omega)
      rw [hsub] at hr
      by_cases hwr : h' + 1 = xl
      · obtain ⟨W2, hst2, hrl2, f2⟩ := hrlS.hand ((xl : Nat) : Int)
        have hs2 := hsS.off f2 hne
        have HST2 := hide hst2
        have z0 := hrl2.kx.c0
        have z1 := hrl2.kx.c1
        have heq : ((h' : Nat) : Int) + 1 = ((xl : Nat) : Int) := by omega
        obtain ⟨W3, hst3, hrl3, f3⟩ := hrl2.hand 0
        have hs3 := hs2.off f3 hne
        have HST3 := hide hst3
        have hm0 : (h' + 1) % xl = 0 := by rw [hwr, Nat.mod_self]
        have s0 := hs3.c0
        have s1 := hs3.c1
        have s2 := hs3.c2
        have w0 := hrl3.kx.c0
        have w1' := hrl3.kx.c1
        have HRL := hide hrl3
        have HSS := hide hs3
        have HX := hide hx
        have HMOD := hide hmod
        have HMM := hide hm0
        cases hpn : x.pin with
        | true =>
          rw [hpn] at s2
          have HR : Hid (rnd (2 * xl) l n = rnd (2 * xl - (k + 1)) lx ((h' + 1) % xl)) := by
            have e := hr.out
            rw [rnd_pin (by rw [← hx]; exact hpn), hlx.out] at e
            exact e
          have HRN : Hid (Rl D w W3 w2.heap.size ⟨a, xl, cap⟩ ((n : Nat) : Int) l ⟨some ⟨bb, oo, none⟩, xl, xc⟩ (((h' + 1) % xl : Nat) : Int) lx) := by
            rw [HMM.out]
            exact HRL.out
          clear hst2 hrl2 f2 hs2 hst3 hrl3 f3 hs3 hrlS hsS hAS hr hpn hx hmod hsub HSS HRL hm0
          clear hwr
          unfold Sl.val at *
          simp only at *
          go_wp2_with (first | refine wpList_store _ rfl rfl 3 (.tmp 66) (.tmp 65) rfl (.pointer (some ⟨w2.heap.size, 1, none⟩)) (.int .i64 ((xl : Nat) : Int)) rfl rfl W2 HST2.out ?_ | refine wpList_store _ rfl rfl 3 (.tmp 73) (.const (.int .i64 0)) rfl (.pointer (some ⟨w2.heap.size, 1, none⟩)) (.int .i64 0) rfl rfl W3 HST3.out ?_)
          go_roundw
          case rel => exact ⟨k + 1, by omega, by go_num, _, _, _, HR, hlx, HMOD.out, HRN⟩
          case measure => simp only [intOf]; omega
        | false =>
          rw [hpn] at s2
          cases hud : x.used with
          | false =>
            rw [hud] at s1
            have HE : Hid (touch l ((n : Nat) : Int) p = ⟨lx.set h' ⟨p, true, false⟩, 0, ((h' : Nat) : Int), x.page, 0⟩) := by
              show _ = _
              have e := hr.out
              rw [rnd_hit (by rw [← hx]; exact hpn) (by rw [← hx]; exact hud), hlx.out, HMM.out] at e
              rw [HTR.out, e]
              simp only [Int.toNat_natCast]
              rw [if_neg (by omega), ← hx]
              rfl
            have HRT : Hid (RtS w2.heap.size wr.heap.size ⟨some ⟨bb, oo, none⟩, xl, xc⟩ 0 x W3) := ⟨HRL.out.kx, HSS.out⟩
            have HSET : Hid (∀ W, Below W3.heap.size W3 W → Calls Tryz.prog 68 #[ckV ⟨some ⟨bb, oo, none⟩, xl, xc⟩ 0, .int .i64 ((h' : Nat) : Int), Sp.val ⟨p, true, false⟩] W fun e w' => Below W.heap.size W w' ∧ ∃ s' : Sl, e = .returned (ckV s' 0) ∧ Gs (fun k => W.heap.size ≤ k) w' s' (lx.set h' ⟨p, true, false⟩)) :=
              fun W hW => rset_any W _ _ lx (HRL.out.sx.below hW (Nat.le_refl _)) h' hh' _
            have HN1 : Hid (w2.heap.size ≠ w.heap.size + 1) := by have := HRL.out.le; show _ ≠ _; omega
            have HN2 : Hid (wr.heap.size ≠ w.heap.size + 1) := by have := hrl.out.tb.k4.lt; show _ ≠ _; omega
            clear hst2 hrl2 f2 hs2 hst3 hrl3 f3 hs3 hrlS hsS hAS hr hpn hud hx hmod hsub HSS hm0
            clear hwr
            unfold Sl.val at *
            simp only at *
            go_wp2_with (first | refine wpList_store _ rfl rfl 3 (.tmp 66) (.tmp 65) rfl (.pointer (some ⟨w2.heap.size, 1, none⟩)) (.int .i64 ((xl : Nat) : Int)) rfl rfl W2 HST2.out ?_ | refine wpList_store _ rfl rfl 3 (.tmp 73) (.const (.int .i64 0)) rfl (.pointer (some ⟨w2.heap.size, 1, none⟩)) (.int .i64 0) rfl rfl W3 HST3.out ?_)
            refine Pl.region_is (ops := Pl.find 21 ((Tryz.f59.body).getD .skip)) (by kernel_rfl) ?_
            refine rt21 W3 w2.heap.size wr.heap.size (w.heap.size + 1) h' ⟨some ⟨bb, oo, none⟩, xl, xc⟩ 0 p x (lx.set h' ⟨p, true, false⟩) _ _ HRT.out HRL.out.tb.k4 HN1.out HN2.out HSET.out (by rfl) rfl (by rfl) (by rfl) (by rfl) (by rfl) (by rfl) ?_
            intro u w5 s5 ⟨k5, g5, f5⟩
            simp only [Act.put, List.setIfInBounds_toArray, List.set_cons_zero, List.set_cons_succ]
            have HK5 := hide k5
            have HG5 := hide (g5.mono (fun k hk _ => (.inr (by have := HRL.out.tb.e.size; omega) : Old D w k)))
            have HB5 := hide (Below.more HRL.out.tb.e f5 HRL.out.tb.e.size (Nat.le_succ _))
            clear k5 g5 f5 HRT HSET HRL
            obtain ⟨a5, l5, p5⟩ := s5
            unfold Sl.val at *
            simp only at *
            go_wp2_with fail
            refine bodyPost_ret (ck_results3 (v := ⟨a5, l5, p5⟩) rfl HK5.out _ rfl rfl rfl rfl) rfl ?_
            rw [HE.out]
            exact ⟨HB5.out, ⟨a5, l5, p5⟩, rfl, HG5.out⟩
          | true =>
            rw [hud] at s1
            have HR : Hid (rnd (2 * xl) l n = rnd (2 * xl - (k + 1)) (lx.set h' ⟨x.page, false, false⟩) ((h' + 1) % xl)) := by
              have e := hr.out
              rw [rnd_use (by rw [← hx]; exact hpn) (by rw [← hx]; exact hud), hlx.out, ← hx, hpn] at e
              exact e
            obtain ⟨W5, hst5, hs5, f5⟩ := st_sp1 W3 _ x HSS.out false
            rw [hpn] at hs5
            have hgs : w.heap.size + 2 ≤ wr.heap.size := by have := hrl.out.tb.k4.lt; omega
            have hrl5 : Rl D w W5 w2.heap.size ⟨a, xl, cap⟩ ((n : Nat) : Int) l ⟨some ⟨bb, oo, none⟩, xl, xc⟩ 0 lx := by
              refine ⟨HRL.out.tb.turn f5 hgs, HRL.out.kx.off f5 hne.symm, ?_, HRL.out.le⟩
              have hb := hrl.out.sx.mono (fun k hk hl => (⟨hk, by omega⟩ : (k ≠ w2.heap.size ∧ k ≠ w.heap.size + 1) ∧ k ≠ wr.heap.size))
              have h1 := ((hb.below hAS (Nat.le_refl _)).keep (Kept.frm f2 (fun k hk e => hk.1.1 e)))
              have h2 := h1.keep (Kept.frm f3 (fun k hk e => hk.1.1 e))
              exact (h2.keep (Kept.frm f5 (fun k hk e => hk.2 e))).mono (fun k hk _ => hk.1)
            have m0 := hrl5.kx.c0
            have m1 := hrl5.kx.c1
            have m2 := hs5.c0
            have m3 := hs5.c1
            have m4 := hs5.c2
            have HST5 := hide hst5
            have HRL5 := hide hrl5
            have HSET := hide (rset_any W5 _ 0 lx hrl5.sx h' hh' ⟨x.page, false, false⟩)
            have HL2 : Hid ((lx.set h' ⟨x.page, false, false⟩).length = xl) := by
              show _ = _
              rw [List.length_set]
              exact hlx.out
            clear hst2 hrl2 f2 hs2 hst3 hrl3 f3 hs3 hrlS hsS hAS hr hpn hud hx hmod hsub HSS HRL hm0 hst5 hs5 f5 hrl5 hgs
            clear hwr
            unfold ckV Sl.val Sp.val at *
            simp only at *
            go_wp2_with (first | refine wpList_store _ rfl rfl 3 (.tmp 66) (.tmp 65) rfl (.pointer (some ⟨w2.heap.size, 1, none⟩)) (.int .i64 ((xl : Nat) : Int)) rfl rfl W2 HST2.out ?_ | refine wpList_store _ rfl rfl 3 (.tmp 73) (.const (.int .i64 0)) rfl (.pointer (some ⟨w2.heap.size, 1, none⟩)) (.int .i64 0) rfl rfl W3 HST3.out ?_ | refine wpList_store _ rfl rfl 4 (.tmp 93) (.const (.bool false)) rfl (.pointer (some ⟨wr.heap.size, 1, none⟩)) (.bool false) rfl rfl W5 HST5.out ?_)
            refine HSET.out.mono ?_
            rintro e w6 ⟨hb6, s6, rfl, hg6⟩
            obtain ⟨W7, hst7, hrl7⟩ := HRL5.out.lay hb6 hg6 0
            have HRN : Hid (Rl D w W7 w2.heap.size ⟨a, xl, cap⟩ ((n : Nat) : Int) l s6 (((h' + 1) % xl : Nat) : Int) (lx.set h' ⟨x.page, false, false⟩)) := by
              rw [HMM.out]
              exact hrl7
            have HST7 := hide hst7
            clear hb6 hg6 hst7 hrl7 HSET HRL5 m0 m1 m2 m3 m4
            obtain ⟨a6, l6, p6⟩ := s6
            generalize lx.set h' ⟨x.page, false, false⟩ = l2 at *
            unfold ckV Sl.val at *
            simp only at *
            go_wp2_with (refine wpList_store _ rfl rfl 40 (.tmp 11) (.tmp 97) rfl (.pointer (some ⟨w2.heap.size, 0, none⟩)) (.agg #[.slice a6 l6 p6, .int .i64 0]) rfl rfl W7 HST7.out ?_)
            go_roundw
            case rel => exact ⟨k + 1, by omega, by go_num, _, _, _, HR, HL2, HMOD.out, HRN⟩
            case measure => simp only [intOf]; omega
      · obtain ⟨W2, hst2, hrl2, f2⟩ := hrlS.hand (((h' : Nat) : Int) + 1)
        have hs2 := hsS.off f2 hne
        have HST2 := hide hst2
        have z0 := hrl2.kx.c0
        have z1 := hrl2.kx.c1
        have hm1 : (h' + 1) % xl = h' + 1 := Nat.mod_eq_of_lt (by omega)
        have hnw : ¬ ((h' : Nat) : Int) + 1 = ((xl : Nat) : Int) := by omega
        have s0 := hs2.c0
        have s1 := hs2.c1
        have s2 := hs2.c2
        have HRL := hide hrl2
        have HSS := hide hs2
        have HX := hide hx
        have HMOD := hide hmod
        have HMM := hide hm1
        cases hpn : x.pin with
        | true =>
          rw [hpn] at s2
          have HR : Hid (rnd (2 * xl) l n = rnd (2 * xl - (k + 1)) lx ((h' + 1) % xl)) := by
            have e := hr.out
            rw [rnd_pin (by rw [← hx]; exact hpn), hlx.out] at e
            exact e
          have HRN : Hid (Rl D w W2 w2.heap.size ⟨a, xl, cap⟩ ((n : Nat) : Int) l ⟨some ⟨bb, oo, none⟩, xl, xc⟩ (((h' + 1) % xl : Nat) : Int) lx) := by
            rw [HMM.out]
            exact HRL.out
          clear hst2 hrl2 f2 hs2 hrlS hsS hAS hr hpn hx hmod hsub HSS HRL hm1
          skip
          unfold Sl.val at *
          simp only at *
          go_wp2_with (refine wpList_store _ rfl rfl 3 (.tmp 66) (.tmp 65) rfl (.pointer (some ⟨w2.heap.size, 1, none⟩)) (.int .i64 (((h' : Nat) : Int) + 1)) rfl rfl W2 HST2.out ?_)
          go_roundw
          case rel => exact ⟨k + 1, by omega, by go_num, _, _, _, HR, hlx, HMOD.out, HRN⟩
          case measure => simp only [intOf]; omega
        | false =>
          rw [hpn] at s2
          cases hud : x.used with
          | false =>
            rw [hud] at s1
            have HE : Hid (touch l ((n : Nat) : Int) p = ⟨lx.set h' ⟨p, true, false⟩, (((h' : Nat) : Int) + 1), ((h' : Nat) : Int), x.page, 0⟩) := by
              show _ = _
              have e := hr.out
              rw [rnd_hit (by rw [← hx]; exact hpn) (by rw [← hx]; exact hud), hlx.out, HMM.out] at e
              rw [HTR.out, e]
              simp only [Int.toNat_natCast]
              rw [if_neg (by omega), ← hx]
              rfl
            have HRT : Hid (RtS w2.heap.size wr.heap.size ⟨some ⟨bb, oo, none⟩, xl, xc⟩ (((h' : Nat) : Int) + 1) x W2) := ⟨HRL.out.kx, HSS.out⟩
            have HSET : Hid (∀ W, Below W2.heap.size W2 W → Calls Tryz.prog 68 #[ckV ⟨some ⟨bb, oo, none⟩, xl, xc⟩ (((h' : Nat) : Int) + 1), .int .i64 ((h' : Nat) : Int), Sp.val ⟨p, true, false⟩] W fun e w' => Below W.heap.size W w' ∧ ∃ s' : Sl, e = .returned (ckV s' (((h' : Nat) : Int) + 1)) ∧ Gs (fun k => W.heap.size ≤ k) w' s' (lx.set h' ⟨p, true, false⟩)) :=
              fun W hW => rset_any W _ _ lx (HRL.out.sx.below hW (Nat.le_refl _)) h' hh' _
            have HN1 : Hid (w2.heap.size ≠ w.heap.size + 1) := by have := HRL.out.le; show _ ≠ _; omega
            have HN2 : Hid (wr.heap.size ≠ w.heap.size + 1) := by have := hrl.out.tb.k4.lt; show _ ≠ _; omega
            clear hst2 hrl2 f2 hs2 hrlS hsS hAS hr hpn hud hx hmod hsub HSS hm1
            skip
            unfold Sl.val at *
            simp only at *
            go_wp2_with (refine wpList_store _ rfl rfl 3 (.tmp 66) (.tmp 65) rfl (.pointer (some ⟨w2.heap.size, 1, none⟩)) (.int .i64 (((h' : Nat) : Int) + 1)) rfl rfl W2 HST2.out ?_)
            refine Pl.region_is (ops := Pl.find 21 ((Tryz.f59.body).getD .skip)) (by kernel_rfl) ?_
            refine rt21 W2 w2.heap.size wr.heap.size (w.heap.size + 1) h' ⟨some ⟨bb, oo, none⟩, xl, xc⟩ (((h' : Nat) : Int) + 1) p x (lx.set h' ⟨p, true, false⟩) _ _ HRT.out HRL.out.tb.k4 HN1.out HN2.out HSET.out (by rfl) rfl (by rfl) (by rfl) (by rfl) (by rfl) (by rfl) ?_
            intro u w5 s5 ⟨k5, g5, f5⟩
            simp only [Act.put, List.setIfInBounds_toArray, List.set_cons_zero, List.set_cons_succ]
            have HK5 := hide k5
            have HG5 := hide (g5.mono (fun k hk _ => (.inr (by have := HRL.out.tb.e.size; omega) : Old D w k)))
            have HB5 := hide (Below.more HRL.out.tb.e f5 HRL.out.tb.e.size (Nat.le_succ _))
            clear k5 g5 f5 HRT HSET HRL
            obtain ⟨a5, l5, p5⟩ := s5
            unfold Sl.val at *
            simp only at *
            go_wp2_with fail
            refine bodyPost_ret (ck_results3 (v := ⟨a5, l5, p5⟩) rfl HK5.out _ rfl rfl rfl rfl) rfl ?_
            rw [HE.out]
            exact ⟨HB5.out, ⟨a5, l5, p5⟩, rfl, HG5.out⟩
          | true =>
            rw [hud] at s1
            have HR : Hid (rnd (2 * xl) l n = rnd (2 * xl - (k + 1)) (lx.set h' ⟨x.page, false, false⟩) ((h' + 1) % xl)) := by
              have e := hr.out
              rw [rnd_use (by rw [← hx]; exact hpn) (by rw [← hx]; exact hud), hlx.out, ← hx, hpn] at e
              exact e
            obtain ⟨W5, hst5, hs5, f5⟩ := st_sp1 W2 _ x HSS.out false
            rw [hpn] at hs5
            have hgs : w.heap.size + 2 ≤ wr.heap.size := by have := hrl.out.tb.k4.lt; omega
            have hrl5 : Rl D w W5 w2.heap.size ⟨a, xl, cap⟩ ((n : Nat) : Int) l ⟨some ⟨bb, oo, none⟩, xl, xc⟩ (((h' : Nat) : Int) + 1) lx := by
              refine ⟨HRL.out.tb.turn f5 hgs, HRL.out.kx.off f5 hne.symm, ?_, HRL.out.le⟩
              have hb := hrl.out.sx.mono (fun k hk hl => (⟨hk, by omega⟩ : (k ≠ w2.heap.size ∧ k ≠ w.heap.size + 1) ∧ k ≠ wr.heap.size))
              have h1 := ((hb.below hAS (Nat.le_refl _)).keep (Kept.frm f2 (fun k hk e => hk.1.1 e)))
              have h2 := h1
              exact (h2.keep (Kept.frm f5 (fun k hk e => hk.2 e))).mono (fun k hk _ => hk.1)
            have m0 := hrl5.kx.c0
            have m1 := hrl5.kx.c1
            have m2 := hs5.c0
            have m3 := hs5.c1
            have m4 := hs5.c2
            have HST5 := hide hst5
            have HRL5 := hide hrl5
            have HSET := hide (rset_any W5 _ (((h' : Nat) : Int) + 1) lx hrl5.sx h' hh' ⟨x.page, false, false⟩)
            have HL2 : Hid ((lx.set h' ⟨x.page, false, false⟩).length = xl) := by
              show _ = _
              rw [List.length_set]
              exact hlx.out
            clear hst2 hrl2 f2 hs2 hrlS hsS hAS hr hpn hud hx hmod hsub HSS HRL hm1 hst5 hs5 f5 hrl5 hgs
            skip
            unfold ckV Sl.val Sp.val at *
            simp only at *
            go_wp2_with (first | refine wpList_store _ rfl rfl 3 (.tmp 66) (.tmp 65) rfl (.pointer (some ⟨w2.heap.size, 1, none⟩)) (.int .i64 (((h' : Nat) : Int) + 1)) rfl rfl W2 HST2.out ?_ | refine wpList_store _ rfl rfl 4 (.tmp 93) (.const (.bool false)) rfl (.pointer (some ⟨wr.heap.size, 1, none⟩)) (.bool false) rfl rfl W5 HST5.out ?_)
            refine HSET.out.mono ?_
            rintro e w6 ⟨hb6, s6, rfl, hg6⟩
            obtain ⟨W7, hst7, hrl7⟩ := HRL5.out.lay hb6 hg6 (((h' : Nat) : Int) + 1)
            have HRN : Hid (Rl D w W7 w2.heap.size ⟨a, xl, cap⟩ ((n : Nat) : Int) l s6 (((h' + 1) % xl : Nat) : Int) (lx.set h' ⟨x.page, false, false⟩)) := by
              rw [HMM.out]
              exact hrl7
            have HST7 := hide hst7
            clear hb6 hg6 hst7 hrl7 HSET HRL5 m0 m1 m2 m3 m4
            obtain ⟨a6, l6, p6⟩ := s6
            generalize lx.set h' ⟨x.page, false, false⟩ = l2 at *
            unfold ckV Sl.val at *
            simp only at *
            go_wp2_with (refine wpList_store _ rfl rfl 40 (.tmp 11) (.tmp 97) rfl (.pointer (some ⟨w2.heap.size, 0, none⟩)) (.agg #[.slice a6 l6 p6, .int .i64 (((h' : Nat) : Int) + 1)]) rfl rfl W7 HST7.out ?_)
            go_roundw
            case rel => exact ⟨k + 1, by omega, by go_num, _, _, _, HR, HL2, HMOD.out, HRN⟩
            case measure => simp only [intOf]; omega
    · have i1 : ¬ ((k : Nat) : Int) < 2 * ((len : Nat) : Int) := by omega
      have HE : Hid (touch l ((n : Nat) : Int) p = ⟨l, ((n : Nat) : Int), -1, -1, 11⟩) := by
        show _ = _
        have e := hr.out
        rw [show 2 * len - k = 0 by omega] at e
        rw [HTR.out, e]
        rfl
      obtain ⟨W, hst, kk, f, hB⟩ := hrl.out.tb.lay ⟨a, len, cap⟩ ((n : Nat) : Int)
      have HST := hide hst
      have HK := hide kk
      have HB := hide hB
      have HG : Hid (Gs (Old D w) W ⟨a, len, cap⟩ l) := (hrl.out.tb.g.keep (Kept.frm f (fun k hk e => by have := hk.2; omega))).mono (fun k hk _ => .inl hk.1)
      clear hr hrl hst kk f hB HTR HR0
      unfold ckV Sl.val at *
      simp only at *
      go_wp2_with (refine wpList_store _ rfl rfl 40 (.tmp 4) (.tmp 98) rfl (.pointer (some ⟨w.heap.size + 1, 0, none⟩)) (.agg #[.slice a len cap, .int .i64 ((n : Nat) : Int)]) rfl rfl W HST.out ?_)
      refine bodyPost_ret (ck_results3 (v := ⟨a, len, cap⟩) rfl HK.out _ rfl rfl rfl rfl) rfl ?_
      rw [HE.out]
      exact ⟨HB.out, ⟨a, len, cap⟩, rfl, HG.out⟩
end Go.Proofs.YtcaaiihjolnkgaaGreat

namespace Go.Proofs.YtcaaiihjolnkgaaGreat
open Go.RowKit
set_option maxRecDepth 100000

theorem rtouch_any {D : Nat → Prop} (w : World) (v : Sl) (h : Int) (l : List Sp) (hg : Gs D w v l) (p : Int) (hm : may l h = true) :
    Calls Tryz.prog 59 #[ckV v h, .int .i64 p] w fun e w' => Below w.heap.size w w' ∧ ∃ s : Sl, e = .returned (.tuple #[ckV s (touch l h p).h, .int .i64 (touch l h p).at_, .int .i64 (touch l h p).was, .int .i64 (touch l h p).e]) ∧ Gs (Old D w) w' s (touch l h p).l := by
  cases hp : isPg p with
  | false =>
    rw [touch_arg hp]
    exact rtouch_arg w v h l hg p hp
  | true =>
    rcases ixP_cases l p with ⟨h1, _⟩ | ⟨i, hi, h1, _, _⟩
    · rcases ixP_cases l (-1) with ⟨h2, _⟩ | ⟨j, hj, h2, _, _⟩
      · exact rtouch_round w v h l hg p hm hp h1 h2
      · obtain ⟨p0, p1⟩ := isPg_iff.1 hp
        have e : touch l h p = ⟨l.set j ⟨p, true, false⟩, h, ((j : Nat) : Int), -1, 0⟩ := by
          unfold touch
          rw [if_neg (by omega), if_neg (by omega), if_pos (by omega), h2]
          rfl
        rw [e]
        exact rtouch_empty w v h l hg p hp h1 j h2 hj
    · rw [touch_in hp h1]
      exact rtouch_hit w v h l hg p hp i h1 hi

set_option maxHeartbeats 8000000 in
set_option maxRecDepth 100000 in
theorem rdrop_any {D : Nat → Prop} (w : World) (v : Sl) (h : Int) (l : List Sp) (hg : Gs D w v l) (p : Int) :
    Calls Tryz.prog 45 #[ckV v h, .int .i64 p] w fun e w' => Below w.heap.size w w' ∧ ∃ s : Sl, e = .returned (.tuple #[ckV s h, .int .i64 (dropC l p).e]) ∧ Gs (Old D w) w' s (dropC l p).l := by
  have hT := Tb.start (h := h) hg
  have HAT := hide (at_any _ v h l hT.g p)
  have HT := hide hT
  have c0 := hT.k2.c0
  have c1 := hT.k2.c1
  have HGO : Hid (∀ w' W : World, Below w.heap.size w w' → Frm (fun k => k = w.heap.size + 1) w' W → Gs (Old D w) W v l) := fun w' W hb f => hg.old hb f (Nat.le_succ _)
  have HLV : Hid (l.length = v.len) := hg.len
  clear hg hT
  by_cases hno : p < 0 ∨ ixP l p < 0
  · have HE := hide (dropC_no hno)
    obtain ⟨a, len, cap⟩ := v
    have HFIN : Hid (∀ w1 : World, Tb D w w1 ⟨a, len, cap⟩ h l → ∃ W, (Instr.storeAt 40 (.pointer (some ⟨w.heap.size + 1, 0, none⟩)) (.agg #[.slice a len cap, .int .i64 h])).run Tryz.prog w1 = .ok () W ∧ CkBlk W (w.heap.size + 1) (.slice a len cap) h ∧ Below w.heap.size w W ∧ Gs (Old D w) W ⟨a, len, cap⟩ l) := by
      intro w1 t
      obtain ⟨W, hst, k, f, hB⟩ := t.lay ⟨a, len, cap⟩ h
      exact ⟨W, hst, k, hB, HGO.out w1 W t.e f⟩
    clear HGO
    unfold ckV Sl.val at *
    simp only at *
    by_cases h1 : p < 0
    · clear hno
      go_enter Tryz.func45, Tryz.ntmps45
      go_wp2_with fail
      refine HAT.out.mono ?_
      rintro e w1 ⟨rfl, hb1⟩
      have hT1 := HT.out.below hb1
      obtain ⟨W, hst, k, hB, hG⟩ := HFIN.out w1 hT1
      have d0 := hT1.k2.c0
      have d1 := hT1.k2.c1
      have HST := hide hst
      have HK := hide k
      have HB := hide hB
      have HG := hide hG
      clear hT1 hst k hB hG hb1 HFIN HT HAT c0 c1
      unfold Sl.val at d0
      simp only at d0
      go_wp2_with (refine wpList_store _ rfl rfl 40 (.tmp 4) (.tmp 16) rfl (.pointer (some ⟨w.heap.size + 1, 0, none⟩)) (.agg #[.slice a len cap, .int .i64 h]) rfl rfl W HST.out ?_)
      refine bodyPost_ret (ck_results1 (v := ⟨a, len, cap⟩) rfl HK.out _ rfl rfl) rfl ?_
      rw [HE.out]
      exact ⟨HB.out, ⟨a, len, cap⟩, rfl, HG.out⟩
    · have h2 : ixP l p < 0 := by omega
      clear hno
      go_enter Tryz.func45, Tryz.ntmps45
      go_wp2_with fail
      refine HAT.out.mono ?_
      rintro e w1 ⟨rfl, hb1⟩
      have hT1 := HT.out.below hb1
      obtain ⟨W, hst, k, hB, hG⟩ := HFIN.out w1 hT1
      have d0 := hT1.k2.c0
      have d1 := hT1.k2.c1
      have HST := hide hst
      have HK := hide k
      have HB := hide hB
      have HG := hide hG
      clear hT1 hst k hB hG hb1 HFIN HT HAT c0 c1
      unfold Sl.val at d0
      simp only at d0
      go_wp2_with (refine wpList_store _ rfl rfl 40 (.tmp 4) (.tmp 16) rfl (.pointer (some ⟨w.heap.size + 1, 0, none⟩)) (.agg #[.slice a len cap, .int .i64 h]) rfl rfl W HST.out ?_)
      refine bodyPost_ret (ck_results1 (v := ⟨a, len, cap⟩) rfl HK.out _ rfl rfl) rfl ?_
      rw [HE.out]
      exact ⟨HB.out, ⟨a, len, cap⟩, rfl, HG.out⟩
  · have h1 : ¬ p < 0 := by omega
    have h2 : ¬ ixP l p < 0 := by omega
    rcases ixP_cases l p with ⟨hi, _⟩ | ⟨i, hil, hi, _, _⟩
    · omega
    rw [hi] at HAT
    have hlv : i < v.len := by rw [← HLV.out]; exact hil
    obtain ⟨a, len, cap⟩ := v
    replace hlv : i < len := hlv
    have i2 : ((i : Nat) : Int) < ((len : Nat) : Int) := by omega
    cases hpn : (fr l i).pin with
    | true =>
      have HE := hide (dropC_pin (show 0 ≤ p by omega) hi hpn)
      have HPN := hide hpn
      clear hno h2 hi hil hpn
      unfold ckV Sl.val at *
      simp only at *
      go_enter Tryz.func45, Tryz.ntmps45
      go_wp2_with fail
      refine HAT.out.mono ?_
      rintro e w1 ⟨rfl, hb1⟩
      have hT1 := HT.out.below hb1
      obtain ⟨W, hst, k, f, hB⟩ := hT1.lay ⟨a, len, cap⟩ h
      have hG := HGO.out w1 W hT1.e f
      have HG := hide hG
      obtain ⟨bb, oo, ha, q0, q1, q2⟩ := hT1.g.cell i hlv
      replace ha : a = some ⟨bb, oo, none⟩ := ha
      subst ha
      rw [HPN.out] at q2
      have d0 := hT1.k2.c0
      have d1 := hT1.k2.c1
      have HST := hide hst
      have HK := hide k
      have HB := hide hB
      clear hb1 hT1 hst k f hB hG HT HAT c0 c1 HGO
      unfold ckV Sl.val at *
      simp only at *
      go_wp2_with (refine wpList_store _ rfl rfl 40 (.tmp 4) (.tmp 23) rfl (.pointer (some ⟨w.heap.size + 1, 0, none⟩)) (.agg #[.slice (some ⟨bb, oo, none⟩) len cap, .int .i64 h]) rfl rfl W HST.out ?_)
      refine bodyPost_ret (ck_results1 (v := ⟨some ⟨bb, oo, none⟩, len, cap⟩) rfl HK.out _ rfl rfl) rfl ?_
      rw [HE.out]
      exact ⟨HB.out, ⟨some ⟨bb, oo, none⟩, len, cap⟩, rfl, HG.out⟩
    | false =>
      have HE := hide (dropC_yes (show 0 ≤ p by omega) hi hpn)
      have HPN := hide hpn
      clear hno h2 hi hil HGO hpn
      unfold ckV Sl.val at *
      simp only at *
      go_enter Tryz.func45, Tryz.ntmps45
      go_wp2_with fail
      refine HAT.out.mono ?_
      rintro e w1 ⟨rfl, hb1⟩
      have hT1 := HT.out.below hb1
      obtain ⟨bb, oo, ha, q0, q1, q2⟩ := hT1.g.cell i hlv
      replace ha : a = some ⟨bb, oo, none⟩ := ha
      subst ha
      rw [HPN.out] at q2
      have HT1 := hide hT1
      have d0 := hT1.k2.c0
      have d1 := hT1.k2.c1
      have HRS := hide (rset_any _ ⟨some ⟨bb, oo, none⟩, len, cap⟩ h l hT1.g i hlv Sp.none)
      clear hb1 hT1 HT HAT c0 c1
      unfold ckV Sl.val Sp.val at *
      simp only [Sp.none] at HRS
      simp only at *
      go_wp2_with fail
      refine HRS.out.mono ?_
      rintro e w3 ⟨hb3, s3, rfl, hg3⟩
      have hT3 := HT1.out.below hb3
      obtain ⟨W, hst, k, f, hB⟩ := hT3.lay s3 h
      have HST := hide hst
      have HK := hide k
      have HB := hide hB
      have HG : Hid (Gs (Old D w) W s3 (l.set i Sp.none)) := Gs.fresh hg3 HT1.out.e.size f HT1.out.k4.lt
      clear hb3 hg3 hT3 hst k f hB HT1 HRS
      obtain ⟨a3, l3, p3⟩ := s3
      unfold ckV Sl.val at *
      simp only at *
      go_wp2_with (refine wpList_store _ rfl rfl 40 (.tmp 4) (.tmp 27) rfl (.pointer (some ⟨w.heap.size + 1, 0, none⟩)) (.agg #[.slice a3 l3 p3, .int .i64 h]) rfl rfl W HST.out ?_)
      refine bodyPost_ret (ck_results1 (v := ⟨a3, l3, p3⟩) rfl HK.out _ rfl rfl) rfl ?_
      rw [HE.out]
      exact ⟨HB.out, ⟨a3, l3, p3⟩, rfl, HG.out⟩

end Go.Proofs.YtcaaiihjolnkgaaGreat
