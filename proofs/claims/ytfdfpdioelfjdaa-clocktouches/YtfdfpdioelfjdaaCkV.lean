/-
  Layer 7: the document's Touch, the hand's round: the drawn statement.
-/
import Derived.Test.YtfdfpdioelfjdaaCkU
namespace Go.Proofs.Ytfdfpdioelfjdaa
open Go.RowKit

theorem fdSpB0 (p : Nat) (w : World) : (Instr.fieldAt 38 (.pointer (some ⟨p, 0, none⟩)) 0).run Try.prog w = .ok (.pointer (some ⟨p, 0, none⟩)) w := by simp [go_sem, Instr.fieldAt]
theorem ldPage (p : Nat) (x : Sp) (w : World) (k : SpBlk w p x) : (Instr.loadAt 3 (.pointer (some ⟨p, 0, none⟩))).run Try.prog w = .ok (.int .i64 x.page) w := by
  have c0 := k.c0
  simp [go_sem, Instr.loadAt, c0]
theorem build_sp (p : Int) (w : World) : (Instr.build 38 #[(0, .int .i64 p), (1, .bool true)]).run Try.prog w = .ok (Sp.val ⟨p, true, false⟩) w := by
  unfold Sp.val
  simp [go_sem, Instr.build]
theorem entSet : ∀ args w, (callFunc 25 args).run Try.prog w = .ok (.enter 25 args) w := Pl.enters Try.func25 (by kernel_rfl) (by kernel_rfl)
/-- The hand's clock, and the frame where it stands. -/
def RtS (gX gS : Nat) (s : Sl) (h : Int) (x : Sp) (w : World) : Prop := CkBlk w gX s.val h ∧ SpBlk w gS x
theorem RtS.below {gX gS : Nat} {s : Sl} {h : Int} {x : Sp} {w w' : World} (k : RtS gX gS s h x w) (hb : Below w.heap.size w w') : RtS gX gS s h x w' := ⟨k.1.below hb, k.2.below hb⟩
theorem RtS.off {gX gS r : Nat} {s : Sl} {h : Int} {x : Sp} {w w' : World} (k : RtS gX gS s h x w) (f : Frm (fun k => k = r) w w') (h1 : gX ≠ r) (h2 : gS ≠ r) : RtS gX gS s h x w' := ⟨k.1.off f h1, k.2.off f h2⟩

set_option maxHeartbeats 2000000 in
set_option maxRecDepth 100000 in
theorem rt21 (w : World) (gX gS r i : Nat) (s : Sl) (h p : Int) (x : Sp) (l' : List Sp) (v0 : Value) (h0 : Int) (hS : RtS gX gS s h x w) (hr : CkBlk w r v0 h0) (h1 : gX ≠ r) (h2 : gS ≠ r) (hR : ∀ W, Below w.heap.size w W → Calls Try.prog 25 #[ckV s h, .int .i64 ((i : Nat) : Int), Sp.val ⟨p, true, false⟩] W fun e w' => Below W.heap.size W w' ∧ ∃ s' : Sl, e = .returned (ckV s' h) ∧ Gs (fun k => W.heap.size ≤ k) w' s' l')
    {Q : Exit → Act → World → Prop} {A : Act} (hsz : A.tmps.size = 99) (hdf : A.defers = []) (s1 : A.tmps.getD 1 undef = .int .i64 p) (s4 : A.tmps.getD 4 undef = .pointer (some ⟨r, 0, none⟩)) (s11 : A.tmps.getD 11 undef = .pointer (some ⟨gX, 0, none⟩)) (s13 : A.tmps.getD 13 undef = .int .i64 ((i : Nat) : Int)) (s14 : A.tmps.getD 14 undef = .pointer (some ⟨gS, 0, none⟩))
    (hend : ∀ (u : Nat → Value) w' (s' : Sl), (CkBlk w' r s'.val h ∧ Gs (fun k => w.heap.size ≤ k) w' s' l' ∧ Frm (fun k => k = r) w w') → Q .normal ((((((((((((A).put (some 82) (u 82)).put (some 83) (u 83)).put (some 84) (u 84)).put (some 85) (u 85)).put (some 87) (u 87)).put (some 88) (u 88)).put (some 89) (u 89)).put (some 86) (u 86)).put (some 5) (.int .i64 ((i : Nat) : Int))).put (some 6) (.int .i64 x.page)).put (some 7) (.int .i64 0)) w') :
    (Code.region 21 (Pl.find 21 ((Try.f14.body).getD .skip)) true).wp Try.prog Q A w := by
  have hA := Pl.At.same (v := .pointer (some ⟨gS, 0, none⟩)) (d := 14) (Pl.At.same (v := .int .i64 ((i : Nat) : Int)) (d := 13) (Pl.At.same (v := .pointer (some ⟨gX, 0, none⟩)) (d := 11) (Pl.At.same (v := .pointer (some ⟨r, 0, none⟩)) (d := 4) (Pl.At.same (v := .int .i64 p) (d := 1) (Pl.At.here hsz hdf) s1) s4) s11) s13) s14
  refine Pl.H.start (S := (RtS gX gS s h x)) (by kernel_rfl) hA (hS.below (below_drew w)) ?_
  rw [show (Pl.find 21 ((Try.f14.body).getD .skip)).size = 12 by kernel_rfl]
  refine Pl.H.take 0 82 (ckV s h) (by kernel_rfl) (by kernel_rfl) (by kernel_rfl) (Pl.free 0 (by kernel_rfl)) (Pl.load 0 24 (.tmp 11) _ (by kernel_rfl) (by decide) (fun w' hS => ldCk gX s h w' hS.1)) (hS.below (below_drew w)) ?_
  refine Pl.H.take 1 83 (.int .i64 ((i : Nat) : Int)) (by kernel_rfl) (by kernel_rfl) (by kernel_rfl) (Pl.free 1 (by kernel_rfl)) (Pl.move 1 (.tmp 13) (by kernel_rfl) (by decide)) (hS.below (below_drew w)) ?_
  refine Pl.H.take 2 84 (.int .i64 p) (by kernel_rfl) (by kernel_rfl) (by kernel_rfl) (Pl.free 2 (by kernel_rfl)) (Pl.move 2 (.tmp 1) (by kernel_rfl) (by decide)) (hS.below (below_drew w)) ?_
  refine Pl.H.take 3 85 (Sp.val ⟨p, true, false⟩) (by kernel_rfl) (by kernel_rfl) (by kernel_rfl) (Pl.free 3 (by kernel_rfl)) (Pl.buildV 3 38 [(0, .tmp 84), (1, .const (.bool true))] _ (by kernel_rfl) (by decide) (fun w => build_sp p w)) (hS.below (below_drew w)) ?_
  refine Pl.H.take 5 87 (.int .i64 ((i : Nat) : Int)) (by kernel_rfl) (by kernel_rfl) (by kernel_rfl) (Pl.free 5 (by kernel_rfl)) (Pl.move 5 (.tmp 13) (by kernel_rfl) (by decide)) (hS.below (below_drew w)) ?_
  refine Pl.H.take 6 88 (.pointer (some ⟨gS, 0, none⟩)) (by kernel_rfl) (by kernel_rfl) (by kernel_rfl) (Pl.free 6 (by kernel_rfl)) (Pl.field 6 38 (.tmp 14) 0 _ (by kernel_rfl) (by decide) (fdSpB0 gS)) (hS.below (below_drew w)) ?_
  refine Pl.H.take 7 89 (.int .i64 x.page) (by kernel_rfl) (by kernel_rfl) (by kernel_rfl) (Pl.free 7 (by kernel_rfl)) (Pl.load 7 3 (.tmp 88) _ (by kernel_rfl) (by decide) (fun w' hS => ldPage gS x w' hS.2)) (hS.below (below_drew w)) ?_
  refine Pl.H.call 4 86 25 [(.tmp 82), (.tmp 83), (.tmp 85)] #[24, 3, 38] (by kernel_rfl) (by kernel_rfl) (by kernel_rfl) (Pl.free 4 (by kernel_rfl)) (by kernel_rfl) (by decide) entSet (Calls.mono (hR w.drew (below_drew w)) ?_)
  rintro e w1 ⟨hb1, s1, rfl, hg1⟩
  have hE1 := rBelow (below_drew w) hb1
  have hS1 := hS.below hE1
  have hr1 := hr.below hE1
  refine ⟨ckV s1 h, rfl, hS1, ?_⟩
  have hS2 := hS1.off (setCk_frm w1 r s1.val h) h1 h2
  refine Pl.H.store 8 (setCk w1 r s1.val h) (by kernel_rfl) (by kernel_rfl) (by kernel_rfl) (Pl.free 8 (by kernel_rfl)) (Pl.storeV 8 24 (.tmp 4) (.tmp 86) _ (by kernel_rfl) (by decide) (by decide) (store_ck r s1 h w1 hr1)) hS2 ?_
  refine Pl.H.take 9 5 (.int .i64 ((i : Nat) : Int)) (by kernel_rfl) (by kernel_rfl) (by kernel_rfl) (Pl.free 9 (by kernel_rfl)) (Pl.assign 9 (.tmp 87) (by kernel_rfl) (by decide)) hS2 ?_
  refine Pl.H.take 10 6 (.int .i64 x.page) (by kernel_rfl) (by kernel_rfl) (by kernel_rfl) (Pl.free 10 (by kernel_rfl)) (Pl.assign 10 (.tmp 89) (by kernel_rfl) (by decide)) hS2 ?_
  refine Pl.H.take 11 7 (.int .i64 0) (by kernel_rfl) (by kernel_rfl) (by kernel_rfl) (Pl.free 11 (by kernel_rfl)) (Pl.assign 11 (.const (.int .i64 0)) (by kernel_rfl) (by decide)) hS2 ?_
  refine Pl.H.done (by kernel_rfl) (fun A' hA' => ?_)
  rw [Pl.At.ext hA' (((((((((((hA.put 82 _).put 83 _).put 84 _).put 85 _).put 87 _).put 88 _).put 89 _).put 86 _).put 5 _).put 6 _).put 7 _)]
  exact hend (fun d => if d = 82 then ckV s h else if d = 83 then .int .i64 ((i : Nat) : Int) else if d = 84 then .int .i64 p else if d = 85 then Sp.val ⟨p, true, false⟩ else if d = 87 then .int .i64 ((i : Nat) : Int) else if d = 88 then .pointer (some ⟨gS, 0, none⟩) else if d = 89 then .int .i64 x.page else if d = 86 then ckV s1 h else undef) _ s1 ⟨hr1.set s1.val h, hg1.off (setCk_frm w1 r s1.val h) hr.lt, (Frm.ofBelow (F := fun k => k = r) hE1).trans (setCk_frm w1 r s1.val h) (fun _ _ e => e)⟩
end Go.Proofs.Ytfdfpdioelfjdaa
