/-
  Layer 6: images that are sorted in place: what is compared, what is stored, how a function value is called; a row with room.
  Layer 6: an insertion sort's drawn regions.
  Layer 6: a stable sort of a few images, in place.
  Layer 6: a stable sort of a few images; a row with room; two rows one behind the other.
  Layer 6: images behind a group, by the program.
  Layer 6: images behind a group, by the document: drawn regions.
  Layer 6: images behind a group, by the document.
-/
import Derived.Test.YtpggkfdnpdhkfaaGreatRd
namespace Go.Proofs.YtpggkfdnpdhkfaaGreat
open Go.RowKit
set_option maxRecDepth 100000

/-- A cell of a row turns. -/
theorem Own.setCell6 {e : TypeId} {z : Nat} {w : World} {s : Sl} {vs : List Value} (h : Own e z w s vs) {g off : Nat} (ha : s.a = some ⟨g, off, none⟩) (j : Nat) (u : Value) : Own e z (w.setCell ⟨g, off + j, none⟩ u) s (vs.set j u) := by
  refine ⟨by rw [List.length_set]; exact h.1, ?_⟩
  rcases h.2 with ⟨h0, _⟩ | ⟨g', off', cur, ha', hg, hoc, hlc, hcm, ht⟩
  · rw [h0] at ha; cases ha
  · rw [ha] at ha'
    simp only [Option.some.injEq, Addr.mk.injEq, and_true] at ha'
    obtain ⟨rfl, rfl⟩ := ha'
    refine .inr ⟨g, off, _, ha, heap_setCell_same w g (off + j) cur e u hg, by simpa using hoc, hlc, hcm, ?_⟩
    rw [Array.toList_setIfInBounds, List.drop_set, if_neg (by omega), Nat.add_sub_cancel_left, List.take_set, ht]

/-- An image laid over an image. -/
def setIm (w : World) (g o : Nat) (x : Ix) : World := (w.setCell ⟨g, o, none⟩ (.int .i64 x.page)).setCell ⟨g, o + 1, none⟩ x.s.val
theorem setIm_frm (w : World) (g o : Nat) (x : Ix) : Frm (fun k => k = g) w (setIm w g o x) :=
  ((Frm.refl (fun k => k = g) w).setCell (p := ⟨g, o, none⟩) rfl _).setCell (p := ⟨g, o + 1, none⟩) rfl _
theorem cellsI_set : ∀ (l : List Ix) (i : Nat) (x : Ix), cellsI (l.set i x) = ((cellsI l).set (i * 2) (.int .i64 x.page)).set (i * 2 + 1) x.s.val
  | [], _, _ => rfl
  | y :: r, 0, x => rfl
  | y :: r, i + 1, x => by
    have ih := cellsI_set r i x
    show y.cells ++ cellsI (r.set i x) = ((y.cells ++ cellsI r).set ((i + 1) * 2) _).set ((i + 1) * 2 + 1) _
    rw [ih, show (i + 1) * 2 = i * 2 + 2 by omega]
    rfl
theorem OwnI.store {w : World} {v : Sl} {l : List Ix} (h : OwnI w v l) {g off : Nat} (ha : v.a = some ⟨g, off, none⟩) (i : Nat) (x : Ix) : OwnI (setIm w g (off + i * 2) x) v (l.set i x) := by
  unfold OwnI setIm
  rw [cellsI_set]
  have h1 := Own.setCell6 h ha (i * 2) (.int .i64 x.page)
  have h2 := h1.setCell6 ha (i * 2 + 1) x.s.val
  rw [← Nat.add_assoc] at h2
  exact h2
theorem OwnI.cells {w : World} {v : Sl} {l : List Ix} (h : OwnI w v l) {g off : Nat} (ha : v.a = some ⟨g, off, none⟩) {i : Nat} (hi : i < v.len) : w.cell? ⟨g, off + i * 2, none⟩ = some (.int .i64 (l.getD i Ix.zero).page) ∧ w.cell? ⟨g, off + i * 2 + 1, none⟩ = some (l.getD i Ix.zero).s.val := by
  have hl := h.len
  constructor
  · have := h.cell ha (i * 2 + 0) _ (cellsI_get l i 0 (by omega) (by omega))
    rwa [Addr.add_lit] at this
  · have := h.cell ha (i * 2 + 1) _ (cellsI_get l i 1 (by omega) (by omega))
    rwa [Addr.add_lit] at this
theorem OwnI.frozen {w : World} {v : Sl} {l : List Ix} (h : OwnI w v l) {g off : Nat} (ha : v.a = some ⟨g, off, none⟩) (o : Nat) : w.frozen? ⟨g, o, none⟩ = false := by
  obtain ⟨cur, hc⟩ := h.kind (k := g) (by rw [Sl.blk, ha]; rfl)
  exact frozen_of_row w g _ cur 76 hc

/-- What images yield to an append. -/
theorem Gr.src {D : Nat → Prop} {w : World} {v : Sl} {l : List Ix} (h : Gr D w v l) : Src Tryz.prog 2 52 v.val v.len (cellsI l) w := by
  obtain ⟨a, len, cap⟩ := v
  have hl : l.length = len := h.len
  cases a with
  | none =>
    have hc : cap = 0 := h.nil rfl
    have h0 : len = 0 := by have : len ≤ cap := h.le; omega
    subst hc; subst h0
    have : l = [] := List.eq_nil_of_length_eq_zero hl
    subst this
    exact Src.ofNil w Tryz.underlying52 0
  | some ad =>
    refine Src.ofSlice w Tryz.underlying52 ad len cap (cellsI l) (by rw [cellsI_length, hl]) (fun j u hj => ?_) (cellsI_one l)
    have hjl : j < l.length * 2 := by
      have := (List.getElem?_eq_some_iff.1 hj).1
      rw [cellsI_length] at this
      exact this
    obtain ⟨b, off, e, c0, c1⟩ := h.cell (j / 2) (by show j / 2 < len; omega)
    obtain rfl := Option.some.inj e
    have hg := cellsI_get l (j / 2) (j % 2) (by omega) (by omega)
    rw [show j / 2 * 2 + j % 2 = j by omega, hj] at hg
    rw [Addr.add_lit]
    have hm4 : j % 2 = 0 ∨ j % 2 = 1 := by omega
    rcases hm4 with e4 | e4 <;> rw [e4] at hg
    · rw [show off + j = off + j / 2 * 2 by omega, c0, hg]; rfl
    · rw [show off + j = off + j / 2 * 2 + 1 by omega, c1, hg]; rfl

end Go.Proofs.YtpggkfdnpdhkfaaGreat

namespace Go.Proofs.YtpggkfdnpdhkfaaGreat
open Go.RowKit
set_option maxRecDepth 100000

namespace Ap
variable {α : Type} (p : α → Int)
end Ap
end Go.Proofs.YtpggkfdnpdhkfaaGreat

namespace Go.Proofs.YtpggkfdnpdhkfaaGreat
open Go.RowKit
set_option maxRecDepth 100000

/-- What the sort holds to. -/
def SortInv (w wr : World) (v : Sl) (l : List Ix) : Prop := OwnI wr v l ∧ Frm (fun k => v.blk = some k) w wr

theorem SortInv.step {w wr : World} {v : Sl} {l : List Ix} (h : SortInv w wr v l) {w' : World} (hb : Below wr.heap.size wr w') : SortInv w w' v l :=
  ⟨h.1.frame (fun k hk => hb.block k (h.1.lt hk)), h.2.trans (Frm.ofBelow (F := fun k => v.blk = some k) hb) (fun _ _ hk => hk)⟩
theorem SortInv.store {w wr : World} {v : Sl} {l : List Ix} (h : SortInv w wr v l) {g off : Nat} (ha : v.a = some ⟨g, off, none⟩) (i : Nat) (x : Ix) : SortInv w (setIm wr g (off + i * 2) x) v (l.set i x) :=
  ⟨h.1.store ha i x, h.2.trans (setIm_frm wr g _ x) (fun k _ e => by show v.blk = some k; rw [Sl.blk, ha, e]; rfl)⟩

end Go.Proofs.YtpggkfdnpdhkfaaGreat

namespace Go.Proofs.YtpggkfdnpdhkfaaGreat
open Go.RowKit
set_option maxRecDepth 100000

section
variable {ops : Array Oper} {rest : List Oper} {o : Oper} {a : Act} {Q : Exit → Act → World → Prop}
end

end Go.Proofs.YtpggkfdnpdhkfaaGreat

namespace Go.Proofs.YtpggkfdnpdhkfaaGreat
open Go.RowKit
set_option maxRecDepth 100000

end Go.Proofs.YtpggkfdnpdhkfaaGreat

namespace Go.Proofs.YtpggkfdnpdhkfaaGreat
open Go.RowKit
set_option maxRecDepth 100000

/-- The pages of two images. -/
def TwoP (b o c z k i : Nat) (x y : Ix) (w : World) : Prop := w.cell? ⟨b, o + k * 2, none⟩ = some (.int .i64 y.page) ∧ w.cell? ⟨c, z + i * 2, none⟩ = some (.int .i64 x.page)

set_option maxHeartbeats 2000000 in
set_option maxRecDepth 100000 in
theorem rap9A (w : World) (b o c z len cap len2 cap2 k i : Nat) (x y : Ix) (h : TwoP b o c z k i x y w.drew) 
    {Q : Exit → Act → World → Prop} {A : Act} (hsz : A.tmps.size = 73) (hdf : A.defers = []) (s0 : A.tmps.getD 0 undef = .slice (some ⟨b, o, none⟩) len cap) (s1 : A.tmps.getD 1 undef = .slice (some ⟨c, z, none⟩) len2 cap2) (s5 : A.tmps.getD 5 undef = .int .i64 ((i : Nat) : Int)) (s7 : A.tmps.getD 7 undef = .bool true) (s8 : A.tmps.getD 8 undef = .int .i64 ((k : Nat) : Int))
    (hend : ∀ (u : Nat → Value) w', w' = w.drew → Q .normal ((((((((((((((((A).put (some 22) (u 22)).put (some 23) (u 23)).put (some 24) (u 24)).put (some 25) (u 25)).put (some 26) (u 26)).put (some 27) (u 27)).put (some 28) (u 28)).put (some 29) (u 29)).put (some 30) (u 30)).put (some 31) (u 31)).put (some 32) (u 32)).put (some 33) (u 33)).put (some 34) (u 34)).put (some 35) (u 35)).put (some 36) (.bool false)) w') :
    (Code.region 9 (Pl.find 9 ((Tryz.f37.body).getD .skip)) true).wp Tryz.prog Q A w := by
  have hA := Pl.At.same (v := .int .i64 ((k : Nat) : Int)) (d := 8) (Pl.At.same (v := .bool true) (d := 7) (Pl.At.same (v := .int .i64 ((i : Nat) : Int)) (d := 5) (Pl.At.same (v := .slice (some ⟨c, z, none⟩) len2 cap2) (d := 1) (Pl.At.same (v := .slice (some ⟨b, o, none⟩) len cap) (d := 0) (Pl.At.here hsz hdf) s0) s1) s5) s7) s8
  refine Pl.H.start (S := TwoP b o c z k i x y) (by kernel_rfl) hA h ?_
  rw [show (Pl.find 9 ((Tryz.f37.body).getD .skip)).size = 15 by kernel_rfl]
  refine Pl.H.take 0 22 (.bool true) (by kernel_rfl) (by kernel_rfl) (by kernel_rfl) (Pl.free 0 (by kernel_rfl)) (Pl.move 0 (.tmp 7) (by kernel_rfl) (by decide)) h ?_
  refine Pl.H.take 1 23 (.bool false) (by kernel_rfl) (by kernel_rfl) (by kernel_rfl) (Pl.free 1 (by kernel_rfl)) (Pl.neg 1 4 (.tmp 22) true (by kernel_rfl) (by decide) rfl) h ?_
  refine Pl.H.take 2 24 (.bool false) (by kernel_rfl) (by kernel_rfl) (by kernel_rfl) (Pl.free 2 (by kernel_rfl)) (Pl.move 2 (.tmp 23) (by kernel_rfl) (by decide)) h ?_
  refine Pl.H.skip 3 25 (by kernel_rfl) (by kernel_rfl) (by kernel_rfl) (Pl.unwanted 3 2 24 true (by kernel_rfl) (by kernel_rfl) (by decide) rfl) h ?_
  refine Pl.H.skip 4 26 (by kernel_rfl) (by kernel_rfl) (by kernel_rfl) (Pl.unwanted 4 2 24 true (by kernel_rfl) (by kernel_rfl) (by decide) rfl) h ?_
  refine Pl.H.skip 5 27 (by kernel_rfl) (by kernel_rfl) (by kernel_rfl) (Pl.unwanted 5 2 24 true (by kernel_rfl) (by kernel_rfl) (by decide) rfl) h ?_
  refine Pl.H.skip 6 28 (by kernel_rfl) (by kernel_rfl) (by kernel_rfl) (Pl.unwanted 6 2 24 true (by kernel_rfl) (by kernel_rfl) (by decide) rfl) h ?_
  refine Pl.H.skip 7 29 (by kernel_rfl) (by kernel_rfl) (by kernel_rfl) (Pl.unwanted 7 2 24 true (by kernel_rfl) (by kernel_rfl) (by decide) rfl) h ?_
  refine Pl.H.skip 8 30 (by kernel_rfl) (by kernel_rfl) (by kernel_rfl) (Pl.unwanted 8 2 24 true (by kernel_rfl) (by kernel_rfl) (by decide) rfl) h ?_
  refine Pl.H.skip 9 31 (by kernel_rfl) (by kernel_rfl) (by kernel_rfl) (Pl.unwanted 9 2 24 true (by kernel_rfl) (by kernel_rfl) (by decide) rfl) h ?_
  refine Pl.H.skip 10 32 (by kernel_rfl) (by kernel_rfl) (by kernel_rfl) (Pl.unwanted 10 2 24 true (by kernel_rfl) (by kernel_rfl) (by decide) rfl) h ?_
  refine Pl.H.skip 11 33 (by kernel_rfl) (by kernel_rfl) (by kernel_rfl) (Pl.unwanted 11 2 24 true (by kernel_rfl) (by kernel_rfl) (by decide) rfl) h ?_
  refine Pl.H.skip 12 34 (by kernel_rfl) (by kernel_rfl) (by kernel_rfl) (Pl.unwanted 12 2 24 true (by kernel_rfl) (by kernel_rfl) (by decide) rfl) h ?_
  refine Pl.H.skip 13 35 (by kernel_rfl) (by kernel_rfl) (by kernel_rfl) (Pl.unwanted 13 2 24 true (by kernel_rfl) (by kernel_rfl) (by decide) rfl) h ?_
  refine Pl.H.take 14 36 (.bool false) (by kernel_rfl) (by kernel_rfl) (by kernel_rfl) (Pl.free 14 (by kernel_rfl)) (Pl.pickF 14 (.tmp 24) (.tmp 35) (.const (.bool false)) (by kernel_rfl) (by decide) (by decide) rfl) h ?_
  refine Pl.H.done (by kernel_rfl) (fun A' hA' => ?_)
  rw [Pl.At.ext hA' (((((((((((((((hA.put 22 _).put 23 _).put 24 _).put 25 _).put 26 _).put 27 _).put 28 _).put 29 _).put 30 _).put 31 _).put 32 _).put 33 _).put 34 _).put 35 _).put 36 _)]
  exact hend (fun d => if d = 22 then .bool true else if d = 23 then .bool false else if d = 24 then .bool false else if d = 25 then undef else if d = 26 then undef else if d = 27 then undef else if d = 28 then undef else if d = 29 then undef else if d = 30 then undef else if d = 31 then undef else if d = 32 then undef else if d = 33 then undef else if d = 34 then undef else if d = 35 then undef else undef) _ rfl

set_option maxHeartbeats 2000000 in
set_option maxRecDepth 100000 in
theorem rap9B (w : World) (b o c z len cap len2 cap2 k i : Nat) (x y : Ix) (h : TwoP b o c z k i x y w.drew) (hk : k < len) (hi : i < len2) (hc : x.page ≤ y.page)
    {Q : Exit → Act → World → Prop} {A : Act} (hsz : A.tmps.size = 73) (hdf : A.defers = []) (s0 : A.tmps.getD 0 undef = .slice (some ⟨b, o, none⟩) len cap) (s1 : A.tmps.getD 1 undef = .slice (some ⟨c, z, none⟩) len2 cap2) (s5 : A.tmps.getD 5 undef = .int .i64 ((i : Nat) : Int)) (s7 : A.tmps.getD 7 undef = .bool false) (s8 : A.tmps.getD 8 undef = .int .i64 ((k : Nat) : Int))
    (hend : ∀ (u : Nat → Value) w', w' = w.drew → Q .normal ((((((((((((((((A).put (some 22) (u 22)).put (some 23) (u 23)).put (some 24) (u 24)).put (some 25) (u 25)).put (some 26) (u 26)).put (some 27) (u 27)).put (some 28) (u 28)).put (some 29) (u 29)).put (some 30) (u 30)).put (some 31) (u 31)).put (some 32) (u 32)).put (some 33) (u 33)).put (some 34) (u 34)).put (some 35) (u 35)).put (some 36) (.bool true)) w') :
    (Code.region 9 (Pl.find 9 ((Tryz.f37.body).getD .skip)) true).wp Tryz.prog Q A w := by
  have hA := Pl.At.same (v := .int .i64 ((k : Nat) : Int)) (d := 8) (Pl.At.same (v := .bool false) (d := 7) (Pl.At.same (v := .int .i64 ((i : Nat) : Int)) (d := 5) (Pl.At.same (v := .slice (some ⟨c, z, none⟩) len2 cap2) (d := 1) (Pl.At.same (v := .slice (some ⟨b, o, none⟩) len cap) (d := 0) (Pl.At.here hsz hdf) s0) s1) s5) s7) s8
  refine Pl.H.start (S := TwoP b o c z k i x y) (by kernel_rfl) hA h ?_
  rw [show (Pl.find 9 ((Tryz.f37.body).getD .skip)).size = 15 by kernel_rfl]
  refine Pl.H.take 0 22 (.bool false) (by kernel_rfl) (by kernel_rfl) (by kernel_rfl) (Pl.free 0 (by kernel_rfl)) (Pl.move 0 (.tmp 7) (by kernel_rfl) (by decide)) h ?_
  refine Pl.H.take 1 23 (.bool true) (by kernel_rfl) (by kernel_rfl) (by kernel_rfl) (Pl.free 1 (by kernel_rfl)) (Pl.neg 1 4 (.tmp 22) false (by kernel_rfl) (by decide) rfl) h ?_
  refine Pl.H.take 2 24 (.bool true) (by kernel_rfl) (by kernel_rfl) (by kernel_rfl) (Pl.free 2 (by kernel_rfl)) (Pl.move 2 (.tmp 23) (by kernel_rfl) (by decide)) h ?_
  refine Pl.H.take 3 25 (.slice (some ⟨b, o, none⟩) len cap) (by kernel_rfl) (by kernel_rfl) (by kernel_rfl) (Pl.guarded 3 2 24 true (by kernel_rfl) (by kernel_rfl) (by decide) rfl) (Pl.move 3 (.tmp 0) (by kernel_rfl) (by decide)) h ?_
  refine Pl.H.take 4 26 (.int .i64 ((k : Nat) : Int)) (by kernel_rfl) (by kernel_rfl) (by kernel_rfl) (Pl.guarded 4 2 24 true (by kernel_rfl) (by kernel_rfl) (by decide) rfl) (Pl.move 4 (.tmp 8) (by kernel_rfl) (by decide)) h ?_
  refine Pl.H.take 5 27 (.pointer (some ⟨b, o + k * 2, none⟩)) (by kernel_rfl) (by kernel_rfl) (by kernel_rfl) (Pl.guarded 5 2 24 true (by kernel_rfl) (by kernel_rfl) (by decide) rfl) (Pl.index 5 52 (.tmp 25) (.tmp 26) _ (by kernel_rfl) (by decide) (by decide) (ixIm b o len cap k hk)) h ?_
  refine Pl.H.take 6 28 (.pointer (some ⟨b, o + k * 2, none⟩)) (by kernel_rfl) (by kernel_rfl) (by kernel_rfl) (Pl.guarded 6 2 24 true (by kernel_rfl) (by kernel_rfl) (by decide) rfl) (Pl.field 6 76 (.tmp 27) 0 _ (by kernel_rfl) (by decide) (fdI0 b (o + k * 2))) h ?_
  refine Pl.H.take 7 29 (.int .i64 y.page) (by kernel_rfl) (by kernel_rfl) (by kernel_rfl) (Pl.guarded 7 2 24 true (by kernel_rfl) (by kernel_rfl) (by decide) rfl) (Pl.load 7 3 (.tmp 28) _ (by kernel_rfl) (by decide) (fun w' hS => ldInt6 _ _ _ w' (hS.1))) h ?_
  refine Pl.H.take 8 30 (.slice (some ⟨c, z, none⟩) len2 cap2) (by kernel_rfl) (by kernel_rfl) (by kernel_rfl) (Pl.guarded 8 2 24 true (by kernel_rfl) (by kernel_rfl) (by decide) rfl) (Pl.move 8 (.tmp 1) (by kernel_rfl) (by decide)) h ?_
  refine Pl.H.take 9 31 (.int .i64 ((i : Nat) : Int)) (by kernel_rfl) (by kernel_rfl) (by kernel_rfl) (Pl.guarded 9 2 24 true (by kernel_rfl) (by kernel_rfl) (by decide) rfl) (Pl.move 9 (.tmp 5) (by kernel_rfl) (by decide)) h ?_
  refine Pl.H.take 10 32 (.pointer (some ⟨c, z + i * 2, none⟩)) (by kernel_rfl) (by kernel_rfl) (by kernel_rfl) (Pl.guarded 10 2 24 true (by kernel_rfl) (by kernel_rfl) (by decide) rfl) (Pl.index 10 52 (.tmp 30) (.tmp 31) _ (by kernel_rfl) (by decide) (by decide) (ixIm c z len2 cap2 i hi)) h ?_
  refine Pl.H.take 11 33 (.pointer (some ⟨c, z + i * 2, none⟩)) (by kernel_rfl) (by kernel_rfl) (by kernel_rfl) (Pl.guarded 11 2 24 true (by kernel_rfl) (by kernel_rfl) (by decide) rfl) (Pl.field 11 76 (.tmp 32) 0 _ (by kernel_rfl) (by decide) (fdI0 c (z + i * 2))) h ?_
  refine Pl.H.take 12 34 (.int .i64 x.page) (by kernel_rfl) (by kernel_rfl) (by kernel_rfl) (Pl.guarded 12 2 24 true (by kernel_rfl) (by kernel_rfl) (by decide) rfl) (Pl.load 12 3 (.tmp 33) _ (by kernel_rfl) (by decide) (fun w' hS => ldInt6 _ _ _ w' (hS.2))) h ?_
  refine Pl.H.take 13 35 (.bool true) (by kernel_rfl) (by kernel_rfl) (by kernel_rfl) (Pl.guarded 13 2 24 true (by kernel_rfl) (by kernel_rfl) (by decide) rfl) (Pl.binV 13 .geq 3 3 (.tmp 29) (.tmp 34) (.int .i64 y.page) (.int .i64 x.page) _ (by kernel_rfl) (by decide) (by decide) rfl rfl (geqT6 _ _ _ _ hc)) h ?_
  refine Pl.H.take 14 36 (.bool true) (by kernel_rfl) (by kernel_rfl) (by kernel_rfl) (Pl.free 14 (by kernel_rfl)) (Pl.pick 14 (.tmp 24) (.tmp 35) (.const (.bool false)) (by kernel_rfl) (by decide) (by decide) rfl) h ?_
  refine Pl.H.done (by kernel_rfl) (fun A' hA' => ?_)
  rw [Pl.At.ext hA' (((((((((((((((hA.put 22 _).put 23 _).put 24 _).put 25 _).put 26 _).put 27 _).put 28 _).put 29 _).put 30 _).put 31 _).put 32 _).put 33 _).put 34 _).put 35 _).put 36 _)]
  exact hend (fun d => if d = 22 then .bool false else if d = 23 then .bool true else if d = 24 then .bool true else if d = 25 then .slice (some ⟨b, o, none⟩) len cap else if d = 26 then .int .i64 ((k : Nat) : Int) else if d = 27 then .pointer (some ⟨b, o + k * 2, none⟩) else if d = 28 then .pointer (some ⟨b, o + k * 2, none⟩) else if d = 29 then .int .i64 y.page else if d = 30 then .slice (some ⟨c, z, none⟩) len2 cap2 else if d = 31 then .int .i64 ((i : Nat) : Int) else if d = 32 then .pointer (some ⟨c, z + i * 2, none⟩) else if d = 33 then .pointer (some ⟨c, z + i * 2, none⟩) else if d = 34 then .int .i64 x.page else if d = 35 then .bool true else undef) _ rfl

set_option maxHeartbeats 2000000 in
set_option maxRecDepth 100000 in
theorem rap9C (w : World) (b o c z len cap len2 cap2 k i : Nat) (x y : Ix) (h : TwoP b o c z k i x y w.drew) (hk : k < len) (hi : i < len2) (hc : ¬ x.page ≤ y.page)
    {Q : Exit → Act → World → Prop} {A : Act} (hsz : A.tmps.size = 73) (hdf : A.defers = []) (s0 : A.tmps.getD 0 undef = .slice (some ⟨b, o, none⟩) len cap) (s1 : A.tmps.getD 1 undef = .slice (some ⟨c, z, none⟩) len2 cap2) (s5 : A.tmps.getD 5 undef = .int .i64 ((i : Nat) : Int)) (s7 : A.tmps.getD 7 undef = .bool false) (s8 : A.tmps.getD 8 undef = .int .i64 ((k : Nat) : Int))
    (hend : ∀ (u : Nat → Value) w', w' = w.drew → Q .normal ((((((((((((((((A).put (some 22) (u 22)).put (some 23) (u 23)).put (some 24) (u 24)).put (some 25) (u 25)).put (some 26) (u 26)).put (some 27) (u 27)).put (some 28) (u 28)).put (some 29) (u 29)).put (some 30) (u 30)).put (some 31) (u 31)).put (some 32) (u 32)).put (some 33) (u 33)).put (some 34) (u 34)).put (some 35) (u 35)).put (some 36) (.bool false)) w') :
    (Code.region 9 (Pl.find 9 ((Tryz.f37.body).getD .skip)) true).wp Tryz.prog Q A w := by
  have hA := Pl.At.same (v := .int .i64 ((k : Nat) : Int)) (d := 8) (Pl.At.same (v := .bool false) (d := 7) (Pl.At.same (v := .int .i64 ((i : Nat) : Int)) (d := 5) (Pl.At.same (v := .slice (some ⟨c, z, none⟩) len2 cap2) (d := 1) (Pl.At.same (v := .slice (some ⟨b, o, none⟩) len cap) (d := 0) (Pl.At.here hsz hdf) s0) s1) s5) s7) s8
  refine Pl.H.start (S := TwoP b o c z k i x y) (by kernel_rfl) hA h ?_
  rw [show (Pl.find 9 ((Tryz.f37.body).getD .skip)).size = 15 by kernel_rfl]
  refine Pl.H.take 0 22 (.bool false) (by kernel_rfl) (by kernel_rfl) (by kernel_rfl) (Pl.free 0 (by kernel_rfl)) (Pl.move 0 (.tmp 7) (by kernel_rfl) (by decide)) h ?_
  refine Pl.H.take 1 23 (.bool true) (by kernel_rfl) (by kernel_rfl) (by kernel_rfl) (Pl.free 1 (by kernel_rfl)) (Pl.neg 1 4 (.tmp 22) false (by kernel_rfl) (by decide) rfl) h ?_
  refine Pl.H.take 2 24 (.bool true) (by kernel_rfl) (by kernel_rfl) (by kernel_rfl) (Pl.free 2 (by kernel_rfl)) (Pl.move 2 (.tmp 23) (by kernel_rfl) (by decide)) h ?_
  refine Pl.H.take 3 25 (.slice (some ⟨b, o, none⟩) len cap) (by kernel_rfl) (by kernel_rfl) (by kernel_rfl) (Pl.guarded 3 2 24 true (by kernel_rfl) (by kernel_rfl) (by decide) rfl) (Pl.move 3 (.tmp 0) (by kernel_rfl) (by decide)) h ?_
  refine Pl.H.take 4 26 (.int .i64 ((k : Nat) : Int)) (by kernel_rfl) (by kernel_rfl) (by kernel_rfl) (Pl.guarded 4 2 24 true (by kernel_rfl) (by kernel_rfl) (by decide) rfl) (Pl.move 4 (.tmp 8) (by kernel_rfl) (by decide)) h ?_
  refine Pl.H.take 5 27 (.pointer (some ⟨b, o + k * 2, none⟩)) (by kernel_rfl) (by kernel_rfl) (by kernel_rfl) (Pl.guarded 5 2 24 true (by kernel_rfl) (by kernel_rfl) (by decide) rfl) (Pl.index 5 52 (.tmp 25) (.tmp 26) _ (by kernel_rfl) (by decide) (by decide) (ixIm b o len cap k hk)) h ?_
  refine Pl.H.take 6 28 (.pointer (some ⟨b, o + k * 2, none⟩)) (by kernel_rfl) (by kernel_rfl) (by kernel_rfl) (Pl.guarded 6 2 24 true (by kernel_rfl) (by kernel_rfl) (by decide) rfl) (Pl.field 6 76 (.tmp 27) 0 _ (by kernel_rfl) (by decide) (fdI0 b (o + k * 2))) h ?_
  refine Pl.H.take 7 29 (.int .i64 y.page) (by kernel_rfl) (by kernel_rfl) (by kernel_rfl) (Pl.guarded 7 2 24 true (by kernel_rfl) (by kernel_rfl) (by decide) rfl) (Pl.load 7 3 (.tmp 28) _ (by kernel_rfl) (by decide) (fun w' hS => ldInt6 _ _ _ w' (hS.1))) h ?_
  refine Pl.H.take 8 30 (.slice (some ⟨c, z, none⟩) len2 cap2) (by kernel_rfl) (by kernel_rfl) (by kernel_rfl) (Pl.guarded 8 2 24 true (by kernel_rfl) (by kernel_rfl) (by decide) rfl) (Pl.move 8 (.tmp 1) (by kernel_rfl) (by decide)) h ?_
  refine Pl.H.take 9 31 (.int .i64 ((i : Nat) : Int)) (by kernel_rfl) (by kernel_rfl) (by kernel_rfl) (Pl.guarded 9 2 24 true (by kernel_rfl) (by kernel_rfl) (by decide) rfl) (Pl.move 9 (.tmp 5) (by kernel_rfl) (by decide)) h ?_
  refine Pl.H.take 10 32 (.pointer (some ⟨c, z + i * 2, none⟩)) (by kernel_rfl) (by kernel_rfl) (by kernel_rfl) (Pl.guarded 10 2 24 true (by kernel_rfl) (by kernel_rfl) (by decide) rfl) (Pl.index 10 52 (.tmp 30) (.tmp 31) _ (by kernel_rfl) (by decide) (by decide) (ixIm c z len2 cap2 i hi)) h ?_
  refine Pl.H.take 11 33 (.pointer (some ⟨c, z + i * 2, none⟩)) (by kernel_rfl) (by kernel_rfl) (by kernel_rfl) (Pl.guarded 11 2 24 true (by kernel_rfl) (by kernel_rfl) (by decide) rfl) (Pl.field 11 76 (.tmp 32) 0 _ (by kernel_rfl) (by decide) (fdI0 c (z + i * 2))) h ?_
  refine Pl.H.take 12 34 (.int .i64 x.page) (by kernel_rfl) (by kernel_rfl) (by kernel_rfl) (Pl.guarded 12 2 24 true (by kernel_rfl) (by kernel_rfl) (by decide) rfl) (Pl.load 12 3 (.tmp 33) _ (by kernel_rfl) (by decide) (fun w' hS => ldInt6 _ _ _ w' (hS.2))) h ?_
  refine Pl.H.take 13 35 (.bool false) (by kernel_rfl) (by kernel_rfl) (by kernel_rfl) (Pl.guarded 13 2 24 true (by kernel_rfl) (by kernel_rfl) (by decide) rfl) (Pl.binV 13 .geq 3 3 (.tmp 29) (.tmp 34) (.int .i64 y.page) (.int .i64 x.page) _ (by kernel_rfl) (by decide) (by decide) rfl rfl (geqF6 _ _ _ _ hc)) h ?_
  refine Pl.H.take 14 36 (.bool false) (by kernel_rfl) (by kernel_rfl) (by kernel_rfl) (Pl.free 14 (by kernel_rfl)) (Pl.pick 14 (.tmp 24) (.tmp 35) (.const (.bool false)) (by kernel_rfl) (by decide) (by decide) rfl) h ?_
  refine Pl.H.done (by kernel_rfl) (fun A' hA' => ?_)
  rw [Pl.At.ext hA' (((((((((((((((hA.put 22 _).put 23 _).put 24 _).put 25 _).put 26 _).put 27 _).put 28 _).put 29 _).put 30 _).put 31 _).put 32 _).put 33 _).put 34 _).put 35 _).put 36 _)]
  exact hend (fun d => if d = 22 then .bool false else if d = 23 then .bool true else if d = 24 then .bool true else if d = 25 then .slice (some ⟨b, o, none⟩) len cap else if d = 26 then .int .i64 ((k : Nat) : Int) else if d = 27 then .pointer (some ⟨b, o + k * 2, none⟩) else if d = 28 then .pointer (some ⟨b, o + k * 2, none⟩) else if d = 29 then .int .i64 y.page else if d = 30 then .slice (some ⟨c, z, none⟩) len2 cap2 else if d = 31 then .int .i64 ((i : Nat) : Int) else if d = 32 then .pointer (some ⟨c, z + i * 2, none⟩) else if d = 33 then .pointer (some ⟨c, z + i * 2, none⟩) else if d = 34 then .int .i64 x.page else if d = 35 then .bool false else undef) _ rfl

set_option maxHeartbeats 2000000 in
set_option maxRecDepth 100000 in
theorem rap12A (w : World) (b o c z len cap len2 cap2 k i : Nat) (x y : Ix) (h : TwoP b o c z k i x y w.drew) (hk : k < len) (hi : i < len2) (hc : y.page ≠ x.page)
    {Q : Exit → Act → World → Prop} {A : Act} (hsz : A.tmps.size = 73) (hdf : A.defers = []) (s0 : A.tmps.getD 0 undef = .slice (some ⟨b, o, none⟩) len cap) (s1 : A.tmps.getD 1 undef = .slice (some ⟨c, z, none⟩) len2 cap2) (s5 : A.tmps.getD 5 undef = .int .i64 ((i : Nat) : Int)) (s8 : A.tmps.getD 8 undef = .int .i64 ((k : Nat) : Int))
    (hend : ∀ (u : Nat → Value) w', w' = w.drew → Q .normal ((((((((((((A).put (some 44) (u 44)).put (some 45) (u 45)).put (some 46) (u 46)).put (some 47) (u 47)).put (some 48) (u 48)).put (some 49) (u 49)).put (some 50) (u 50)).put (some 51) (u 51)).put (some 52) (u 52)).put (some 53) (u 53)).put (some 54) (.bool true)) w') :
    (Code.region 12 (Pl.find 12 ((Tryz.f37.body).getD .skip)) true).wp Tryz.prog Q A w := by
  have hA := Pl.At.same (v := .int .i64 ((k : Nat) : Int)) (d := 8) (Pl.At.same (v := .int .i64 ((i : Nat) : Int)) (d := 5) (Pl.At.same (v := .slice (some ⟨c, z, none⟩) len2 cap2) (d := 1) (Pl.At.same (v := .slice (some ⟨b, o, none⟩) len cap) (d := 0) (Pl.At.here hsz hdf) s0) s1) s5) s8
  refine Pl.H.start (S := TwoP b o c z k i x y) (by kernel_rfl) hA h ?_
  rw [show (Pl.find 12 ((Tryz.f37.body).getD .skip)).size = 11 by kernel_rfl]
  refine Pl.H.take 0 44 (.slice (some ⟨b, o, none⟩) len cap) (by kernel_rfl) (by kernel_rfl) (by kernel_rfl) (Pl.free 0 (by kernel_rfl)) (Pl.move 0 (.tmp 0) (by kernel_rfl) (by decide)) h ?_
  refine Pl.H.take 1 45 (.int .i64 ((k : Nat) : Int)) (by kernel_rfl) (by kernel_rfl) (by kernel_rfl) (Pl.free 1 (by kernel_rfl)) (Pl.move 1 (.tmp 8) (by kernel_rfl) (by decide)) h ?_
  refine Pl.H.take 2 46 (.pointer (some ⟨b, o + k * 2, none⟩)) (by kernel_rfl) (by kernel_rfl) (by kernel_rfl) (Pl.free 2 (by kernel_rfl)) (Pl.index 2 52 (.tmp 44) (.tmp 45) _ (by kernel_rfl) (by decide) (by decide) (ixIm b o len cap k hk)) h ?_
  refine Pl.H.take 3 47 (.pointer (some ⟨b, o + k * 2, none⟩)) (by kernel_rfl) (by kernel_rfl) (by kernel_rfl) (Pl.free 3 (by kernel_rfl)) (Pl.field 3 76 (.tmp 46) 0 _ (by kernel_rfl) (by decide) (fdI0 b (o + k * 2))) h ?_
  refine Pl.H.take 4 48 (.int .i64 y.page) (by kernel_rfl) (by kernel_rfl) (by kernel_rfl) (Pl.free 4 (by kernel_rfl)) (Pl.load 4 3 (.tmp 47) _ (by kernel_rfl) (by decide) (fun w' hS => ldInt6 _ _ _ w' (hS.1))) h ?_
  refine Pl.H.take 5 49 (.slice (some ⟨c, z, none⟩) len2 cap2) (by kernel_rfl) (by kernel_rfl) (by kernel_rfl) (Pl.free 5 (by kernel_rfl)) (Pl.move 5 (.tmp 1) (by kernel_rfl) (by decide)) h ?_
  refine Pl.H.take 6 50 (.int .i64 ((i : Nat) : Int)) (by kernel_rfl) (by kernel_rfl) (by kernel_rfl) (Pl.free 6 (by kernel_rfl)) (Pl.move 6 (.tmp 5) (by kernel_rfl) (by decide)) h ?_
  refine Pl.H.take 7 51 (.pointer (some ⟨c, z + i * 2, none⟩)) (by kernel_rfl) (by kernel_rfl) (by kernel_rfl) (Pl.free 7 (by kernel_rfl)) (Pl.index 7 52 (.tmp 49) (.tmp 50) _ (by kernel_rfl) (by decide) (by decide) (ixIm c z len2 cap2 i hi)) h ?_
  refine Pl.H.take 8 52 (.pointer (some ⟨c, z + i * 2, none⟩)) (by kernel_rfl) (by kernel_rfl) (by kernel_rfl) (Pl.free 8 (by kernel_rfl)) (Pl.field 8 76 (.tmp 51) 0 _ (by kernel_rfl) (by decide) (fdI0 c (z + i * 2))) h ?_
  refine Pl.H.take 9 53 (.int .i64 x.page) (by kernel_rfl) (by kernel_rfl) (by kernel_rfl) (Pl.free 9 (by kernel_rfl)) (Pl.load 9 3 (.tmp 52) _ (by kernel_rfl) (by decide) (fun w' hS => ldInt6 _ _ _ w' (hS.2))) h ?_
  refine Pl.H.take 10 54 (.bool true) (by kernel_rfl) (by kernel_rfl) (by kernel_rfl) (Pl.free 10 (by kernel_rfl)) (Pl.binV 10 .neq 3 3 (.tmp 48) (.tmp 53) (.int .i64 y.page) (.int .i64 x.page) _ (by kernel_rfl) (by decide) (by decide) rfl rfl (neqT6 _ _ _ _ hc)) h ?_
  refine Pl.H.done (by kernel_rfl) (fun A' hA' => ?_)
  rw [Pl.At.ext hA' (((((((((((hA.put 44 _).put 45 _).put 46 _).put 47 _).put 48 _).put 49 _).put 50 _).put 51 _).put 52 _).put 53 _).put 54 _)]
  exact hend (fun d => if d = 44 then .slice (some ⟨b, o, none⟩) len cap else if d = 45 then .int .i64 ((k : Nat) : Int) else if d = 46 then .pointer (some ⟨b, o + k * 2, none⟩) else if d = 47 then .pointer (some ⟨b, o + k * 2, none⟩) else if d = 48 then .int .i64 y.page else if d = 49 then .slice (some ⟨c, z, none⟩) len2 cap2 else if d = 50 then .int .i64 ((i : Nat) : Int) else if d = 51 then .pointer (some ⟨c, z + i * 2, none⟩) else if d = 52 then .pointer (some ⟨c, z + i * 2, none⟩) else if d = 53 then .int .i64 x.page else undef) _ rfl

set_option maxHeartbeats 2000000 in
set_option maxRecDepth 100000 in
theorem rap12B (w : World) (b o c z len cap len2 cap2 k i : Nat) (x y : Ix) (h : TwoP b o c z k i x y w.drew) (hk : k < len) (hi : i < len2) (hc : ¬ y.page ≠ x.page)
    {Q : Exit → Act → World → Prop} {A : Act} (hsz : A.tmps.size = 73) (hdf : A.defers = []) (s0 : A.tmps.getD 0 undef = .slice (some ⟨b, o, none⟩) len cap) (s1 : A.tmps.getD 1 undef = .slice (some ⟨c, z, none⟩) len2 cap2) (s5 : A.tmps.getD 5 undef = .int .i64 ((i : Nat) : Int)) (s8 : A.tmps.getD 8 undef = .int .i64 ((k : Nat) : Int))
    (hend : ∀ (u : Nat → Value) w', w' = w.drew → Q .normal ((((((((((((A).put (some 44) (u 44)).put (some 45) (u 45)).put (some 46) (u 46)).put (some 47) (u 47)).put (some 48) (u 48)).put (some 49) (u 49)).put (some 50) (u 50)).put (some 51) (u 51)).put (some 52) (u 52)).put (some 53) (u 53)).put (some 54) (.bool false)) w') :
    (Code.region 12 (Pl.find 12 ((Tryz.f37.body).getD .skip)) true).wp Tryz.prog Q A w := by
  have hA := Pl.At.same (v := .int .i64 ((k : Nat) : Int)) (d := 8) (Pl.At.same (v := .int .i64 ((i : Nat) : Int)) (d := 5) (Pl.At.same (v := .slice (some ⟨c, z, none⟩) len2 cap2) (d := 1) (Pl.At.same (v := .slice (some ⟨b, o, none⟩) len cap) (d := 0) (Pl.At.here hsz hdf) s0) s1) s5) s8
  refine Pl.H.start (S := TwoP b o c z k i x y) (by kernel_rfl) hA h ?_
  rw [show (Pl.find 12 ((Tryz.f37.body).getD .skip)).size = 11 by kernel_rfl]
  refine Pl.H.take 0 44 (.slice (some ⟨b, o, none⟩) len cap) (by kernel_rfl) (by kernel_rfl) (by kernel_rfl) (Pl.free 0 (by kernel_rfl)) (Pl.move 0 (.tmp 0) (by kernel_rfl) (by decide)) h ?_
  refine Pl.H.take 1 45 (.int .i64 ((k : Nat) : Int)) (by kernel_rfl) (by kernel_rfl) (by kernel_rfl) (Pl.free 1 (by kernel_rfl)) (Pl.move 1 (.tmp 8) (by kernel_rfl) (by decide)) h ?_
  refine Pl.H.take 2 46 (.pointer (some ⟨b, o + k * 2, none⟩)) (by kernel_rfl) (by kernel_rfl) (by kernel_rfl) (Pl.free 2 (by kernel_rfl)) (Pl.index 2 52 (.tmp 44) (.tmp 45) _ (by kernel_rfl) (by decide) (by decide) (ixIm b o len cap k hk)) h ?_
  refine Pl.H.take 3 47 (.pointer (some ⟨b, o + k * 2, none⟩)) (by kernel_rfl) (by kernel_rfl) (by kernel_rfl) (Pl.free 3 (by kernel_rfl)) (Pl.field 3 76 (.tmp 46) 0 _ (by kernel_rfl) (by decide) (fdI0 b (o + k * 2))) h ?_
  refine Pl.H.take 4 48 (.int .i64 y.page) (by kernel_rfl) (by kernel_rfl) (by kernel_rfl) (Pl.free 4 (by kernel_rfl)) (Pl.load 4 3 (.tmp 47) _ (by kernel_rfl) (by decide) (fun w' hS => ldInt6 _ _ _ w' (hS.1))) h ?_
  refine Pl.H.take 5 49 (.slice (some ⟨c, z, none⟩) len2 cap2) (by kernel_rfl) (by kernel_rfl) (by kernel_rfl) (Pl.free 5 (by kernel_rfl)) (Pl.move 5 (.tmp 1) (by kernel_rfl) (by decide)) h ?_
  refine Pl.H.take 6 50 (.int .i64 ((i : Nat) : Int)) (by kernel_rfl) (by kernel_rfl) (by kernel_rfl) (Pl.free 6 (by kernel_rfl)) (Pl.move 6 (.tmp 5) (by kernel_rfl) (by decide)) h ?_
  refine Pl.H.take 7 51 (.pointer (some ⟨c, z + i * 2, none⟩)) (by kernel_rfl) (by kernel_rfl) (by kernel_rfl) (Pl.free 7 (by kernel_rfl)) (Pl.index 7 52 (.tmp 49) (.tmp 50) _ (by kernel_rfl) (by decide) (by decide) (ixIm c z len2 cap2 i hi)) h ?_
  refine Pl.H.take 8 52 (.pointer (some ⟨c, z + i * 2, none⟩)) (by kernel_rfl) (by kernel_rfl) (by kernel_rfl) (Pl.free 8 (by kernel_rfl)) (Pl.field 8 76 (.tmp 51) 0 _ (by kernel_rfl) (by decide) (fdI0 c (z + i * 2))) h ?_
  refine Pl.H.take 9 53 (.int .i64 x.page) (by kernel_rfl) (by kernel_rfl) (by kernel_rfl) (Pl.free 9 (by kernel_rfl)) (Pl.load 9 3 (.tmp 52) _ (by kernel_rfl) (by decide) (fun w' hS => ldInt6 _ _ _ w' (hS.2))) h ?_
  refine Pl.H.take 10 54 (.bool false) (by kernel_rfl) (by kernel_rfl) (by kernel_rfl) (Pl.free 10 (by kernel_rfl)) (Pl.binV 10 .neq 3 3 (.tmp 48) (.tmp 53) (.int .i64 y.page) (.int .i64 x.page) _ (by kernel_rfl) (by decide) (by decide) rfl rfl (neqF6 _ _ _ _ hc)) h ?_
  refine Pl.H.done (by kernel_rfl) (fun A' hA' => ?_)
  rw [Pl.At.ext hA' (((((((((((hA.put 44 _).put 45 _).put 46 _).put 47 _).put 48 _).put 49 _).put 50 _).put 51 _).put 52 _).put 53 _).put 54 _)]
  exact hend (fun d => if d = 44 then .slice (some ⟨b, o, none⟩) len cap else if d = 45 then .int .i64 ((k : Nat) : Int) else if d = 46 then .pointer (some ⟨b, o + k * 2, none⟩) else if d = 47 then .pointer (some ⟨b, o + k * 2, none⟩) else if d = 48 then .int .i64 y.page else if d = 49 then .slice (some ⟨c, z, none⟩) len2 cap2 else if d = 50 then .int .i64 ((i : Nat) : Int) else if d = 51 then .pointer (some ⟨c, z + i * 2, none⟩) else if d = 52 then .pointer (some ⟨c, z + i * 2, none⟩) else if d = 53 then .int .i64 x.page else undef) _ rfl

/-- A row that is being built, over what is elder. -/
def PutInv (H : Nat → Prop) (wr wz : World) (o : Sl) (lo : List Ix) : Prop := GI H wr.heap.size wz o lo ∧ Below wr.heap.size wr wz
theorem PutInv.step {H : Nat → Prop} {wr wz wy : World} {o : Sl} {lo : List Ix} (h : PutInv H wr wz o lo) (hb : Below wz.heap.size wz wy) : PutInv H wr wy o lo := ⟨h.1.keep hb, rBelow h.2 hb⟩
theorem PutInv.add {H : Nat → Prop} {wr wz wy : World} {o o' : Sl} {lo : List Ix} {x : Ix} (h : PutInv H wr wz o lo) (hx : Cm H wr x.s x.bs) (ho : OwnI wy o' (lo ++ [x])) (hf : Frm (fun k => o.blk = some k) wz wy) (hb : o'.blk = o.blk ∨ ∃ k, o'.blk = some k ∧ wz.heap.size ≤ k) : PutInv H wr wy o' (lo ++ [x]) := by
  have hx1 : Cm (fun k => k < wr.heap.size ∧ H k) wr x.s x.bs := hx.mono (fun _ hk hl => ⟨hl, hk⟩)
  have hx2 : Cm (fun k => H k ∧ o.blk ≠ some k) wz x.s x.bs := (hx1.keep (Kept6.below h.2 (fun _ hk _ => hk.1))).mono (fun k hk _ => ⟨hk.2, fun e => by have := h.1.blk k e; have := hk.1; omega⟩)
  obtain ⟨h1, h2⟩ := h.1.add hx2 ho hf hb h.2.size
  exact ⟨h1, h.2.trans h2⟩
theorem PutInv.own {H : Nat → Prop} {wr wz : World} {o : Sl} {lo : List Ix} (h : PutInv H wr wz o lo) : OwnI wz o lo := h.1.own

/-- How far one image has been put among others. -/
def PutAt (l : List Ix) (x : Ix) (pb : Bool) (lo : List Ix) (k : Nat) : Prop := lo ++ (if pb = true then l.drop k else Ap.put Ix.page (l.drop k) x) = Ap.put Ix.page l x ∧ (pb = true → ∀ y ∈ l.drop k, x.page < y.page)
theorem PutAt.start (l : List Ix) (x : Ix) : PutAt l x false [] 0 := ⟨rfl, fun h => by cases h⟩
theorem PutAt.behind {l : List Ix} {x : Ix} {lo : List Ix} {k : Nat} (h : PutAt l x true lo k) (hk : k < l.length) : PutAt l x true (lo ++ [l.getD k Ix.zero]) (k + 1) ∧ x.page < (l.getD k Ix.zero).page := by
  have e : l.getD k Ix.zero = l[k] := by simp [List.getD, hk]
  have d : l.drop k = l[k] :: l.drop (k + 1) := List.drop_eq_getElem_cons hk
  obtain ⟨h1, h2⟩ := h
  rw [if_pos rfl, d] at h1
  rw [d] at h2
  rw [e]
  refine ⟨⟨?_, fun _ y hy => h2 rfl y (List.mem_cons_of_mem _ hy)⟩, h2 rfl _ List.mem_cons_self⟩
  rw [if_pos rfl, List.append_assoc]
  exact h1
theorem PutAt.ahead {l : List Ix} {x : Ix} {lo : List Ix} {k : Nat} (h : PutAt l x false lo k) (hk : k < l.length) (hc : ¬ x.page ≤ (l.getD k Ix.zero).page) : PutAt l x false (lo ++ [l.getD k Ix.zero]) (k + 1) := by
  have e : l.getD k Ix.zero = l[k] := by simp [List.getD, hk]
  have d : l.drop k = l[k] :: l.drop (k + 1) := List.drop_eq_getElem_cons hk
  rw [e] at hc ⊢
  obtain ⟨h1, _⟩ := h
  rw [if_neg (by decide), d] at h1
  refine ⟨?_, fun h => by cases h⟩
  rw [if_neg (by decide), List.append_assoc]
  have : Ap.put Ix.page (l[k] :: l.drop (k + 1)) x = l[k] :: Ap.put Ix.page (l.drop (k + 1)) x := by
    show (if x.page ≤ l[k].page then _ else l[k] :: Ap.put Ix.page (l.drop (k + 1)) x) = _
    rw [if_neg hc]
  rw [this] at h1
  exact h1
theorem steep_drop : ∀ {l : List Ix} (k : Nat), Ap.Steep Ix.page l → Ap.Steep Ix.page (l.drop k)
  | _, 0, h => h
  | [], _ + 1, _ => trivial
  | _ :: _, k + 1, h => steep_drop k h.2
theorem PutAt.same {l : List Ix} {x : Ix} {lo : List Ix} {k : Nat} (h : PutAt l x false lo k) (hs : Ap.Steep Ix.page l) (hk : k < l.length) (hc : (l.getD k Ix.zero).page = x.page) : PutAt l x true (lo ++ [x]) (k + 1) := by
  have e : l.getD k Ix.zero = l[k] := by simp [List.getD, hk]
  have d : l.drop k = l[k] :: l.drop (k + 1) := List.drop_eq_getElem_cons hk
  have hsd := steep_drop k hs
  rw [d] at hsd
  rw [e] at hc
  obtain ⟨h1, _⟩ := h
  rw [if_neg (by decide), d] at h1
  refine ⟨?_, fun _ y hy => by have := hsd.1 y hy; omega⟩
  rw [if_pos rfl, List.append_assoc]
  have : Ap.put Ix.page (l[k] :: l.drop (k + 1)) x = x :: l.drop (k + 1) := by
    unfold Ap.put
    rw [if_pos (by omega), if_pos hc]
  rw [this] at h1
  exact h1
theorem PutAt.over {l : List Ix} {x : Ix} {lo : List Ix} {k : Nat} (h : PutAt l x false lo k) (hs : Ap.Steep Ix.page l) (hk : k < l.length) (hc : x.page < (l.getD k Ix.zero).page) : PutAt l x true (lo ++ [x] ++ [l.getD k Ix.zero]) (k + 1) := by
  have e : l.getD k Ix.zero = l[k] := by simp [List.getD, hk]
  have d : l.drop k = l[k] :: l.drop (k + 1) := List.drop_eq_getElem_cons hk
  have hsd := steep_drop k hs
  rw [d] at hsd
  rw [e] at hc ⊢
  obtain ⟨h1, _⟩ := h
  rw [if_neg (by decide), d] at h1
  refine ⟨?_, fun _ y hy => by have := hsd.1 y hy; omega⟩
  rw [if_pos rfl, List.append_assoc, List.append_assoc]
  have : Ap.put Ix.page (l[k] :: l.drop (k + 1)) x = x :: l[k] :: l.drop (k + 1) := by
    unfold Ap.put
    rw [if_pos (by omega), if_neg (by omega)]
  rw [this] at h1
  exact h1
theorem PutAt.done {l : List Ix} {x : Ix} {lo : List Ix} {pb : Bool} (h : PutAt l x pb lo l.length) : (pb = true → lo = Ap.put Ix.page l x) ∧ (pb = false → lo ++ [x] = Ap.put Ix.page l x) := by
  obtain ⟨h1, _⟩ := h
  rw [List.drop_length] at h1
  constructor
  · intro e
    rw [if_pos e, List.append_nil] at h1
    exact h1
  · intro e
    rw [if_neg (by rw [e]; decide)] at h1
    exact h1
end Go.Proofs.YtpggkfdnpdhkfaaGreat

namespace Go.Proofs.YtpggkfdnpdhkfaaGreat
open Go.RowKit
set_option maxRecDepth 100000

/-- What the document's Apply leaves. -/
def RApplyPost (H : Nat → Prop) (w : World) (g : List Im) (e : Ending) (w' : World) : Prop := ∃ (v : Sl) (l : List Ix), e = .returned v.val ∧ Gr H w' v l ∧ ims l = g ∧ Below w.heap.size w w'

theorem ims_put : ∀ (l : List Ix) (m : Ix), ims (Ap.put Ix.page l m) = Ap.put Im.page (ims l) m.im
  | [], _ => rfl
  | x :: r, m => by
    have ih := ims_put r m
    show ims (if m.page ≤ x.page then (if x.page = m.page then m :: r else m :: x :: r) else x :: Ap.put Ix.page r m) = (if m.page ≤ x.page then (if x.page = m.page then m.im :: ims r else m.im :: x.im :: ims r) else x.im :: Ap.put Im.page (ims r) m.im)
    split
    · split
      · rfl
      · rfl
    · show x.im :: ims (Ap.put Ix.page r m) = _
      rw [ih]
theorem ims_foldput : ∀ (g s : List Ix), ims (g.foldl (Ap.put Ix.page) s) = (ims g).foldl (Ap.put Im.page) (ims s)
  | [], _ => rfl
  | m :: r, s => by
    rw [List.foldl_cons, ims_foldput r, ims_put]
    rfl
theorem steep_ims : ∀ {l : List Ix}, Ap.Steep Im.page (ims l) → Ap.Steep Ix.page l
  | [], _ => trivial
  | _ :: _, h => ⟨fun y hy => h.1 y.im (List.mem_map.2 ⟨y, hy, rfl⟩), steep_ims h.2⟩

set_option maxHeartbeats 8000000 in
set_option maxRecDepth 100000 in
theorem rapply_any {D E : Nat → Prop} (H : Nat → Prop) (w : World) (v1 v2 : Sl) (l1 l2 : List Ix) (h1 : Gr D w v1 l1) (h2 : Gr E w v2 l2) (hm : v1.len + v2.len ≤ 1000) (hs : Ap.Steep Ix.page l1) (hD : ∀ k, D k → k < w.heap.size → H k) (hE : ∀ k, E k → k < w.heap.size → H k) (hH : ∀ k, w.heap.size ≤ k → H k) :
    Calls Tryz.prog 37 #[v1.val, v2.val] w fun e w' => RApplyPost H w ((ims l2).foldl (Ap.put Im.page) (ims l1)) e w' := by
  obtain ⟨a1, n1, k1⟩ := v1
  obtain ⟨a2, n2, k2⟩ := v2
  replace hm : n1 + n2 ≤ 1000 := hm
  have hl1 : l1.length = n1 := h1.len
  have hl2 : l2.length = n2 := h2.len
  have HL2 := hide hl2
  have HG1 : Hid (Gr H w ⟨a1, n1, k1⟩ l1) := h1.mono hD
  have HG2 : Hid (Gr H w ⟨a2, n2, k2⟩ l2) := h2.mono hE
  have HS := hide hs
  have HL1 := hide hl1
  have HR := hide (Below.refl w.heap.size w)
  have HHN := hide hH
  clear h1 h2 hl1 hl2 hs hD hE hH
  unfold Sl.val
  simp only
  go_enter Tryz.func37, Tryz.ntmps37
  go_wp2_with fail
  go_loopw [0, 5] (fun pv iv wr => ∃ (i : Nat) (v : Sl), i ≤ n2 ∧ iv = .int .i64 (i : Nat) ∧ pv = v.val ∧ Hid (Gr H wr v ((l2.take i).foldl (Ap.put Ix.page) l1)) ∧ Hid (Below w.heap.size w wr)) (fun _ iv _ => 2000 - (intOf iv).toNat)
  case atStart => exact ⟨0, ⟨a1, n1, k1⟩, by omega, rfl, rfl, HG1, HR⟩
  case round =>
    obtain ⟨i, ⟨va, vl, vc⟩, hi, rfl, rfl, hgv, hW⟩ := hrel
    unfold Sl.val
    simp only
    rcases Nat.lt_or_ge i n2 with hlti | hge
    · have i1 : ((i : Nat) : Int) < ((n2 : Nat) : Int) := by omega
      have hil : i < l2.length := by rw [HL2.out]; exact hlti
      obtain ⟨l, hl⟩ : ∃ l, l = (l2.take i).foldl (Ap.put Ix.page) l1 := ⟨_, rfl⟩
      obtain ⟨x, hx⟩ : ∃ x, x = l2.getD i Ix.zero := ⟨_, rfl⟩
      have HV : Hid (Gr H wr ⟨va, vl, vc⟩ l) := by rw [hl]; exact hgv.out
      have HV2 := hide (HG2.out.below hW.out (Nat.le_refl _))
      have HLN : Hid (l.length = vl) := HV.out.len
      have hvl : vl ≤ 1000 := by
        have h9 := Ap.fold_len Ix.page (l2.take i) l1
        rw [← hl, HLN.out, HL1.out, List.length_take, HL2.out] at h9
        omega
      have HSP : Hid (Ap.Steep Ix.page l) := by rw [hl]; exact Ap.fold_steep Ix.page _ HS.out
      have HX := hide hx
      have HCX : Hid (Cm H wr x.s x.bs) := by rw [hx]; exact HV2.out.at (i := i) hlti
      have HNL : Hid (Ap.put Ix.page l x = (l2.take (i + 1)).foldl (Ap.put Ix.page) l1) := by
        show _ = _
        have e : l2.getD i Ix.zero = l2[i] := by simp [List.getD, hil]
        rw [List.take_succ_eq_append_getElem hil, List.foldl_append, ← hl, hx, e]
        rfl
      have HP0 : Hid (PutInv H wr (wr.alloc (.cells #[] 76)) ⟨some ⟨wr.heap.size, 0, none⟩, 0, 0⟩ []) := ⟨GI.new _ _ wr (Nat.le_refl _), below_alloc wr _⟩
      clear hgv hl hx hil
      go_wp2_with fail
      rename World => wo
      go_loopw [6, 7, 8] (fun ov pv kv wz => ∃ (k : Nat) (o : Sl) (lo : List Ix) (pb : Bool), k ≤ vl ∧ ov = o.val ∧ pv = .bool pb ∧ kv = .int .i64 (k : Nat) ∧ Hid (PutInv H wo wz o lo) ∧ Hid (PutAt l x pb lo k) ∧ o.len ≤ 2 * k + 1) (fun _ _ kv _ => 2000 - (intOf kv).toNat)
      case atStart => exact ⟨0, ⟨some ⟨wo.heap.size, 0, none⟩, 0, 0⟩, [], false, by omega, rfl, rfl, rfl, HP0, hide (PutAt.start l x), by show 0 ≤ 2 * 0 + 1; omega⟩
      case round =>
        obtain ⟨k, ⟨oa, ol, oc⟩, lo, pb, hk, rfl, rfl, rfl, HPI, HPA, hol⟩ := hrel
        replace hol : ol ≤ 2 * k + 1 := hol
        unfold Sl.val
        simp only
        rcases Nat.lt_or_ge k vl with hlt | hge
        · skip
          have hlt2 : i < n2 := by omega
          have hyk : k < l.length := by rw [HLN.out]; exact hlt
          have i2 : ((k : Nat) : Int) < ((vl : Nat) : Int) := by omega
          obtain ⟨y, hy⟩ : ∃ y, y = l.getD k Ix.zero := ⟨_, rfl⟩
          have HCY : Hid (Cm H wo y.s y.bs) := by rw [hy]; exact HV.out.at (i := k) hlt
          have HCL : Hid (∀ wx, Below wo.heap.size wo wx → ∃ b o c z, va = some ⟨b, o, none⟩ ∧ a2 = some ⟨c, z, none⟩ ∧ wx.cell? ⟨b, o + k * 2, none⟩ = some (.int .i64 y.page) ∧ wx.cell? ⟨b, o + k * 2 + 1, none⟩ = some y.s.val ∧ wx.cell? ⟨c, z + i * 2, none⟩ = some (.int .i64 x.page) ∧ wx.cell? ⟨c, z + i * 2 + 1, none⟩ = some x.s.val) := by
            intro wx hbx
            obtain ⟨b, o, e1, c0, c1⟩ := (HV.out.below hbx (Nat.le_refl _)).cell k hlt
            obtain ⟨c, z, e2, d0, d1⟩ := (HV2.out.below hbx (Nat.le_refl _)).cell i hlt2
            rw [← hy] at c0 c1
            rw [← HX.out] at d0 d1
            exact ⟨b, o, c, z, e1, e2, c0, c1, d0, d1⟩
          obtain ⟨b, o, c, z, e1, e2, _, _, _, _⟩ := HCL.out wr HPI.out.2
          subst e1
          subst e2
          replace HCL : Hid (∀ wx, Below wo.heap.size wo wx → (wx.cell? ⟨b, o + k * 2, none⟩ = some (.int .i64 y.page) ∧ wx.cell? ⟨b, o + k * 2 + 1, none⟩ = some y.s.val) ∧ (wx.cell? ⟨c, z + i * 2, none⟩ = some (.int .i64 x.page) ∧ wx.cell? ⟨c, z + i * 2 + 1, none⟩ = some x.s.val)) := by
            intro wx hbx
            obtain ⟨b', o', c', z', e1, e2, h1, h2, h3, h4⟩ := HCL.out wx hbx
            simp only [Option.some.injEq, Addr.mk.injEq, and_true] at e1 e2
            obtain ⟨rfl, rfl⟩ := e1
            obtain ⟨rfl, rfl⟩ := e2
            exact ⟨⟨h1, h2⟩, h3, h4⟩
          have hTP : ∀ wx, Below wo.heap.size wo wx → TwoP b o c z k i x y wx := fun wx hbx => ⟨(HCL.out wx hbx).1.1, (HCL.out wx hbx).2.1⟩
          have HTP := hide hTP
          have HYK := hide (And.intro hyk hy)
          clear hTP hy hyk
          cases pb
          · by_cases hc : x.page ≤ y.page
            · have HR9 := hide (fun Q A => @rap9B wr b o c z vl vc n2 k2 k i x y (HTP.out _ (rBelow HPI.out.2 (below_drew6 wr))) hlt hlt2 hc Q A)
              go_wp2_with fail
              refine Pl.region_is (ops := Pl.find 9 ((Tryz.f37.body).getD .skip)) (by kernel_rfl) ?_
              refine HR9.out _ _ (by rfl) rfl (by rfl) (by rfl) (by rfl) (by rfl) (by rfl) ?_
              rintro uu w5 hw5
              simp only [Act.put, List.setIfInBounds_toArray, List.set_cons_zero, List.set_cons_succ]
              have HPI5 : Hid (PutInv H wo w5 ⟨oa, ol, oc⟩ lo) := by rw [hw5]; exact HPI.out.step (below_drew6 wr)
              clear hw5 HR9 HPI
              obtain ⟨⟨_, _⟩, d0, d1⟩ := HCL.out w5 HPI5.out.2
              obtain ⟨q, ⟨xa, xl, xc⟩, xb⟩ := x
              replace d0 : w5.cell? ⟨c, z + i * 2, none⟩ = some (.int .i64 q) := d0
              replace d1 : w5.cell? ⟨c, z + i * 2 + 1, none⟩ = some (.slice xa xl xc) := d1
              have i3 : ((i : Nat) : Int) < ((n2 : Nat) : Int) := by omega
              go_wp2_with (at_builtin; refine wpList_append_im w5 ⟨q, ⟨xa, xl, xc⟩, xb⟩ rfl (.tmp 37) (.tmp 42) rfl ⟨oa, ol, oc⟩ lo rfl rfl HPI5.out.own (by show ol + 1 ≤ 1000000; omega) ?_)
              intro o6 w6 ho6 hl6 hf6 hb6
              have HPI6 : Hid (PutInv H wo w6 o6 (lo ++ [⟨q, ⟨xa, xl, xc⟩, xb⟩])) := HPI5.out.add (x := ⟨q, ⟨xa, xl, xc⟩, xb⟩) HCX.out ho6 hf6 hb6
              obtain ⟨oa6, ol6, oc6⟩ := o6
              replace hl6 : ol6 = ol + 1 := hl6
              have hol6 : ol6 ≤ 2 * k + 2 := by omega
              clear ho6 hf6 hb6 HPI5 d0 d1 hl6
              unfold Sl.val
              simp only
              by_cases hne : y.page ≠ q
              · have HR12 := hide (fun Q A => @rap12A w6 b o c z vl vc n2 k2 k i ⟨q, ⟨xa, xl, xc⟩, xb⟩ y (HTP.out _ (rBelow HPI6.out.2 (below_drew6 w6))) hlt hlt2 hne Q A)
                have HPN : Hid (PutAt l ⟨q, ⟨xa, xl, xc⟩, xb⟩ true (lo ++ [⟨q, ⟨xa, xl, xc⟩, xb⟩] ++ [y]) (k + 1)) := by
                  have h9 := HPA.out.over HSP.out HYK.out.1 (by rw [← HYK.out.2]; show q < y.page; have : q ≤ y.page := hc; omega)
                  rw [← HYK.out.2] at h9
                  exact h9
                go_wp2_with fail
                refine Pl.region_is (ops := Pl.find 12 ((Tryz.f37.body).getD .skip)) (by kernel_rfl) ?_
                refine HR12.out _ _ (by rfl) rfl (by rfl) (by rfl) (by rfl) (by rfl) ?_
                rintro u3 w7 hw7
                simp only [Act.put, List.setIfInBounds_toArray, List.set_cons_zero, List.set_cons_succ]
                have HPI7 : Hid (PutInv H wo w7 ⟨oa6, ol6, oc6⟩ (lo ++ [⟨q, ⟨xa, xl, xc⟩, xb⟩])) := by rw [hw7]; exact HPI6.out.step (below_drew6 w6)
                clear hw7 HR12 HPI6
                obtain ⟨⟨c0, c1⟩, _, _⟩ := HCL.out w7 HPI7.out.2
                obtain ⟨r, ⟨ya, yl, yc⟩, yb⟩ := y
                replace c0 : w7.cell? ⟨b, o + k * 2, none⟩ = some (.int .i64 r) := c0
                replace c1 : w7.cell? ⟨b, o + k * 2 + 1, none⟩ = some (.slice ya yl yc) := c1
                go_wp2_with (at_builtin; refine wpList_append_im w7 ⟨r, ⟨ya, yl, yc⟩, yb⟩ rfl (.tmp 55) (.tmp 60) rfl ⟨oa6, ol6, oc6⟩ (lo ++ [⟨q, ⟨xa, xl, xc⟩, xb⟩]) rfl rfl HPI7.out.own (by show ol6 + 1 ≤ 1000000; omega) ?_)
                intro o8 w8 ho8 hl8 hf8 hb8
                have HPI8 := hide (HPI7.out.add (x := ⟨r, ⟨ya, yl, yc⟩, yb⟩) HCY.out (by rw [List.append_assoc]; exact ho8) hf8 hb8)
                obtain ⟨oa8, ol8, oc8⟩ := o8
                replace hl8 : ol8 = ol6 + 1 := hl8
                clear ho8 hf8 hb8 HPI7 c0 c1
                unfold Sl.val
                simp only
                go_wp2_with fail
                go_roundw
                case rel => exact ⟨k + 1, ⟨oa8, ol8, oc8⟩, _, true, by omega, rfl, rfl, by go_num, HPI8, HPN, by show ol8 ≤ 2 * (k + 1) + 1; omega⟩
                case measure => simp only [intOf]; omega
              · have HR12 := hide (fun Q A => @rap12B w6 b o c z vl vc n2 k2 k i ⟨q, ⟨xa, xl, xc⟩, xb⟩ y (HTP.out _ (rBelow HPI6.out.2 (below_drew6 w6))) hlt hlt2 hne Q A)
                have HPN : Hid (PutAt l ⟨q, ⟨xa, xl, xc⟩, xb⟩ true (lo ++ [⟨q, ⟨xa, xl, xc⟩, xb⟩]) (k + 1)) := by
                  have h9 := HPA.out.same HSP.out HYK.out.1 (by rw [← HYK.out.2]; exact Classical.not_not.1 hne)
                  exact h9
                go_wp2_with fail
                refine Pl.region_is (ops := Pl.find 12 ((Tryz.f37.body).getD .skip)) (by kernel_rfl) ?_
                refine HR12.out _ _ (by rfl) rfl (by rfl) (by rfl) (by rfl) (by rfl) ?_
                rintro u3 w7 hw7
                simp only [Act.put, List.setIfInBounds_toArray, List.set_cons_zero, List.set_cons_succ]
                have HPI7 : Hid (PutInv H wo w7 ⟨oa6, ol6, oc6⟩ (lo ++ [⟨q, ⟨xa, xl, xc⟩, xb⟩])) := by rw [hw7]; exact HPI6.out.step (below_drew6 w6)
                clear hw7 HR12 HPI6
                go_wp2_with fail
                go_roundw
                case rel => exact ⟨k + 1, ⟨oa6, ol6, oc6⟩, _, true, by omega, rfl, rfl, by go_num, HPI7, HPN, by show ol6 ≤ 2 * (k + 1) + 1; omega⟩
                case measure => simp only [intOf]; omega
            · have HR9 := hide (fun Q A => @rap9C wr b o c z vl vc n2 k2 k i x y (HTP.out _ (rBelow HPI.out.2 (below_drew6 wr))) hlt hlt2 hc Q A)
              have HPN : Hid (PutAt l x false (lo ++ [y]) (k + 1)) := by
                have h9 := HPA.out.ahead HYK.out.1 (by rw [← HYK.out.2]; exact hc)
                rw [← HYK.out.2] at h9
                exact h9
              have hne : y.page ≠ x.page := by omega
              go_wp2_with fail
              refine Pl.region_is (ops := Pl.find 9 ((Tryz.f37.body).getD .skip)) (by kernel_rfl) ?_
              refine HR9.out _ _ (by rfl) rfl (by rfl) (by rfl) (by rfl) (by rfl) (by rfl) ?_
              rintro uu w5 hw5
              simp only [Act.put, List.setIfInBounds_toArray, List.set_cons_zero, List.set_cons_succ]
              have HPI5 : Hid (PutInv H wo w5 ⟨oa, ol, oc⟩ lo) := by rw [hw5]; exact HPI.out.step (below_drew6 wr)
              clear hw5 HR9 HPI
              have HR12 := hide (fun Q A => @rap12A w5 b o c z vl vc n2 k2 k i x y (HTP.out _ (rBelow HPI5.out.2 (below_drew6 w5))) hlt hlt2 hne Q A)
              go_wp2_with fail
              refine Pl.region_is (ops := Pl.find 12 ((Tryz.f37.body).getD .skip)) (by kernel_rfl) ?_
              refine HR12.out _ _ (by rfl) rfl (by rfl) (by rfl) (by rfl) (by rfl) ?_
              rintro u3 w7 hw7
              simp only [Act.put, List.setIfInBounds_toArray, List.set_cons_zero, List.set_cons_succ]
              have HPI7 : Hid (PutInv H wo w7 ⟨oa, ol, oc⟩ lo) := by rw [hw7]; exact HPI5.out.step (below_drew6 w5)
              clear hw7 HR12 HPI5
              obtain ⟨⟨c0, c1⟩, _, _⟩ := HCL.out w7 HPI7.out.2
              obtain ⟨r, ⟨ya, yl, yc⟩, yb⟩ := y
              replace c0 : w7.cell? ⟨b, o + k * 2, none⟩ = some (.int .i64 r) := c0
              replace c1 : w7.cell? ⟨b, o + k * 2 + 1, none⟩ = some (.slice ya yl yc) := c1
              go_wp2_with (at_builtin; refine wpList_append_im w7 ⟨r, ⟨ya, yl, yc⟩, yb⟩ rfl (.tmp 55) (.tmp 60) rfl ⟨oa, ol, oc⟩ lo rfl rfl HPI7.out.own (by show ol + 1 ≤ 1000000; omega) ?_)
              intro o8 w8 ho8 hl8 hf8 hb8
              have HPI8 := hide (HPI7.out.add (x := ⟨r, ⟨ya, yl, yc⟩, yb⟩) HCY.out ho8 hf8 hb8)
              obtain ⟨oa8, ol8, oc8⟩ := o8
              replace hl8 : ol8 = ol + 1 := hl8
              clear ho8 hf8 hb8 HPI7 c0 c1
              unfold Sl.val
              simp only
              go_wp2_with fail
              go_roundw
              case rel => exact ⟨k + 1, ⟨oa8, ol8, oc8⟩, _, false, by omega, rfl, rfl, by go_num, HPI8, HPN, by show ol8 ≤ 2 * (k + 1) + 1; omega⟩
              case measure => simp only [intOf]; omega
          · have HR9 := hide (fun Q A => @rap9A wr b o c z vl vc n2 k2 k i x y (HTP.out _ (rBelow HPI.out.2 (below_drew6 wr))) Q A)
            have h9 := HPA.out.behind HYK.out.1
            rw [← HYK.out.2] at h9
            have HPN := hide h9.1
            have hne : y.page ≠ x.page := by have := h9.2; omega
            clear h9
            go_wp2_with fail
            refine Pl.region_is (ops := Pl.find 9 ((Tryz.f37.body).getD .skip)) (by kernel_rfl) ?_
            refine HR9.out _ _ (by rfl) rfl (by rfl) (by rfl) (by rfl) (by rfl) (by rfl) ?_
            rintro uu w5 hw5
            simp only [Act.put, List.setIfInBounds_toArray, List.set_cons_zero, List.set_cons_succ]
            have HPI5 : Hid (PutInv H wo w5 ⟨oa, ol, oc⟩ lo) := by rw [hw5]; exact HPI.out.step (below_drew6 wr)
            clear hw5 HR9 HPI
            have HR12 := hide (fun Q A => @rap12A w5 b o c z vl vc n2 k2 k i x y (HTP.out _ (rBelow HPI5.out.2 (below_drew6 w5))) hlt hlt2 hne Q A)
            go_wp2_with fail
            refine Pl.region_is (ops := Pl.find 12 ((Tryz.f37.body).getD .skip)) (by kernel_rfl) ?_
            refine HR12.out _ _ (by rfl) rfl (by rfl) (by rfl) (by rfl) (by rfl) ?_
            rintro u3 w7 hw7
            simp only [Act.put, List.setIfInBounds_toArray, List.set_cons_zero, List.set_cons_succ]
            have HPI7 : Hid (PutInv H wo w7 ⟨oa, ol, oc⟩ lo) := by rw [hw7]; exact HPI5.out.step (below_drew6 w5)
            clear hw7 HR12 HPI5
            obtain ⟨⟨c0, c1⟩, _, _⟩ := HCL.out w7 HPI7.out.2
            obtain ⟨r, ⟨ya, yl, yc⟩, yb⟩ := y
            replace c0 : w7.cell? ⟨b, o + k * 2, none⟩ = some (.int .i64 r) := c0
            replace c1 : w7.cell? ⟨b, o + k * 2 + 1, none⟩ = some (.slice ya yl yc) := c1
            go_wp2_with (at_builtin; refine wpList_append_im w7 ⟨r, ⟨ya, yl, yc⟩, yb⟩ rfl (.tmp 55) (.tmp 60) rfl ⟨oa, ol, oc⟩ lo rfl rfl HPI7.out.own (by show ol + 1 ≤ 1000000; omega) ?_)
            intro o8 w8 ho8 hl8 hf8 hb8
            have HPI8 := hide (HPI7.out.add (x := ⟨r, ⟨ya, yl, yc⟩, yb⟩) HCY.out ho8 hf8 hb8)
            obtain ⟨oa8, ol8, oc8⟩ := o8
            replace hl8 : ol8 = ol + 1 := hl8
            clear ho8 hf8 hb8 HPI7 c0 c1
            unfold Sl.val
            simp only
            go_wp2_with fail
            go_roundw
            case rel => exact ⟨k + 1, ⟨oa8, ol8, oc8⟩, _, true, by omega, rfl, rfl, by go_num, HPI8, HPN, by show ol8 ≤ 2 * (k + 1) + 1; omega⟩
            case measure => simp only [intOf]; omega
        · have hkl : k = l.length := by rw [HLN.out]; omega
          have hdn := HPA.out
          rw [hkl] at hdn
          have HDN := hide hdn.done
          have i2 : ¬ ((k : Nat) : Int) < ((vl : Nat) : Int) := by omega
          clear hkl hdn HPA
          cases pb
          · have HD2 := hide (HDN.out.2 rfl)
            clear HDN
            obtain ⟨c, z, e2, d0, d1⟩ := (HV2.out.below HPI.out.2 (Nat.le_refl _)).cell i hlti
            simp only at e2
            subst e2
            rw [← HX.out] at d0 d1
            obtain ⟨q, ⟨xa, xl, xc⟩, xb⟩ := x
            replace d0 : wr.cell? ⟨c, z + i * 2, none⟩ = some (.int .i64 q) := d0
            replace d1 : wr.cell? ⟨c, z + i * 2 + 1, none⟩ = some (.slice xa xl xc) := d1
            go_wp2_with (at_builtin; refine wpList_append_im wr ⟨q, ⟨xa, xl, xc⟩, xb⟩ rfl (.tmp 64) (.tmp 69) rfl ⟨oa, ol, oc⟩ lo rfl rfl HPI.out.own (by show ol + 1 ≤ 1000000; omega) ?_)
            intro o6 w6 ho6 hl6 hf6 hb6
            have hP6 := HPI.out.add (x := ⟨q, ⟨xa, xl, xc⟩, xb⟩) HCX.out ho6 hf6 hb6
            rw [HD2.out, HNL.out] at hP6
            have HG6 : Hid (Gr H w6 o6 ((l2.take (i + 1)).foldl (Ap.put Ix.page) l1)) := (hP6.1.gr (by rw [hl6]; show ol + 1 ≤ 1000000; omega)).mono (fun k hk _ => hk.elim id (fun e => HHN.out k (Nat.le_trans hW.out.size e)))
            have HB6 := hide (rBelow hW.out hP6.2)
            clear ho6 hl6 hf6 hb6 hP6 HPI d0 d1
            obtain ⟨oa6, ol6, oc6⟩ := o6
            unfold Sl.val
            simp only
            go_wp2_with fail
            go_roundw
            case rel => exact ⟨i + 1, ⟨oa6, ol6, oc6⟩, by omega, by go_num, rfl, HG6, HB6⟩
            case measure => simp only [intOf]; omega
          · have hP6 := HPI.out
            rw [HDN.out.1 rfl, HNL.out] at hP6
            have HG6 : Hid (Gr H wr ⟨oa, ol, oc⟩ ((l2.take (i + 1)).foldl (Ap.put Ix.page) l1)) := (hP6.1.gr (by show ol ≤ 1000000; omega)).mono (fun k hk _ => hk.elim id (fun e => HHN.out k (Nat.le_trans hW.out.size e)))
            have HB6 := hide (rBelow hW.out hP6.2)
            clear hP6 HPI
            go_wp2_with fail
            go_roundw
            case rel => exact ⟨i + 1, ⟨oa, ol, oc⟩, by omega, by go_num, rfl, HG6, HB6⟩
            case measure => simp only [intOf]; omega
    · have i1 : ¬ ((i : Nat) : Int) < ((n2 : Nat) : Int) := by omega
      have HGF : Hid (Gr H wr ⟨va, vl, vc⟩ (l2.foldl (Ap.put Ix.page) l1)) := by
        have h9 := hgv.out
        rw [List.take_of_length_le (by rw [HL2.out]; exact hge)] at h9
        exact h9
      go_wp2_with fail
      go_ret
      exact ⟨⟨va, vl, vc⟩, _, rfl, HGF.out, ims_foldput _ _, hW.out⟩
end Go.Proofs.YtpggkfdnpdhkfaaGreat
