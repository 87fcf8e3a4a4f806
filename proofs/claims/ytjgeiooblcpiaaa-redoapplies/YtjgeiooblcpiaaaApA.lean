/-
  Layer 6: images that are sorted in place: what is compared, what is stored, how a function value is called; a row with room.
-/
import Derived.Test.YtjgeiooblcpiaaaRdJ
namespace Go.Proofs.Ytjgeiooblcpiaaa
open Go.RowKit

set_option maxHeartbeats 1000000 in
theorem isNaN_any (x : Int) (w : World) : Calls Try.prog 36 #[.int .i64 x] w fun e w' => e = .returned (.bool false) ∧ w' = w := by
  have h : (x != x) = false := by simp
  go_enter Try.func36, Try.ntmps36
  go_wp2_with fail
  go_ret
  exact ⟨by simp, rfl⟩

/-- What a comparison of two numbers tells. -/
def cmpI (x y : Int) : Int := if x < y then -1 else if y < x then 1 else 0

set_option maxHeartbeats 1000000 in
theorem compare_any (x y : Int) (w : World) : Calls Try.prog 31 #[.int .i64 x, .int .i64 y] w fun e w' => e = .returned (.int .i64 (cmpI x y)) ∧ w' = w := by
  have H1 := hide (isNaN_any x w)
  have H2 := hide (isNaN_any y w)
  by_cases h1 : x < y
  · have e : cmpI x y = -1 := if_pos h1
    rw [e]
    go_enter Try.func31, Try.ntmps31
    go_wp2_with fail
    refine H1.out.mono ?_
    rintro e w1 ⟨rfl, hw⟩
    obtain rfl := hw.symm
    go_wp2_with fail
    refine H2.out.mono ?_
    rintro e w1 ⟨rfl, hw⟩
    obtain rfl := hw.symm
    go_wp2_with fail
    go_ret
    exact ⟨rfl, rfl⟩
  by_cases h2 : y < x
  · have e : cmpI x y = 1 := by unfold cmpI; rw [if_neg h1, if_pos h2]
    rw [e]
    go_enter Try.func31, Try.ntmps31
    go_wp2_with fail
    refine H1.out.mono ?_
    rintro e w1 ⟨rfl, hw⟩
    obtain rfl := hw.symm
    go_wp2_with fail
    refine H2.out.mono ?_
    rintro e w1 ⟨rfl, hw⟩
    obtain rfl := hw.symm
    go_wp2_with fail
    go_ret
    exact ⟨rfl, rfl⟩
  · have e : cmpI x y = 0 := by unfold cmpI; rw [if_neg h1, if_neg h2]
    rw [e]
    go_enter Try.func31, Try.ntmps31
    go_wp2_with fail
    refine H1.out.mono ?_
    rintro e w1 ⟨rfl, hw⟩
    obtain rfl := hw.symm
    go_wp2_with fail
    refine H2.out.mono ?_
    rintro e w1 ⟨rfl, hw⟩
    obtain rfl := hw.symm
    go_wp2_with fail
    go_ret
    exact ⟨rfl, rfl⟩

set_option maxHeartbeats 1000000 in
theorem closure_any (x y : Ix) (w : World) : Calls Try.prog 30 #[x.val, y.val] w fun e w' => e = .returned (.int .i64 (cmpI x.page y.page)) ∧ Below w.heap.size w w' := by
  obtain ⟨p, ⟨xa, xl, xc⟩, xb⟩ := x
  obtain ⟨q, ⟨ya, yl, yc⟩, yb⟩ := y
  have HB := hide (rBelow (below_alloc w (.cells #[.int .i64 p, .slice xa xl xc] 28)) (below_alloc _ (.cells #[.int .i64 q, .slice ya yl yc] 28)))
  have HC : Hid (∀ w, Calls Try.prog 31 #[.int .i64 p, .int .i64 q] w fun e w' => e = .returned (.int .i64 (cmpI p q)) ∧ w' = w) := compare_any p q
  unfold Ix.val Sl.val
  simp only
  go_enter Try.func30, Try.ntmps30
  go_wp2_with fail
  refine (HC.out _).mono ?_
  rintro e w1 ⟨rfl, rfl⟩
  go_wp2_with fail
  go_ret
  exact ⟨rfl, HB.out⟩

theorem Pl.H.callV {P : Program} {ops : Array Oper} {S : World → Prop} {Q : Exit → Act → World → Prop} {n fuel : Nat} {listed : Array Bool} {f : Nat → Value} {w : World} (i d g : Nat) (x0 : Operand) (xs : List Operand) (ts : Array TypeId) (hi : ops[i]? = some (Pl.op ops i)) (hd : (Pl.op ops i).dst = some d) (hr : Region.ready .any ops listed = [i])
    (hw : ∀ A, Pl.At n A f → Region.wanted (Pl.op ops i) (yielded ops A.tmps) = true)
    (hop : (Pl.op ops i).op = .call { callee := .value x0, args := xs.toArray, argTypes := ts }) (h0 : Pl.inB n x0 = true) (hv0 : Pl.ev f x0 = .func (.func g) #[] #[]) (hx : xs.all (Pl.inB n) = true)
    (hfn : ∀ args w, (callFunc g args).run P w = .ok (.enter g args) w)
    (h : Calls P g (xs.map (Pl.ev f)).toArray w fun e w' => ∃ v, e = .returned v ∧ S w' ∧ Pl.H P ops S Q n fuel (listed.setIfInBounds i true) (Pl.upd f d v) w') :
    Pl.H P ops S Q n (fuel + 1) listed f w := by
  intro A hA
  refine wpAnyH_all hr (by simp) ?_
  intro j hj
  obtain rfl : j = i := by simpa using hj
  unfold wpOp
  rw [hi]
  simp only [hw A hA, if_true]
  refine .inl ?_
  have hargs : #[] ++ xs.toArray.map A.eval ++ #[] = (xs.map (Pl.ev f)).toArray := by
    simp only [Array.empty_append, Array.append_empty, List.map_toArray]
    congr 1
    apply List.map_congr_left
    intro x hxm
    exact hA.ev x (List.all_eq_true.1 hx x hxm)
  have hrun : (execOp A.eval (Pl.op ops j)).run P w = .ok (.enter g (xs.map (Pl.ev f)).toArray) w := by
    have e0 : A.eval x0 = .func (.func g) #[] #[] := (hA.ev x0 h0).trans hv0
    have e : execOp A.eval (Pl.op ops j) = callFunc g (#[] ++ xs.toArray.map A.eval ++ #[]) := by
      unfold execOp
      rw [hop]
      simp only [resolve]
      rw [e0]
      rfl
    rw [e, hargs]
    exact hfn _ _
  unfold Oper.wp
  rw [hrun]
  refine h.mono ?_
  rintro e w' ⟨v, rfl, hS, hh⟩
  refine ⟨hS, hh _ ?_⟩
  rw [hd]
  exact hA.put d v

/-- A cell of a row turns. -/
theorem Own.setCell {e : TypeId} {z : Nat} {w : World} {s : Sl} {vs : List Value} (h : Own e z w s vs) {g off : Nat} (ha : s.a = some ⟨g, off, none⟩) (j : Nat) (u : Value) : Own e z (w.setCell ⟨g, off + j, none⟩ u) s (vs.set j u) := by
  refine ⟨by rw [List.length_set]; exact h.1, ?_⟩
  rcases h.2 with ⟨h0, _⟩ | ⟨g', off', cur, ha', hg, hoc, hlc, hcm, ht⟩
  · rw [h0] at ha; cases ha
  · rw [ha] at ha'
    simp only [Option.some.injEq, Addr.mk.injEq, and_true] at ha'
    obtain ⟨rfl, rfl⟩ := ha'
    refine .inr ⟨g, off, _, ha, heap_setCell_same w g (off + j) cur e u hg, by simpa using hoc, hlc, hcm, ?_⟩
    rw [Array.toList_setIfInBounds, List.drop_set, if_neg (by omega), Nat.add_sub_cancel_left, List.take_set, ht]

/-- An image laid over an image. -/
def setIm (w : World) (g o : Nat) (x : Ix) : World := (w.setCell ⟨g, o, none⟩ (.int .i64 x.page)).setCell ⟨g, o + 1, none⟩ x.s.val
theorem setIm_frm (w : World) (g o : Nat) (x : Ix) : Frm (fun k => k = g) w (setIm w g o x) :=
  ((Frm.refl (fun k => k = g) w).setCell (p := ⟨g, o, none⟩) rfl _).setCell (p := ⟨g, o + 1, none⟩) rfl _
theorem setIm_size (w : World) (g o : Nat) (x : Ix) : (setIm w g o x).heap.size = w.heap.size := by simp only [setIm, setCell_size]
theorem cellsI_set : ∀ (l : List Ix) (i : Nat) (x : Ix), cellsI (l.set i x) = ((cellsI l).set (i * 2) (.int .i64 x.page)).set (i * 2 + 1) x.s.val
  | [], _, _ => rfl
  | y :: r, 0, x => rfl
  | y :: r, i + 1, x => by
    have ih := cellsI_set r i x
    show y.cells ++ cellsI (r.set i x) = ((y.cells ++ cellsI r).set ((i + 1) * 2) _).set ((i + 1) * 2 + 1) _
    rw [ih, show (i + 1) * 2 = i * 2 + 2 by omega]
    rfl
theorem OwnI.store {w : World} {v : Sl} {l : List Ix} (h : OwnI w v l) {g off : Nat} (ha : v.a = some ⟨g, off, none⟩) (i : Nat) (x : Ix) : OwnI (setIm w g (off + i * 2) x) v (l.set i x) := by
  unfold OwnI setIm
  rw [cellsI_set]
  have h1 := Own.setCell h ha (i * 2) (.int .i64 x.page)
  have h2 := h1.setCell ha (i * 2 + 1) x.s.val
  rw [← Nat.add_assoc] at h2
  exact h2
theorem store_im (g o : Nat) (x : Ix) (w : World) {u0 u1 : Value} (c0 : w.cell? ⟨g, o, none⟩ = some u0) (c1 : w.cell? ⟨g, o + 1, none⟩ = some u1) (f0 : w.frozen? ⟨g, o, none⟩ = false) (f1 : w.frozen? ⟨g, o + 1, none⟩ = false) :
    (Instr.storeAt 28 (.pointer (some ⟨g, o, none⟩)) x.val).run Try.prog w = .ok () (setIm w g o x) := by
  obtain ⟨p, ⟨xa, xl, xc⟩, xb⟩ := x
  unfold Ix.val Sl.val setIm Sl.val
  simp [go_sem, Instr.storeAt, c0, c1, f0, f1]
theorem OwnI.cells {w : World} {v : Sl} {l : List Ix} (h : OwnI w v l) {g off : Nat} (ha : v.a = some ⟨g, off, none⟩) {i : Nat} (hi : i < v.len) : w.cell? ⟨g, off + i * 2, none⟩ = some (.int .i64 (l.getD i Ix.zero).page) ∧ w.cell? ⟨g, off + i * 2 + 1, none⟩ = some (l.getD i Ix.zero).s.val := by
  have hl := h.len
  constructor
  · have := h.cell ha (i * 2 + 0) _ (cellsI_get l i 0 (by omega) (by omega))
    rwa [Addr.add_lit] at this
  · have := h.cell ha (i * 2 + 1) _ (cellsI_get l i 1 (by omega) (by omega))
    rwa [Addr.add_lit] at this
theorem OwnI.frozen {w : World} {v : Sl} {l : List Ix} (h : OwnI w v l) {g off : Nat} (ha : v.a = some ⟨g, off, none⟩) (o : Nat) : w.frozen? ⟨g, o, none⟩ = false := by
  obtain ⟨cur, hc⟩ := h.kind (k := g) (by rw [Sl.blk, ha]; rfl)
  exact frozen_of_row w g _ cur 28 hc

/-- What images yield to an append. -/
theorem Gr.src {D : Nat → Prop} {w : World} {v : Sl} {l : List Ix} (h : Gr D w v l) : Src Try.prog 2 25 v.val v.len (cellsI l) w := by
  obtain ⟨a, len, cap⟩ := v
  have hl : l.length = len := h.len
  cases a with
  | none =>
    have hc : cap = 0 := h.nil rfl
    have h0 : len = 0 := by have : len ≤ cap := h.le; omega
    subst hc; subst h0
    have : l = [] := List.eq_nil_of_length_eq_zero hl
    subst this
    exact Src.ofNil w Try.underlying25 0
  | some ad =>
    refine Src.ofSlice w Try.underlying25 ad len cap (cellsI l) (by rw [cellsI_length, hl]) (fun j u hj => ?_) (cellsI_one l)
    have hjl : j < l.length * 2 := by
      have := (List.getElem?_eq_some_iff.1 hj).1
      rw [cellsI_length] at this
      exact this
    obtain ⟨b, off, e, c0, c1⟩ := h.cell (j / 2) (by show j / 2 < len; omega)
    obtain rfl := Option.some.inj e
    have hg := cellsI_get l (j / 2) (j % 2) (by omega) (by omega)
    rw [show j / 2 * 2 + j % 2 = j by omega, hj] at hg
    rw [Addr.add_lit]
    have hm4 : j % 2 = 0 ∨ j % 2 = 1 := by omega
    rcases hm4 with e4 | e4 <;> rw [e4] at hg
    · rw [show off + j = off + j / 2 * 2 by omega, c0, hg]; rfl
    · rw [show off + j = off + j / 2 * 2 + 1 by omega, c1, hg]; rfl

/-- A row with room for n images. -/
theorem run_append_room (w : World) (n : Nat) (h0 : 0 < n) (hn : n ≤ 1000) (ty : TypeId) :
    (Builtin.append_ #[25, 3] ty #[.slice none 0 0, .int .i64 ((n : Nat) : Int)]).run Try.prog w = .ok (.slice (some ⟨w.heap.size, 0, none⟩) n (grownCap w n 0 28)) (w.drew.alloc (.cells (Builtin.zeroCells #[.int .i64 0, .slice none 0 0] n ++ Builtin.zeroCells #[.int .i64 0, .slice none 0 0] (grownCap w n 0 28 - n)) 28)) := by
  obtain ⟨i, hi, hz, hz1, hz2⟩ := info_parts infoIm
  have ht : Try.prog.underlying 25 = some (.slice 28) := Try.underlying25
  have hk : Try.prog.underlying 3 = some (.int .i64) := Try.underlying3
  have e : IntKind.i64.wrap ((n : Nat) : Int) = ((n : Nat) : Int) := by rw [IntKind.wrap_i64]; omega
  have h1 : ¬ (((n : Nat) : Int) < 0) := by omega
  have h2 : ¬ (281474976710656 < ((n : Nat) : Int) * 32) := by omega
  have h3 : ¬ n = 0 := by omega
  have h7 : max ((n : Nat) : Int) 0 = ((n : Nat) : Int) := by omega
  have h4 : ¬ (9223372036854775807 < ((n : Nat) : Int)) := by omega
  have h5 : ¬ (281474976710656 < Builtin.nextslicecap n 0 * 32) := by
    have := growslice_fits (need := n) (old := 0) (bytes := 32) h0 (by omega)
    omega
  simp [Builtin.append_, run_underlying ht, run_underlying hk, sizeOf, typeInfo, zeroValue, hi, hz, hz1, hz2, e, h1, h2, h3, h4, h5, h7, asInt, asIntOf, Question.forced, Builtin.firstCells, newRow, grownCap, Value.cells]
  intro h
  omega
end Go.Proofs.Ytjgeiooblcpiaaa
