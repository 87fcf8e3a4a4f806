/-
  A cell of a row of undoings of one's own is turned; a copy of a row.
-/
import Derived.Test.YtpdkeghmpnanpaaCeD
import Derived.Test.YtpdkeghmpnanpaaCeM
namespace Go.Proofs.Ytpdkeghmpnanpaa
open Go.RowKit

theorem Own.setC {e : TypeId} {z : Nat} {w : World} {s : Sl} {vs : List Value} (h : Own e z w s vs) {g off : Nat} (ha : s.a = some ⟨g, off, none⟩) (j : Nat) (u : Value) : Own e z (w.setCell ⟨g, off + j, none⟩ u) s (vs.set j u) := by
  refine ⟨by rw [List.length_set]; exact h.1, ?_⟩
  rcases h.2 with ⟨h0, _⟩ | ⟨g', off', cur, ha', hg, hoc, hlc, hcm, ht⟩
  · rw [h0] at ha; cases ha
  · rw [ha] at ha'
    simp only [Option.some.injEq, Addr.mk.injEq, and_true] at ha'
    obtain ⟨rfl, rfl⟩ := ha'
    refine .inr ⟨g, off, _, ha, heap_setCell_same w g (off + j) cur e u hg, by simpa using hoc, hlc, hcm, ?_⟩
    rw [Array.toList_setIfInBounds, List.drop_set, if_neg (by omega), Nat.add_sub_cancel_left, List.take_set, ht]

/-- An undoing laid over twelve cells. -/
def setAt (w : World) (g o : Nat) (x : Ux) : World := (((((((((((w.setCell ⟨g, o, none⟩ (.int .i64 x.u.tx)).setCell ⟨g, o + 1, none⟩ (.int .i64 x.u.no)).setCell ⟨g, o + 2, none⟩ (.int .i64 x.u.prev)).setCell ⟨g, o + 3, none⟩ (.int .i64 x.u.kind)).setCell ⟨g, o + 4, none⟩ (.int .i64 x.u.page)).setCell ⟨g, o + 5, none⟩ (.int .i64 x.u.slot)).setCell ⟨g, o + 6, none⟩ (.float .f64 x.u.row.key)).setCell ⟨g, o + 7, none⟩ (.bool x.u.row.dead)).setCell ⟨g, o + 8, none⟩ (.slice x.a x.n x.c)).setCell ⟨g, o + 9, none⟩ (.int .i64 x.u.row.wr)).setCell ⟨g, o + 10, none⟩ (.int .i64 x.u.row.cell)).setCell ⟨g, o + 11, none⟩ (.int .i64 x.u.row.no)

theorem setAt_frm (w : World) (g o : Nat) (x : Ux) : Frm (fun k => k = g) w (setAt w g o x) :=
  ((((((((((((Frm.refl (fun k => k = g) w).setCell (p := ⟨g, o, none⟩) rfl _).setCell (p := ⟨g, o + 1, none⟩) rfl _).setCell (p := ⟨g, o + 2, none⟩) rfl _).setCell (p := ⟨g, o + 3, none⟩) rfl _).setCell (p := ⟨g, o + 4, none⟩) rfl _).setCell (p := ⟨g, o + 5, none⟩) rfl _).setCell (p := ⟨g, o + 6, none⟩) rfl _).setCell (p := ⟨g, o + 7, none⟩) rfl _).setCell (p := ⟨g, o + 8, none⟩) rfl _).setCell (p := ⟨g, o + 9, none⟩) rfl _).setCell (p := ⟨g, o + 10, none⟩) rfl _).setCell (p := ⟨g, o + 11, none⟩) rfl _

/-- The cells of a row with one undoing turned, one by one. -/
def cellsSet (vs : List Value) (p : Nat) (x : Ux) : List Value := (((((((((((vs.set (p) (.int .i64 x.u.tx)).set (p + 1) (.int .i64 x.u.no)).set (p + 2) (.int .i64 x.u.prev)).set (p + 3) (.int .i64 x.u.kind)).set (p + 4) (.int .i64 x.u.page)).set (p + 5) (.int .i64 x.u.slot)).set (p + 6) (.float .f64 x.u.row.key)).set (p + 7) (.bool x.u.row.dead)).set (p + 8) (.slice x.a x.n x.c)).set (p + 9) (.int .i64 x.u.row.wr)).set (p + 10) (.int .i64 x.u.row.cell)).set (p + 11) (.int .i64 x.u.row.no)

theorem cellsU_cons (x : Ux) (l : List Ux) : cellsU (x :: l) = x.cells ++ cellsU l := rfl

theorem cellsU_set : ∀ (l : List Ux) (i : Nat) (x : Ux), i < l.length → cellsU (l.set i x) = cellsSet (cellsU l) (i * 12) x
  | [], i, x, hi => by simp at hi
  | y :: l, 0, x, _ => by
    rw [List.set_cons_zero, cellsU_cons, cellsU_cons]
    simp [cellsSet, Ux.cells]
  | y :: l, i + 1, x, hi => by
    rw [List.set_cons_succ, cellsU_cons, cellsU_cons, cellsU_set l i x (by simpa using hi)]
    have hy : y.cells.length = 12 := rfl
    have e : ∀ (vs : List Value) (p : Nat) (u : Value), (y.cells ++ vs).set (12 + p) u = y.cells ++ vs.set p u := fun vs p u => by
      rw [List.set_append_right _ _ (by omega), hy, Nat.add_sub_cancel_left]
    unfold cellsSet
    rw [show (i + 1) * 12 = 12 + i * 12 by omega]
    simp only [Nat.add_assoc, e]

theorem Own.frozenAt {e : TypeId} {z : Nat} {w : World} {s : Sl} {vs : List Value} (h : Own e z w s vs) {g off : Nat} (ha : s.a = some ⟨g, off, none⟩) (p : Nat) : w.frozen? ⟨g, p, none⟩ = false := by
  rcases h.2 with ⟨h0, _⟩ | ⟨g', off', cur, ha', hg, _⟩
  · rw [h0] at ha; cases ha
  · rw [ha] at ha'
    simp only [Option.some.injEq, Addr.mk.injEq, and_true] at ha'
    obtain ⟨rfl, rfl⟩ := ha'
    exact frozen_of_row w g _ _ e hg

/-- l[i] = u, told without its words. -/
theorem Ud.set {w0 w : World} {s : Sl} {l : List Ux} (h : Ud w0 w s l) {g off : Nat} (ha : s.a = some ⟨g, off, none⟩) (i : Nat) (hi : i < l.length) (x : Ux) (hx : Col w0 w x) (hf : x.u.fits) :
    ∃ W, (Instr.storeAt 30 (.pointer (some ⟨g, off + i * 12, none⟩)) x.val).run Try.prog w = .ok () W ∧ Ud w0 W s (l.set i x) ∧ Frm (fun k => k = g) w W := by
  have hsf : ∀ (w : World) (a : Addr) (m : Mode) (x : Nat), (store a (.float .f64 x) m).run Try.prog w = stored Try.prog w a (.float .f64 x) m := fun w a m x => run_store Try.prog w a _ m rfl
  have hat := h.own.unAt ha i hi
  have c0 := hat.c0
  have c1 := hat.c1
  have c2 := hat.c2
  have c3 := hat.c3
  have c4 := hat.c4
  have c5 := hat.c5
  have c6 := hat.c6
  have c7 := hat.c7
  have c8 := hat.c8
  have c9 := hat.c9
  have c10 := hat.c10
  have c11 := hat.c11
  have f0 := h.own.frozenAt ha
  have hB : s.blk = some g := by rw [Sl.blk, ha]; rfl
  have hfr := setAt_frm w g (off + i * 12) x
  have hcol : ∀ y, Col w0 w y → Col w0 (setAt w g (off + i * 12) x) y := by
    intro y hy
    have hsame : ∀ b o', y.a = some ⟨b, o', none⟩ → 0 < y.n → (setAt w g (off + i * 12) x).heap[b]? = w.heap[b]? := by
      intro b o' ha' hn
      obtain ⟨b', o'', ha'', hc, _, _⟩ := hy.fs.at 0 hn
      rw [ha''] at ha'
      cases ha'
      refine hfr.block b (World.block_lt_of_cell? _ _ hc) ?_
      rintro rfl
      rcases hy.home b o' ha'' hn with k | ⟨C, fr, k⟩
      · have := h.new b hB
        omega
      · obtain ⟨cur, hcur⟩ := h.own.kind hB
        rw [k] at hcur
        simp only [Option.some.injEq, Obj.cells.injEq] at hcur
        exact absurd hcur.2.1 (by decide)
    refine ⟨hy.fs.same hsame, fun b o' ha' hn => ?_⟩
    rcases hy.home b o' ha' hn with k | ⟨C, fr, k⟩
    · exact .inl k
    · exact .inr ⟨C, fr, (hsame b o' ha' hn).trans k⟩
  refine ⟨setAt w g (off + i * 12) x, by simp [go_sem, Instr.storeAt, hsf, stored, c0, c1, c2, c3, c4, c5, c6, c7, c8, c9, c10, c11, f0, Ux.val, Un.val, setAt], ⟨?_, h.new, h.below.trans (hfr.below h.below.size (fun k hk => by rw [hk]; exact h.new g hB)), fun y hy => ?_, fun y hy => ?_⟩, hfr⟩
  · rw [cellsU_set l i x hi]
    unfold cellsSet setAt
    have h0 := h.own.setC ha (i * 12) (.int .i64 x.u.tx)
    have h1 := h0.setC ha (i * 12 + 1) (.int .i64 x.u.no)
    have h2 := h1.setC ha (i * 12 + 2) (.int .i64 x.u.prev)
    have h3 := h2.setC ha (i * 12 + 3) (.int .i64 x.u.kind)
    have h4 := h3.setC ha (i * 12 + 4) (.int .i64 x.u.page)
    have h5 := h4.setC ha (i * 12 + 5) (.int .i64 x.u.slot)
    have h6 := h5.setC ha (i * 12 + 6) (.float .f64 x.u.row.key)
    have h7 := h6.setC ha (i * 12 + 7) (.bool x.u.row.dead)
    have h8 := h7.setC ha (i * 12 + 8) (.slice x.a x.n x.c)
    have h9 := h8.setC ha (i * 12 + 9) (.int .i64 x.u.row.wr)
    have h10 := h9.setC ha (i * 12 + 10) (.int .i64 x.u.row.cell)
    have h11 := h10.setC ha (i * 12 + 11) (.int .i64 x.u.row.no)
    simp only [← Nat.add_assoc] at h11
    exact h11
  · rcases List.mem_or_eq_of_mem_set hy with hy | rfl
    · exact hcol y (h.cols y hy)
    · exact hcol y hx
  · rcases List.mem_or_eq_of_mem_set hy with hy | rfl
    · exact h.fits y hy
    · exact hf

/-- The undoing of awake. -/


theorem uns_set (l : List Ux) (k : Nat) (x : Ux) : uns (l.set k x) = (uns l).set k x.u := by simp [uns, List.map_set]

theorem Us.src {w : World} {a : Option Addr} {n cap : Nat} {l : List Ux} (h : Us w a n l) (hn : 0 < n) : Src Try.prog 12 22 (.slice a n cap) n (cellsU l) w := by
  obtain ⟨b, off, rfl, _⟩ := h.at' 0 hn
  refine Src.ofSlice _ Try.underlying22 ⟨b, off, none⟩ n cap (cellsU l) (by rw [cellsU_len, h.len]) (fun j u hj => ?_) (cellsU_one _)
  have hjl : j < n * 12 := by
    have := (List.getElem?_eq_some_iff.1 hj).1
    rwa [cellsU_len, h.len] at this
  obtain ⟨b', off', hbo, hat⟩ := h.at' (j / 12) (by omega)
  simp only [Option.some.injEq, Addr.mk.injEq, and_true] at hbo
  obtain ⟨rfl, rfl⟩ := hbo
  have hg := cellsU_get l (j / 12) (j % 12) (by rw [h.len]; omega) (Nat.mod_lt _ (by decide))
  rw [show j / 12 * 12 + j % 12 = j by omega, hj] at hg
  rw [Addr.add_lit, show off + j = off + j / 12 * 12 + j % 12 by omega]
  have ht : j % 12 < 12 := Nat.mod_lt _ (by decide)
  generalize j % 12 = t at *
  generalize off + j / 12 * 12 = o at *
  have hcases : t = 0 ∨ t = 1 ∨ t = 2 ∨ t = 3 ∨ t = 4 ∨ t = 5 ∨ t = 6 ∨ t = 7 ∨ t = 8 ∨ t = 9 ∨ t = 10 ∨ t = 11 := by omega
  rcases hcases with rfl | rfl | rfl | rfl | rfl | rfl | rfl | rfl | rfl | rfl | rfl | rfl
  · rw [hg]; exact hat.c0
  · rw [hg]; exact hat.c1
  · rw [hg]; exact hat.c2
  · rw [hg]; exact hat.c3
  · rw [hg]; exact hat.c4
  · rw [hg]; exact hat.c5
  · rw [hg]; exact hat.c6
  · rw [hg]; exact hat.c7
  · rw [hg]; exact hat.c8
  · rw [hg]; exact hat.c9
  · rw [hg]; exact hat.c10
  · rw [hg]; exact hat.c11

/-- append([]api.Undo{}, l...). -/
theorem Ud.copy {w w1 : World} {a : Option Addr} {n cap : Nat} {l : List Ux} (h : Us w a n l) (hb : Below w.heap.size w w1) (hn : 0 < n) (hl : n ≤ 1000) :
    ∃ s' W, (∀ ty, (Builtin.append_ #[22, 22] ty #[.slice (some ⟨w1.heap.size, 0, none⟩) 0 0, .slice a n cap]).run Try.prog (w1.alloc (.cells #[] 30)) = .ok s'.val W) ∧ Ud w W s' l ∧ Below w1.heap.size w1 W ∧ (∀ k, s'.blk = some k → w1.heap.size ≤ k) := by
  have h0 := Ud.new0 w w1 hb
  have hB := below_alloc w1 (.cells #[] 30)
  have hu := h.keep h0.below (Nat.le_refl _)
  obtain ⟨s', W, hrun, ho, hlen, hfr, hbk⟩ := own_append Try.underlying22 infoUn rfl (by decide) _ ⟨some ⟨w1.heap.size, 0, none⟩, 0, 0⟩ (cellsU []) h0.own (cellsU_one []) _ n (cellsU l) (hu.src (cap := cap) hn) (by show 0 + n ≤ _; omega) 0
  have hbW : Below w.heap.size w W := h0.below.trans (hfr.below h0.below.size (fun k hk => h0.new k hk))
  have hnew : ∀ k, s'.blk = some k → w1.heap.size ≤ k := by
    intro k e
    rcases hbk with e' | ⟨e', _⟩
    · rw [e'] at e
      have e2 : some w1.heap.size = some k := e
      cases e2
      exact Nat.le_refl _
    · rw [e'] at e
      cases e
      exact hB.size
  refine ⟨s', W, fun ty => hrun, ⟨ho, fun k e => Nat.le_trans hb.size (hnew k e), hbW, fun x hx => Col.old (h.cols x hx) hbW, h.fits⟩, hB.trans (hfr.below hB.size (fun k hk => ?_)), hnew⟩
  have e2 : some w1.heap.size = some k := hk
  cases e2
  exact Nat.le_refl _

/-- A box with one thing in it. -/
def Box1 (w : World) (b : Nat) (t : TypeId) (v : Value) : Prop := w.heap[b]? = some (Obj.cells #[v] t (0, 0))

theorem Box1.lt {w : World} {b : Nat} {t : TypeId} {v : Value} (h : Box1 w b t v) : b < w.heap.size := (Array.getElem?_eq_some_iff.1 h).1

theorem Box1.new (w : World) (t : TypeId) (v : Value) : Box1 (w.alloc (.cells #[v] t)) w.heap.size t v := heap_alloc_new w _

theorem Box1.cell {w : World} {b : Nat} {t : TypeId} {v : Value} (h : Box1 w b t v) : w.cell? ⟨b, 0, none⟩ = some v := by rw [cell_of_row _ _ _ _ _ _ h]; rfl

theorem Box1.fz {w : World} {b : Nat} {t : TypeId} {v : Value} (h : Box1 w b t v) : w.frozen? ⟨b, 0, none⟩ = false := frozen_of_row w b _ _ _ h

theorem Box1.keep {w w' : World} {b : Nat} {t : TypeId} {v : Value} (h : Box1 w b t v) (hb : Below w.heap.size w w') : Box1 w' b t v := (hb.block b h.lt).trans h

theorem Box1.other {w w' : World} {F : Nat → Prop} {b : Nat} {t : TypeId} {v : Value} (h : Box1 w b t v) (hf : Frm F w w') (hn : ¬ F b) : Box1 w' b t v := (hf.block b h.lt hn).trans h

theorem Box1.errno {w : World} {b : Nat} {v0 : Value} (h : Box1 w b 33 v0) (n : Int) : ∃ W, (Instr.storeAt 33 (.pointer (some ⟨b, 0, none⟩)) (.int .i64 n)).run Try.prog w = .ok () W ∧ Box1 W b 33 (.int .i64 n) ∧ Frm (fun k => k = b) w W ∧ W.heap.size = w.heap.size := by
  have c0 := h.cell
  have f0 := h.fz
  refine ⟨w.setCell ⟨b, 0, none⟩ (.int .i64 n), by simp [go_sem, Instr.storeAt, stored, c0, f0], ?_, Frm.setCell (F := fun k => k = b) (Frm.refl _ w) (p := ⟨b, 0, none⟩) rfl _, setCell_size _ _ _⟩
  unfold Box1
  rw [heap_setCell_same w b 0 _ 33 (.int .i64 n) h]
  rfl

theorem Box1.undos {w : World} {b : Nat} {v0 : Value} (h : Box1 w b 22 v0) (a : Option Addr) (n c : Nat) : ∃ W, (Instr.storeAt 22 (.pointer (some ⟨b, 0, none⟩)) (.slice a n c)).run Try.prog w = .ok () W ∧ Box1 W b 22 (.slice a n c) ∧ Frm (fun k => k = b) w W ∧ W.heap.size = w.heap.size := by
  have c0 := h.cell
  have f0 := h.fz
  refine ⟨w.setCell ⟨b, 0, none⟩ (.slice a n c), by simp [go_sem, Instr.storeAt, stored, c0, f0], ?_, Frm.setCell (F := fun k => k = b) (Frm.refl _ w) (p := ⟨b, 0, none⟩) rfl _, setCell_size _ _ _⟩
  unfold Box1
  rw [heap_setCell_same w b 0 _ 22 (.slice a n c) h]
  rfl

theorem load_undos (b : Nat) (a : Option Addr) (n c : Nat) (w : World) (h : w.cell? ⟨b, 0, none⟩ = some (.slice a n c)) : (Instr.loadAt 22 (.pointer (some ⟨b, 0, none⟩))).run Try.prog w = .ok (.slice a n c) w := by simp [go_sem, h]

theorem load_errno (b : Nat) (k : Int) (w : World) (h : w.cell? ⟨b, 0, none⟩ = some (.int .i64 k)) : (Instr.loadAt 33 (.pointer (some ⟨b, 0, none⟩))).run Try.prog w = .ok (.int .i64 k) w := by simp [go_sem, h]

theorem cell_cells {w : World} {p : Addr} {v : Value} (h : w.cell? p = some v) : ∃ C t fr, w.heap[p.block]? = some (Obj.cells C t fr) := by
  unfold World.cell? at h
  split at h
  · rename_i C t fr hb
    exact ⟨_, _, _, hb⟩
  · cases h

/-- Columns stay where nothing but other things turn. -/
theorem Col.turned {w0 w W : World} {x : Ux} (h : Col w0 w x) (hs : ∀ (k : Nat) (C : Array Value) (t : TypeId) (fr : Nat × Nat), w.heap[k]? = some (Obj.cells C t fr) → (k < w0.heap.size ∨ t = 23) → W.heap[k]? = w.heap[k]?) : Col w0 W x := by
  have hsame : ∀ b off, x.a = some ⟨b, off, none⟩ → 0 < x.n → W.heap[b]? = w.heap[b]? := by
    intro b off ha hn
    obtain ⟨b', off', ha', hc, _, _⟩ := h.fs.at 0 hn
    rw [ha'] at ha
    cases ha
    obtain ⟨C, t, fr, hb⟩ := cell_cells hc
    rcases h.home b off ha' hn with k | ⟨C', fr', k⟩
    · exact hs b C t fr hb (.inl k)
    · exact hs b C' _ fr' k (.inr rfl)
  refine ⟨h.fs.same hsame, fun b off ha hn => ?_⟩
  rcases h.home b off ha hn with k | ⟨C, fr, k⟩
  · exact .inl k
  · exact .inr ⟨C, fr, (hsame b off ha hn).trans k⟩

theorem Ud.turned {w0 w W : World} {s : Sl} {l : List Ux} (h : Ud w0 w s l) (hb : Below w0.heap.size w0 W) (hs : ∀ (k : Nat) (C : Array Value) (t : TypeId) (fr : Nat × Nat), w.heap[k]? = some (Obj.cells C t fr) → (k < w0.heap.size ∨ t = 23 ∨ t = 30) → W.heap[k]? = w.heap[k]?) : Ud w0 W s l := by
  refine ⟨h.own.frame (fun k hk => ?_), h.new, hb, fun x hx => (h.cols x hx).turned (fun k C t fr hk ho => hs k C t fr hk (ho.elim .inl (fun e => .inr (.inl e)))), h.fits⟩
  obtain ⟨cur, hcur⟩ := h.own.kind hk
  exact hs k cur _ _ hcur (.inr (.inr rfl))

/-- A box of another kind turns: a row of undoings stays. -/
theorem Ud.other {w0 w W : World} {s : Sl} {l : List Ux} (h : Ud w0 w s l) {b : Nat} {t : TypeId} {v : Value} (hx : Box1 w b t v) (hb : w0.heap.size ≤ b) (ht : t ≠ 23 ∧ t ≠ 30) (hf : Frm (fun k => k = b) w W) : Ud w0 W s l := by
  refine h.turned (h.below.trans (hf.below h.below.size (fun k hk => by rw [hk]; exact hb))) (fun k C t' fr hk ho => hf.block k (Array.getElem?_eq_some_iff.1 hk).1 (fun e => ?_))
  subst e
  unfold Box1 at hx
  rw [hx] at hk
  cases hk
  rcases ho with ho | ho | ho
  · omega
  · exact ht.1 ho
  · exact ht.2 ho

end Go.Proofs.Ytpdkeghmpnanpaa
