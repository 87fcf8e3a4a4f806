/-
  Rows of undoings of one's own.
-/
import Derived.Test.YtpdkeghmpnanpaaCeB
import Derived.Laws.MakeOwn
namespace Go.Proofs.Ytpdkeghmpnanpaa
open Go.RowKit

def cellsU (l : List Ux) : List Value := l.flatMap Ux.cells

theorem cellsU_len : ∀ l : List Ux, (cellsU l).length = l.length * 12
  | [] => rfl
  | x :: l => by
    have e : cellsU (x :: l) = x.cells ++ cellsU l := rfl
    rw [e, List.length_append, cellsU_len l, List.length_cons]
    have : x.cells.length = 12 := rfl
    omega

theorem cellsU_append (l m : List Ux) : cellsU (l ++ m) = cellsU l ++ cellsU m := by simp [cellsU]

theorem cellsU_one (l : List Ux) : ∀ u ∈ cellsU l, u.oneCell' = true := by
  intro u hu
  obtain ⟨x, _, hx⟩ := List.mem_flatMap.1 hu
  simp only [Ux.cells, List.mem_cons, List.not_mem_nil, or_false] at hx
  rcases hx with rfl | rfl | rfl | rfl | rfl | rfl | rfl | rfl | rfl | rfl | rfl | rfl <;> rfl

theorem cellsU_get : ∀ (l : List Ux) (j t : Nat), j < l.length → t < 12 → (cellsU l)[j * 12 + t]? = (l.getD j Ux.zero).cells[t]?
  | [], j, t, hj, _ => by simp at hj
  | x :: l, 0, t, _, ht => by
    have e : cellsU (x :: l) = x.cells ++ cellsU l := rfl
    have hl : x.cells.length = 12 := rfl
    rw [e, Nat.zero_mul, Nat.zero_add, List.getElem?_append_left (by omega)]
    rfl
  | x :: l, j + 1, t, hj, ht => by
    have e : cellsU (x :: l) = x.cells ++ cellsU l := rfl
    have hl : x.cells.length = 12 := rfl
    rw [e, List.getElem?_append_right (by omega), hl, show (j + 1) * 12 + t - 12 = j * 12 + t by omega]
    exact cellsU_get l j t (by simpa using hj) ht

theorem infoUn : (Try.prog.info? 30).map (fun i => (i.zero, i.size, i.bytes)) = some (some (.agg #[.int .i64 0, .int .i64 0, .int .i64 0, .int .i64 0, .int .i64 0, .int .i64 0, .float .f64 0, .bool false, .slice none 0 0, .int .i64 0, .int .i64 0, .int .i64 0]), 12, 112) := by kernel_rfl

/-- An undoing's columns, where no row of undoings that is built since w0 can be. -/
structure Col (w0 w : World) (x : Ux) : Prop where
  fs : Fs w x.a x.n x.c x.u.row.xs
  home : ∀ b off, x.a = some ⟨b, off, none⟩ → 0 < x.n → b < w0.heap.size ∨ ∃ C fr, w.heap[b]? = some (Obj.cells C 23 fr)

theorem Col.keep {w0 w w' : World} {x : Ux} (h : Col w0 w x) (hb : Below w.heap.size w w') : Col w0 w' x := by
  refine ⟨h.fs.keep hb (Nat.le_refl _), fun b off ha hn => ?_⟩
  rcases h.home b off ha hn with k | ⟨C, fr, k⟩
  · exact .inl k
  · exact .inr ⟨C, fr, (hb.block b (Array.getElem?_eq_some_iff.1 k).1).trans k⟩

theorem Col.owns {w0 w : World} {base : Nat} {u : Un} {a : Option Addr} {n c : Nat} (h : OwnsV 23 w base (.slice a n c) (fVals u.row.xs)) (hf : Fs w a n c u.row.xs) : Col w0 w ⟨u, a, n, c⟩ := by
  refine ⟨hf, fun b off ha hn => .inr ?_⟩
  rcases h.2 with ⟨hv, h0⟩ | ⟨g, cp, cur, hv, _, hg, _⟩
  · simp only [Value.slice.injEq] at hv
    simp only at ha
    rw [hv.1] at ha
    cases ha
  · simp only [Value.slice.injEq] at hv
    simp only at ha
    rw [hv.1] at ha
    cases ha
    exact ⟨_, _, hg⟩

theorem Col.old {w0 w : World} {x : Ux} (h : Fs w0 x.a x.n x.c x.u.row.xs) (hb : Below w0.heap.size w0 w) : Col w0 w x := by
  refine ⟨h.keep hb (Nat.le_refl _), fun b off ha hn => .inl ?_⟩
  obtain ⟨b', off', ha', hc, _, _⟩ := h.at 0 hn
  rw [ha'] at ha
  cases ha
  exact World.block_lt_of_cell? w0 _ hc

theorem Col.zero (w0 w : World) : Col w0 w Ux.zero := ⟨fs_nil w, fun _ _ _ hn => absurd hn (Nat.lt_irrefl 0)⟩

/-- Floats stay where no block of theirs turns. -/
theorem Fs.same {w W : World} {a : Option Addr} {n c : Nat} {xs : List Nat} (h : Fs w a n c xs) (hs : ∀ b off, a = some ⟨b, off, none⟩ → 0 < n → W.heap[b]? = w.heap[b]?) : Fs W a n c xs := by
  refine ⟨⟨h.vs.1, h.vs.2.1, fun j hj => ?_⟩, h.fit, h.nil, h.le, h.big⟩
  obtain ⟨b, off, ha, hc⟩ := h.vs.2.2 j hj
  refine ⟨b, off, ha, ?_⟩
  rw [← hc]
  simp only [World.cell?, hs b off ha (by omega)]

/-- A row of undoings of one's own, in blocks that are new since w0. -/
structure Ud (w0 w : World) (s : Sl) (l : List Ux) : Prop where
  own : Own 30 12 w s (cellsU l)
  new : ∀ k, s.blk = some k → w0.heap.size ≤ k
  below : Below w0.heap.size w0 w
  cols : ∀ x ∈ l, Col w0 w x
  fits : ∀ x ∈ l, x.u.fits

theorem Ud.len {w0 w : World} {s : Sl} {l : List Ux} (h : Ud w0 w s l) : l.length = s.len := by
  have := h.own.1
  rw [cellsU_len] at this
  omega

theorem Ud.keep {w0 w w' : World} {s : Sl} {l : List Ux} (h : Ud w0 w s l) (hb : Below w.heap.size w w') : Ud w0 w' s l :=
  ⟨h.own.frame (fun k hk => hb.block k (h.own.lt hk)), h.new, rBelow h.below hb, fun x hx => (h.cols x hx).keep hb, h.fits⟩

theorem Own.unAt {w : World} {s : Sl} {l : List Ux} (h : Own 30 12 w s (cellsU l)) {b off : Nat} (ha : s.a = some ⟨b, off, none⟩) (j : Nat) (hj : j < l.length) : UnAt w b (off + j * 12) (l.getD j Ux.zero) := by
  refine UnAt.of fun t ht => ?_
  have hg := cellsU_get l j t hj ht
  have hlt : t < (l.getD j Ux.zero).cells.length := ht
  rw [List.getElem?_eq_getElem hlt] at hg ⊢
  have := h.cell ha (j * 12 + t) _ hg
  rwa [Addr.add_lit, ← Nat.add_assoc] at this

theorem Ud.us {w0 w : World} {s : Sl} {l : List Ux} (h : Ud w0 w s l) : Us w s.a s.len l := by
  refine ⟨h.len, fun j hj => ?_, fun x hx => (h.cols x hx).fs, h.fits⟩
  rcases h.own.2 with ⟨h0, _⟩ | ⟨g, off, cur, ha, _⟩
  · rw [h0] at hj; exact absurd hj (Nat.not_lt_zero _)
  · exact ⟨g, off, ha, h.own.unAt ha j (by rw [h.len]; exact hj)⟩

theorem Ud.new0 (w0 w : World) (hb : Below w0.heap.size w0 w) : Ud w0 (w.alloc (.cells #[] 30)) ⟨some ⟨w.heap.size, 0, none⟩, 0, 0⟩ [] := by
  refine ⟨⟨rfl, .inr ⟨w.heap.size, 0, _, rfl, heap_alloc_new w _, by simp, Nat.le_refl _, by simp, rfl⟩⟩, fun k hk => ?_, rBelow hb (below_alloc w _), (fun x hx => by cases hx), fun x hx => by cases hx⟩
  have e : some w.heap.size = some k := hk
  cases e
  exact hb.size

theorem src_un (w : World) (x : Ux) : Src Try.prog 12 22 (.slice (some ⟨w.heap.size, 0, none⟩) 1 1) 1 (cellsU [x]) (w.alloc (.cells #[.int .i64 x.u.tx, .int .i64 x.u.no, .int .i64 x.u.prev, .int .i64 x.u.kind, .int .i64 x.u.page, .int .i64 x.u.slot, .float .f64 x.u.row.key, .bool x.u.row.dead, .slice x.a x.n x.c, .int .i64 x.u.row.wr, .int .i64 x.u.row.cell, .int .i64 x.u.row.no] 30)) := by
  refine Src.ofSlice _ Try.underlying22 ⟨w.heap.size, 0, none⟩ 1 1 (cellsU [x]) rfl (fun j u hj => ?_) (cellsU_one _)
  have hb : (w.alloc (.cells #[.int .i64 x.u.tx, .int .i64 x.u.no, .int .i64 x.u.prev, .int .i64 x.u.kind, .int .i64 x.u.page, .int .i64 x.u.slot, .float .f64 x.u.row.key, .bool x.u.row.dead, .slice x.a x.n x.c, .int .i64 x.u.row.wr, .int .i64 x.u.row.cell, .int .i64 x.u.row.no] 30)).heap[w.heap.size]? = some (.cells #[.int .i64 x.u.tx, .int .i64 x.u.no, .int .i64 x.u.prev, .int .i64 x.u.kind, .int .i64 x.u.page, .int .i64 x.u.slot, .float .f64 x.u.row.key, .bool x.u.row.dead, .slice x.a x.n x.c, .int .i64 x.u.row.wr, .int .i64 x.u.row.cell, .int .i64 x.u.row.no] 30) := heap_alloc_new w _
  rw [Addr.add_lit, cell_of_row _ _ _ _ _ _ hb]
  simpa [cellsU, Ux.cells] using hj

/-- append(l, u): the literal is laid first. -/
theorem Ud.one {w0 w : World} {s : Sl} {l : List Ux} (h : Ud w0 w s l) (x : Ux) (hx : Col w0 w x) (hf : x.u.fits) (hl : l.length + 1 ≤ 1000000) :
    ∃ s' W, (∀ ty, (Builtin.append_ #[22, 22] ty #[s.val, .slice (some ⟨w.heap.size, 0, none⟩) 1 1]).run Try.prog (w.alloc (.cells #[.int .i64 x.u.tx, .int .i64 x.u.no, .int .i64 x.u.prev, .int .i64 x.u.kind, .int .i64 x.u.page, .int .i64 x.u.slot, .float .f64 x.u.row.key, .bool x.u.row.dead, .slice x.a x.n x.c, .int .i64 x.u.row.wr, .int .i64 x.u.row.cell, .int .i64 x.u.row.no] 30)) = .ok s'.val W) ∧ Ud w0 W s' (l ++ [x]) := by
  have hB := below_alloc w (.cells #[.int .i64 x.u.tx, .int .i64 x.u.no, .int .i64 x.u.prev, .int .i64 x.u.kind, .int .i64 x.u.page, .int .i64 x.u.slot, .float .f64 x.u.row.key, .bool x.u.row.dead, .slice x.a x.n x.c, .int .i64 x.u.row.wr, .int .i64 x.u.row.cell, .int .i64 x.u.row.no] 30)
  have hk := h.keep hB
  obtain ⟨s', W, hrun, ho, hlen, hfr, hbk⟩ := own_append Try.underlying22 infoUn rfl (by decide) _ s (cellsU l) hk.own (cellsU_one l) _ 1 (cellsU [x]) (src_un w x) (by rw [← h.len]; exact hl) 0
  have hcol : ∀ y, Col w0 (w.alloc (.cells #[.int .i64 x.u.tx, .int .i64 x.u.no, .int .i64 x.u.prev, .int .i64 x.u.kind, .int .i64 x.u.page, .int .i64 x.u.slot, .float .f64 x.u.row.key, .bool x.u.row.dead, .slice x.a x.n x.c, .int .i64 x.u.row.wr, .int .i64 x.u.row.cell, .int .i64 x.u.row.no] 30)) y → Col w0 W y := by
    intro y hy
    have hsame : ∀ b off, y.a = some ⟨b, off, none⟩ → 0 < y.n → W.heap[b]? = (w.alloc (.cells #[.int .i64 x.u.tx, .int .i64 x.u.no, .int .i64 x.u.prev, .int .i64 x.u.kind, .int .i64 x.u.page, .int .i64 x.u.slot, .float .f64 x.u.row.key, .bool x.u.row.dead, .slice x.a x.n x.c, .int .i64 x.u.row.wr, .int .i64 x.u.row.cell, .int .i64 x.u.row.no] 30)).heap[b]? := by
      intro b off ha hn
      obtain ⟨b', off', ha', hc, _, _⟩ := hy.fs.at 0 hn
      rw [ha'] at ha
      cases ha
      refine hfr.block b (World.block_lt_of_cell? _ _ hc) ?_
      intro e
      rcases hy.home b off ha' hn with k | ⟨C, fr, k⟩
      · have := h.new b e
        omega
      · obtain ⟨cur, hcur⟩ := hk.own.kind e
        rw [k] at hcur
        simp only [Option.some.injEq, Obj.cells.injEq] at hcur
        exact absurd hcur.2.1 (by decide)
    refine ⟨hy.fs.same hsame, fun b off ha hn => ?_⟩
    rcases hy.home b off ha hn with k | ⟨C, fr, k⟩
    · exact .inl k
    · exact .inr ⟨C, fr, (hsame b off ha hn).trans k⟩
  refine ⟨s', W, fun ty => hrun, ⟨by rw [cellsU_append]; exact ho, fun k e => ?_, ?_, fun y hy => ?_, fun y hy => ?_⟩⟩
  · rcases hbk with e' | ⟨e', _⟩
    · exact h.new k (by rw [← e']; exact e)
    · rw [e'] at e
      cases e
      exact hk.below.size
  · exact hk.below.trans (hfr.below hk.below.size (fun k e => h.new k e))
  · rcases List.mem_append.1 hy with hy | hy
    · exact hcol y (hk.cols y hy)
    · rw [List.mem_singleton.1 hy]
      exact hcol x (hx.keep hB)
  · rcases List.mem_append.1 hy with hy | hy
    · exact h.fits y hy
    · rw [List.mem_singleton.1 hy]
      exact hf

theorem made_six : madeCells (Value.agg #[.int .i64 0, .int .i64 0, .int .i64 0, .int .i64 0, .int .i64 0, .int .i64 0, .float .f64 0, .bool false, .slice none 0 0, .int .i64 0, .int .i64 0, .int .i64 0]).cells (6 * 12) = (cellsU (List.replicate 6 Ux.zero)).toArray := by kernel_rfl

/-- make([]api.Undo, 6). -/
theorem make_six (w : World) : (Instr.makeSlice 22 (.int .i64 6) (.int .i64 6)).run Try.prog w = .ok (.slice (some ⟨w.heap.size, 0, none⟩) 6 6) (w.alloc (.cells (cellsU (List.replicate 6 Ux.zero)).toArray 30)) := by
  obtain ⟨i0, hi, hz0, hz1, hz2⟩ := info_parts infoUn
  have h := run_makeSlice (P := Try.prog) w 22 30 i0 (.agg #[.int .i64 0, .int .i64 0, .int .i64 0, .int .i64 0, .int .i64 0, .int .i64 0, .float .f64 0, .bool false, .slice none 0 0, .int .i64 0, .int .i64 0, .int .i64 0]) Try.underlying22 hi hz0 .i64 .i64 6 6 (by omega) (by omega) (by rw [hz1]; decide) (by rw [hz2]; decide) (by omega)
  rw [hz1, show (6 : Int).toNat = 6 from rfl, made_six] at h
  exact h

theorem Ud.six (w0 w : World) (hb : Below w0.heap.size w0 w) : Ud w0 (w.alloc (.cells (cellsU (List.replicate 6 Ux.zero)).toArray 30)) ⟨some ⟨w.heap.size, 0, none⟩, 6, 6⟩ (List.replicate 6 Ux.zero) := by
  refine ⟨⟨rfl, .inr ⟨w.heap.size, 0, _, rfl, heap_alloc_new w _, (by show 0 + 6 * 12 ≤ (cellsU (List.replicate 6 Ux.zero)).toArray.size; decide), Nat.le_refl _, (by show (6 : Nat) ≤ maxLen; unfold maxLen; decide), rfl⟩⟩, fun k hk => ?_, rBelow hb (below_alloc w _), (fun x hx => ?_), fun x hx => ?_⟩
  · have e : some w.heap.size = some k := hk
    cases e
    exact hb.size
  · rw [(List.mem_replicate.1 hx).2]; exact Col.zero _ _
  · rw [(List.mem_replicate.1 hx).2]; exact zeroU_fits

end Go.Proofs.Ytpdkeghmpnanpaa
