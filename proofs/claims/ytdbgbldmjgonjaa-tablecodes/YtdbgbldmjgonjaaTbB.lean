/-
  Entries and tables in memory: rows of entries, read and of one's own; boxes with an entry and with a table; stores told without their words.
-/
import Derived.Test.YtdbgbldmjgonjaaTbA
import Derived.Test.YtdbgbldmjgonjaaSlB
import Derived.Test.YtdbgbldmjgonjaaPlanF
import Derived.Laws.MakeOwn
import Derived.Laws.StructEq
namespace Go.Proofs.Ytdbgbldmjgonjaa
open Go.RowKit

def En.val (e : En) : Value := .agg #[.int .i64 e.tx, .int .i64 e.st, .int .i64 e.last, .int .i64 e.com]
def En.cells (e : En) : List Value := [.int .i64 e.tx, .int .i64 e.st, .int .i64 e.last, .int .i64 e.com]
def cellsE (l : List En) : List Value := l.flatMap En.cells
/-- A table, as a value. -/
def Tb.val (t : Tb) (v : Sl) : Value := .agg #[.int .i64 t.nx, .int .i64 t.no, .int .i64 t.cm, .slice v.a v.len v.cap]

theorem cellsE_cons (e : En) (l : List En) : cellsE (e :: l) = e.cells ++ cellsE l := rfl
theorem cellsE_len : ∀ l : List En, (cellsE l).length = l.length * 4
  | [] => rfl
  | e :: l => by
    rw [cellsE_cons, List.length_append, cellsE_len l, List.length_cons]
    have : e.cells.length = 4 := rfl
    omega
theorem cellsE_append (l m : List En) : cellsE (l ++ m) = cellsE l ++ cellsE m := by simp [cellsE]
theorem cellsE_one (l : List En) : ∀ u ∈ cellsE l, u.oneCell' = true := by
  intro u hu
  obtain ⟨x, _, hx⟩ := List.mem_flatMap.1 hu
  simp only [En.cells, List.mem_cons, List.not_mem_nil, or_false] at hx
  rcases hx with rfl | rfl | rfl | rfl <;> rfl
theorem cellsE_get : ∀ (l : List En) (j t : Nat), j < l.length → t < 4 → (cellsE l)[j * 4 + t]? = (l.getD j En.zero).cells[t]?
  | [], j, t, hj, _ => by simp at hj
  | e :: l, 0, t, _, ht => by
    have hl : e.cells.length = 4 := rfl
    rw [cellsE_cons, Nat.zero_mul, Nat.zero_add, List.getElem?_append_left (by omega)]
    rfl
  | e :: l, j + 1, t, hj, ht => by
    have hl : e.cells.length = 4 := rfl
    rw [cellsE_cons, List.getElem?_append_right (by omega), hl, show (j + 1) * 4 + t - 4 = j * 4 + t by omega]
    exact cellsE_get l j t (by simpa using hj) ht
theorem cellsE_set : ∀ (l : List En) (i : Nat) (x : En), cellsE (l.set i x) = ((((cellsE l).set (i * 4) (.int .i64 x.tx)).set (i * 4 + 1) (.int .i64 x.st)).set (i * 4 + 2) (.int .i64 x.last)).set (i * 4 + 3) (.int .i64 x.com)
  | [], _, _ => rfl
  | y :: r, 0, x => rfl
  | y :: r, i + 1, x => by
    have ih := cellsE_set r i x
    show y.cells ++ cellsE (r.set i x) = ((((y.cells ++ cellsE r).set ((i + 1) * 4) _).set ((i + 1) * 4 + 1) _).set ((i + 1) * 4 + 2) _).set ((i + 1) * 4 + 3) _
    rw [ih, show (i + 1) * 4 = i * 4 + 4 by omega]
    rfl

/-- The four cells of an entry, wherever they lie. -/
structure EnAt (w : World) (b o : Nat) (e : En) : Prop where
  c0 : w.cell? ⟨b, o, none⟩ = some (.int .i64 e.tx)
  c1 : w.cell? ⟨b, o + 1, none⟩ = some (.int .i64 e.st)
  c2 : w.cell? ⟨b, o + 2, none⟩ = some (.int .i64 e.last)
  c3 : w.cell? ⟨b, o + 3, none⟩ = some (.int .i64 e.com)

theorem EnAt.keep {w w' : World} {B b o : Nat} {e : En} (h : EnAt w b o e) (hb : Below B w w') (hB : w.heap.size ≤ B) : EnAt w' b o e := by
  have k : ∀ {p : Addr} {v : Value}, w.cell? p = some v → w'.cell? p = some v := fun {p v} hc => (hb.cell (Nat.lt_of_lt_of_le (World.block_lt_of_cell? w _ hc) hB)).trans hc
  exact ⟨k h.c0, k h.c1, k h.c2, k h.c3⟩
theorem EnAt.of {w : World} {b o : Nat} {e : En} (h : ∀ t, t < 4 → w.cell? ⟨b, o + t, none⟩ = e.cells[t]?) : EnAt w b o e :=
  ⟨h 0 (by decide), h 1 (by decide), h 2 (by decide), h 3 (by decide)⟩

theorem load_en (b o : Nat) (e : En) (w : World) (h : EnAt w b o e) : (Instr.loadAt 58 (.pointer (some ⟨b, o, none⟩))).run Try.prog w = .ok e.val w := by
  have c0 := h.c0
  have c1 := h.c1
  have c2 := h.c2
  have c3 := h.c3
  simp [go_sem, c0, c1, c2, c3, En.val]

theorem ixEn (b o len cap k : Nat) (hk : k < len) (w : World) : (Instr.indexAt 22 (.slice (some ⟨b, o, none⟩) len cap) (.int .i64 (k : Nat))).run Try.prog w = .ok (.pointer (some ⟨b, o + k * 4, none⟩)) w := by
  have h22 : Try.prog.underlying 22 = some (.slice (Try.prog.elem 22)) := by kernel_rfl
  have h1 : (0 : Int) ≤ (k : Int) := by omega
  simp [go_sem, Instr.indexAt, run_underlying h22, h1, Addr.add_lit]
  omega

/-- The entries l lie behind a slice. -/
structure Es (w : World) (v : Sl) (l : List En) : Prop where
  len : l.length = v.len
  nil : v.a = none → v.cap = 0
  le : v.len ≤ v.cap
  big : v.len ≤ 9223372036854775807
  at' : ∀ j, j < v.len → ∃ b off, v.a = some ⟨b, off, none⟩ ∧ EnAt w b (off + j * 4) (l.getD j En.zero)

theorem Es.keep {w w' : World} {B : Nat} {v : Sl} {l : List En} (h : Es w v l) (hb : Below B w w') (hB : w.heap.size ≤ B) : Es w' v l := by
  refine ⟨h.len, h.nil, h.le, h.big, fun j hj => ?_⟩
  obtain ⟨b, off, ha, hu⟩ := h.at' j hj
  exact ⟨b, off, ha, hu.keep hb hB⟩
theorem Es.none (w : World) : Es w Sl.nil [] := ⟨rfl, fun _ => rfl, Nat.le_refl _, by decide, fun _ h => absurd h (Nat.not_lt_zero _)⟩

theorem infoEn : (Try.prog.info? 58).map (fun i => (i.zero, i.size, i.bytes)) = some (some (.agg #[.int .i64 0, .int .i64 0, .int .i64 0, .int .i64 0]), 4, 32) := by kernel_rfl

/-- A row of entries of one's own. -/
def OwnE (w : World) (v : Sl) (l : List En) : Prop := Own 58 4 w v (cellsE l)
theorem OwnE.len {w : World} {v : Sl} {l : List En} (h : OwnE w v l) : l.length = v.len := by
  have := h.1
  rw [cellsE_len] at this
  omega
theorem OwnE.enAt {w : World} {v : Sl} {l : List En} (h : OwnE w v l) {g off : Nat} (ha : v.a = some ⟨g, off, none⟩) (i : Nat) (hi : i < l.length) : EnAt w g (off + i * 4) (l.getD i En.zero) := by
  refine EnAt.of (fun t ht => ?_)
  have hg := cellsE_get l i t hi ht
  have hlt : t < (l.getD i En.zero).cells.length := ht
  obtain ⟨u, hu⟩ : ∃ u, (l.getD i En.zero).cells[t]? = some u := ⟨_, List.getElem?_eq_getElem hlt⟩
  rw [hu] at hg
  have := Own.cell h ha (i * 4 + t) u hg
  rw [Addr.add_lit, ← Nat.add_assoc] at this
  rw [this, hu]
theorem OwnE.es {w : World} {v : Sl} {l : List En} (h : OwnE w v l) : Es w v l := by
  have hl := h.len
  refine ⟨hl, Own.nilcap h, Own.lecap h, by have h1 := Own.capmax h; have h2 := Own.lecap h; unfold maxLen at h1; omega, fun j hj => ?_⟩
  rcases h.2 with ⟨h0, _⟩ | ⟨g, off, cur, ha, _⟩
  · rw [h0] at hj; exact absurd hj (Nat.not_lt_zero _)
  · exact ⟨g, off, ha, h.enAt ha j (by omega)⟩
theorem OwnE.new (w : World) : OwnE (w.alloc (.cells #[] 58)) ⟨some ⟨w.heap.size, 0, none⟩, 0, 0⟩ [] :=
  ⟨rfl, .inr ⟨w.heap.size, 0, _, rfl, heap_alloc_new w _, by simp, Nat.le_refl _, by simp, rfl⟩⟩
theorem OwnE.keep {w w' : World} {v : Sl} {l : List En} (h : OwnE w v l) (hb : Below w.heap.size w w') : OwnE w' v l := Own.frame h (fun k hk => hb.block k (Own.lt h hk))
theorem OwnE.other {w w' : World} {F : Nat → Prop} {v : Sl} {l : List En} (h : OwnE w v l) (hf : Frm F w w') (hn : ∀ k, v.blk = some k → ¬ F k) : OwnE w' v l := Own.frame h (fun k hk => hf.block k (Own.lt h hk) (hn k hk))

/-- What entries yield to an append. -/
theorem Es.src {w : World} {v : Sl} {l : List En} (h : Es w v l) : Src Try.prog 4 22 (.slice v.a v.len v.cap) v.len (cellsE l) w := by
  obtain ⟨a, len, cap⟩ := v
  have hl : l.length = len := h.len
  cases a with
  | none =>
    have hc : cap = 0 := h.nil rfl
    have h0 : len = 0 := by have : len ≤ cap := h.le; omega
    subst hc; subst h0
    have : l = [] := List.eq_nil_of_length_eq_zero hl
    subst this
    exact Src.ofNil w Try.underlying22 0
  | some ad =>
    refine Src.ofSlice w Try.underlying22 ad len cap (cellsE l) (by rw [cellsE_len, hl]) (fun j u hj => ?_) (cellsE_one l)
    have hjl : j < (cellsE l).length := (List.getElem?_eq_some_iff.1 hj).1
    rw [cellsE_len, hl] at hjl
    have hq : j / 4 < len := by omega
    obtain ⟨b, off, e, hat⟩ := h.at' (j / 4) hq
    obtain rfl := Option.some.inj e
    have hm : j % 4 < 4 := Nat.mod_lt _ (by decide)
    have hg := cellsE_get l (j / 4) (j % 4) (by rw [hl]; exact hq) hm
    rw [show j / 4 * 4 + j % 4 = j by omega] at hg
    rw [hj] at hg
    rw [Addr.add_lit, show off + j = off + j / 4 * 4 + j % 4 by omega]
    generalize j % 4 = r at *
    have h4 : r = 0 ∨ r = 1 ∨ r = 2 ∨ r = 3 := by omega
    rcases h4 with rfl | rfl | rfl | rfl
    · rw [Nat.add_zero, hat.c0]; exact hg.symm
    · rw [hat.c1]; exact hg.symm
    · rw [hat.c2]; exact hg.symm
    · rw [hat.c3]; exact hg.symm

theorem Own.setC4 {e : TypeId} {z : Nat} {w : World} {s : Sl} {vs : List Value} (h : Own e z w s vs) {g off : Nat} (ha : s.a = some ⟨g, off, none⟩) (j : Nat) (u : Value) : Own e z (w.setCell ⟨g, off + j, none⟩ u) s (vs.set j u) := by
  refine ⟨by rw [List.length_set]; exact h.1, ?_⟩
  rcases h.2 with ⟨h0, _⟩ | ⟨g', off', cur, ha', hg, hoc, hlc, hcm, ht⟩
  · rw [h0] at ha; cases ha
  · rw [ha] at ha'
    simp only [Option.some.injEq, Addr.mk.injEq, and_true] at ha'
    obtain ⟨rfl, rfl⟩ := ha'
    refine .inr ⟨g, off, _, ha, heap_setCell_same w g (off + j) cur e u hg, by simpa using hoc, hlc, hcm, ?_⟩
    rw [Array.toList_setIfInBounds, List.drop_set, if_neg (by omega), Nat.add_sub_cancel_left, List.take_set, ht]

/-- An entry laid over an entry. -/
def setEn (w : World) (g o : Nat) (x : En) : World := (((w.setCell ⟨g, o, none⟩ (.int .i64 x.tx)).setCell ⟨g, o + 1, none⟩ (.int .i64 x.st)).setCell ⟨g, o + 2, none⟩ (.int .i64 x.last)).setCell ⟨g, o + 3, none⟩ (.int .i64 x.com)
theorem setEn_frm (w : World) (g o : Nat) (x : En) : Frm (fun k => k = g) w (setEn w g o x) :=
  ((((Frm.refl (fun k => k = g) w).setCell (p := ⟨g, o, none⟩) rfl _).setCell (p := ⟨g, o + 1, none⟩) rfl _).setCell (p := ⟨g, o + 2, none⟩) rfl _).setCell (p := ⟨g, o + 3, none⟩) rfl _
theorem setEn_size (w : World) (g o : Nat) (x : En) : (setEn w g o x).heap.size = w.heap.size := by simp only [setEn, setCell_size]

/-- l[i] = x, told without its words. -/
theorem OwnE.set {w : World} {v : Sl} {l : List En} (h : OwnE w v l) {g off : Nat} (ha : v.a = some ⟨g, off, none⟩) (i : Nat) (hi : i < l.length) (x : En) :
    ∃ W, (Instr.storeAt 58 (.pointer (some ⟨g, off + i * 4, none⟩)) x.val).run Try.prog w = .ok () W ∧ OwnE W v (l.set i x) ∧ Frm (fun k => k = g) w W ∧ W.heap.size = w.heap.size := by
  have hat := h.enAt ha i hi
  have c0 := hat.c0
  have c1 := hat.c1
  have c2 := hat.c2
  have c3 := hat.c3
  have f0 : ∀ p, w.frozen? ⟨g, p, none⟩ = false := fun p => by
    obtain ⟨cur, hc⟩ := Own.kind h (k := g) (by rw [Sl.blk, ha]; rfl)
    exact frozen_of_row w g _ cur 58 hc
  refine ⟨setEn w g (off + i * 4) x, by simp [go_sem, Instr.storeAt, stored, c0, c1, c2, c3, f0, En.val, setEn], ?_, setEn_frm _ _ _ _, setEn_size _ _ _ _⟩
  unfold OwnE setEn
  rw [cellsE_set]
  have h0 := Own.setC4 h ha (i * 4) (.int .i64 x.tx)
  have h1 := h0.setC4 ha (i * 4 + 1) (.int .i64 x.st)
  have h2 := h1.setC4 ha (i * 4 + 2) (.int .i64 x.last)
  have h3 := h2.setC4 ha (i * 4 + 3) (.int .i64 x.com)
  simp only [← Nat.add_assoc] at h3
  exact h3

/-- append onto a row of one's own. -/
theorem OwnE.app {w : World} {v : Sl} {l : List En} (h : OwnE w v l) {u : Sl} {m : List En} (hm : Es w u m) (hl : v.len + u.len ≤ 1000000) :
    ∃ s' W, (∀ ty, (Builtin.append_ #[22, 22] ty #[.slice v.a v.len v.cap, .slice u.a u.len u.cap]).run Try.prog w = .ok (.slice s'.a s'.len s'.cap) W) ∧ OwnE W s' (l ++ m) ∧ s'.len = v.len + u.len ∧ Frm (fun k => v.blk = some k) w W ∧ (s'.blk = v.blk ∨ (s'.blk = some w.heap.size ∧ w.heap.size < W.heap.size)) := by
  obtain ⟨s', W, hrun, ho, hlen, hfr, hbk⟩ := own_append Try.underlying22 infoEn rfl (by decide) w v (cellsE l) h (cellsE_one l) _ u.len (cellsE m) hm.src hl 0
  exact ⟨s', W, fun ty => hrun, by unfold OwnE; rw [cellsE_append]; exact ho, hlen, hfr, hbk⟩

/-- A box with an entry. -/
def EnBlk (w : World) (p : Nat) (e : En) : Prop := w.heap[p]? = some (Obj.cells #[.int .i64 e.tx, .int .i64 e.st, .int .i64 e.last, .int .i64 e.com] 58 (0, 0))
theorem EnBlk.lt {w : World} {p : Nat} {e : En} (h : EnBlk w p e) : p < w.heap.size := (Array.getElem?_eq_some_iff.1 h).1
theorem EnBlk.new (w : World) (e : En) : EnBlk (w.alloc (.cells #[.int .i64 e.tx, .int .i64 e.st, .int .i64 e.last, .int .i64 e.com] 58)) w.heap.size e := heap_alloc_new w _
theorem EnBlk.keep {w w' : World} {p : Nat} {e : En} (h : EnBlk w p e) (hb : Below w.heap.size w w') : EnBlk w' p e := (hb.block p h.lt).trans h
theorem EnBlk.at {w : World} {p : Nat} {e : En} (h : EnBlk w p e) : EnAt w p 0 e := by
  refine EnAt.of (fun t _ => ?_)
  rw [cell_of_row _ _ _ _ _ _ h, Nat.zero_add]
  simp [En.cells]
theorem EnBlk.fz {w : World} {p : Nat} {e : En} (h : EnBlk w p e) (o : Nat) : w.frozen? ⟨p, o, none⟩ = false := frozen_of_row w p _ _ _ h

/-- A box with a table. -/
def TbBlk (w : World) (p : Nat) (t : Tb) (v : Sl) : Prop := w.heap[p]? = some (Obj.cells #[.int .i64 t.nx, .int .i64 t.no, .int .i64 t.cm, .slice v.a v.len v.cap] 24 (0, 0))
theorem TbBlk.lt {w : World} {p : Nat} {t : Tb} {v : Sl} (h : TbBlk w p t v) : p < w.heap.size := (Array.getElem?_eq_some_iff.1 h).1
theorem TbBlk.new (w : World) (t : Tb) (v : Sl) : TbBlk (w.alloc (.cells #[.int .i64 t.nx, .int .i64 t.no, .int .i64 t.cm, .slice v.a v.len v.cap] 24)) w.heap.size t v := heap_alloc_new w _
theorem TbBlk.keep {w w' : World} {p : Nat} {t : Tb} {v : Sl} (h : TbBlk w p t v) (hb : Below w.heap.size w w') : TbBlk w' p t v := (hb.block p h.lt).trans h
theorem TbBlk.other {w w' : World} {F : Nat → Prop} {p : Nat} {t : Tb} {v : Sl} (h : TbBlk w p t v) (hf : Frm F w w') (hn : ¬ F p) : TbBlk w' p t v := (hf.block p h.lt hn).trans h
theorem TbBlk.c0 {w : World} {p : Nat} {t : Tb} {v : Sl} (h : TbBlk w p t v) : w.cell? ⟨p, 0, none⟩ = some (.int .i64 t.nx) := by unfold TbBlk at h; simp [World.cell?, h]
theorem TbBlk.c1 {w : World} {p : Nat} {t : Tb} {v : Sl} (h : TbBlk w p t v) : w.cell? ⟨p, 1, none⟩ = some (.int .i64 t.no) := by unfold TbBlk at h; simp [World.cell?, h]
theorem TbBlk.c2 {w : World} {p : Nat} {t : Tb} {v : Sl} (h : TbBlk w p t v) : w.cell? ⟨p, 2, none⟩ = some (.int .i64 t.cm) := by unfold TbBlk at h; simp [World.cell?, h]
theorem TbBlk.c3 {w : World} {p : Nat} {t : Tb} {v : Sl} (h : TbBlk w p t v) : w.cell? ⟨p, 3, none⟩ = some (.slice v.a v.len v.cap) := by unfold TbBlk at h; simp [World.cell?, h]
theorem TbBlk.fz {w : World} {p : Nat} {t : Tb} {v : Sl} (h : TbBlk w p t v) (o : Nat) : w.frozen? ⟨p, o, none⟩ = false := frozen_of_row w p _ _ _ h

theorem load_tb (b : Nat) (t : Tb) (v : Sl) (w : World) (h : TbBlk w b t v) : (Instr.loadAt 24 (.pointer (some ⟨b, 0, none⟩))).run Try.prog w = .ok (t.val v) w := by
  have c0 := h.c0
  have c1 := h.c1
  have c2 := h.c2
  have c3 := h.c3
  simp [go_sem, c0, c1, c2, c3, Tb.val]

def setTb (w : World) (p : Nat) (t : Tb) (v : Sl) : World := (((w.setCell ⟨p, 0, none⟩ (.int .i64 t.nx)).setCell ⟨p, 1, none⟩ (.int .i64 t.no)).setCell ⟨p, 2, none⟩ (.int .i64 t.cm)).setCell ⟨p, 3, none⟩ (.slice v.a v.len v.cap)

/-- A table laid into its box, told without its words. -/
theorem TbBlk.store {w : World} {p : Nat} {t0 : Tb} {v0 : Sl} (h : TbBlk w p t0 v0) (t : Tb) (v : Sl) : ∃ W, (Instr.storeAt 24 (.pointer (some ⟨p, 0, none⟩)) (t.val v)).run Try.prog w = .ok () W ∧ TbBlk W p t v ∧ Frm (fun k => k = p) w W ∧ W.heap.size = w.heap.size := by
  have c0 := h.c0
  have c1 := h.c1
  have c2 := h.c2
  have c3 := h.c3
  have f0 := h.fz
  refine ⟨setTb w p t v, by simp [go_sem, Instr.storeAt, stored, c0, c1, c2, c3, f0, Tb.val, setTb], ?_, ((((Frm.refl (fun k => k = p) w).setCell (p := ⟨p, 0, none⟩) rfl _).setCell (p := ⟨p, 1, none⟩) rfl _).setCell (p := ⟨p, 2, none⟩) rfl _).setCell (p := ⟨p, 3, none⟩) rfl _, by simp only [setTb, setCell_size]⟩
  have s0 := heap_setCell_same w p 0 _ 24 (.int .i64 t.nx) h
  have s1 := heap_setCell_same _ p 1 _ 24 (.int .i64 t.no) s0
  have s2 := heap_setCell_same _ p 2 _ 24 (.int .i64 t.cm) s1
  have s3 := heap_setCell_same _ p 3 _ 24 (.slice v.a v.len v.cap) s2
  exact s3

theorem TbBlk.st0 {w : World} {p : Nat} {t : Tb} {v : Sl} (h : TbBlk w p t v) (x : Int) : ∃ W, (Instr.storeAt 3 (.pointer (some ⟨p, 0, none⟩)) (.int .i64 x)).run Try.prog w = .ok () W ∧ TbBlk W p { t with nx := x } v ∧ Frm (fun k => k = p) w W ∧ W.heap.size = w.heap.size := by
  have c0 := h.c0
  have f0 := h.fz 0
  refine ⟨w.setCell ⟨p, 0, none⟩ (.int .i64 x), by simp [go_sem, Instr.storeAt, stored, c0, f0], heap_setCell_same w p 0 _ 24 (.int .i64 x) h, (Frm.refl (fun k => k = p) w).setCell (p := ⟨p, 0, none⟩) rfl _, setCell_size _ _ _⟩
theorem TbBlk.st1 {w : World} {p : Nat} {t : Tb} {v : Sl} (h : TbBlk w p t v) (x : Int) : ∃ W, (Instr.storeAt 3 (.pointer (some ⟨p, 1, none⟩)) (.int .i64 x)).run Try.prog w = .ok () W ∧ TbBlk W p { t with no := x } v ∧ Frm (fun k => k = p) w W ∧ W.heap.size = w.heap.size := by
  have c0 := h.c1
  have f0 := h.fz 1
  refine ⟨w.setCell ⟨p, 1, none⟩ (.int .i64 x), by simp [go_sem, Instr.storeAt, stored, c0, f0], heap_setCell_same w p 1 _ 24 (.int .i64 x) h, (Frm.refl (fun k => k = p) w).setCell (p := ⟨p, 1, none⟩) rfl _, setCell_size _ _ _⟩
theorem TbBlk.st2 {w : World} {p : Nat} {t : Tb} {v : Sl} (h : TbBlk w p t v) (x : Int) : ∃ W, (Instr.storeAt 3 (.pointer (some ⟨p, 2, none⟩)) (.int .i64 x)).run Try.prog w = .ok () W ∧ TbBlk W p { t with cm := x } v ∧ Frm (fun k => k = p) w W ∧ W.heap.size = w.heap.size := by
  have c0 := h.c2
  have f0 := h.fz 2
  refine ⟨w.setCell ⟨p, 2, none⟩ (.int .i64 x), by simp [go_sem, Instr.storeAt, stored, c0, f0], heap_setCell_same w p 2 _ 24 (.int .i64 x) h, (Frm.refl (fun k => k = p) w).setCell (p := ⟨p, 2, none⟩) rfl _, setCell_size _ _ _⟩
theorem TbBlk.st3 {w : World} {p : Nat} {t : Tb} {v : Sl} (h : TbBlk w p t v) (u : Sl) (m : List En) : ∃ W, (Instr.storeAt 22 (.pointer (some ⟨p, 3, none⟩)) (.slice u.a u.len u.cap)).run Try.prog w = .ok () W ∧ TbBlk W p { t with es := m } u ∧ Frm (fun k => k = p) w W ∧ W.heap.size = w.heap.size := by
  have c0 := h.c3
  have f0 := h.fz 3
  refine ⟨w.setCell ⟨p, 3, none⟩ (.slice u.a u.len u.cap), by simp [go_sem, Instr.storeAt, stored, c0, f0], heap_setCell_same w p 3 _ 24 (.slice u.a u.len u.cap) h, (Frm.refl (fun k => k = p) w).setCell (p := ⟨p, 3, none⟩) rfl _, setCell_size _ _ _⟩

theorem EnBlk.st0 {w : World} {p : Nat} {e : En} (h : EnBlk w p e) (x : Int) : ∃ W, (Instr.storeAt 3 (.pointer (some ⟨p, 0, none⟩)) (.int .i64 x)).run Try.prog w = .ok () W ∧ EnBlk W p { e with tx := x } ∧ Frm (fun k => k = p) w W ∧ W.heap.size = w.heap.size := by
  have c0 : w.cell? ⟨p, 0, none⟩ = some (.int .i64 e.tx) := by have := h.at.c0; simpa using this
  have f0 := h.fz 0
  refine ⟨w.setCell ⟨p, 0, none⟩ (.int .i64 x), by simp [go_sem, Instr.storeAt, stored, c0, f0], heap_setCell_same w p 0 _ 58 (.int .i64 x) h, (Frm.refl (fun k => k = p) w).setCell (p := ⟨p, 0, none⟩) rfl _, setCell_size _ _ _⟩
theorem EnBlk.st1 {w : World} {p : Nat} {e : En} (h : EnBlk w p e) (x : Int) : ∃ W, (Instr.storeAt 3 (.pointer (some ⟨p, 1, none⟩)) (.int .i64 x)).run Try.prog w = .ok () W ∧ EnBlk W p { e with st := x } ∧ Frm (fun k => k = p) w W ∧ W.heap.size = w.heap.size := by
  have c0 : w.cell? ⟨p, 1, none⟩ = some (.int .i64 e.st) := by have := h.at.c1; simpa using this
  have f0 := h.fz 1
  refine ⟨w.setCell ⟨p, 1, none⟩ (.int .i64 x), by simp [go_sem, Instr.storeAt, stored, c0, f0], heap_setCell_same w p 1 _ 58 (.int .i64 x) h, (Frm.refl (fun k => k = p) w).setCell (p := ⟨p, 1, none⟩) rfl _, setCell_size _ _ _⟩
theorem EnBlk.st2 {w : World} {p : Nat} {e : En} (h : EnBlk w p e) (x : Int) : ∃ W, (Instr.storeAt 3 (.pointer (some ⟨p, 2, none⟩)) (.int .i64 x)).run Try.prog w = .ok () W ∧ EnBlk W p { e with last := x } ∧ Frm (fun k => k = p) w W ∧ W.heap.size = w.heap.size := by
  have c0 : w.cell? ⟨p, 2, none⟩ = some (.int .i64 e.last) := by have := h.at.c2; simpa using this
  have f0 := h.fz 2
  refine ⟨w.setCell ⟨p, 2, none⟩ (.int .i64 x), by simp [go_sem, Instr.storeAt, stored, c0, f0], heap_setCell_same w p 2 _ 58 (.int .i64 x) h, (Frm.refl (fun k => k = p) w).setCell (p := ⟨p, 2, none⟩) rfl _, setCell_size _ _ _⟩
theorem EnBlk.st3 {w : World} {p : Nat} {e : En} (h : EnBlk w p e) (x : Int) : ∃ W, (Instr.storeAt 3 (.pointer (some ⟨p, 3, none⟩)) (.int .i64 x)).run Try.prog w = .ok () W ∧ EnBlk W p { e with com := x } ∧ Frm (fun k => k = p) w W ∧ W.heap.size = w.heap.size := by
  have c0 : w.cell? ⟨p, 3, none⟩ = some (.int .i64 e.com) := by have := h.at.c3; simpa using this
  have f0 := h.fz 3
  refine ⟨w.setCell ⟨p, 3, none⟩ (.int .i64 x), by simp [go_sem, Instr.storeAt, stored, c0, f0], heap_setCell_same w p 3 _ 58 (.int .i64 x) h, (Frm.refl (fun k => k = p) w).setCell (p := ⟨p, 3, none⟩) rfl _, setCell_size _ _ _⟩
theorem fdTb0 (p : Nat) (w : World) : (Instr.fieldAt 24 (.pointer (some ⟨p, 0, none⟩)) 0).run Try.prog w = .ok (.pointer (some ⟨p, 0, none⟩)) w := by simp [go_sem, Instr.fieldAt]
theorem fdEnB0 (p : Nat) (w : World) : (Instr.fieldAt 58 (.pointer (some ⟨p, 0, none⟩)) 0).run Try.prog w = .ok (.pointer (some ⟨p, 0, none⟩)) w := by simp [go_sem, Instr.fieldAt]
theorem fdEn0 (p o : Nat) (w : World) : (Instr.fieldAt 58 (.pointer (some ⟨p, o, none⟩)) 0).run Try.prog w = .ok (.pointer (some ⟨p, o, none⟩)) w := by simp [go_sem, Instr.fieldAt, Addr.add_lit]
theorem fdTb1 (p : Nat) (w : World) : (Instr.fieldAt 24 (.pointer (some ⟨p, 0, none⟩)) 1).run Try.prog w = .ok (.pointer (some ⟨p, 1, none⟩)) w := by simp [go_sem, Instr.fieldAt]
theorem fdEnB1 (p : Nat) (w : World) : (Instr.fieldAt 58 (.pointer (some ⟨p, 0, none⟩)) 1).run Try.prog w = .ok (.pointer (some ⟨p, 1, none⟩)) w := by simp [go_sem, Instr.fieldAt]
theorem fdEn1 (p o : Nat) (w : World) : (Instr.fieldAt 58 (.pointer (some ⟨p, o, none⟩)) 1).run Try.prog w = .ok (.pointer (some ⟨p, o + 1, none⟩)) w := by simp [go_sem, Instr.fieldAt, Addr.add_lit]
theorem fdTb2 (p : Nat) (w : World) : (Instr.fieldAt 24 (.pointer (some ⟨p, 0, none⟩)) 2).run Try.prog w = .ok (.pointer (some ⟨p, 2, none⟩)) w := by simp [go_sem, Instr.fieldAt]
theorem fdEnB2 (p : Nat) (w : World) : (Instr.fieldAt 58 (.pointer (some ⟨p, 0, none⟩)) 2).run Try.prog w = .ok (.pointer (some ⟨p, 2, none⟩)) w := by simp [go_sem, Instr.fieldAt]
theorem fdEn2 (p o : Nat) (w : World) : (Instr.fieldAt 58 (.pointer (some ⟨p, o, none⟩)) 2).run Try.prog w = .ok (.pointer (some ⟨p, o + 2, none⟩)) w := by simp [go_sem, Instr.fieldAt, Addr.add_lit]
theorem fdTb3 (p : Nat) (w : World) : (Instr.fieldAt 24 (.pointer (some ⟨p, 0, none⟩)) 3).run Try.prog w = .ok (.pointer (some ⟨p, 3, none⟩)) w := by simp [go_sem, Instr.fieldAt]
theorem fdEnB3 (p : Nat) (w : World) : (Instr.fieldAt 58 (.pointer (some ⟨p, 0, none⟩)) 3).run Try.prog w = .ok (.pointer (some ⟨p, 3, none⟩)) w := by simp [go_sem, Instr.fieldAt]
theorem fdEn3 (p o : Nat) (w : World) : (Instr.fieldAt 58 (.pointer (some ⟨p, o, none⟩)) 3).run Try.prog w = .ok (.pointer (some ⟨p, o + 3, none⟩)) w := by simp [go_sem, Instr.fieldAt, Addr.add_lit]
theorem ldInt (b o : Nat) (x : Int) (w : World) (h : w.cell? ⟨b, o, none⟩ = some (.int .i64 x)) : (Instr.loadAt 3 (.pointer (some ⟨b, o, none⟩))).run Try.prog w = .ok (.int .i64 x) w := by simp [go_sem, h]
theorem ldEs (b o : Nat) (a : Option Addr) (n c : Nat) (w : World) (h : w.cell? ⟨b, o, none⟩ = some (.slice a n c)) : (Instr.loadAt 22 (.pointer (some ⟨b, o, none⟩))).run Try.prog w = .ok (.slice a n c) w := by simp [go_sem, h]

/-- Entries, compared. -/
def En.beq (x y : En) : Bool := decide (x = y)
theorem En.beq_iff {x y : En} : x.beq y = true ↔ x = y := by simp [En.beq]

end Go.Proofs.Ytdbgbldmjgonjaa
