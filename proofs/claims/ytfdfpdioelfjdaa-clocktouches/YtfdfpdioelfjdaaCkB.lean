/-
  Frames in memory: rows of them, rows that a call has made itself, boxes with a frame and boxes with a clock.
-/
import Derived.Test.YtfdfpdioelfjdaaCkA
namespace Go.Proofs.Ytfdfpdioelfjdaa
open Go.RowKit

def Sp.val (x : Sp) : Value := .agg #[.int .i64 x.page, .bool x.used, .bool x.pin]
def Sp.cells (x : Sp) : List Value := [.int .i64 x.page, .bool x.used, .bool x.pin]
def cellsS (l : List Sp) : List Value := l.flatMap Sp.cells
/-- A clock, as a value. -/
def ckV (v : Sl) (h : Int) : Value := .agg #[v.val, .int .i64 h]

theorem cellsS_length : ∀ l, (cellsS l).length = l.length * 3
  | [] => rfl
  | i :: r => by
    have := cellsS_length r
    simp only [cellsS, List.flatMap_cons, List.length_append, List.length_cons] at *
    rw [this]
    simp [Sp.cells]
    omega
theorem cellsS_append (l m : List Sp) : cellsS (l ++ m) = cellsS l ++ cellsS m := by simp [cellsS]
theorem cellsS_one (l : List Sp) : ∀ u ∈ cellsS l, u.oneCell' = true := by
  intro u hu
  obtain ⟨i, _, hi⟩ := List.mem_flatMap.1 hu
  simp only [Sp.cells, List.mem_cons, List.mem_nil_iff, or_false] at hi
  rcases hi with rfl | rfl | rfl <;> rfl
theorem cellsS_get : ∀ (l : List Sp) (j t : Nat), j < l.length → t < 3 → (cellsS l)[j * 3 + t]? = (fr l j).cells[t]?
  | i :: r, 0, t, _, ht => by
    simp only [cellsS, List.flatMap_cons]
    rw [List.getElem?_append_left (by simp [Sp.cells]; omega)]
    simp [fr]
  | i :: r, j + 1, t, hj, ht => by
    have := cellsS_get r j t (by simpa using hj) ht
    simp only [cellsS, List.flatMap_cons] at *
    rw [List.getElem?_append_right (by simp [Sp.cells]; omega)]
    have e : (j + 1) * 3 + t - i.cells.length = j * 3 + t := by simp [Sp.cells]; omega
    rw [e, this]
    simp [fr, List.getD]
theorem cellsS_set : ∀ (l : List Sp) (i : Nat) (x : Sp), cellsS (l.set i x) = (((cellsS l).set (i * 3) (.int .i64 x.page)).set (i * 3 + 1) (.bool x.used)).set (i * 3 + 2) (.bool x.pin)
  | [], _, _ => rfl
  | y :: r, 0, x => rfl
  | y :: r, i + 1, x => by
    have ih := cellsS_set r i x
    show y.cells ++ cellsS (r.set i x) = (((y.cells ++ cellsS r).set ((i + 1) * 3) _).set ((i + 1) * 3 + 1) _).set ((i + 1) * 3 + 2) _
    rw [ih, show (i + 1) * 3 = i * 3 + 3 by omega]
    rfl
theorem cellsS_set1 : ∀ (l : List Sp) (i : Nat) (u : Bool), cellsS (l.set i ⟨(fr l i).page, u, (fr l i).pin⟩) = (cellsS l).set (i * 3 + 1) (.bool u)
  | [], _, _ => rfl
  | y :: r, 0, x => rfl
  | y :: r, i + 1, x => by
    have ih := cellsS_set1 r i x
    show y.cells ++ cellsS (r.set i ⟨(fr r i).page, x, (fr r i).pin⟩) = (y.cells ++ cellsS r).set ((i + 1) * 3 + 1) _
    rw [ih, show (i + 1) * 3 = i * 3 + 3 by omega]
    rfl
theorem cellsS_set2 : ∀ (l : List Sp) (i : Nat) (u : Bool), cellsS (l.set i ⟨(fr l i).page, (fr l i).used, u⟩) = (cellsS l).set (i * 3 + 2) (.bool u)
  | [], _, _ => rfl
  | y :: r, 0, x => rfl
  | y :: r, i + 1, x => by
    have ih := cellsS_set2 r i x
    show y.cells ++ cellsS (r.set i ⟨(fr r i).page, (fr r i).used, x⟩) = (y.cells ++ cellsS r).set ((i + 1) * 3 + 2) _
    rw [ih, show (i + 1) * 3 = i * 3 + 3 by omega]
    rfl

/-- The blocks of D that are there stay as they are. -/
def Kept (D : Nat → Prop) (w w' : World) : Prop := ∀ k, D k → k < w.heap.size → w'.heap[k]? = w.heap[k]?
theorem Kept.all {D : Nat → Prop} {B : Nat} {w w' : World} (h : Below B w w') (hB : w.heap.size ≤ B) : Kept D w w' := fun k _ hl => h.block k (by omega)
theorem Kept.frm {D F : Nat → Prop} {w w' : World} (h : Frm F w w') (hD : ∀ k, D k → ¬ F k) : Kept D w w' := fun k hk hl => h.block k hl (hD k hk)
theorem Kept.cell {D : Nat → Prop} {w w' : World} (h : Kept D w w') {a : Addr} {u : Value} (hc : w.cell? a = some u) (hD : D a.block) : w'.cell? a = some u := by
  have := h a.block hD (World.block_lt_of_cell? w _ hc)
  simp only [World.cell?] at hc ⊢
  rw [this]
  exact hc
theorem Kept.set {D : Nat → Prop} {w : World} {p : Addr} {u : Value} (hD : ∀ k, D k → k ≠ p.block) : Kept D w (w.setCell p u) := fun k hk _ => Below.heap_setCell w p u k (hD k hk)

/-- The frames l lie where the slice leads, in blocks of D. -/
structure Gs (D : Nat → Prop) (w : World) (v : Sl) (l : List Sp) : Prop where
  len : l.length = v.len
  nil : v.a = none → v.cap = 0
  le : v.len ≤ v.cap
  big : v.len ≤ 1000000
  home : ∀ ad, v.a = some ad → 0 < v.len → D ad.block
  cell : ∀ i, i < v.len → ∃ b off, v.a = some ⟨b, off, none⟩ ∧ w.cell? ⟨b, off + i * 3, none⟩ = some (.int .i64 (fr l i).page) ∧ w.cell? ⟨b, off + i * 3 + 1, none⟩ = some (.bool (fr l i).used) ∧ w.cell? ⟨b, off + i * 3 + 2, none⟩ = some (.bool (fr l i).pin)

theorem Gs.keep {D : Nat → Prop} {w w' : World} {v : Sl} {l : List Sp} (h : Gs D w v l) (hk : Kept D w w') : Gs D w' v l := by
  refine ⟨h.len, h.nil, h.le, h.big, h.home, fun i hi => ?_⟩
  obtain ⟨b, off, ha, c0, c1, c2⟩ := h.cell i hi
  have hD := h.home _ ha (by omega)
  exact ⟨b, off, ha, hk.cell c0 hD, hk.cell c1 hD, hk.cell c2 hD⟩
theorem Gs.below {D : Nat → Prop} {B : Nat} {w w' : World} {v : Sl} {l : List Sp} (h : Gs D w v l) (hb : Below B w w') (hB : w.heap.size ≤ B) : Gs D w' v l := h.keep (Kept.all hb hB)
theorem Gs.mono {D E : Nat → Prop} {w : World} {v : Sl} {l : List Sp} (h : Gs D w v l) (hE : ∀ k, D k → k < w.heap.size → E k) : Gs E w v l := by
  refine ⟨h.len, h.nil, h.le, h.big, fun ad ha hl => hE _ (h.home ad ha hl) ?_, h.cell⟩
  obtain ⟨b, off, ha', c0, _⟩ := h.cell 0 hl
  rw [ha'] at ha
  cases ha
  exact World.block_lt_of_cell? w _ c0
theorem Gs.none {D : Nat → Prop} {w : World} : Gs D w Sl.nil [] := ⟨rfl, fun _ => rfl, Nat.le_refl _, by decide, fun _ h _ => (by cases h), fun _ h => absurd h (Nat.not_lt_zero _)⟩

theorem infoSp : (Try.prog.info? 38).map (fun i => (i.zero, i.size, i.bytes)) = some (some (.agg #[.int .i64 0, .bool false, .bool false]), 3, 16) := by kernel_rfl

/-- A row of frames that the call has made. -/
def OwnS (w : World) (v : Sl) (l : List Sp) : Prop := Own 38 3 w v (cellsS l)
theorem OwnS.len {w : World} {v : Sl} {l : List Sp} (h : OwnS w v l) : l.length = v.len := by
  have := h.1
  rw [cellsS_length] at this
  omega
theorem OwnS.cells {w : World} {v : Sl} {l : List Sp} (h : OwnS w v l) {g off : Nat} (ha : v.a = some ⟨g, off, none⟩) {i : Nat} (hi : i < v.len) : w.cell? ⟨g, off + i * 3, none⟩ = some (.int .i64 (fr l i).page) ∧ w.cell? ⟨g, off + i * 3 + 1, none⟩ = some (.bool (fr l i).used) ∧ w.cell? ⟨g, off + i * 3 + 2, none⟩ = some (.bool (fr l i).pin) := by
  have hl := h.len
  refine ⟨?_, ?_, ?_⟩
  · have := h.cell ha (i * 3 + 0) _ (cellsS_get l i 0 (by omega) (by omega))
    rwa [Addr.add_lit] at this
  · have := h.cell ha (i * 3 + 1) _ (cellsS_get l i 1 (by omega) (by omega))
    rwa [Addr.add_lit] at this
  · have := h.cell ha (i * 3 + 2) _ (cellsS_get l i 2 (by omega) (by omega))
    rwa [Addr.add_lit] at this
theorem OwnS.gs {D : Nat → Prop} {w : World} {v : Sl} {l : List Sp} (h : OwnS w v l) (hD : ∀ k, v.blk = some k → D k) (hm : v.len ≤ 1000000) : Gs D w v l := by
  refine ⟨h.len, h.nilcap, h.lecap, hm, fun ad ha _ => hD _ (by rw [Sl.blk, ha]; rfl), fun i hi => ?_⟩
  rcases h.2 with ⟨h0, _⟩ | ⟨g, off, cur, ha, _⟩
  · rw [h0] at hi; exact absurd hi (Nat.not_lt_zero _)
  · exact ⟨g, off, ha, h.cells ha hi⟩
theorem OwnS.new (w : World) : OwnS (w.alloc (.cells #[] 38)) ⟨some ⟨w.heap.size, 0, none⟩, 0, 0⟩ [] :=
  ⟨rfl, .inr ⟨w.heap.size, 0, _, rfl, heap_alloc_new w _, by simp, Nat.le_refl _, by simp, rfl⟩⟩
theorem OwnS.pos {w : World} {v : Sl} {l : List Sp} (h : OwnS w v l) (hp : 0 < v.len) : ∃ g off, v.a = some ⟨g, off, none⟩ := by
  rcases h.2 with ⟨h0, _⟩ | ⟨g, off, cur, ha, _⟩
  · rw [h0] at hp; exact absurd hp (Nat.not_lt_zero _)
  · exact ⟨g, off, ha⟩
theorem OwnS.frozen {w : World} {v : Sl} {l : List Sp} (h : OwnS w v l) {g off : Nat} (ha : v.a = some ⟨g, off, none⟩) (o : Nat) : w.frozen? ⟨g, o, none⟩ = false := by
  obtain ⟨cur, hc⟩ := h.kind (k := g) (by rw [Sl.blk, ha]; rfl)
  exact frozen_of_row w g _ cur 38 hc

/-- A cell of a row turns. -/
theorem Own.setCell {e : TypeId} {z : Nat} {w : World} {s : Sl} {vs : List Value} (h : Own e z w s vs) {g off : Nat} (ha : s.a = some ⟨g, off, none⟩) (j : Nat) (u : Value) : Own e z (w.setCell ⟨g, off + j, none⟩ u) s (vs.set j u) := by
  refine ⟨by rw [List.length_set]; exact h.1, ?_⟩
  rcases h.2 with ⟨h0, _⟩ | ⟨g', off', cur, ha', hg, hoc, hlc, hcm, ht⟩
  · rw [h0] at ha; cases ha
  · rw [ha] at ha'
    simp only [Option.some.injEq, Addr.mk.injEq, and_true] at ha'
    obtain ⟨rfl, rfl⟩ := ha'
    refine .inr ⟨g, off, _, ha, heap_setCell_same w g (off + j) cur e u hg, by simpa using hoc, hlc, hcm, ?_⟩
    rw [Array.toList_setIfInBounds, List.drop_set, if_neg (by omega), Nat.add_sub_cancel_left, List.take_set, ht]

/-- A frame laid over a frame. -/
def setSp (w : World) (g o : Nat) (x : Sp) : World := ((w.setCell ⟨g, o, none⟩ (.int .i64 x.page)).setCell ⟨g, o + 1, none⟩ (.bool x.used)).setCell ⟨g, o + 2, none⟩ (.bool x.pin)
theorem setSp_frm (w : World) (g o : Nat) (x : Sp) : Frm (fun k => k = g) w (setSp w g o x) :=
  (((Frm.refl (fun k => k = g) w).setCell (p := ⟨g, o, none⟩) rfl _).setCell (p := ⟨g, o + 1, none⟩) rfl _).setCell (p := ⟨g, o + 2, none⟩) rfl _
theorem setSp_size (w : World) (g o : Nat) (x : Sp) : (setSp w g o x).heap.size = w.heap.size := by simp only [setSp, setCell_size]
theorem OwnS.store {w : World} {v : Sl} {l : List Sp} (h : OwnS w v l) {g off : Nat} (ha : v.a = some ⟨g, off, none⟩) (i : Nat) (x : Sp) : OwnS (setSp w g (off + i * 3) x) v (l.set i x) := by
  unfold OwnS setSp
  rw [cellsS_set]
  have h1 := Own.setCell h ha (i * 3) (.int .i64 x.page)
  have h2 := h1.setCell ha (i * 3 + 1) (.bool x.used)
  have h3 := h2.setCell ha (i * 3 + 2) (.bool x.pin)
  rw [← Nat.add_assoc, ← Nat.add_assoc] at h3
  exact h3
theorem OwnS.use {w : World} {v : Sl} {l : List Sp} (h : OwnS w v l) {g off : Nat} (ha : v.a = some ⟨g, off, none⟩) (i : Nat) (u : Bool) : OwnS (w.setCell ⟨g, off + i * 3 + 1, none⟩ (.bool u)) v (l.set i ⟨(fr l i).page, u, (fr l i).pin⟩) := by
  unfold OwnS
  rw [cellsS_set1, Nat.add_assoc]
  exact Own.setCell h ha (i * 3 + 1) (.bool u)
theorem OwnS.pinned {w : World} {v : Sl} {l : List Sp} (h : OwnS w v l) {g off : Nat} (ha : v.a = some ⟨g, off, none⟩) (i : Nat) (u : Bool) : OwnS (w.setCell ⟨g, off + i * 3 + 2, none⟩ (.bool u)) v (l.set i ⟨(fr l i).page, (fr l i).used, u⟩) := by
  unfold OwnS
  rw [cellsS_set2, Nat.add_assoc]
  exact Own.setCell h ha (i * 3 + 2) (.bool u)
theorem OwnS.frame {w w' : World} {v : Sl} {l : List Sp} (h : OwnS w v l) (hk : ∀ k, v.blk = some k → w'.heap[k]? = w.heap[k]?) : OwnS w' v l := Own.frame h hk
theorem OwnS.below {w w' : World} {v : Sl} {l : List Sp} (h : OwnS w v l) (hb : Below w.heap.size w w') : OwnS w' v l := Own.frame h (fun k hk => hb.block k (Own.lt h hk))

/-- What frames yield to an append. -/
theorem Gs.src {D : Nat → Prop} {w : World} {v : Sl} {l : List Sp} (h : Gs D w v l) : Src Try.prog 3 22 v.val v.len (cellsS l) w := by
  obtain ⟨a, len, cap⟩ := v
  have hl : l.length = len := h.len
  cases a with
  | none =>
    have hc : cap = 0 := h.nil rfl
    have h0 : len = 0 := by have : len ≤ cap := h.le; omega
    subst hc; subst h0
    have : l = [] := List.eq_nil_of_length_eq_zero hl
    subst this
    exact Src.ofNil w Try.underlying22 0
  | some ad =>
    refine Src.ofSlice w Try.underlying22 ad len cap (cellsS l) (by rw [cellsS_length, hl]) (fun j u hj => ?_) (cellsS_one l)
    have hjl : j < l.length * 3 := by
      have := (List.getElem?_eq_some_iff.1 hj).1
      rw [cellsS_length] at this
      exact this
    obtain ⟨b, off, e, c0, c1, c2⟩ := h.cell (j / 3) (by show j / 3 < len; omega)
    obtain rfl := Option.some.inj e
    have hg := cellsS_get l (j / 3) (j % 3) (by omega) (by omega)
    rw [show j / 3 * 3 + j % 3 = j by omega, hj] at hg
    rw [Addr.add_lit]
    have hm4 : j % 3 = 0 ∨ j % 3 = 1 ∨ j % 3 = 2 := by omega
    rcases hm4 with e4 | e4 | e4 <;> rw [e4] at hg
    · rw [show off + j = off + j / 3 * 3 by omega, c0, hg]; rfl
    · rw [show off + j = off + j / 3 * 3 + 1 by omega, c1, hg]; rfl
    · rw [show off + j = off + j / 3 * 3 + 2 by omega, c2, hg]; rfl

/-- append([]T{}, s...): a row of the call's own. -/
theorem append_new {D : Nat → Prop} (w : World) (v : Sl) (l : List Sp) (h : Gs D w v l) (ty : TypeId) :
    ∃ v' w', (Builtin.append_ #[22, 22] ty #[.slice (some ⟨w.heap.size, 0, none⟩) 0 0, v.val]).run Try.prog (w.alloc (.cells #[] 38)) = .ok v'.val w' ∧ OwnS w' v' l ∧ v'.len = v.len ∧ Below w.heap.size w w' ∧ ∀ k, v'.blk = some k → w.heap.size ≤ k := by
  have hB := below_alloc w (.cells #[] 38)
  have h1 := (h.below hB (Nat.le_refl _)).src
  obtain ⟨v', w', hrun, ho, hlen, hf, hbk⟩ := own_append Try.underlying22 infoSp rfl (by decide) _ ⟨some ⟨w.heap.size, 0, none⟩, 0, 0⟩ [] (OwnS.new w) (fun _ h => by cases h) _ v.len (cellsS l) h1 (by have := h.big; show 0 + v.len ≤ _; omega) ty
  refine ⟨v', w', hrun, ho, by rw [hlen]; exact Nat.zero_add _, hB.trans (hf.below hB.size (fun k hk => ?_)), fun k hk => ?_⟩
  · have : some w.heap.size = some k := hk
    cases this
    exact Nat.le_refl _
  · rcases hbk with e | ⟨e, _⟩
    · rw [e] at hk
      have : some w.heap.size = some k := hk
      cases this
      exact Nat.le_refl _
    · rw [e] at hk
      cases hk
      exact hB.size

section
variable {ops : Array Oper} {rest : List Oper} {o : Oper} {a : Act} {Q : Exit → Act → World → Prop}
theorem wpList_append_new {D : Nat → Prop} (w : World) (hgd : o.guard = none) (s y : Operand) (ho : o.op = .call { callee := .builtin .append, args := #[s, y], argTypes := #[22, 22] }) (v : Sl) (l : List Sp) (hs : a.eval s = .slice (some ⟨w.heap.size, 0, none⟩) 0 0) (hy : a.eval y = v.val) (h : Gs D w v l)
    (hK : ∀ v' w', OwnS w' v' l → v'.len = v.len → Below w.heap.size w w' → (∀ k, v'.blk = some k → w.heap.size ≤ k) → wpList Try.prog ops Q rest (a.put o.dst v'.val) w') : wpList Try.prog ops Q (o :: rest) a (w.alloc (.cells #[] 38)) := by
  refine wpList_plain hgd fun K hK' => ?_
  obtain ⟨v', w', hrun, r1, r2, r3, r4⟩ := append_new w v l h o.type
  unfold Oper.wp
  simp [execOp, ho, resolve, invoke, builtin, hs, hy, hrun, Result.andThen]
  exact hK' _ _ (hK v' w' r1 r2 r3 r4)
end

theorem alloc_size (w : World) (o : Obj) : (w.alloc o).heap.size = w.heap.size + 1 := by
  show (w.heap.push o).size = _
  simp

/-- A box with a clock. -/
def CkBlk (w : World) (p : Nat) (v : Value) (h : Int) : Prop := w.heap[p]? = some (Obj.cells #[v, .int .i64 h] 24 (0, 0))
theorem CkBlk.c0 {w : World} {p : Nat} {v : Value} {h : Int} (k : CkBlk w p v h) : w.cell? ⟨p, 0, none⟩ = some v := by unfold CkBlk at k; simp [World.cell?, k]
theorem CkBlk.c1 {w : World} {p : Nat} {v : Value} {h : Int} (k : CkBlk w p v h) : w.cell? ⟨p, 1, none⟩ = some (.int .i64 h) := by unfold CkBlk at k; simp [World.cell?, k]
theorem CkBlk.fz {w : World} {p : Nat} {v : Value} {h : Int} (k : CkBlk w p v h) (o : Nat) : w.frozen? ⟨p, o, none⟩ = false := frozen_of_row w p _ _ 24 k
theorem CkBlk.lt {w : World} {p : Nat} {v : Value} {h : Int} (k : CkBlk w p v h) : p < w.heap.size := (Array.getElem?_eq_some_iff.1 k).1
theorem ckBlk_new (w : World) (v : Value) (h : Int) : CkBlk (w.alloc (.cells #[v, .int .i64 h] 24)) w.heap.size v h := heap_alloc_new w _
theorem CkBlk.at {w w' : World} {p : Nat} {v : Value} {h : Int} (k : CkBlk w p v h) (hb : w'.heap[p]? = w.heap[p]?) : CkBlk w' p v h := hb.trans k
theorem CkBlk.below {w w' : World} {p : Nat} {v : Value} {h : Int} (k : CkBlk w p v h) (hb : Below w.heap.size w w') : CkBlk w' p v h := (hb.block p k.lt).trans k
/-- A clock laid over a clock. -/
def setCk (w : World) (p : Nat) (v : Value) (h : Int) : World := (w.setCell ⟨p, 0, none⟩ v).setCell ⟨p, 1, none⟩ (.int .i64 h)
theorem CkBlk.set {w : World} {p : Nat} {v : Value} {h : Int} (k : CkBlk w p v h) (v' : Value) (h' : Int) : CkBlk (setCk w p v' h') p v' h' := by
  have h1 := heap_setCell_same w p 0 _ 24 v' k
  have h2 := heap_setCell_same _ p 1 _ 24 (.int .i64 h') h1
  unfold CkBlk setCk
  rw [h2]
  simp
theorem CkBlk.hand {w : World} {p : Nat} {v : Value} {h : Int} (k : CkBlk w p v h) (h' : Int) : CkBlk (w.setCell ⟨p, 1, none⟩ (.int .i64 h')) p v h' := by
  have h2 := heap_setCell_same _ p 1 _ 24 (.int .i64 h') k
  unfold CkBlk
  rw [h2]
  simp
theorem CkBlk.row {w : World} {p : Nat} {v : Value} {h : Int} (k : CkBlk w p v h) (v' : Value) : CkBlk (w.setCell ⟨p, 0, none⟩ v') p v' h := by
  have h2 := heap_setCell_same _ p 0 _ 24 v' k
  unfold CkBlk
  rw [h2]
  simp
theorem setCk_frm (w : World) (p : Nat) (v : Value) (h : Int) : Frm (fun k => k = p) w (setCk w p v h) :=
  ((Frm.refl (fun k => k = p) w).setCell (p := ⟨p, 0, none⟩) rfl _).setCell (p := ⟨p, 1, none⟩) rfl _
theorem setCk_size (w : World) (p : Nat) (v : Value) (h : Int) : (setCk w p v h).heap.size = w.heap.size := by simp only [setCk, setCell_size]

/-- A box with a frame. -/
def SpBlk (w : World) (p : Nat) (x : Sp) : Prop := w.heap[p]? = some (Obj.cells #[.int .i64 x.page, .bool x.used, .bool x.pin] 38 (0, 0))
theorem SpBlk.c0 {w : World} {p : Nat} {x : Sp} (k : SpBlk w p x) : w.cell? ⟨p, 0, none⟩ = some (.int .i64 x.page) := by unfold SpBlk at k; simp [World.cell?, k]
theorem SpBlk.c1 {w : World} {p : Nat} {x : Sp} (k : SpBlk w p x) : w.cell? ⟨p, 1, none⟩ = some (.bool x.used) := by unfold SpBlk at k; simp [World.cell?, k]
theorem SpBlk.c2 {w : World} {p : Nat} {x : Sp} (k : SpBlk w p x) : w.cell? ⟨p, 2, none⟩ = some (.bool x.pin) := by unfold SpBlk at k; simp [World.cell?, k]
theorem SpBlk.fz {w : World} {p : Nat} {x : Sp} (k : SpBlk w p x) (o : Nat) : w.frozen? ⟨p, o, none⟩ = false := frozen_of_row w p _ _ 38 k
theorem SpBlk.lt {w : World} {p : Nat} {x : Sp} (k : SpBlk w p x) : p < w.heap.size := (Array.getElem?_eq_some_iff.1 k).1
theorem spBlk_new (w : World) (x : Sp) : SpBlk (w.alloc (.cells #[.int .i64 x.page, .bool x.used, .bool x.pin] 38)) w.heap.size x := heap_alloc_new w _
theorem SpBlk.below {w w' : World} {p : Nat} {x : Sp} (k : SpBlk w p x) (hb : Below w.heap.size w w') : SpBlk w' p x := (hb.block p k.lt).trans k
theorem SpBlk.set {w : World} {p : Nat} {x : Sp} (k : SpBlk w p x) (y : Sp) : SpBlk (setSp w p 0 y) p y := by
  have h1 := heap_setCell_same w p 0 _ 38 (.int .i64 y.page) k
  have h2 := heap_setCell_same _ p 1 _ 38 (.bool y.used) h1
  have h3 := heap_setCell_same _ p 2 _ 38 (.bool y.pin) h2
  unfold SpBlk setSp
  rw [h3]
  simp
theorem SpBlk.use {w : World} {p : Nat} {x : Sp} (k : SpBlk w p x) (u : Bool) : SpBlk (w.setCell ⟨p, 1, none⟩ (.bool u)) p ⟨x.page, u, x.pin⟩ := by
  have h2 := heap_setCell_same _ p 1 _ 38 (.bool u) k
  unfold SpBlk
  rw [h2]
  simp
theorem SpBlk.pinned {w : World} {p : Nat} {x : Sp} (k : SpBlk w p x) (u : Bool) : SpBlk (w.setCell ⟨p, 2, none⟩ (.bool u)) p ⟨x.page, x.used, u⟩ := by
  have h2 := heap_setCell_same _ p 2 _ 38 (.bool u) k
  unfold SpBlk
  rw [h2]
  simp

theorem store_sp (g o : Nat) (x : Sp) (w : World) {u0 u1 u2 : Value} (c0 : w.cell? ⟨g, o, none⟩ = some u0) (c1 : w.cell? ⟨g, o + 1, none⟩ = some u1) (c2 : w.cell? ⟨g, o + 2, none⟩ = some u2) (f0 : w.frozen? ⟨g, o, none⟩ = false) (f1 : w.frozen? ⟨g, o + 1, none⟩ = false) (f2 : w.frozen? ⟨g, o + 2, none⟩ = false) :
    (Instr.storeAt 38 (.pointer (some ⟨g, o, none⟩)) x.val).run Try.prog w = .ok () (setSp w g o x) := by
  obtain ⟨p, u, q⟩ := x
  unfold Sp.val setSp
  simp [go_sem, Instr.storeAt, c0, c1, c2, f0, f1, f2]
theorem store_ck (g : Nat) (v : Sl) (h : Int) (w : World) {v0 : Value} {h0 : Int} (k : CkBlk w g v0 h0) :
    (Instr.storeAt 24 (.pointer (some ⟨g, 0, none⟩)) (ckV v h)).run Try.prog w = .ok () (setCk w g v.val h) := by
  have c0 := k.c0
  have c1 := k.c1
  have f0 := k.fz 0
  have f1 := k.fz 1
  obtain ⟨a, len, cap⟩ := v
  unfold ckV setCk Sl.val
  simp [go_sem, Instr.storeAt, c0, c1, f0, f1]

/-- Frames are compared whole. -/
theorem guard_sp : Try.prog.eqGuardType Try.prog.depth 38 = false := by kernel_rfl
theorem stood_sp : Try.prog.stoodInHeld 38 = false := by kernel_rfl
theorem fields_sp : Try.prog.underlying 38 = some (.struct (Try.prog.fieldsOf 38)) := by kernel_rfl
theorem equal_sp (x y : Sp) (w : World) : (Op.equalIn 10000 38 x.val y.val).run Try.prog w = .ok (x.beq y) w := by
  obtain ⟨p, u, q⟩ := x
  obtain ⟨p', u', q'⟩ := y
  unfold Sp.val Sp.beq
  rw [run_equalIn_struct w 9999 38 _ _ fields_sp stood_sp]
  simp only [Program.fieldsOf, Try.underlying38]
  simp [go_sem, Op.eqFields, part, run_equalIn_int, run_equalIn_bool', Try.underlying3, Try.underlying4]
  by_cases h1 : p = p' <;> by_cases h2 : u = u' <;> by_cases h3 : q = q' <;> simp [h1, h2, h3]
theorem eql_sp (x y : Sp) (a c : Operand) (w : World) : (do eqGuard .eql 38 a c x.val y.val; binOp .eql 38 x.val y.val : Sem Value).run Try.prog w = .ok (.bool (x.beq y)) w := by
  have h := equal_sp x y w
  unfold Sp.val at *
  rw [Sem.run_bind, run_eqGuard_agg w .eql 38 a c _ _ guard_sp, Result.andThen_ok, run_eql_struct, h]
  rfl
theorem neq_sp (x y : Sp) (a c : Operand) (w : World) : (do eqGuard .neq 38 a c x.val y.val; binOp .neq 38 x.val y.val : Sem Value).run Try.prog w = .ok (.bool (!(x.beq y))) w := by
  have h := equal_sp x y w
  unfold Sp.val at *
  rw [Sem.run_bind, run_eqGuard_agg w .neq 38 a c _ _ guard_sp, Result.andThen_ok, run_neq_struct, h]
  rfl
theorem bin_neq_sp (x y : Sp) (w : World) : (binOp .neq 38 (.agg #[.int .i64 x.page, .bool x.used, .bool x.pin]) (.agg #[.int .i64 y.page, .bool y.used, .bool y.pin])).run Try.prog w = .ok (.bool (!(x.beq y))) w := by
  have h := equal_sp x y w
  unfold Sp.val at h
  rw [run_neq_struct, h]
  rfl
theorem guard_neq_sp (a c : Operand) (x y : Sp) (w : World) : (eqGuard .neq 38 a c (.agg #[.int .i64 x.page, .bool x.used, .bool x.pin]) (.agg #[.int .i64 y.page, .bool y.used, .bool y.pin])).run Try.prog w = .ok () w := run_eqGuard_agg w .neq 38 a c _ _ guard_sp

/-! ### What drawn statements read -/
theorem ixSp (b o len cap k : Nat) (hk : k < len) (w : World) : (Instr.indexAt 22 (.slice (some ⟨b, o, none⟩) len cap) (.int .i64 ((k : Nat) : Int))).run Try.prog w = .ok (.pointer (some ⟨b, o + k * 3, none⟩)) w := by
  have h1 : (0 : Int) ≤ ((k : Nat) : Int) := by omega
  have h2 : ((k : Nat) : Int) < ((len : Nat) : Int) := by omega
  simp [go_sem, Instr.indexAt, hk, Addr.add_lit]
theorem ldSp (b o : Nat) (x : Sp) (w : World) (h : w.cell? ⟨b, o, none⟩ = some (.int .i64 x.page) ∧ w.cell? ⟨b, o + 1, none⟩ = some (.bool x.used) ∧ w.cell? ⟨b, o + 2, none⟩ = some (.bool x.pin)) : (Instr.loadAt 38 (.pointer (some ⟨b, o, none⟩))).run Try.prog w = .ok x.val w := by
  obtain ⟨c0, c1, c2⟩ := h
  unfold Sp.val
  simp [go_sem, Instr.loadAt, c0, c1, c2]
theorem ldCk (p : Nat) (v : Sl) (h : Int) (w : World) (k : CkBlk w p v.val h) : (Instr.loadAt 24 (.pointer (some ⟨p, 0, none⟩))).run Try.prog w = .ok (ckV v h) w := by
  have c0 := k.c0
  have c1 := k.c1
  obtain ⟨a, len, cap⟩ := v
  unfold ckV Sl.val at *
  simp [go_sem, Instr.loadAt, c0, c1]
theorem ldRow (p : Nat) (v : Sl) (h : Int) (w : World) (k : CkBlk w p v.val h) : (Instr.loadAt 22 (.pointer (some ⟨p, 0, none⟩))).run Try.prog w = .ok v.val w := by
  have c0 := k.c0
  obtain ⟨a, len, cap⟩ := v
  unfold Sl.val at *
  simp [go_sem, Instr.loadAt, c0]
theorem ldHand (p : Nat) (v : Value) (h : Int) (w : World) (k : CkBlk w p v h) : (Instr.loadAt 3 (.pointer (some ⟨p, 1, none⟩))).run Try.prog w = .ok (.int .i64 h) w := by
  have c1 := k.c1
  simp [go_sem, Instr.loadAt, c1]
theorem fdCk0 (p : Nat) (w : World) : (Instr.fieldAt 24 (.pointer (some ⟨p, 0, none⟩)) 0).run Try.prog w = .ok (.pointer (some ⟨p, 0, none⟩)) w := by simp [go_sem, Instr.fieldAt]
theorem fdCk1 (p : Nat) (w : World) : (Instr.fieldAt 24 (.pointer (some ⟨p, 0, none⟩)) 1).run Try.prog w = .ok (.pointer (some ⟨p, 1, none⟩)) w := by simp [go_sem, Instr.fieldAt]
theorem below_drew (w : World) : Below w.heap.size w w.drew := (Below.refl _ _).drew
end Go.Proofs.Ytfdfpdioelfjdaa
