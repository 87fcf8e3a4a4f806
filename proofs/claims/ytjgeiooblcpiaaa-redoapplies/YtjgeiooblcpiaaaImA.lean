/-
  Images in memory: rows of them, where their bytes lie, rows that a call has made itself, rows of such rows.
-/
import Derived.Test.YtjgeiooblcpiaaaSlB
import Derived.Test.YtjgeiooblcpiaaaRedB
namespace Go.Proofs.Ytjgeiooblcpiaaa
open Go.RowKit

/-- An image in memory: its page, its slice, its bytes. -/
structure Ix where
  page : Int
  s : Sl
  bs : List Nat
def Ix.zero : Ix := ⟨0, Sl.nil, []⟩
def Ix.im (x : Ix) : Im := ⟨x.page, x.bs⟩
def Ix.val (x : Ix) : Value := .agg #[.int .i64 x.page, x.s.val]
def Ix.cells (x : Ix) : List Value := [.int .i64 x.page, x.s.val]
def cellsI (l : List Ix) : List Value := l.flatMap Ix.cells
def ims (l : List Ix) : List Im := l.map Ix.im

theorem ims_length (l : List Ix) : (ims l).length = l.length := by simp [ims]
theorem ims_append (l m : List Ix) : ims (l ++ m) = ims l ++ ims m := by simp [ims]
theorem ims_getD (l : List Ix) (i : Nat) : (ims l).getD i Im.zero = (l.getD i Ix.zero).im := by
  unfold ims
  rw [show Im.zero = Ix.zero.im from rfl]
  simp only [List.getD, List.getElem?_map]
  cases l[i]? <;> rfl

theorem cellsI_length : ∀ l, (cellsI l).length = l.length * 2
  | [] => rfl
  | i :: r => by
    have := cellsI_length r
    simp only [cellsI, List.flatMap_cons, List.length_append, List.length_cons] at *
    rw [this]
    simp [Ix.cells]
    omega
theorem cellsI_append (l m : List Ix) : cellsI (l ++ m) = cellsI l ++ cellsI m := by simp [cellsI]
theorem cellsI_one (l : List Ix) : ∀ u ∈ cellsI l, u.oneCell' = true := by
  intro u hu
  obtain ⟨i, _, hi⟩ := List.mem_flatMap.1 hu
  simp only [Ix.cells, List.mem_cons, List.mem_nil_iff, or_false] at hi
  rcases hi with rfl | rfl <;> rfl
theorem cellsI_get : ∀ (l : List Ix) (j t : Nat), j < l.length → t < 2 → (cellsI l)[j * 2 + t]? = (l.getD j Ix.zero).cells[t]?
  | i :: r, 0, t, _, ht => by
    simp only [cellsI, List.flatMap_cons]
    rw [List.getElem?_append_left (by simp [Ix.cells]; omega)]
    simp
  | i :: r, j + 1, t, hj, ht => by
    have := cellsI_get r j t (by simpa using hj) ht
    simp only [cellsI, List.flatMap_cons] at *
    rw [List.getElem?_append_right (by simp [Ix.cells]; omega)]
    have e : (j + 1) * 2 + t - i.cells.length = j * 2 + t := by simp [Ix.cells]; omega
    rw [e, this]
    simp [List.getD]

/-- The blocks of D that are there stay as they are. -/
def Kept (D : Nat → Prop) (w w' : World) : Prop := ∀ k, D k → k < w.heap.size → w'.heap[k]? = w.heap[k]?
theorem Kept.below {D : Nat → Prop} {B : Nat} {w w' : World} (h : Below B w w') (hB : ∀ k, D k → k < w.heap.size → k < B) : Kept D w w' := fun k hk hl => h.block k (hB k hk hl)
theorem Kept.all {D : Nat → Prop} {B : Nat} {w w' : World} (h : Below B w w') (hB : w.heap.size ≤ B) : Kept D w w' := fun k _ hl => h.block k (by omega)
theorem Kept.frm {D F : Nat → Prop} {w w' : World} (h : Frm F w w') (hD : ∀ k, D k → ¬ F k) : Kept D w w' := fun k hk hl => h.block k hl (hD k hk)
theorem Kept.cell {D : Nat → Prop} {w w' : World} (h : Kept D w w') {a : Addr} {u : Value} (hc : w.cell? a = some u) (hD : D a.block) : w'.cell? a = some u := by
  have := h a.block hD (World.block_lt_of_cell? w _ hc)
  simp only [World.cell?] at hc ⊢
  rw [this]
  exact hc

/-- The bytes xs lie where the slice leads, in blocks of D. -/
structure Cm (D : Nat → Prop) (w : World) (s : Sl) (xs : List Nat) : Prop where
  came : Came w s.a s.len s.cap xs
  home : ∀ ad, s.a = some ad → 0 < s.len → D ad.block
theorem Cm.len {D : Nat → Prop} {w : World} {s : Sl} {xs : List Nat} (h : Cm D w s xs) : xs.length = s.len := h.came.bs.1
theorem Cm.keep {D : Nat → Prop} {w w' : World} {s : Sl} {xs : List Nat} (h : Cm D w s xs) (hk : Kept D w w') : Cm D w' s xs := by
  refine ⟨⟨⟨h.came.bs.1, h.came.bs.2.1, fun i hi => ?_⟩, h.came.nil, h.came.le, h.came.big⟩, h.home⟩
  obtain ⟨b, off, ha, hc⟩ := h.came.bs.2.2 i hi
  exact ⟨b, off, ha, hk.cell hc (h.home ⟨b, off, none⟩ ha (by omega))⟩
theorem Cm.below {D : Nat → Prop} {B : Nat} {w w' : World} {s : Sl} {xs : List Nat} (h : Cm D w s xs) (hb : Below B w w') (hB : w.heap.size ≤ B) : Cm D w' s xs := h.keep (Kept.all hb hB)
theorem Cm.mono {D E : Nat → Prop} {w : World} {s : Sl} {xs : List Nat} (h : Cm D w s xs) (hE : ∀ k, D k → k < w.heap.size → E k) : Cm E w s xs := by
  refine ⟨h.came, fun ad ha hl => hE _ (h.home ad ha hl) ?_⟩
  obtain ⟨b, off, ha', hc⟩ := h.came.bs.2.2 0 hl
  rw [ha'] at ha
  cases ha
  exact World.block_lt_of_cell? w _ hc

/-- The images l lie where the slice leads, they and their bytes in blocks of D. -/
structure Gr (D : Nat → Prop) (w : World) (v : Sl) (l : List Ix) : Prop where
  len : l.length = v.len
  nil : v.a = none → v.cap = 0
  le : v.len ≤ v.cap
  big : v.len ≤ 1000000
  home : ∀ ad, v.a = some ad → 0 < v.len → D ad.block
  cell : ∀ i, i < v.len → ∃ b off, v.a = some ⟨b, off, none⟩ ∧ w.cell? ⟨b, off + i * 2, none⟩ = some (.int .i64 (l.getD i Ix.zero).page) ∧ w.cell? ⟨b, off + i * 2 + 1, none⟩ = some (l.getD i Ix.zero).s.val
  bs : ∀ x ∈ l, Cm D w x.s x.bs

theorem Gr.keep {D : Nat → Prop} {w w' : World} {v : Sl} {l : List Ix} (h : Gr D w v l) (hk : Kept D w w') : Gr D w' v l := by
  refine ⟨h.len, h.nil, h.le, h.big, h.home, fun i hi => ?_, fun x hx => (h.bs x hx).keep hk⟩
  obtain ⟨b, off, ha, c0, c1⟩ := h.cell i hi
  have hD := h.home _ ha (by omega)
  exact ⟨b, off, ha, hk.cell c0 hD, hk.cell c1 hD⟩
theorem Gr.below {D : Nat → Prop} {B : Nat} {w w' : World} {v : Sl} {l : List Ix} (h : Gr D w v l) (hb : Below B w w') (hB : w.heap.size ≤ B) : Gr D w' v l := h.keep (Kept.all hb hB)
theorem Gr.mono {D E : Nat → Prop} {w : World} {v : Sl} {l : List Ix} (h : Gr D w v l) (hE : ∀ k, D k → k < w.heap.size → E k) : Gr E w v l := by
  refine ⟨h.len, h.nil, h.le, h.big, fun ad ha hl => hE _ (h.home ad ha hl) ?_, h.cell, fun x hx => (h.bs x hx).mono hE⟩
  obtain ⟨b, off, ha', c0, c1⟩ := h.cell 0 hl
  rw [ha'] at ha
  cases ha
  exact World.block_lt_of_cell? w _ c0
theorem getD_mem {α : Type} {l : List α} {i : Nat} (d : α) (h : i < l.length) : l.getD i d ∈ l := by
  simp [List.getD, h]
theorem Gr.at {D : Nat → Prop} {w : World} {v : Sl} {l : List Ix} (h : Gr D w v l) {i : Nat} (hi : i < v.len) : Cm D w (l.getD i Ix.zero).s (l.getD i Ix.zero).bs := h.bs _ (getD_mem _ (by rw [h.len]; exact hi))
theorem Gr.none {D : Nat → Prop} {w : World} : Gr D w Sl.nil [] := ⟨rfl, fun _ => rfl, Nat.le_refl _, by decide, fun _ h _ => (by cases h), fun _ h => absurd h (Nat.not_lt_zero _), fun _ h => (by cases h)⟩
theorem Gr.imB {D : Nat → Prop} {w : World} {v : Sl} {l : List Ix} (h : Gr D w v l) : ImB (ims l) := by
  intro m hm
  obtain ⟨x, hx, rfl⟩ := List.mem_map.1 hm
  exact (h.bs x hx).came.bs.2.1

theorem infoIm : (Try.prog.info? 28).map (fun i => (i.zero, i.size, i.bytes)) = some (some (.agg #[.int .i64 0, .slice none 0 0]), 2, 32) := by kernel_rfl
theorem infoGr : (Try.prog.info? 25).map (fun i => (i.zero, i.size, i.bytes)) = some (some (.slice none 0 0), 1, 24) := by kernel_rfl

/-- A row of images that the call has made. -/
def OwnI (w : World) (v : Sl) (l : List Ix) : Prop := Own 28 2 w v (cellsI l)
theorem OwnI.len {w : World} {v : Sl} {l : List Ix} (h : OwnI w v l) : l.length = v.len := by
  have := h.1
  rw [cellsI_length] at this
  omega
theorem OwnI.gr {D : Nat → Prop} {w : World} {v : Sl} {l : List Ix} (h : OwnI w v l) (hb : ∀ x ∈ l, Cm D w x.s x.bs) (hD : ∀ k, v.blk = some k → D k) (hm : v.len ≤ 1000000) : Gr D w v l := by
  have hl := h.len
  refine ⟨hl, h.nilcap, h.lecap, hm, fun ad ha _ => hD _ (by rw [Sl.blk, ha]; rfl), fun i hi => ?_, hb⟩
  rcases h.2 with ⟨h0, _⟩ | ⟨g, off, cur, ha, _⟩
  · rw [h0] at hi; exact absurd hi (Nat.not_lt_zero _)
  · refine ⟨g, off, ha, ?_, ?_⟩
    · have := h.cell ha (i * 2 + 0) _ (cellsI_get l i 0 (by omega) (by omega))
      rwa [Addr.add_lit] at this
    · have := h.cell ha (i * 2 + 1) _ (cellsI_get l i 1 (by omega) (by omega))
      rwa [Addr.add_lit] at this
theorem OwnI.new (w : World) : OwnI (w.alloc (.cells #[] 28)) ⟨some ⟨w.heap.size, 0, none⟩, 0, 0⟩ [] :=
  ⟨rfl, .inr ⟨w.heap.size, 0, _, rfl, heap_alloc_new w _, by simp, Nat.le_refl _, by simp, rfl⟩⟩

/-- One image, laid as a row. -/
theorem src_im (w : World) (x : Ix) : Src Try.prog 2 25 (.slice (some ⟨w.heap.size, 0, none⟩) 1 1) 1 (cellsI [x]) (w.alloc (.cells #[.int .i64 x.page, x.s.val] 28)) := by
  refine Src.ofSlice _ Try.underlying25 ⟨w.heap.size, 0, none⟩ 1 1 (cellsI [x]) rfl (fun j u hj => ?_) (cellsI_one _)
  have hb : (w.alloc (.cells #[.int .i64 x.page, x.s.val] 28)).heap[w.heap.size]? = some (.cells #[.int .i64 x.page, x.s.val] 28) := heap_alloc_new w _
  rw [Addr.add_lit, cell_of_row _ _ _ _ _ _ hb]
  simpa [cellsI, Ix.cells] using hj

/-- append(g, image). -/
theorem own_im (w : World) (v : Sl) (l : List Ix) (h : OwnI w v l) (x : Ix) (hl : v.len + 1 ≤ 1000000) (ty : TypeId) :
    ∃ v' w', (Builtin.append_ #[25, 25] ty #[v.val, .slice (some ⟨w.heap.size, 0, none⟩) 1 1]).run Try.prog (w.alloc (.cells #[.int .i64 x.page, x.s.val] 28)) = .ok v'.val w' ∧ OwnI w' v' (l ++ [x]) ∧ v'.len = v.len + 1 ∧ Frm (fun k => v.blk = some k) w w' ∧ (v'.blk = v.blk ∨ ∃ k, v'.blk = some k ∧ w.heap.size ≤ k) := by
  have hB := below_alloc w (.cells #[.int .i64 x.page, x.s.val] 28)
  have h1 : Own 28 2 (w.alloc (.cells #[.int .i64 x.page, x.s.val] 28)) v (cellsI l) := h.frame (fun k hk => hB.block k (h.lt hk))
  obtain ⟨v', w', hrun, ho, hlen, hf, hbk⟩ := own_append Try.underlying25 infoIm rfl (by decide) _ v (cellsI l) h1 (cellsI_one l) _ 1 (cellsI [x]) (src_im w x) hl ty
  refine ⟨v', w', hrun, by unfold OwnI; rw [cellsI_append]; exact ho, hlen, (Frm.ofBelow hB).trans hf (fun _ _ hk => hk), ?_⟩
  rcases hbk with e | ⟨e, _⟩
  · exact .inl e
  · exact .inr ⟨_, e, hB.size⟩

section
variable {ops : Array Oper} {rest : List Oper} {o : Oper} {a : Act} {Q : Exit → Act → World → Prop}
theorem wpList_append_im (w : World) (x : Ix) (hgd : o.guard = none) (s y : Operand) (ho : o.op = .call { callee := .builtin .append, args := #[s, y], argTypes := #[25, 25] }) (v : Sl) (l : List Ix) (hs : a.eval s = v.val) (hy : a.eval y = .slice (some ⟨w.heap.size, 0, none⟩) 1 1) (h : OwnI w v l) (hl : v.len + 1 ≤ 1000000)
    (hK : ∀ v' w', OwnI w' v' (l ++ [x]) → v'.len = v.len + 1 → Frm (fun k => v.blk = some k) w w' → (v'.blk = v.blk ∨ ∃ k, v'.blk = some k ∧ w.heap.size ≤ k) → wpList Try.prog ops Q rest (a.put o.dst v'.val) w') : wpList Try.prog ops Q (o :: rest) a (w.alloc (.cells #[.int .i64 x.page, x.s.val] 28)) := by
  refine wpList_plain hgd fun K hK' => ?_
  obtain ⟨v', w', hrun, r1, r2, r3, r4⟩ := own_im w v l h x hl o.type
  unfold Oper.wp
  simp [execOp, ho, resolve, invoke, builtin, hs, hy, hrun, Result.andThen]
  exact hK' _ _ (hK v' w' r1 r2 r3 r4)
end

/-- Rows of images: the slices, and what they lead to. -/
structure Gp where
  v : Sl
  l : List Ix
def Gp.zero : Gp := ⟨Sl.nil, []⟩
def cellsG (L : List Gp) : List Value := L.map fun x => x.v.val
theorem cellsG_one (L : List Gp) : ∀ u ∈ cellsG L, u.oneCell' = true := by
  intro u hu
  obtain ⟨i, _, rfl⟩ := List.mem_map.1 hu
  rfl
theorem cellsG_get {L : List Gp} {i : Nat} (h : i < L.length) : (cellsG L)[i]? = some (L.getD i Gp.zero).v.val := by
  simp [cellsG, List.getD, h]
def OwnG (w : World) (v : Sl) (L : List Gp) : Prop := Own 25 1 w v (cellsG L)
theorem OwnG.len {w : World} {v : Sl} {L : List Gp} (h : OwnG w v L) : L.length = v.len := by
  have := h.1
  rw [cellsG, List.length_map] at this
  omega
theorem OwnG.new (w : World) : OwnG (w.alloc (.cells #[] 25)) ⟨some ⟨w.heap.size, 0, none⟩, 0, 0⟩ [] :=
  ⟨rfl, .inr ⟨w.heap.size, 0, _, rfl, heap_alloc_new w _, by simp, Nat.le_refl _, by simp, rfl⟩⟩
theorem OwnG.at {w : World} {v : Sl} {L : List Gp} (h : OwnG w v L) {i : Nat} (hi : i < v.len) : ∃ b off, v.a = some ⟨b, off, none⟩ ∧ w.cell? ⟨b, off + i, none⟩ = some (L.getD i Gp.zero).v.val := by
  have hl := h.len
  rcases h.2 with ⟨h0, _⟩ | ⟨g, off, cur, ha, _⟩
  · rw [h0] at hi; exact absurd hi (Nat.not_lt_zero _)
  · refine ⟨g, off, ha, ?_⟩
    have := h.cell ha i _ (cellsG_get (by omega))
    rwa [Addr.add_lit] at this
theorem src_gr (w : World) (x : Gp) : Src Try.prog 1 40 (.slice (some ⟨w.heap.size, 0, none⟩) 1 1) 1 (cellsG [x]) (w.alloc (.cells #[x.v.val] 25)) := by
  refine Src.ofSlice _ Try.underlying40 ⟨w.heap.size, 0, none⟩ 1 1 (cellsG [x]) rfl (fun j u hj => ?_) (cellsG_one _)
  have hb : (w.alloc (.cells #[x.v.val] 25)).heap[w.heap.size]? = some (.cells #[x.v.val] 25) := heap_alloc_new w _
  rw [Addr.add_lit, cell_of_row _ _ _ _ _ _ hb]
  simpa [cellsG] using hj
/-- append(l, group). -/
theorem own_gr (w : World) (v : Sl) (L : List Gp) (h : OwnG w v L) (x : Gp) (hl : v.len + 1 ≤ 1000000) (ty : TypeId) :
    ∃ v' w', (Builtin.append_ #[40, 40] ty #[v.val, .slice (some ⟨w.heap.size, 0, none⟩) 1 1]).run Try.prog (w.alloc (.cells #[x.v.val] 25)) = .ok v'.val w' ∧ OwnG w' v' (L ++ [x]) ∧ v'.len = v.len + 1 ∧ Frm (fun k => v.blk = some k) w w' ∧ (v'.blk = v.blk ∨ ∃ k, v'.blk = some k ∧ w.heap.size ≤ k) := by
  have hB := below_alloc w (.cells #[x.v.val] 25)
  have h1 : Own 25 1 (w.alloc (.cells #[x.v.val] 25)) v (cellsG L) := h.frame (fun k hk => hB.block k (h.lt hk))
  obtain ⟨v', w', hrun, ho, hlen, hf, hbk⟩ := own_append Try.underlying40 infoGr rfl (by decide) _ v (cellsG L) h1 (cellsG_one L) _ 1 (cellsG [x]) (src_gr w x) hl ty
  refine ⟨v', w', hrun, by unfold OwnG cellsG; rw [List.map_append]; exact ho, hlen, (Frm.ofBelow hB).trans hf (fun _ _ hk => hk), ?_⟩
  rcases hbk with e | ⟨e, _⟩
  · exact .inl e
  · exact .inr ⟨_, e, hB.size⟩

section
variable {ops : Array Oper} {rest : List Oper} {o : Oper} {a : Act} {Q : Exit → Act → World → Prop}
theorem wpList_append_gr (w : World) (x : Gp) (hgd : o.guard = none) (s y : Operand) (ho : o.op = .call { callee := .builtin .append, args := #[s, y], argTypes := #[40, 40] }) (v : Sl) (L : List Gp) (hs : a.eval s = v.val) (hy : a.eval y = .slice (some ⟨w.heap.size, 0, none⟩) 1 1) (h : OwnG w v L) (hl : v.len + 1 ≤ 1000000)
    (hK : ∀ v' w', OwnG w' v' (L ++ [x]) → v'.len = v.len + 1 → Frm (fun k => v.blk = some k) w w' → (v'.blk = v.blk ∨ ∃ k, v'.blk = some k ∧ w.heap.size ≤ k) → wpList Try.prog ops Q rest (a.put o.dst v'.val) w') : wpList Try.prog ops Q (o :: rest) a (w.alloc (.cells #[x.v.val] 25)) := by
  refine wpList_plain hgd fun K hK' => ?_
  obtain ⟨v', w', hrun, r1, r2, r3, r4⟩ := own_gr w v L h x hl o.type
  unfold Oper.wp
  simp [execOp, ho, resolve, invoke, builtin, hs, hy, hrun, Result.andThen]
  exact hK' _ _ (hK v' w' r1 r2 r3 r4)
end

/-- A call's own bytes, read. -/
theorem Owns.cm {w : World} {base : Nat} {v : Value} {xs : List Nat} (h : Owns w base v xs) (hx : Bytes xs) (hm : xs.length ≤ 1000000) : ∃ s : Sl, v = s.val ∧ s.len = xs.length ∧ Cm (fun k => base ≤ k) w s xs := by
  rcases h.2 with ⟨hv, h0⟩ | ⟨g, cap, cur, hv, hbg, hg, hle, hr⟩
  · have : xs = [] := List.eq_nil_of_length_eq_zero h0
    subst this
    exact ⟨Sl.nil, hv, rfl, ⟨⟨⟨rfl, hx, fun i hi => absurd hi (Nat.not_lt_zero _)⟩, fun _ => rfl, Nat.le_refl _, by decide⟩, fun _ h _ => (by cases h)⟩⟩
  · refine ⟨⟨some ⟨g, 0, none⟩, xs.length, cap⟩, hv, rfl, ?_⟩
    rw [hv] at h
    refine ⟨⟨(h.row hx).2, (fun e => by cases e), hle, by show xs.length ≤ _; omega⟩, fun ad ha _ => ?_⟩
    cases ha
    exact hbg
end Go.Proofs.Ytjgeiooblcpiaaa
