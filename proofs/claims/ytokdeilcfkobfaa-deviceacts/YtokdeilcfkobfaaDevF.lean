/-
  The document's device: rows of parts, and those that a call has made itself.
-/
import Derived.Test.YtokdeilcfkobfaaDevE
namespace Go.Proofs.Ytokdeilcfkobfaa
open Go.RowKit
variable {K : Home}

theorem infoPt : (Try.prog.info? 81).map (fun i => (i.zero, i.size, i.bytes)) = some (some (.agg #[.int .i64 0, .slice none 0 0, .bool false, .int .i64 0]), 4, 48) := by kernel_rfl

/-- A part with its slice: its cells, and those of a row of them. -/
structure PtS where
  u : Pt
  q : Sl
def ptD : PtS := ⟨⟨0, [], false, 0⟩, Sl.nil⟩
def PtS.cells (i : PtS) : List Value := [.int .i64 i.u.at_, i.q.val, .bool i.u.trim, .int .i64 i.u.to]
def ptVals (l : List PtS) : List Value := l.flatMap PtS.cells

/-- A part lies there. -/
def RowP (w : World) (b : Nat) : Prop := ∃ C fr, w.heap[b]? = some (Obj.cells C 81 fr)
def PtAt (w : World) (b o : Nat) (i : PtS) : Prop := w.cell? ⟨b, o, none⟩ = some (.int .i64 i.u.at_) ∧ w.cell? ⟨b, o + 1, none⟩ = some i.q.val ∧ w.cell? ⟨b, o + 2, none⟩ = some (.bool i.u.trim) ∧ w.cell? ⟨b, o + 3, none⟩ = some (.int .i64 i.u.to) ∧ RowP w b
/-- Its bytes lie where its slice leads, and its numbers are numbers. -/
def PtS.ok (K : Home) (w : World) (i : PtS) : Prop := BsS K w i.q i.u.b ∧ (Lit.int .i64 i.u.at_).wf = true ∧ (Lit.int .i64 i.u.to).wf = true
/-- The parts l lie where a slice of that length begins. -/
def Ps (K : Home) (w : World) (a : Option Addr) (len : Nat) (l : List PtS) : Prop :=
  l.length = len ∧ (∀ i ∈ l, PtS.ok K w i) ∧ ∀ j, j < len → ∃ b off, a = some ⟨b, off, none⟩ ∧ PtAt w b (off + j * 4) (l.getD j ptD)

theorem PtS.ok.keep {w w' : World} {B : Nat} {i : PtS} (h : PtS.ok K w i) (hb : Below B w w') (hB : w.heap.size ≤ B) : PtS.ok K w' i := ⟨h.1.keep hb hB, h.2⟩
theorem Ps.keep {w w' : World} {B : Nat} {a : Option Addr} {len : Nat} {l : List PtS} (h : Ps K w a len l) (hb : Below B w w') (hB : w.heap.size ≤ B) : Ps K w' a len l := by
  refine ⟨h.1, fun i hi => (h.2.1 i hi).keep hb hB, fun j hj => ?_⟩
  obtain ⟨b, off, ha, c0, c1, c2, c3, C4, fr4, c4⟩ := h.2.2 j hj
  have hlt := Nat.lt_of_lt_of_le (World.block_lt_of_cell? w _ c0) hB
  exact ⟨b, off, ha, (hb.cell hlt).trans c0, (hb.cell (p := ⟨b, off + j * 4 + 1, none⟩) hlt).trans c1, (hb.cell (p := ⟨b, off + j * 4 + 2, none⟩) hlt).trans c2, (hb.cell (p := ⟨b, off + j * 4 + 3, none⟩) hlt).trans c3, C4, fr4, (hb.block b hlt).trans c4⟩
theorem Ps.okAt {w : World} {a : Option Addr} {len : Nat} {l : List PtS} (h : Ps K w a len l) (j : Nat) (hj : j < len) : PtS.ok K w (l.getD j ptD) := by
  have hj' : j < l.length := by rw [h.1]; exact hj
  have := h.2.1 _ (List.getElem_mem hj')
  simpa [List.getD, hj'] using this


theorem ptVals_length : ∀ l, (ptVals l).length = l.length * 4
  | [] => rfl
  | i :: r => by
    have := ptVals_length r
    simp only [ptVals, List.flatMap_cons, List.length_append, List.length_cons] at *
    rw [this]
    simp [PtS.cells]
    omega

theorem ptVals_append (l m : List PtS) : ptVals (l ++ m) = ptVals l ++ ptVals m := by simp [ptVals]

theorem ptVals_one (l : List PtS) : ∀ u ∈ ptVals l, u.oneCell' = true := by
  intro u hu
  obtain ⟨i, _, hi⟩ := List.mem_flatMap.1 hu
  simp only [PtS.cells, List.mem_cons, List.mem_nil_iff, or_false] at hi
  rcases hi with rfl | rfl | rfl | rfl <;> rfl

theorem ptVals_get : ∀ (l : List PtS) (j t : Nat), j < l.length → t < 4 → (ptVals l)[j * 4 + t]? = (l.getD j ptD).cells[t]?
  | i :: r, 0, t, _, ht => by
    simp only [ptVals, List.flatMap_cons]
    rw [List.getElem?_append_left (by simp [PtS.cells]; omega)]
    simp
  | i :: r, j + 1, t, hj, ht => by
    have := ptVals_get r j t (by simpa using hj) ht
    simp only [ptVals, List.flatMap_cons] at *
    rw [List.getElem?_append_right (by simp [PtS.cells]; omega)]
    have e : (j + 1) * 4 + t - i.cells.length = j * 4 + t := by simp [PtS.cells]; omega
    rw [e, this]
    simp [List.getD]

/-- The slice is the call's own, and holds the parts l. -/
def OwnsP (w : World) (base : Nat) (v : Value) (l : List PtS) : Prop := w.ownsRow base 81 4 v l.length (ptVals l)

theorem OwnsP.nil (w : World) (base : Nat) : OwnsP w base (.slice none 0 0) [] := ⟨rfl, .inl ⟨rfl, rfl⟩⟩

theorem OwnsP.new (w : World) : OwnsP (w.alloc (.cells #[] 81)) w.heap.size (.slice (some ⟨w.heap.size, 0, none⟩) 0 0) [] := by
  have := World.ownsRow_lit (base := w.heap.size) (e := 81) (size := 4) w #[] 0 (Nat.le_refl _) (by unfold maxLen; omega) (by simp)
  simpa [OwnsP, ptVals] using this

theorem OwnsP.keep {w w' : World} {B base : Nat} {v : Value} {l : List PtS} (h : OwnsP w base v l) (hb : Below B w w') (hB : w.heap.size ≤ B) : OwnsP w' base v l := by
  refine ⟨h.1, ?_⟩
  rcases h.2 with hn | ⟨g, cap, cur, hv, hbg, hg, rest⟩
  · exact .inl hn
  · refine .inr ⟨g, cap, cur, hv, hbg, ?_, rest⟩
    rw [hb.block g (Nat.lt_of_lt_of_le (Array.getElem?_eq_some_iff.1 hg).1 hB)]
    exact hg

theorem OwnsP.is {w : World} {base : Nat} {v : Value} {l : List PtS} (h : OwnsP w base v l) (hf : ∀ i ∈ l, PtS.ok K w i) : ∃ a cap, v = .slice a l.length cap ∧ Ps K w a l.length l ∧ (a = none → cap = 0) ∧ l.length ≤ cap := by
  rcases h.2 with ⟨hv, h0⟩ | ⟨g, cap, cur, hv, hbg, hg, hle, hr⟩
  · refine ⟨none, 0, by rw [h0]; exact hv, ⟨rfl, hf, fun j hj => by omega⟩, fun _ => rfl, by omega⟩
  · refine ⟨some ⟨g, 0, none⟩, cap, hv, ⟨rfl, hf, fun j hj => ⟨g, 0, rfl, ?_⟩⟩, (fun e => by cases e), hle⟩
    rw [hv] at h
    have hc : ∀ t, t < 4 → w.cell? ⟨g, 0 + j * 4 + t, none⟩ = (l.getD j ptD).cells[t]? := by
      intro t ht
      have := World.ownsRow.cellAt h (j * 4 + t) (by omega)
      rw [Nat.zero_add, this, ptVals_get l j t hj ht]
    exact ⟨hc 0 (by omega), hc 1 (by omega), hc 2 (by omega), hc 3 (by omega), _, _, hg⟩

/-- Blocks that do not hold parts stay as they are. -/
def StayP (w w' : World) : Prop := ∀ (p : Nat) (C : Array Value) (t : TypeId) (fr : Nat × Nat), w.heap[p]? = some (Obj.cells C t fr) → t ≠ 81 → w'.heap[p]? = w.heap[p]?

theorem StayP.trans {a b c : World} (h : StayP a b) (k : StayP b c) : StayP a c := fun p C t fr hp ht => (k p C t fr ((h p C t fr hp ht).trans hp) ht).trans (h p C t fr hp ht)
theorem StayP.below {w w' : World} (h : Below w.heap.size w w') : StayP w w' := fun p _ _ _ hp _ => h.block p (Array.getElem?_eq_some_iff.1 hp).1

theorem OwnsP.ne {w : World} {base : Nat} {v : Value} {l : List PtS} (h : OwnsP w base v l) {p : Nat} {C : Array Value} {t : TypeId} {fr : Nat × Nat} (hp : w.heap[p]? = some (Obj.cells C t fr)) (ht : t ≠ 81) : v.ownBlock ≠ some p := by
  intro e
  rcases h.2 with ⟨hv, _⟩ | ⟨g, cap, cur, hv, _, hg, _⟩
  · rw [hv] at e
    cases e
  · rw [hv] at e
    simp [Value.ownBlock] at e
    subst e
    rw [hg] at hp
    simp only [Option.some.injEq, Obj.cells.injEq] at hp
    exact ht hp.2.1.symm

theorem run_append_parts (w : World) (ty : TypeId) (base : Nat) (v : Value) (l : List PtS) (hown : OwnsP w base v l) (ao : Option Addr) (len cap : Nat) (m : List PtS) (hb : Ps K w ao len m) (hn : ao = none → cap = 0)
    (hlen : l.length + len ≤ 1000000) (hbase : base ≤ w.heap.size) :
    ∃ v' w', (Builtin.append_ #[33, 33] ty #[v, .slice ao len cap]).run Try.prog w = .ok v' w' ∧ OwnsP w' base v' (l ++ m) ∧ Below base w w' ∧ StayP w w' ∧ (∀ p, p < w.heap.size → v.ownBlock ≠ some p → w'.heap[p]? = w.heap[p]?) := by
  obtain ⟨i0, hi, hz0, hz1, hz2⟩ := info_parts infoPt
  have hrow : ∀ k, v.ownBlock = some k → base ≤ k := fun k hk => (World.ownsRow.lt hown k hk).1
  have hyl := hb.1
  cases ao with
  | none =>
    obtain rfl := hn rfl
    have h0 : len = 0 := by
      rcases Nat.eq_zero_or_pos len with h | h
      · exact h
      · obtain ⟨_, _, e, _⟩ := hb.2.2 0 h
        cases e
    subst h0
    have hy : m = [] := List.eq_nil_of_length_eq_zero hyl
    subst hy
    have hrun := run_append_owned_none (P := Try.prog) (w := w) base 33 ty 81 i0 4 Try.underlying33 hi v l.length (ptVals l) hown
    exact ⟨v, w, hrun, by simpa using hown, Below.refl _ _, fun _ _ _ _ _ _ => rfl, fun _ _ _ => rfl⟩
  | some ad =>
    have hcells : ∀ j u, (ptVals m)[j]? = some u → w.cell? (ad.add j) = some u := by
      intro j u hj
      have hjl : j < m.length * 4 := by
        have := (List.getElem?_eq_some_iff.1 hj).1
        rw [ptVals_length] at this
        exact this
      obtain ⟨b, off, e, c0, c1, c2, c3, _⟩ := hb.2.2 (j / 4) (by omega)
      obtain rfl := Option.some.inj e
      have hg := ptVals_get m (j / 4) (j % 4) (by omega) (by omega)
      rw [show j / 4 * 4 + j % 4 = j by omega, hj] at hg
      rw [Addr.add_lit]
      have hm4 : j % 4 = 0 ∨ j % 4 = 1 ∨ j % 4 = 2 ∨ j % 4 = 3 := by omega
      rcases hm4 with e4 | e4 | e4 | e4 <;> rw [e4] at hg
      · rw [show off + j = off + j / 4 * 4 by omega, c0, hg]; rfl
      · rw [show off + j = off + j / 4 * 4 + 1 by omega, c1, hg]; rfl
      · rw [show off + j = off + j / 4 * 4 + 2 by omega, c2, hg]; rfl
      · rw [show off + j = off + j / 4 * 4 + 3 by omega, c3, hg]; rfl
    obtain ⟨v', w', hrun, ho, hg, _⟩ := run_append_own (P := Try.prog) w base 33 ty 81 i0 (.agg #[.int .i64 0, .slice none 0 0, .bool false, .int .i64 0]) 4 48 Try.underlying33 hi hz0 hz1 hz2 rfl (by decide) v l.length (ptVals l) hown ad len cap (ptVals m) (by rw [ptVals_length, hyl]) hcells (ptVals_one m)
      (by unfold maxLen; omega) (by omega) hbase
    refine ⟨v', w', hrun, ?_, (Below.refl base w).grown hg hbase hrow, fun p C t fr hp ht => hg.block p (Array.getElem?_eq_some_iff.1 hp).1 (hown.ne hp ht).symm, fun p hp hn => hg.block p hp hn.symm⟩
    unfold OwnsP
    rw [List.length_append, hyl, ptVals_append]
    exact ho

theorem wpList_append_parts (w : World) {ops : Array Oper} {rest : List Oper} {o : Oper} {a : Act} {Q : Exit → Act → World → Prop} (hgd : o.guard = none) (s x : Operand)
    (ho : o.op = .call { callee := .builtin .append, args := #[s, x], argTypes := #[33, 33] }) (base : Nat) (v : Value) (l : List PtS) (hs : a.eval s = v) (hown : OwnsP w base v l)
    (ao : Option Addr) (len cap : Nat) (m : List PtS) (hx : a.eval x = .slice ao len cap) (hb : Ps K w ao len m) (hn : ao = none → cap = 0)
    (hlen : l.length + len ≤ 1000000) (hbase : base ≤ w.heap.size)
    (hK : ∀ v' w', OwnsP w' base v' (l ++ m) → Below base w w' → StayP w w' → wpList Try.prog ops Q rest (a.put o.dst v') w') : wpList Try.prog ops Q (o :: rest) a w := by
  refine wpList_plain hgd fun K hK' => ?_
  obtain ⟨v', w', hrun, r1, r2, r3, _⟩ := run_append_parts w o.type base v l hown ao len cap m hb hn hlen hbase
  unfold Oper.wp
  simp [execOp, ho, resolve, invoke, builtin, hs, hx, hrun, Result.andThen]
  exact hK' _ _ (hK v' w' r1 r2 r3)

/-- One part, laid as a row. -/
theorem ps_one (w : World) (i : PtS) (hf : PtS.ok K w i) : Ps K (w.alloc (.cells #[.int .i64 i.u.at_, i.q.val, .bool i.u.trim, .int .i64 i.u.to] 81)) (some ⟨w.heap.size, 0, none⟩) 1 [i] := by
  have hn := ptBlk_new w i.u.at_ i.q.val i.u.trim i.u.to
  refine ⟨rfl, fun x hx => by simp at hx; rw [hx]; exact hf.keep (below_alloc _ _) (Nat.le_refl _), fun j hj => ?_⟩
  obtain rfl : j = 0 := by omega
  exact ⟨w.heap.size, 0, rfl, hn.c0, hn.c1, hn.c2, hn.c3, _, _, hn⟩

end Go.Proofs.Ytokdeilcfkobfaa
