/-
  Layer 8: rows of slots and of numbers of the call's own; the document's with and Set.
-/
import Derived.Test.YtgieigpbbkeonaaLfE
namespace Go.Proofs.Ytgieigpbbkeonaa
open Go.RowKit

theorem infoBs1 : (Try.prog.info? 28).map (fun i => (i.zero, i.size, i.bytes)) = some (some (.slice none 0 0), 1, 24) := by kernel_rfl
def cellsB (l : List Sb) : List Value := l.map fun x => x.s.val
theorem cellsB_one (l : List Sb) : ∀ u ∈ cellsB l, u.oneCell' = true := by
  intro u hu
  obtain ⟨i, _, rfl⟩ := List.mem_map.1 hu
  rfl
theorem cellsB_get {l : List Sb} {i : Nat} (h : i < l.length) : (cellsB l)[i]? = some (l.getD i Sb.zero).s.val := by simp [cellsB, List.getD, h]
theorem cellsB_length (l : List Sb) : (cellsB l).length = l.length := by simp [cellsB]
/-- A row of slots that the call has made. -/
def OwnB (w : World) (v : Sl) (l : List Sb) : Prop := Own 28 1 w v (cellsB l)
theorem OwnB.len {w : World} {v : Sl} {l : List Sb} (h : OwnB w v l) : l.length = v.len := by
  have := h.1
  rw [cellsB_length] at this
  omega
theorem OwnB.new (w : World) : OwnB (w.alloc (.cells #[] 28)) ⟨some ⟨w.heap.size, 0, none⟩, 0, 0⟩ [] :=
  ⟨rfl, .inr ⟨w.heap.size, 0, _, rfl, heap_alloc_new w _, by simp, Nat.le_refl _, by simp, rfl⟩⟩
theorem OwnB.cellAt {w : World} {v : Sl} {l : List Sb} (h : OwnB w v l) {g off : Nat} (ha : v.a = some ⟨g, off, none⟩) {i : Nat} (hi : i < v.len) : w.cell? ⟨g, off + i, none⟩ = some (l.getD i Sb.zero).s.val := by
  have := h.cell ha i _ (cellsB_get (by rw [h.len]; exact hi))
  rwa [Addr.add_lit] at this
theorem OwnB.frozen {w : World} {v : Sl} {l : List Sb} (h : OwnB w v l) {g off : Nat} (ha : v.a = some ⟨g, off, none⟩) (o : Nat) : w.frozen? ⟨g, o, none⟩ = false := by
  obtain ⟨cur, hc⟩ := h.kind (k := g) (by rw [Sl.blk, ha]; rfl)
  exact frozen_of_row w g _ cur 28 hc
theorem OwnB.pos {w : World} {v : Sl} {l : List Sb} (h : OwnB w v l) (hp : 0 < v.len) : ∃ g off, v.a = some ⟨g, off, none⟩ := by
  rcases h.2 with ⟨h0, _⟩ | ⟨g, off, cur, ha, _⟩
  · rw [h0] at hp; exact absurd hp (Nat.not_lt_zero _)
  · exact ⟨g, off, ha⟩
theorem OwnB.gb {D : Nat → Prop} {w : World} {v : Sl} {l : List Sb} (h : OwnB w v l) (hb : ∀ x ∈ l, Cm D w x.s x.bs ∧ x.bs.length ≤ 1000) (hD : ∀ k, v.blk = some k → D k) (hm : v.len ≤ 1000) : Gb D w v l := by
  refine ⟨h.len, h.nilcap, h.lecap, hm, fun ad ha _ => hD _ (by rw [Sl.blk, ha]; rfl), fun i hi => ?_, hb⟩
  obtain ⟨g, off, ha⟩ := h.pos (by omega)
  exact ⟨g, off, ha, h.cellAt ha hi⟩
theorem Gb.src {D : Nat → Prop} {w : World} {v : Sl} {l : List Sb} (h : Gb D w v l) : Src Try.prog 1 23 v.val v.len (cellsB l) w := by
  obtain ⟨a, len, cap⟩ := v
  have hl : l.length = len := h.len
  cases a with
  | none =>
    have hc : cap = 0 := h.nil rfl
    have h0 : len = 0 := by have : len ≤ cap := h.le; omega
    subst hc; subst h0
    have : l = [] := List.eq_nil_of_length_eq_zero hl
    subst this
    exact Src.ofNil w Try.underlying23 0
  | some ad =>
    refine Src.ofSlice w Try.underlying23 ad len cap (cellsB l) (by rw [cellsB_length, hl, Nat.mul_one]) (fun j u hj => ?_) (cellsB_one l)
    have hjl : j < l.length := by
      have := (List.getElem?_eq_some_iff.1 hj).1
      rwa [cellsB_length] at this
    obtain ⟨b, off, e, c0⟩ := h.cell j (by show j < len; omega)
    obtain rfl := Option.some.inj e
    rw [Addr.add_lit, c0, ← cellsB_get hjl, hj]
/-- append([][]byte{}, s...): a row of the call's own. -/
theorem append_newB {D : Nat → Prop} (w : World) (v : Sl) (l : List Sb) (h : Gb D w v l) (ty : TypeId) :
    ∃ v' w', (Builtin.append_ #[23, 23] ty #[.slice (some ⟨w.heap.size, 0, none⟩) 0 0, v.val]).run Try.prog (w.alloc (.cells #[] 28)) = .ok v'.val w' ∧ OwnB w' v' l ∧ v'.len = v.len ∧ Below w.heap.size w w' ∧ ∀ k, v'.blk = some k → w.heap.size ≤ k := by
  have hB := below_alloc w (.cells #[] 28)
  have h1 := (h.below hB (Nat.le_refl _)).src
  obtain ⟨v', w', hrun, ho, hlen, hf, hbk⟩ := own_append Try.underlying23 infoBs1 rfl (by decide) _ ⟨some ⟨w.heap.size, 0, none⟩, 0, 0⟩ [] (OwnB.new w) (fun _ h => by cases h) _ v.len (cellsB l) h1 (by have := h.big; show 0 + v.len ≤ _; omega) ty
  refine ⟨v', w', hrun, ho, by rw [hlen]; exact Nat.zero_add _, hB.trans (hf.below hB.size (fun k hk => ?_)), fun k hk => ?_⟩
  · have : some w.heap.size = some k := hk
    cases this
    exact Nat.le_refl _
  · rcases hbk with e | ⟨e, _⟩
    · rw [e] at hk
      have : some w.heap.size = some k := hk
      cases this
      exact Nat.le_refl _
    · rw [e] at hk
      cases hk
      exact hB.size
section
variable {ops : Array Oper} {rest : List Oper} {o : Oper} {a : Act} {Q : Exit → Act → World → Prop}
theorem wpList_append_newB {D : Nat → Prop} (w : World) (hgd : o.guard = none) (s y : Operand) (ho : o.op = .call { callee := .builtin .append, args := #[s, y], argTypes := #[23, 23] }) (v : Sl) (l : List Sb) (hs : a.eval s = .slice (some ⟨w.heap.size, 0, none⟩) 0 0) (hy : a.eval y = v.val) (h : Gb D w v l)
    (hK : ∀ v' w', OwnB w' v' l → v'.len = v.len → Below w.heap.size w w' → (∀ k, v'.blk = some k → w.heap.size ≤ k) → wpList Try.prog ops Q rest (a.put o.dst v'.val) w') : wpList Try.prog ops Q (o :: rest) a (w.alloc (.cells #[] 28)) := by
  refine wpList_plain hgd fun K hK' => ?_
  obtain ⟨v', w', hrun, r1, r2, r3, r4⟩ := append_newB w v l h o.type
  unfold Oper.wp
  simp [execOp, ho, resolve, invoke, builtin, hs, hy, hrun, Result.andThen]
  exact hK' _ _ (hK v' w' r1 r2 r3 r4)
end
/-- A cell of a row turns. -/
theorem Own.setCell {e : TypeId} {z : Nat} {w : World} {s : Sl} {vs : List Value} (h : Own e z w s vs) {g off : Nat} (ha : s.a = some ⟨g, off, none⟩) (j : Nat) (u : Value) : Own e z (w.setCell ⟨g, off + j, none⟩ u) s (vs.set j u) := by
  refine ⟨by rw [List.length_set]; exact h.1, ?_⟩
  rcases h.2 with ⟨h0, _⟩ | ⟨g', off', cur, ha', hg, hoc, hlc, hcm, ht⟩
  · rw [h0] at ha; cases ha
  · rw [ha] at ha'
    simp only [Option.some.injEq, Addr.mk.injEq, and_true] at ha'
    obtain ⟨rfl, rfl⟩ := ha'
    refine .inr ⟨g, off, _, ha, heap_setCell_same w g (off + j) cur e u hg, by simpa using hoc, hlc, hcm, ?_⟩
    rw [Array.toList_setIfInBounds, List.drop_set, if_neg (by omega), Nat.add_sub_cancel_left, List.take_set, ht]
theorem cellsB_set (l : List Sb) (i : Nat) (x : Sb) : cellsB (l.set i x) = (cellsB l).set i x.s.val := by simp [cellsB, List.map_set]
theorem bss_set (l : List Sb) (i : Nat) (x : Sb) : bss (l.set i x) = (bss l).set i x.bs := by simp [bss, List.map_set]
/-- A slot is laid there, told without its words. -/
theorem st_slot (w : World) (g off len cap : Nat) (l : List Sb) (o : OwnB w ⟨some ⟨g, off, none⟩, len, cap⟩ l) (i : Nat) (hi : i < len) (x : Sb) : ∃ W, (Instr.storeAt 28 (.pointer (some ⟨g, off + i, none⟩)) x.s.val).run Try.prog w = .ok () W ∧ OwnB W ⟨some ⟨g, off, none⟩, len, cap⟩ (l.set i x) ∧ Frm (fun k => k = g) w W := by
  have k0 := o.cellAt rfl hi
  have f0 := o.frozen rfl (off + i)
  refine ⟨w.setCell ⟨g, off + i, none⟩ x.s.val, ?_, ?_, (Frm.refl (fun k => k = g) w).setCell (p := ⟨g, off + i, none⟩) rfl _⟩
  · obtain ⟨⟨sa, sl, sc⟩, bs⟩ := x
    unfold Sl.val at *
    simp [go_sem, Instr.storeAt, k0, f0]
  · unfold OwnB
    rw [cellsB_set]
    exact Own.setCell o rfl i _

/-- A leaf laid over a leaf; its slots laid over its slots; told without their words. -/
theorem LfBlk.off {w W : World} {p q : Nat} {u v : Value} (k : LfBlk w p u v) (hf : Frm (fun k => k = q) w W) (hne : p ≠ q) : LfBlk W p u v := (hf.block _ k.lt hne).trans k
theorem st_lf (w : World) (p : Nat) (u0 v0 : Value) (k : LfBlk w p u0 v0) (u v : Sl) : ∃ W, (Instr.storeAt 25 (.pointer (some ⟨p, 0, none⟩)) (lfV u v)).run Try.prog w = .ok () W ∧ LfBlk W p u.val v.val ∧ Frm (fun k => k = p) w W := by
  have c0 := k.c0
  have c1 := k.c1
  have f0 := k.fz 0
  have f1 := k.fz 1
  refine ⟨(w.setCell ⟨p, 0, none⟩ u.val).setCell ⟨p, 1, none⟩ v.val, ?_, ?_, ((Frm.refl (fun k => k = p) w).setCell (p := ⟨p, 0, none⟩) rfl _).setCell (p := ⟨p, 1, none⟩) rfl _⟩
  · obtain ⟨ua, ul, uc⟩ := u
    obtain ⟨va, vl, vc⟩ := v
    unfold lfV Sl.val
    simp [go_sem, Instr.storeAt, c0, c1, f0, f1]
  · have h1 := heap_setCell_same w p 0 _ 25 u.val k
    have h2 := heap_setCell_same _ p 1 _ 25 v.val h1
    unfold LfBlk
    rw [h2]
    simp
theorem st_slots (w : World) (p : Nat) (u0 v0 : Value) (k : LfBlk w p u0 v0) (v : Sl) : ∃ W, (Instr.storeAt 23 (.pointer (some ⟨p, 1, none⟩)) v.val).run Try.prog w = .ok () W ∧ LfBlk W p u0 v.val ∧ Frm (fun k => k = p) w W := by
  have c1 := k.c1
  have f1 := k.fz 1
  refine ⟨w.setCell ⟨p, 1, none⟩ v.val, ?_, ?_, (Frm.refl (fun k => k = p) w).setCell (p := ⟨p, 1, none⟩) rfl _⟩
  · obtain ⟨va, vl, vc⟩ := v
    unfold Sl.val
    simp [go_sem, Instr.storeAt, c1, f1]
  · have h2 := heap_setCell_same _ p 1 _ 25 v.val k
    unfold LfBlk
    rw [h2]
    simp
theorem lf_results {fn : Func} {x : Nat} (hr : fn.results = #[.cell x 25]) {W : World} {g : Nat} {u v : Sl} (k : LfBlk W g u.val v.val) (tmps : Array Value) (ht : tmps.getD x undef = .pointer (some ⟨g, 0, none⟩)) : (results fn tmps).run Try.prog W = .ok (lfV u v) W := by
  have c0 := k.c0
  have c1 := k.c1
  unfold lfV Sl.val at *
  have ht2 : tmps[x]?.getD undef = .pointer (some ⟨g, 0, none⟩) := by simpa using ht
  simp [results, hr, ht2, go_sem, c0, c1]
theorem lf_results1 {fn : Func} {x y : Nat} (hr : fn.results = #[.cell x 25, .tmp y]) {W : World} {g : Nat} {u v : Sl} (k : LfBlk W g u.val v.val) (tmps : Array Value) (ht : tmps.getD x undef = .pointer (some ⟨g, 0, none⟩)) {z : Value} (hy : tmps.getD y undef = z) : (results fn tmps).run Try.prog W = .ok (.tuple #[lfV u v, z]) W := by
  have c0 := k.c0
  have c1 := k.c1
  unfold lfV Sl.val at *
  have ht2 : tmps[x]?.getD undef = .pointer (some ⟨g, 0, none⟩) := by simpa using ht
  have hy2 : tmps[y]?.getD undef = z := by simpa using hy
  simp [results, hr, ht2, hy2, go_sem, c0, c1]

end Go.Proofs.Ytgieigpbbkeonaa
