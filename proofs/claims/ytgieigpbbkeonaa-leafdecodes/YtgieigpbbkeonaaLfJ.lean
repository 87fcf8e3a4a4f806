/-
  Layer 8: rows of numbers of the call's own; the document's Join, where the writer is none.
-/
import Derived.Test.YtgieigpbbkeonaaLfI
namespace Go.Proofs.Ytgieigpbbkeonaa
open Go.RowKit

theorem infoIn1 : (Try.prog.info? 3).map (fun i => (i.zero, i.size, i.bytes)) = some (some (.int .i64 0), 1, 8) := by kernel_rfl
def cellsN (t : List Int) : List Value := t.map fun x => .int .i64 x
theorem cellsN_one (t : List Int) : ∀ u ∈ cellsN t, u.oneCell' = true := by
  intro u hu
  obtain ⟨i, _, rfl⟩ := List.mem_map.1 hu
  rfl
theorem cellsN_length (t : List Int) : (cellsN t).length = t.length := by simp [cellsN]
theorem cellsN_get {t : List Int} {i : Nat} (h : i < t.length) : (cellsN t)[i]? = some (.int .i64 (t.getD i 0)) := by simp [cellsN, List.getD, h]
theorem cellsN_set (t : List Int) (i : Nat) (x : Int) : cellsN (t.set i x) = (cellsN t).set i (.int .i64 x) := by simp [cellsN, List.map_set]
/-- A row of numbers that the call has made. -/
def OwnN (w : World) (v : Sl) (t : List Int) : Prop := Own 3 1 w v (cellsN t)
theorem OwnN.len {w : World} {v : Sl} {t : List Int} (h : OwnN w v t) : t.length = v.len := by
  have := h.1
  rw [cellsN_length] at this
  omega
theorem OwnN.new (w : World) : OwnN (w.alloc (.cells #[] 3)) ⟨some ⟨w.heap.size, 0, none⟩, 0, 0⟩ [] :=
  ⟨rfl, .inr ⟨w.heap.size, 0, _, rfl, heap_alloc_new w _, by simp, Nat.le_refl _, by simp, rfl⟩⟩
theorem OwnN.cellAt {w : World} {v : Sl} {t : List Int} (h : OwnN w v t) {g off : Nat} (ha : v.a = some ⟨g, off, none⟩) {i : Nat} (hi : i < v.len) : w.cell? ⟨g, off + i, none⟩ = some (.int .i64 (t.getD i 0)) := by
  have := Own.cell h ha i _ (cellsN_get (by rw [h.len]; exact hi))
  rwa [Addr.add_lit] at this
theorem OwnN.frozen {w : World} {v : Sl} {t : List Int} (h : OwnN w v t) {g off : Nat} (ha : v.a = some ⟨g, off, none⟩) (o : Nat) : w.frozen? ⟨g, o, none⟩ = false := by
  obtain ⟨cur, hc⟩ := Own.kind h (k := g) (by rw [Sl.blk, ha]; rfl)
  exact frozen_of_row w g _ cur 3 hc
theorem OwnN.pos {w : World} {v : Sl} {t : List Int} (h : OwnN w v t) (hp : 0 < v.len) : ∃ g off, v.a = some ⟨g, off, none⟩ := by
  rcases h.2 with ⟨h0, _⟩ | ⟨g, off, cur, ha, _⟩
  · rw [h0] at hp; exact absurd hp (Nat.not_lt_zero _)
  · exact ⟨g, off, ha⟩
theorem OwnN.gi {D : Nat → Prop} {w : World} {v : Sl} {t : List Int} (h : OwnN w v t) (hD : ∀ k, v.blk = some k → D k) (hm : v.len ≤ 1000000) : Gi D w v t := by
  refine ⟨h.len, Own.nilcap h, Own.lecap h, hm, fun ad ha _ => hD _ (by rw [Sl.blk, ha]; rfl), fun i hi => ?_⟩
  obtain ⟨g, off, ha⟩ := h.pos (by omega)
  exact ⟨g, off, ha, h.cellAt ha hi⟩
theorem Gi.src {D : Nat → Prop} {w : World} {v : Sl} {t : List Int} (h : Gi D w v t) : Src Try.prog 1 22 v.val v.len (cellsN t) w := by
  obtain ⟨a, len, cap⟩ := v
  have hl : t.length = len := h.len
  cases a with
  | none =>
    have hc : cap = 0 := h.nil rfl
    have h0 : len = 0 := by have : len ≤ cap := h.le; omega
    subst hc; subst h0
    have : t = [] := List.eq_nil_of_length_eq_zero hl
    subst this
    exact Src.ofNil w Try.underlying22 0
  | some ad =>
    refine Src.ofSlice w Try.underlying22 ad len cap (cellsN t) (by rw [cellsN_length, hl, Nat.mul_one]) (fun j u hj => ?_) (cellsN_one t)
    have hjl : j < t.length := by
      have := (List.getElem?_eq_some_iff.1 hj).1
      rwa [cellsN_length] at this
    obtain ⟨b, off, e, c0⟩ := h.cell j (by show j < len; omega)
    obtain rfl := Option.some.inj e
    rw [Addr.add_lit, c0, ← cellsN_get hjl, hj]
/-- append([]int{}, s...): a row of the call's own. -/
theorem append_newN {D : Nat → Prop} (w : World) (v : Sl) (t : List Int) (h : Gi D w v t) (ty : TypeId) :
    ∃ v' w', (Builtin.append_ #[22, 22] ty #[.slice (some ⟨w.heap.size, 0, none⟩) 0 0, v.val]).run Try.prog (w.alloc (.cells #[] 3)) = .ok v'.val w' ∧ OwnN w' v' t ∧ v'.len = v.len ∧ Below w.heap.size w w' ∧ ∀ k, v'.blk = some k → w.heap.size ≤ k := by
  have hB := below_alloc w (.cells #[] 3)
  have h1 := (h.below hB (Nat.le_refl _)).src
  obtain ⟨v', w', hrun, ho, hlen, hf, hbk⟩ := own_append Try.underlying22 infoIn1 rfl (by decide) _ ⟨some ⟨w.heap.size, 0, none⟩, 0, 0⟩ [] (OwnN.new w) (fun _ h => by cases h) _ v.len (cellsN t) h1 (by have := h.big; show 0 + v.len ≤ _; omega) ty
  refine ⟨v', w', hrun, ho, by rw [hlen]; exact Nat.zero_add _, hB.trans (hf.below hB.size (fun k hk => ?_)), fun k hk => ?_⟩
  · have : some w.heap.size = some k := hk
    cases this
    exact Nat.le_refl _
  · rcases hbk with e | ⟨e, _⟩
    · rw [e] at hk
      have : some w.heap.size = some k := hk
      cases this
      exact Nat.le_refl _
    · rw [e] at hk
      cases hk
      exact hB.size
section
variable {ops : Array Oper} {rest : List Oper} {o : Oper} {a : Act} {Q : Exit → Act → World → Prop}
theorem wpList_append_newN {D : Nat → Prop} (w : World) (hgd : o.guard = none) (s y : Operand) (ho : o.op = .call { callee := .builtin .append, args := #[s, y], argTypes := #[22, 22] }) (v : Sl) (t : List Int) (hs : a.eval s = .slice (some ⟨w.heap.size, 0, none⟩) 0 0) (hy : a.eval y = v.val) (h : Gi D w v t)
    (hK : ∀ v' w', OwnN w' v' t → v'.len = v.len → Below w.heap.size w w' → (∀ k, v'.blk = some k → w.heap.size ≤ k) → wpList Try.prog ops Q rest (a.put o.dst v'.val) w') : wpList Try.prog ops Q (o :: rest) a (w.alloc (.cells #[] 3)) := by
  refine wpList_plain hgd fun K hK' => ?_
  obtain ⟨v', w', hrun, r1, r2, r3, r4⟩ := append_newN w v t h o.type
  unfold Oper.wp
  simp [execOp, ho, resolve, invoke, builtin, hs, hy, hrun, Result.andThen]
  exact hK' _ _ (hK v' w' r1 r2 r3 r4)
end
/-- A number is laid there; a leaf's parts laid over its parts; told without their words. -/
theorem st_num (w : World) (g off len cap : Nat) (t : List Int) (o : OwnN w ⟨some ⟨g, off, none⟩, len, cap⟩ t) (i : Nat) (hi : i < len) (x : Int) : ∃ W, (Instr.storeAt 3 (.pointer (some ⟨g, off + i, none⟩)) (.int .i64 x)).run Try.prog w = .ok () W ∧ OwnN W ⟨some ⟨g, off, none⟩, len, cap⟩ (t.set i x) ∧ Frm (fun k => k = g) w W := by
  have k0 := o.cellAt rfl hi
  have f0 := o.frozen rfl (off + i)
  refine ⟨w.setCell ⟨g, off + i, none⟩ (.int .i64 x), ?_, ?_, (Frm.refl (fun k => k = g) w).setCell (p := ⟨g, off + i, none⟩) rfl _⟩
  · simp [go_sem, Instr.storeAt, k0, f0]
  · unfold OwnN
    rw [cellsN_set]
    exact Own.setCell o rfl i _
theorem st_itl (w : World) (p : Nat) (u0 v0 : Value) (k : LfBlk w p u0 v0) (u : Sl) : ∃ W, (Instr.storeAt 22 (.pointer (some ⟨p, 0, none⟩)) u.val).run Try.prog w = .ok () W ∧ LfBlk W p u.val v0 ∧ Frm (fun k => k = p) w W := by
  have c0 := k.c0
  have f0 := k.fz 0
  refine ⟨w.setCell ⟨p, 0, none⟩ u.val, ?_, ?_, (Frm.refl (fun k => k = p) w).setCell (p := ⟨p, 0, none⟩) rfl _⟩
  · obtain ⟨ua, ul, uc⟩ := u
    unfold Sl.val
    simp [go_sem, Instr.storeAt, c0, f0]
  · have h2 := heap_setCell_same _ p 0 _ 25 u.val k
    unfold LfBlk
    rw [h2]
    simp
/-- What Join tells, in memory: the parts, the slots, the code. -/
def JnIs (D : Nat → Prop) (w : World) (l : List Sb) (x : Js) (e : Ending) (w' : World) : Prop := Below w.heap.size w w' ∧ ∃ (u' v' : Sl), e = .returned (.tuple #[lfV u' v', .int .i64 x.e]) ∧ Gi (Old D w) w' u' x.t ∧ Gb (Old D w) w' v' l

set_option maxHeartbeats 8000000 in
set_option maxRecDepth 100000 in
theorem rjoin_arg {D : Nat → Prop} (w : World) (u v : Sl) (t : List Int) (l : List Sb) (hi : Gi D w u t) (hg : Gb D w v l) (p : Int) (r : Sl) (hp : p < 1 ∨ 2147483647 < p) :
    Calls Try.prog 21 #[lfV u v, .int .i64 p, r.val] w fun e w' => JnIs D w l ⟨t, 1⟩ e w' := by
  have hT := Tb.start u hg
  have c0 := hT.k1.c0
  have c1 := hT.k1.c1
  obtain ⟨W, hst, k, f, hB⟩ := hT.lay v
  have HST2 := hide hst
  have HK := hide k
  have HF : Hid (JnIs D w l ⟨t, 1⟩ (.returned (.tuple #[lfV u v, .int .i64 1])) W) := ⟨hB, u, v, rfl, hi.old hB, hg.old hB⟩
  clear hg hi hT hst k f hB
  obtain ⟨a, len, cap⟩ := v
  obtain ⟨ua, ul, uc⟩ := u
  obtain ⟨ra, rl, rc⟩ := r
  unfold lfV Sl.val at *
  simp only at *
  by_cases h1 : p < 1
  · go_enter Try.func21, Try.ntmps21
    go_wp2_with (refine wpList_store _ rfl rfl 25 (.tmp 6) (.tmp 19) rfl (.pointer (some ⟨w.heap.size + 1, 0, none⟩)) (.agg #[.slice ua ul uc, .slice a len cap]) rfl rfl W HST2.out ?_)
    refine bodyPost_ret (lf_results1 (u := ⟨ua, ul, uc⟩) (v := ⟨a, len, cap⟩) rfl HK.out _ rfl rfl) rfl ?_
    exact HF.out
  · have h2 : 2147483647 < p := by omega
    clear hp
    go_enter Try.func21, Try.ntmps21
    go_wp2_with (refine wpList_store _ rfl rfl 25 (.tmp 6) (.tmp 19) rfl (.pointer (some ⟨w.heap.size + 1, 0, none⟩)) (.agg #[.slice ua ul uc, .slice a len cap]) rfl rfl W HST2.out ?_)
    refine bodyPost_ret (lf_results1 (u := ⟨ua, ul, uc⟩) (v := ⟨a, len, cap⟩) rfl HK.out _ rfl rfl) rfl ?_
    exact HF.out
end Go.Proofs.Ytgieigpbbkeonaa
