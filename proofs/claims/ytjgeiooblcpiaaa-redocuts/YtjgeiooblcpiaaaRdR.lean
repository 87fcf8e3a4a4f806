/-
  Layer 6: three rows that are built side by side: bytes, numbers, groups.
-/
import Derived.Test.YtjgeiooblcpiaaaRdP
import Derived.Test.YtjgeiooblcpiaaaRdN
namespace Go.Proofs.Ytjgeiooblcpiaaa
open Go.RowKit

/-- Numbers, as cells. -/
def ivals (xs : List Nat) : List Value := xs.map fun x => Value.int .i64 ((x : Nat) : Int)
theorem ivals_length (xs : List Nat) : (ivals xs).length = xs.length := by simp [ivals]
theorem ivals_append (xs ys : List Nat) : ivals (xs ++ ys) = ivals xs ++ ivals ys := by simp [ivals]
theorem ivals_one (xs : List Nat) : ∀ u ∈ ivals xs, u.oneCell' = true := by
  intro u hu
  obtain ⟨_, _, rfl⟩ := List.mem_map.1 hu
  rfl
theorem ivals_get {xs : List Nat} {i : Nat} (hi : i < xs.length) : (ivals xs)[i]? = some (.int .i64 ((xs.getD i 0 : Nat) : Int)) := by
  simp [ivals, List.getD, hi]
theorem info3 : (Try.prog.info? 3).map (fun i => (i.zero, i.size, i.bytes)) = some (some (.int .i64 0), 1, 8) := by kernel_rfl

theorem own_ne {e e' : TypeId} {z z' : Nat} {w : World} {s s' : Sl} {vs vs' : List Value} (h : Own e z w s vs) (h' : Own e' z' w s' vs') (he : e ≠ e') {k : Nat} (hk : s.blk = some k) : s'.blk ≠ some k := by
  intro hk'
  obtain ⟨c, hc⟩ := h.kind hk
  obtain ⟨c', hc'⟩ := h'.kind hk'
  rw [hc] at hc'
  simp only [Option.some.injEq, Obj.cells.injEq] at hc'
  exact he hc'.2.1

/-- Bytes, numbers and groups, each in its own row. -/
structure Cut3 (base : Nat) (w : World) (sa : Sl) (A : List Nat) (sw : Sl) (W : List Nat) (sv : Sl) (L : List Gp) : Prop where
  a : Own 5 1 w sa (vals A)
  b : Own 3 1 w sw (ivals W)
  g : GS (fun k => base ≤ k ∧ sa.blk ≠ some k ∧ sw.blk ≠ some k) base w sv L
  ab : ∀ k, sa.blk = some k → base ≤ k
  bb : ∀ k, sw.blk = some k → base ≤ k
variable {base : Nat} {w w' : World} {sa sa' sw sw' sv sv' : Sl} {A A' W W' : List Nat} {L : List Gp}

theorem Cut3.keep (h : Cut3 base w sa A sw W sv L) (hb : Below w.heap.size w w') : Cut3 base w' sa A sw W sv L :=
  ⟨h.a.frame (fun _ hk => hb.block _ (h.a.lt hk)), h.b.frame (fun _ hk => hb.block _ (h.b.lt hk)), h.g.keep hb, h.ab, h.bb⟩

theorem GS.frame {H H' : Nat → Prop} {v : Sl} (h : GS H base w v L) (hv : ∀ k, v.blk = some k → w'.heap[k]? = w.heap[k]?) (hk : ∀ k, H k → v.blk ≠ some k → k < w.heap.size → w'.heap[k]? = w.heap[k]? ∧ H' k) : GS H' base w' v L := by
  refine ⟨h.own.frame hv, h.blk, fun x hx => ?_⟩
  have h1 : Gr (fun k => (H k ∧ v.blk ≠ some k) ∧ (k < w.heap.size ∧ H' k)) w x.v x.l := (h.gr x hx).mono (fun k hk1 hl => ⟨hk1, hl, (hk k hk1.1 hk1.2 hl).2⟩)
  exact (h1.keep (fun k hk1 hl => (hk k hk1.1.1 hk1.1.2 hl).1)).mono (fun k hk1 _ => ⟨hk1.2.2, hk1.1.2⟩)

/-- More bytes. -/
theorem Cut3.addA (h : Cut3 base w sa A sw W sv L) (ho : Own 5 1 w' sa' (vals A')) (hf : Frm (fun k => sa.blk = some k) w w') (hb : sa'.blk = sa.blk ∨ ∃ k, sa'.blk = some k ∧ w.heap.size ≤ k) (hbase : base ≤ w.heap.size) : Cut3 base w' sa' A' sw W sv L ∧ Below base w w' := by
  have hnew : ∀ k, k < w.heap.size → sa.blk ≠ some k → sa'.blk ≠ some k := by
    intro k hk hne e
    rcases hb with e' | ⟨j, e', hj⟩
    · exact hne (by rw [← e']; exact e)
    · rw [e'] at e
      cases e
      omega
  refine ⟨⟨ho, h.b.frame (fun k hk => hf.block k (h.b.lt hk) (own_ne h.b h.a (by decide) hk)), h.g.frame (fun k hk => hf.block k (h.g.own.lt hk) (own_ne h.g.own h.a (by decide) hk)) (fun k hk hv hl => ⟨hf.block k hl hk.2.1, hk.1, hnew k hl hk.2.1, hk.2.2⟩), fun k hk => ?_, h.bb⟩, hf.below hbase h.ab⟩
  rcases hb with e | ⟨j, e, hj⟩
  · exact h.ab k (by rw [← e]; exact hk)
  · rw [e] at hk
    cases hk
    omega

/-- A number more. -/
theorem Cut3.addB (h : Cut3 base w sa A sw W sv L) (ho : Own 3 1 w' sw' (ivals W')) (hf : Frm (fun k => sw.blk = some k) w w') (hb : sw'.blk = sw.blk ∨ ∃ k, sw'.blk = some k ∧ w.heap.size ≤ k) (hbase : base ≤ w.heap.size) : Cut3 base w' sa A sw' W' sv L ∧ Below base w w' := by
  have hnew : ∀ k, k < w.heap.size → sw.blk ≠ some k → sw'.blk ≠ some k := by
    intro k hk hne e
    rcases hb with e' | ⟨j, e', hj⟩
    · exact hne (by rw [← e']; exact e)
    · rw [e'] at e
      cases e
      omega
  refine ⟨⟨h.a.frame (fun k hk => hf.block k (h.a.lt hk) (own_ne h.a h.b (by decide) hk)), ho, h.g.frame (fun k hk => hf.block k (h.g.own.lt hk) (own_ne h.g.own h.b (by decide) hk)) (fun k hk hv hl => ⟨hf.block k hl hk.2.2, hk.1, hk.2.1, hnew k hl hk.2.2⟩), h.ab, fun k hk => ?_⟩, hf.below hbase h.bb⟩
  rcases hb with e | ⟨j, e, hj⟩
  · exact h.bb k (by rw [← e]; exact hk)
  · rw [e] at hk
    cases hk
    omega

/-- A group more. -/
theorem Cut3.addG (h : Cut3 base w sa A sw W sv L) {x : Gp} (hx : Gr (fun k => (base ≤ k ∧ sa.blk ≠ some k ∧ sw.blk ≠ some k) ∧ sv.blk ≠ some k) w x.v x.l) (ho : OwnG w' sv' (L ++ [x])) (hf : Frm (fun k => sv.blk = some k) w w') (hb : sv'.blk = sv.blk ∨ ∃ k, sv'.blk = some k ∧ w.heap.size ≤ k) (hbase : base ≤ w.heap.size) : Cut3 base w' sa A sw W sv' (L ++ [x]) ∧ Below base w w' := by
  obtain ⟨h1, h2⟩ := h.g.add hx ho hf hb hbase
  exact ⟨⟨h.a.frame (fun k hk => hf.block k (h.a.lt hk) (own_ne h.a h.g.own (by decide) hk)), h.b.frame (fun k hk => hf.block k (h.b.lt hk) (own_ne h.b h.g.own (by decide) hk)), h1, h.ab, h.bb⟩, h2⟩

/-- A new group stays where bytes or numbers are added to rows that are elder or younger. -/
theorem Gr.past {N M : Nat} {v s : Sl} {l : List Ix} (h : Gr (fun k => N ≤ k ∧ k < M) w v l) (hf : Frm (fun k => s.blk = some k) w w') (hs : ∀ k, s.blk = some k → k < N ∨ M ≤ k) : Gr (fun k => N ≤ k ∧ k < M) w' v l :=
  h.keep (Kept.frm hf (fun k hk e => by have := hs k e; omega))

theorem src_int (w : World) (n : Nat) : Src Try.prog 1 22 (.slice (some ⟨w.heap.size, 0, none⟩) 1 1) 1 (ivals [n]) (w.alloc (.cells #[.int .i64 ((n : Nat) : Int)] 3)) := by
  refine Src.ofSlice _ Try.underlying22 ⟨w.heap.size, 0, none⟩ 1 1 (ivals [n]) rfl (fun j u hj => ?_) (ivals_one _)
  have hb : (w.alloc (.cells #[.int .i64 ((n : Nat) : Int)] 3)).heap[w.heap.size]? = some (.cells #[.int .i64 ((n : Nat) : Int)] 3) := heap_alloc_new w _
  rw [Addr.add_lit, cell_of_row _ _ _ _ _ _ hb]
  simpa [ivals] using hj
theorem own_int (w : World) (v : Sl) (W : List Nat) (h : Own 3 1 w v (ivals W)) (n : Nat) (hl : v.len + 1 ≤ 1000000) (ty : TypeId) :
    ∃ v' w', (Builtin.append_ #[22, 22] ty #[v.val, .slice (some ⟨w.heap.size, 0, none⟩) 1 1]).run Try.prog (w.alloc (.cells #[.int .i64 ((n : Nat) : Int)] 3)) = .ok v'.val w' ∧ Own 3 1 w' v' (ivals (W ++ [n])) ∧ v'.len = v.len + 1 ∧ Frm (fun k => v.blk = some k) w w' ∧ (v'.blk = v.blk ∨ ∃ k, v'.blk = some k ∧ w.heap.size ≤ k) := by
  have hB := below_alloc w (.cells #[.int .i64 ((n : Nat) : Int)] 3)
  have h1 : Own 3 1 (w.alloc (.cells #[.int .i64 ((n : Nat) : Int)] 3)) v (ivals W) := h.frame (fun k hk => hB.block k (h.lt hk))
  obtain ⟨v', w', hrun, ho, hlen, hf, hbk⟩ := own_append Try.underlying22 info3 rfl (by decide) _ v (ivals W) h1 (ivals_one W) _ 1 (ivals [n]) (src_int w n) hl ty
  refine ⟨v', w', hrun, by rw [ivals_append]; exact ho, hlen, (Frm.ofBelow hB).trans hf (fun _ _ hk => hk), ?_⟩
  rcases hbk with e | ⟨e, _⟩
  · exact .inl e
  · exact .inr ⟨_, e, hB.size⟩
theorem own_byt (w : World) (v : Sl) (A : List Nat) (h : Own 5 1 w v (vals A)) (s : Sl) (ys : List Nat) (hs : Came w s.a s.len s.cap ys) (hl : v.len + s.len ≤ 1000000) (ty : TypeId) :
    ∃ v' w', (Builtin.append_ #[24, 24] ty #[v.val, s.val]).run Try.prog w = .ok v'.val w' ∧ Own 5 1 w' v' (vals (A ++ ys)) ∧ v'.len = v.len + s.len ∧ Frm (fun k => v.blk = some k) w w' ∧ (v'.blk = v.blk ∨ ∃ k, v'.blk = some k ∧ w.heap.size ≤ k) := by
  obtain ⟨v', w', hrun, ho, hlen, hf, hbk⟩ := own_append Try.underlying24 info5 rfl (by decide) w v (vals A) h (vals_one A) s.val s.len (vals ys) hs.src hl ty
  refine ⟨v', w', hrun, by rw [vals_append]; exact ho, hlen, hf, ?_⟩
  rcases hbk with e | ⟨e, _⟩
  · exact .inl e
  · exact .inr ⟨_, e, Nat.le_refl _⟩
section
variable {ops : Array Oper} {rest : List Oper} {o : Oper} {a : Act} {Q : Exit → Act → World → Prop}
theorem wpList_app (w : World) (hgd : o.guard = none) (t ty : TypeId) (s x : Operand) (ho : o.op = .call { callee := .builtin .append, args := #[s, x], argTypes := #[t, t] }) (hty : o.type = ty) (v : Value) (w' : World) (hrun : (Builtin.append_ #[t, t] ty #[a.eval s, a.eval x]).run Try.prog w = .ok v w') (hK : wpList Try.prog ops Q rest (a.put o.dst v) w') : wpList Try.prog ops Q (o :: rest) a w := by
  refine wpList_plain hgd fun K hK' => ?_
  subst hty
  unfold Oper.wp
  simp [execOp, ho, resolve, invoke, builtin, hrun, Result.andThen]
  exact hK' _ _ hK
end

theorem Cut3.new (w : World) : Cut3 w.heap.size (((w.alloc (.cells #[] 5)).alloc (.cells #[] 3)).alloc (.cells #[] 25)) ⟨some ⟨w.heap.size, 0, none⟩, 0, 0⟩ [] ⟨some ⟨w.heap.size + 1, 0, none⟩, 0, 0⟩ [] ⟨some ⟨w.heap.size + 2, 0, none⟩, 0, 0⟩ [] := by
  have h1 : Own 5 1 (w.alloc (.cells #[] 5)) ⟨some ⟨w.heap.size, 0, none⟩, 0, 0⟩ (vals []) := ⟨rfl, .inr ⟨w.heap.size, 0, _, rfl, heap_alloc_new w _, by simp, Nat.le_refl _, by simp, rfl⟩⟩
  have h2 : Own 3 1 ((w.alloc (.cells #[] 5)).alloc (.cells #[] 3)) ⟨some ⟨w.heap.size + 1, 0, none⟩, 0, 0⟩ (ivals []) := by
    rw [← alloc_size w (.cells #[] 5)]
    exact ⟨rfl, .inr ⟨_, 0, _, rfl, heap_alloc_new _ _, by simp, Nat.le_refl _, by simp, rfl⟩⟩
  have h3 := GS.new (fun k => w.heap.size ≤ k ∧ (Sl.mk (some ⟨w.heap.size, 0, none⟩) 0 0).blk ≠ some k ∧ (Sl.mk (some ⟨w.heap.size + 1, 0, none⟩) 0 0).blk ≠ some k) w.heap.size ((w.alloc (.cells #[] 5)).alloc (.cells #[] 3)) (by rw [alloc_size, alloc_size]; omega)
  rw [alloc_size, alloc_size] at h3
  have b1 := below_alloc (w.alloc (.cells #[] 5)) (.cells #[] 3)
  have b2 := below_alloc ((w.alloc (.cells #[] 5)).alloc (.cells #[] 3)) (.cells #[] 25)
  refine ⟨h1.frame (fun k hk => (rBelow b1 b2).block k (h1.lt hk)), h2.frame (fun k hk => b2.block k (h2.lt hk)), h3, fun k hk => ?_, fun k hk => ?_⟩
  · cases hk
    exact Nat.le_refl _
  · cases hk
    exact Nat.le_succ _

/-- Where the records end. -/
def wholes (l : List (List Im)) : List Nat := (List.range l.length).map fun i => ends l (i + 1)
theorem wholes_length (l : List (List Im)) : (wholes l).length = l.length := by simp [wholes]
theorem wholes_get {l : List (List Im)} {i : Nat} (hi : i < l.length) : (wholes l).getD i 0 = ends l (i + 1) := by simp [wholes, List.getD, hi]
theorem ends_all (l : List (List Im)) : ends l l.length = (recs l).length := by simp [ends]
theorem ends_append {l : List (List Im)} (g : List Im) {i : Nat} (hi : i ≤ l.length) : ends (l ++ [g]) i = ends l i := by
  unfold ends
  rw [List.take_append_of_le_length hi]
theorem wholes_append (l : List (List Im)) (g : List Im) : wholes (l ++ [g]) = wholes l ++ [(recs (l ++ [g])).length] := by
  unfold wholes
  rw [List.length_append, List.length_singleton, List.range_succ, List.map_append]
  congr 1
  · apply List.map_congr_left
    intro i hi
    exact ends_append g (by have := List.mem_range.1 hi; omega)
  · show [ends (l ++ [g]) (l.length + 1)] = _
    have := ends_all (l ++ [g])
    rw [List.length_append, List.length_singleton] at this
    rw [this]
theorem recs_one (g : List Im) : recs [g] = recd g := by
  unfold recs
  rw [List.flatMap_cons, List.flatMap_nil, List.append_nil]
theorem recs_le {l : List (List Im)} (h : ∀ g ∈ l, May g) : (recs l).length ≤ 3085 * l.length := by
  induction l with
  | nil => simp [recs]
  | cons g r ih =>
    have h1 := ih (fun x hx => h x (by simp [hx]))
    have h2 := h g (by simp)
    have e : recs (g :: r) = recd g ++ recs r := by unfold recs; rw [List.flatMap_cons]
    rw [e, List.length_append, recd_length h2.len, List.length_cons]
    have := h2.2.1
    omega
theorem recs_bytes {l : List (List Im)} (h : ∀ g ∈ l, May g ∧ ImB g) : Bytes (recs l) := by
  intro x hx
  obtain ⟨g, hg, hx⟩ := List.mem_flatMap.1 hx
  exact recd_bytes (h g hg).2 (h g hg).1 x hx
end Go.Proofs.Ytjgeiooblcpiaaa
