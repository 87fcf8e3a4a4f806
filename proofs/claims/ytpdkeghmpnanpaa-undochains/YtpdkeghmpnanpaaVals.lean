/-
  Rows of elements of one cell each (numbers, floats): where they lie behind a slice, and how they are appended onto a row that the call has made itself.
-/
import Derived.Test.YtpdkeghmpnanpaaBytes
namespace Go.Proofs.Ytpdkeghmpnanpaa
open Go.RowKit

/-- The values lie where a slice of that length begins. -/
def Vs (w : World) (a : Option Addr) (len : Nat) (vs : List Value) : Prop :=
  vs.length = len ∧ (∀ u ∈ vs, u.oneCell' = true) ∧ ∀ j, j < len → ∃ b off, a = some ⟨b, off, none⟩ ∧ w.cell? ⟨b, off + j, none⟩ = vs[j]?

theorem Vs.keep {w w' : World} {B : Nat} {a : Option Addr} {len : Nat} {vs : List Value} (h : Vs w a len vs) (hb : Below B w w') (hB : w.heap.size ≤ B) : Vs w' a len vs := by
  refine ⟨h.1, h.2.1, fun i hi => ?_⟩
  obtain ⟨b, off, ha, hc⟩ := h.2.2 i hi
  have hi' : i < vs.length := by rw [h.1]; exact hi
  have hc' : w.cell? ⟨b, off + i, none⟩ = some vs[i] := by rw [hc]; simp [hi']
  exact ⟨b, off, ha, (hb.cell (Nat.lt_of_lt_of_le (World.block_lt_of_cell? w _ hc') hB)).trans hc⟩

/-- The slice is the call's own, and holds the values; each is one cell. -/
def OwnsV (e : TypeId) (w : World) (base : Nat) (v : Value) (vs : List Value) : Prop := w.ownsRow base e 1 v vs.length vs

theorem OwnsV.nil (e : TypeId) (w : World) (base : Nat) : OwnsV e w base (.slice none 0 0) [] := ⟨rfl, .inl ⟨rfl, rfl⟩⟩

theorem OwnsV.lit (e : TypeId) (w : World) (base : Nat) (vs : List Value) (hb : base ≤ w.heap.size) (hm : vs.length ≤ 1000000) : OwnsV e (w.alloc (.cells vs.toArray e)) base (.slice (some ⟨w.heap.size, 0, none⟩) vs.length vs.length) vs := by
  have := World.ownsRow_lit (base := base) (e := e) (size := 1) w vs.toArray vs.length hb (by unfold maxLen; omega) (by simp)
  simpa [OwnsV] using this

theorem OwnsV.keep {e : TypeId} {w w' : World} {B base : Nat} {v : Value} {vs : List Value} (h : OwnsV e w base v vs) (hb : Below B w w') (hB : w.heap.size ≤ B) : OwnsV e w' base v vs := by
  refine ⟨h.1, ?_⟩
  rcases h.2 with hn | ⟨g, cap, cur, hv, hbg, hg, rest⟩
  · exact .inl hn
  · refine .inr ⟨g, cap, cur, hv, hbg, ?_, rest⟩
    rw [hb.block g (Nat.lt_of_lt_of_le (Array.getElem?_eq_some_iff.1 hg).1 hB)]
    exact hg

theorem OwnsV.lower {e : TypeId} {w : World} {b b' : Nat} {v : Value} {vs : List Value} (h : OwnsV e w b v vs) (hb : b' ≤ b) : OwnsV e w b' v vs := by
  refine ⟨h.1, ?_⟩
  rcases h.2 with hn | ⟨g, cap, cur, hv, hbg, rest⟩
  · exact .inl hn
  · exact .inr ⟨g, cap, cur, hv, Nat.le_trans hb hbg, rest⟩

/-- Blocks that do not hold such elements stay as they are. -/
def StayV (e : TypeId) (w w' : World) : Prop := ∀ (p : Nat) (C : Array Value) (t : TypeId) (fr : Nat × Nat), w.heap[p]? = some (Obj.cells C t fr) → t ≠ e → w'.heap[p]? = w.heap[p]?

theorem StayV.refl (e : TypeId) (w : World) : StayV e w w := fun _ _ _ _ _ _ => rfl
theorem StayV.below {e : TypeId} {w w' : World} (h : Below w.heap.size w w') : StayV e w w' := fun p _ _ _ hp _ => h.block p (Array.getElem?_eq_some_iff.1 hp).1

theorem OwnsV.stay {e e' : TypeId} {w w' : World} {base : Nat} {v : Value} {vs : List Value} (h : OwnsV e w base v vs) (hs : StayV e' w w') (hne : e ≠ e') : OwnsV e w' base v vs := by
  refine ⟨h.1, ?_⟩
  rcases h.2 with hn | ⟨g, cap, cur, hv, hbg, hg, rest⟩
  · exact .inl hn
  · exact .inr ⟨g, cap, cur, hv, hbg, (hs g _ _ _ hg hne).trans hg, rest⟩

theorem OwnsV.vs {e : TypeId} {w : World} {base : Nat} {v : Value} {vs : List Value} (h : OwnsV e w base v vs) (h1 : ∀ u ∈ vs, u.oneCell' = true) :
    ∃ a cap, v = .slice a vs.length cap ∧ Vs w a vs.length vs ∧ (a = none → cap = 0) ∧ vs.length ≤ cap := by
  rcases h.2 with ⟨hv, h0⟩ | ⟨g, cap, cur, hv, hbg, hg, hle, hr⟩
  · refine ⟨none, 0, by rw [h0]; exact hv, ⟨rfl, h1, fun i hi => by omega⟩, fun _ => rfl, by omega⟩
  · refine ⟨some ⟨g, 0, none⟩, cap, hv, ⟨rfl, h1, fun i hi => ⟨g, 0, rfl, ?_⟩⟩, (fun e => by cases e), hle⟩
    rw [hv] at h
    have := World.ownsRow.cellAt h i (by omega)
    rw [Nat.zero_add, this]

theorem OwnsV.ne {e : TypeId} {w : World} {base : Nat} {v : Value} {vs : List Value} (h : OwnsV e w base v vs) {p : Nat} {C : Array Value} {t : TypeId} {fr : Nat × Nat} (hp : w.heap[p]? = some (Obj.cells C t fr)) (ht : t ≠ e) : v.ownBlock ≠ some p := by
  intro e'
  rcases h.2 with ⟨hv, _⟩ | ⟨g, cap, cur, hv, _, hg, _⟩
  · rw [hv] at e'
    cases e'
  · rw [hv] at e'
    simp [Value.ownBlock] at e'
    subst e'
    rw [hg] at hp
    simp only [Option.some.injEq, Obj.cells.injEq] at hp
    exact ht hp.2.1.symm

/-- What a type of elements of one cell says of itself. -/
structure One (S e : TypeId) (z : Value) (bytes : Nat) : Prop where
  slice : Try.prog.underlying S = some (.slice e)
  info : (Try.prog.info? e).map (fun i => (i.zero, i.size, i.bytes)) = some (some z, 1, bytes)
  zs : z.cells.size = 1
  small : bytes ≤ 8

theorem run_append_vals {S e : TypeId} {z : Value} {bytes : Nat} (O : One S e z bytes) (w : World) (ty : TypeId) (base : Nat) (v : Value) (us : List Value) (hown : OwnsV e w base v us) (ao : Option Addr) (len cap : Nat) (vs : List Value) (hb : Vs w ao len vs) (hn : ao = none → cap = 0)
    (hlen : us.length + len ≤ 1000000) (hbase : base ≤ w.heap.size) :
    ∃ v' w', (Builtin.append_ #[S, S] ty #[v, .slice ao len cap]).run Try.prog w = .ok v' w' ∧ OwnsV e w' base v' (us ++ vs) ∧ Below base w w' ∧ StayV e w w' := by
  obtain ⟨i0, hi, hz0, hz1, hz2⟩ := info_parts O.info
  have hrow : ∀ k, v.ownBlock = some k → base ≤ k := fun k hk => (World.ownsRow.lt hown k hk).1
  have hyl := hb.1
  cases ao with
  | none =>
    obtain rfl := hn rfl
    have h0 : len = 0 := by
      rcases Nat.eq_zero_or_pos len with h | h
      · exact h
      · obtain ⟨_, _, e', _⟩ := hb.2.2 0 h
        cases e'
    subst h0
    have hy : vs = [] := List.eq_nil_of_length_eq_zero hyl
    subst hy
    have hrun := run_append_owned_none (P := Try.prog) (w := w) base S ty e i0 1 O.slice hi v us.length us hown
    exact ⟨v, w, hrun, by simpa using hown, Below.refl _ _, fun _ _ _ _ _ _ => rfl⟩
  | some ad =>
    have hcells : ∀ j u, vs[j]? = some u → w.cell? (ad.add j) = some u := by
      intro j u hj
      have hjl : j < vs.length := (List.getElem?_eq_some_iff.1 hj).1
      obtain ⟨b, off, e', hc⟩ := hb.2.2 j (by omega)
      obtain rfl := Option.some.inj e'
      rw [Addr.add_lit, hc, hj]
    obtain ⟨v', w', hrun, ho, hg, _⟩ := run_append_own (P := Try.prog) w base S ty e i0 z 1 bytes O.slice hi hz0 hz1 hz2 O.zs (by decide) v us.length us hown ad len cap vs (by rw [hyl, Nat.mul_one]) hcells hb.2.1
      (by unfold maxLen; omega) (by have := O.small; have : (us.length + len) * bytes ≤ 1000000 * 8 := Nat.mul_le_mul hlen O.small; omega) hbase
    refine ⟨v', w', hrun, ?_, (Below.refl base w).grown hg hbase hrow, fun p C t fr hp ht => hg.block p (Array.getElem?_eq_some_iff.1 hp).1 (hown.ne hp ht).symm⟩
    unfold OwnsV
    rw [List.length_append, hyl]
    exact ho

theorem wpList_append_vals {S e : TypeId} {z : Value} {bytes : Nat} (O : One S e z bytes) (w : World) {ops : Array Oper} {rest : List Oper} {o : Oper} {a : Act} {Q : Exit → Act → World → Prop} (hgd : o.guard = none) (s x : Operand)
    (ho : o.op = .call { callee := .builtin .append, args := #[s, x], argTypes := #[S, S] }) (base : Nat) (v : Value) (us : List Value) (hs : a.eval s = v) (hown : OwnsV e w base v us)
    (ao : Option Addr) (len cap : Nat) (vs : List Value) (hx : a.eval x = .slice ao len cap) (hb : Vs w ao len vs) (hn : ao = none → cap = 0)
    (hlen : us.length + len ≤ 1000000) (hbase : base ≤ w.heap.size)
    (hK : ∀ v' w', OwnsV e w' base v' (us ++ vs) → Below base w w' → StayV e w w' → wpList Try.prog ops Q rest (a.put o.dst v') w') : wpList Try.prog ops Q (o :: rest) a w := by
  refine wpList_plain hgd fun K hK' => ?_
  obtain ⟨v', w', hrun, r1, r2, r3⟩ := run_append_vals O w o.type base v us hown ao len cap vs hb hn hlen hbase
  unfold Oper.wp
  simp [execOp, ho, resolve, invoke, builtin, hs, hx, hrun, Result.andThen]
  exact hK' _ _ (hK v' w' r1 r2 r3)

/-- One element, laid as a row. -/
theorem vs_one (e : TypeId) (w : World) (u : Value) (h : u.oneCell' = true) : Vs (w.alloc (.cells #[u] e)) (some ⟨w.heap.size, 0, none⟩) 1 [u] := by
  refine ⟨rfl, fun x hx => by simp at hx; rw [hx]; exact h, fun j hj => ?_⟩
  obtain rfl : j = 0 := by omega
  refine ⟨w.heap.size, 0, rfl, ?_⟩
  have := heap_alloc_new w (.cells #[u] e)
  simp only [World.cell?, Nat.add_zero, this]
  rfl

/-- Numbers as cells. -/
def kVals (ks : List Int) : List Value := ks.map (Value.int .i64)
theorem kVals_one (ks : List Int) : ∀ u ∈ kVals ks, u.oneCell' = true := by
  intro u hu
  obtain ⟨_, _, rfl⟩ := List.mem_map.1 hu
  rfl

/-- Floats as cells. -/
def fVals (xs : List Nat) : List Value := xs.map (Value.float .f64)
theorem fVals_one (xs : List Nat) : ∀ u ∈ fVals xs, u.oneCell' = true := by
  intro u hu
  obtain ⟨_, _, rfl⟩ := List.mem_map.1 hu
  rfl

end Go.Proofs.Ytpdkeghmpnanpaa
