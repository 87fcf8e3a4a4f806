/-
  Rows of items that a call has made itself, and numbers in memory.
-/
import Derived.Test.YtdbgbldmjgonjaaPackF
namespace Go.Proofs.Ytdbgbldmjgonjaa
open Go.RowKit

theorem info35 : (Try.prog.info? 67).map (fun i => (i.zero, i.size, i.bytes)) = some (some (.agg #[.int .i64 0, .int .i64 0, .float .f64 0, .string ⟨#[]⟩]), 4, 40) := by kernel_rfl

/-- An item's cells, and those of a row of them. -/
def It.cells (i : It) : List Value := [.int .i64 i.kind, .int .i64 i.n, .float .f64 i.x, .string i.s]
def itVals (l : List It) : List Value := l.flatMap It.cells

theorem itVals_length : ∀ l, (itVals l).length = l.length * 4
  | [] => rfl
  | i :: r => by
    have := itVals_length r
    simp only [itVals, List.flatMap_cons, List.length_append, List.length_cons] at *
    rw [this]
    simp [It.cells]
    omega

theorem itVals_append (l m : List It) : itVals (l ++ m) = itVals l ++ itVals m := by simp [itVals]

theorem itVals_one (l : List It) : ∀ u ∈ itVals l, u.oneCell' = true := by
  intro u hu
  obtain ⟨i, _, hi⟩ := List.mem_flatMap.1 hu
  simp only [It.cells, List.mem_cons, List.mem_nil_iff, or_false] at hi
  rcases hi with rfl | rfl | rfl | rfl <;> rfl

theorem itVals_get : ∀ (l : List It) (j t : Nat), j < l.length → t < 4 → (itVals l)[j * 4 + t]? = (l.getD j itD).cells[t]?
  | i :: r, 0, t, _, ht => by
    simp only [itVals, List.flatMap_cons]
    rw [List.getElem?_append_left (by simp [It.cells]; omega)]
    simp
  | i :: r, j + 1, t, hj, ht => by
    have := itVals_get r j t (by simpa using hj) ht
    simp only [itVals, List.flatMap_cons] at *
    rw [List.getElem?_append_right (by simp [It.cells]; omega)]
    have e : (j + 1) * 4 + t - i.cells.length = j * 4 + t := by simp [It.cells]; omega
    rw [e, this]
    simp [List.getD]

/-- The slice is the call's own, and holds the items l. -/
def OwnsI (w : World) (base : Nat) (v : Value) (l : List It) : Prop := w.ownsRow base 67 4 v l.length (itVals l)

theorem OwnsI.nil (w : World) (base : Nat) : OwnsI w base (.slice none 0 0) [] := ⟨rfl, .inl ⟨rfl, rfl⟩⟩

theorem OwnsI.new (w : World) : OwnsI (w.alloc (.cells #[] 67)) w.heap.size (.slice (some ⟨w.heap.size, 0, none⟩) 0 0) [] := by
  have := World.ownsRow_lit (base := w.heap.size) (e := 67) (size := 4) w #[] 0 (Nat.le_refl _) (by unfold maxLen; omega) (by simp)
  simpa [OwnsI, itVals] using this

theorem OwnsI.keep {w w' : World} {B base : Nat} {v : Value} {l : List It} (h : OwnsI w base v l) (hb : Below B w w') (hB : w.heap.size ≤ B) : OwnsI w' base v l := by
  refine ⟨h.1, ?_⟩
  rcases h.2 with hn | ⟨g, cap, cur, hv, hbg, hg, rest⟩
  · exact .inl hn
  · refine .inr ⟨g, cap, cur, hv, hbg, ?_, rest⟩
    rw [hb.block g (Nat.lt_of_lt_of_le (Array.getElem?_eq_some_iff.1 hg).1 hB)]
    exact hg

theorem OwnsI.only {w w' : World} {p base : Nat} {v : Value} {l : List It} (h : OwnsI w base v l) (ho : Only p w w') {C : Array Value} {t : TypeId} {fr : Nat × Nat} (hp : w.heap[p]? = some (Obj.cells C t fr)) (ht : t ≠ 67) : OwnsI w' base v l := by
  refine ⟨h.1, ?_⟩
  rcases h.2 with hn | ⟨g, cap, cur, hv, hbg, hg, rest⟩
  · exact .inl hn
  · refine .inr ⟨g, cap, cur, hv, hbg, ?_, rest⟩
    rw [ho.block g (Array.getElem?_eq_some_iff.1 hg).1 ?_]
    · exact hg
    · intro e
      subst e
      rw [hg] at hp
      simp only [Option.some.injEq, Obj.cells.injEq] at hp
      exact ht hp.2.1.symm

theorem OwnsI.is {w : World} {base : Nat} {v : Value} {l : List It} (h : OwnsI w base v l) (hf : ∀ i ∈ l, i.fits) : ∃ a cap, v = .slice a l.length cap ∧ Is w a l.length l ∧ (a = none → cap = 0) ∧ l.length ≤ cap := by
  rcases h.2 with ⟨hv, h0⟩ | ⟨g, cap, cur, hv, hbg, hg, hle, hr⟩
  · refine ⟨none, 0, by rw [h0]; exact hv, ⟨rfl, hf, fun j hj => by omega⟩, fun _ => rfl, by omega⟩
  · refine ⟨some ⟨g, 0, none⟩, cap, hv, ⟨rfl, hf, fun j hj => ⟨g, 0, rfl, ?_⟩⟩, (fun e => by cases e), hle⟩
    rw [hv] at h
    have hc : ∀ t, t < 4 → w.cell? ⟨g, 0 + j * 4 + t, none⟩ = (l.getD j itD).cells[t]? := by
      intro t ht
      have := World.ownsRow.cellAt h (j * 4 + t) (by omega)
      rw [Nat.zero_add, this, itVals_get l j t hj ht]
    exact ⟨hc 0 (by omega), hc 1 (by omega), hc 2 (by omega), hc 3 (by omega)⟩

/-- Blocks that do not hold items stay as they are. -/
def StayI (w w' : World) : Prop := ∀ (p : Nat) (C : Array Value) (t : TypeId) (fr : Nat × Nat), w.heap[p]? = some (Obj.cells C t fr) → t ≠ 67 → w'.heap[p]? = w.heap[p]?

theorem StayI.trans {a b c : World} (h : StayI a b) (k : StayI b c) : StayI a c := fun p C t fr hp ht => (k p C t fr ((h p C t fr hp ht).trans hp) ht).trans (h p C t fr hp ht)
theorem StayI.below {w w' : World} (h : Below w.heap.size w w') : StayI w w' := fun p _ _ _ hp _ => h.block p (Array.getElem?_eq_some_iff.1 hp).1

theorem OwnsI.ne {w : World} {base : Nat} {v : Value} {l : List It} (h : OwnsI w base v l) {p : Nat} {C : Array Value} {t : TypeId} {fr : Nat × Nat} (hp : w.heap[p]? = some (Obj.cells C t fr)) (ht : t ≠ 67) : v.ownBlock ≠ some p := by
  intro e
  rcases h.2 with ⟨hv, _⟩ | ⟨g, cap, cur, hv, _, hg, _⟩
  · rw [hv] at e
    cases e
  · rw [hv] at e
    simp [Value.ownBlock] at e
    subst e
    rw [hg] at hp
    simp only [Option.some.injEq, Obj.cells.injEq] at hp
    exact ht hp.2.1.symm

theorem run_append_items (w : World) (ty : TypeId) (base : Nat) (v : Value) (l : List It) (hown : OwnsI w base v l) (ao : Option Addr) (len cap : Nat) (m : List It) (hb : Is w ao len m) (hn : ao = none → cap = 0)
    (hlen : l.length + len ≤ 1000000) (hbase : base ≤ w.heap.size) :
    ∃ v' w', (Builtin.append_ #[54, 54] ty #[v, .slice ao len cap]).run Try.prog w = .ok v' w' ∧ OwnsI w' base v' (l ++ m) ∧ Below base w w' ∧ StayI w w' := by
  obtain ⟨i0, hi, hz0, hz1, hz2⟩ := info_parts info35
  have hrow : ∀ k, v.ownBlock = some k → base ≤ k := fun k hk => (World.ownsRow.lt hown k hk).1
  have hyl := hb.1
  cases ao with
  | none =>
    obtain rfl := hn rfl
    have h0 : len = 0 := by
      rcases Nat.eq_zero_or_pos len with h | h
      · exact h
      · obtain ⟨_, _, e, _⟩ := hb.2.2 0 h
        cases e
    subst h0
    have hy : m = [] := List.eq_nil_of_length_eq_zero hyl
    subst hy
    have hrun := run_append_owned_none (P := Try.prog) (w := w) base 54 ty 67 i0 4 Try.underlying54 hi v l.length (itVals l) hown
    exact ⟨v, w, hrun, by simpa using hown, Below.refl _ _, fun _ _ _ _ _ _ => rfl⟩
  | some ad =>
    have hcells : ∀ j u, (itVals m)[j]? = some u → w.cell? (ad.add j) = some u := by
      intro j u hj
      have hjl : j < m.length * 4 := by
        have := (List.getElem?_eq_some_iff.1 hj).1
        rw [itVals_length] at this
        exact this
      obtain ⟨b, off, e, c0, c1, c2, c3⟩ := hb.2.2 (j / 4) (by omega)
      obtain rfl := Option.some.inj e
      have hg := itVals_get m (j / 4) (j % 4) (by omega) (by omega)
      rw [show j / 4 * 4 + j % 4 = j by omega, hj] at hg
      rw [Addr.add_lit]
      have hm4 : j % 4 = 0 ∨ j % 4 = 1 ∨ j % 4 = 2 ∨ j % 4 = 3 := by omega
      rcases hm4 with e4 | e4 | e4 | e4 <;> rw [e4] at hg
      · rw [show off + j = off + j / 4 * 4 by omega, c0, hg]; rfl
      · rw [show off + j = off + j / 4 * 4 + 1 by omega, c1, hg]; rfl
      · rw [show off + j = off + j / 4 * 4 + 2 by omega, c2, hg]; rfl
      · rw [show off + j = off + j / 4 * 4 + 3 by omega, c3, hg]; rfl
    obtain ⟨v', w', hrun, ho, hg, _⟩ := run_append_own (P := Try.prog) w base 54 ty 67 i0 (.agg #[.int .i64 0, .int .i64 0, .float .f64 0, .string ⟨#[]⟩]) 4 40 Try.underlying54 hi hz0 hz1 hz2 rfl (by decide) v l.length (itVals l) hown ad len cap (itVals m) (by rw [itVals_length, hyl]) hcells (itVals_one m)
      (by unfold maxLen; omega) (by omega) hbase
    refine ⟨v', w', hrun, ?_, (Below.refl base w).grown hg hbase hrow, fun p C t fr hp ht => hg.block p (Array.getElem?_eq_some_iff.1 hp).1 (hown.ne hp ht).symm⟩
    unfold OwnsI
    rw [List.length_append, hyl, itVals_append]
    exact ho

theorem wpList_append_items (w : World) {ops : Array Oper} {rest : List Oper} {o : Oper} {a : Act} {Q : Exit → Act → World → Prop} (hgd : o.guard = none) (s x : Operand)
    (ho : o.op = .call { callee := .builtin .append, args := #[s, x], argTypes := #[54, 54] }) (base : Nat) (v : Value) (l : List It) (hs : a.eval s = v) (hown : OwnsI w base v l)
    (ao : Option Addr) (len cap : Nat) (m : List It) (hx : a.eval x = .slice ao len cap) (hb : Is w ao len m) (hn : ao = none → cap = 0)
    (hlen : l.length + len ≤ 1000000) (hbase : base ≤ w.heap.size)
    (hK : ∀ v' w', OwnsI w' base v' (l ++ m) → Below base w w' → StayI w w' → wpList Try.prog ops Q rest (a.put o.dst v') w') : wpList Try.prog ops Q (o :: rest) a w := by
  refine wpList_plain hgd fun K hK' => ?_
  obtain ⟨v', w', hrun, r1, r2, r3⟩ := run_append_items w o.type base v l hown ao len cap m hb hn hlen hbase
  unfold Oper.wp
  simp [execOp, ho, resolve, invoke, builtin, hs, hx, hrun, Result.andThen]
  exact hK' _ _ (hK v' w' r1 r2 r3)

/-- One item, laid as a row. -/
theorem is_one (w : World) (i : It) (hf : i.fits) : Is (w.alloc (.cells #[.int .i64 i.kind, .int .i64 i.n, .float .f64 i.x, .string i.s] 67)) (some ⟨w.heap.size, 0, none⟩) 1 [i] := by
  refine ⟨rfl, fun x hx => by simp at hx; rw [hx]; exact hf, fun j hj => ?_⟩
  obtain rfl : j = 0 := by omega
  refine ⟨w.heap.size, 0, rfl, ?_⟩
  simpa using itAt_new w i 67

/-- The numbers ks lie where a slice of that length begins. -/
def Ks (w : World) (a : Option Addr) (len : Nat) (ks : List Int) : Prop :=
  ks.length = len ∧ ∀ j, j < len → ∃ b off, a = some ⟨b, off, none⟩ ∧ w.cell? ⟨b, off + j, none⟩ = some (.int .i64 (ks.getD j 0))

theorem Ks.keep {w w' : World} {B : Nat} {a : Option Addr} {len : Nat} {ks : List Int} (h : Ks w a len ks) (hb : Below B w w') (hB : w.heap.size ≤ B) : Ks w' a len ks := by
  refine ⟨h.1, fun i hi => ?_⟩
  obtain ⟨b, off, ha, hc⟩ := h.2 i hi
  exact ⟨b, off, ha, (hb.cell (Nat.lt_of_lt_of_le (World.block_lt_of_cell? w _ hc) hB)).trans hc⟩

theorem fits_i64 {n : Int} (h1 : -9223372036854775808 ≤ n) (h2 : n ≤ 9223372036854775807) : (Lit.int .i64 n).wf = true := by
  simp [Lit.wf, IntKind.min, IntKind.max, IntKind.signed, IntKind.bits]
  omega

theorem tk_fits {xs : List Nat} (hx : Bytes xs) (hl : xs.length ≤ 1000000) {k : Int} (hk : 1 ≤ k ∧ k ≤ 5) {i : It} {n : Nat} (h : tk xs k = some (i, n)) : i.fits ∧ n ≤ xs.length := by
  have hb : ∀ m, Bytes (xs.take m) := fun m x hh => hx x (List.mem_of_mem_take hh)
  have h8 : ∀ m, m ≤ 8 → numB (xs.take m) < 18446744073709551616 := by
    intro m hm
    have h2 := numB_lt (hb m)
    have h3 : (xs.take m).length ≤ 8 := by rw [List.length_take]; omega
    have h4 : 256 ^ (xs.take m).length ≤ 256 ^ 8 := Nat.pow_le_pow_right (by decide) h3
    have : (256 : Nat) ^ 8 = 18446744073709551616 := by decide
    omega
  have hm0 : (0 : Nat) ≤ maxLen := Nat.zero_le _
  unfold tk at h
  split at h
  · split at h
    · split at h
      · simp only [Option.some.injEq, Prod.mk.injEq] at h
        obtain ⟨rfl, rfl⟩ := h
        exact ⟨⟨fits_i64 (n := 4) (by decide) (by decide), fits_i64 (n := 0) (by decide) (by decide), h8 8 (by omega), hm0⟩, by assumption⟩
      · cases h
    · cases h
  · split at h
    · split at h
      · split at h
        · simp only [Option.some.injEq, Prod.mk.injEq] at h
          obtain ⟨rfl, rfl⟩ := h
          refine ⟨⟨fits_i64 (n := 5) (by decide) (by decide), fits_i64 (n := 0) (by decide) (by decide), (by decide : (0 : Nat) < 18446744073709551616), ?_⟩, by assumption⟩
          have e : (bstr ((xs.drop 1).take (numB (xs.take 1)))).size = ((xs.drop 1).take (numB (xs.take 1))).length := by
            show (bstr _).data.size = _
            rw [← Array.length_toList]
            unfold bstr
            rw [strOfNums_data]
            simp
          show (bstr ((xs.drop 1).take (numB (xs.take 1)))).size ≤ maxLen
          rw [e]
          have : ((xs.drop 1).take (numB (xs.take 1))).length ≤ xs.length := by simp; omega
          unfold maxLen
          omega
        · cases h
      · cases h
    · split at h
      · split at h
        · simp only [Option.some.injEq, Prod.mk.injEq] at h
          obtain ⟨rfl, rfl⟩ := h
          rename_i hle
          have hmx : maxN k ≤ 2147483647 := by
            unfold maxN
            split
            · decide
            · split <;> decide
          exact ⟨⟨fits_i64 (n := k) (by omega) (by omega), fits_i64 (n := (numB (xs.take (cntN k)) : Nat)) (by omega) (by omega), (by decide : (0 : Nat) < 18446744073709551616), hm0⟩, by assumption⟩
        · cases h
      · cases h

end Go.Proofs.Ytdbgbldmjgonjaa
