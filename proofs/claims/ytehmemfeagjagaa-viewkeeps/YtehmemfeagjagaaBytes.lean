/-
  Bytes in memory: where they lie behind a slice, how they are appended, cut, read, and said as a string. Nothing of the program is named but its types.
-/
import Derived.Test.YtehmemfeagjagaaRows
import Derived.WalkKit
import Derived.WalkSpells
import Derived.WalkLawsBesides
import Derived.Laws.BitsAllLaws
import Derived.Laws.AppendOwnNone
import Derived.Laws.IdiomStrings
import Derived.Laws.BytesArg
import Derived.Below
import Derived.ArgAppend
import Derived.Deep.AppendSrc
import Derived.BigQuiet
import Derived.ProofKit
import Derived.OpenShut
import Derived.ShutString
import Derived.ChangeOld
namespace Go.Proofs.Ytehmemfeagjagaa
open Go.RowKit
set_option maxRecDepth 100000

/-- Numbers that are bytes. -/
def Bytes (xs : List Nat) : Prop := ∀ n ∈ xs, n < 256

theorem getD_lt {xs : List Nat} (h : Bytes xs) (j : Nat) : xs.getD j 0 < 256 := by
  by_cases hj : j < xs.length
  · have := h _ (List.getElem_mem hj)
    simpa [List.getD, hj] using this
  · simp [List.getD, Nat.le_of_not_lt hj]

theorem hide {p : Prop} (h : p) : Hid p := h

theorem below_alloc (w : World) (o : Obj) : Below w.heap.size w (w.alloc o) := (Below.refl _ _).alloc (Nat.le_refl _) o

/-- The bytes xs lie where a slice of that length begins. -/
def Bs (w : World) (a : Option Addr) (len : Nat) (xs : List Nat) : Prop :=
  xs.length = len ∧ Bytes xs ∧ ∀ i, i < len → ∃ b off, a = some ⟨b, off, none⟩ ∧ w.cell? ⟨b, off + i, none⟩ = some (.int .u8 (xs.getD i 0 : Nat))

theorem Bs.part {w : World} {a : Option Addr} {len : Nat} {xs : List Nat} (h : Bs w a len xs) :
    (len = 0 ∧ xs = []) ∨ ∃ b off, 0 < len ∧ a = some ⟨b, off, none⟩ ∧ ∀ i, i < len → w.cell? ⟨b, off + i, none⟩ = some (.int .u8 (xs.getD i 0 : Nat)) := by
  obtain ⟨hl, hb, hc⟩ := h
  by_cases h0 : len = 0
  · left
    refine ⟨h0, ?_⟩
    apply List.eq_nil_of_length_eq_zero
    omega
  · right
    obtain ⟨b, off, rfl, _⟩ := hc 0 (by omega)
    refine ⟨b, off, by omega, rfl, ?_⟩
    intro i hi
    obtain ⟨b', off', he, hcell⟩ := hc i hi
    simp at he
    obtain ⟨rfl, rfl⟩ := he
    exact hcell

theorem info5 : (Try.prog.info? 5).map (fun i => (i.zero, i.size, i.bytes)) = some (some (.int .u8 0), 1, 1) := by kernel_rfl

/-- Bytes, as cells. -/
def vals (xs : List Nat) : List Value := xs.map fun x => Value.int .u8 ((x : Nat) : Int)

theorem vals_length (xs : List Nat) : (vals xs).length = xs.length := by simp [vals]
theorem vals_append (xs ys : List Nat) : vals (xs ++ ys) = vals xs ++ vals ys := by simp [vals]
theorem vals_one (xs : List Nat) : ∀ u ∈ vals xs, u.oneCell' = true := by
  intro u hu
  obtain ⟨_, _, rfl⟩ := List.mem_map.1 hu
  rfl
theorem vals_get {xs : List Nat} {i : Nat} (hi : i < xs.length) : (vals xs)[i]? = some (.int .u8 (xs.getD i 0 : Nat)) := by
  simp [vals, List.getD, hi]
theorem vals_set (xs : List Nat) (i x : Nat) : (vals xs).set i (.int .u8 ((x : Nat) : Int)) = vals (xs.set i x) := by
  simp [vals, List.map_set]

/-- The slice is the call's own, and holds the bytes xs. -/
def Owns (w : World) (base : Nat) (v : Value) (xs : List Nat) : Prop := w.ownsRow base 5 1 v xs.length (vals xs)

theorem Bs.keep {w w' : World} {B : Nat} {a : Option Addr} {len : Nat} {xs : List Nat} (h : Bs w a len xs) (hb : Below B w w') (hB : w.heap.size ≤ B) : Bs w' a len xs := by
  refine ⟨h.1, h.2.1, fun i hi => ?_⟩
  obtain ⟨b, off, ha, hc⟩ := h.2.2 i hi
  exact ⟨b, off, ha, (hb.cell (Nat.lt_of_lt_of_le (World.block_lt_of_cell? w _ hc) hB)).trans hc⟩

theorem Owns.keep {w w' : World} {B base : Nat} {v : Value} {xs : List Nat} (h : Owns w base v xs) (hb : Below B w w') (hB : w.heap.size ≤ B) : Owns w' base v xs := by
  refine ⟨h.1, ?_⟩
  rcases h.2 with hn | ⟨g, cap, cur, hv, hbg, hg, rest⟩
  · exact .inl hn
  · refine .inr ⟨g, cap, cur, hv, hbg, ?_, rest⟩
    rw [hb.block g (Nat.lt_of_lt_of_le (Array.getElem?_eq_some_iff.1 hg).1 hB)]
    exact hg

theorem Owns.row {w : World} {base g cap n : Nat} {xs : List Nat} (h : Owns w base (.slice (some ⟨g, 0, none⟩) n cap) xs) (hx : Bytes xs) : n = xs.length ∧ Bs w (some ⟨g, 0, none⟩) xs.length xs := by
  have hn : n = xs.length := by
    rcases h.2 with ⟨h', _⟩ | ⟨g', cap', cur, h', _⟩
    · simp at h'
    · simp only [Value.slice.injEq] at h'
      exact h'.2.1
  subst hn
  refine ⟨rfl, rfl, hx, fun i hi => ⟨g, 0, rfl, ?_⟩⟩
  have := World.ownsRow.cellAt h i (by omega)
  rw [Nat.zero_add, this, vals_get hi]

theorem Owns.bs {w : World} {base : Nat} {v : Value} {xs : List Nat} (h : Owns w base v xs) (hx : Bytes xs) :
    ∃ a cap, v = .slice a xs.length cap ∧ Bs w a xs.length xs ∧ (a = none → cap = 0) := by
  rcases h.2 with ⟨hv, h0⟩ | ⟨g, cap, cur, hv, hbg, hg, hr⟩
  · refine ⟨none, 0, by rw [h0]; exact hv, ⟨rfl, hx, fun i hi => by omega⟩, fun _ => rfl⟩
  · refine ⟨some ⟨g, 0, none⟩, cap, hv, ?_, fun e => by cases e⟩
    rw [hv] at h
    exact (h.row hx).2

theorem Owns.pos {w : World} {base : Nat} {v : Value} {xs : List Nat} (h : Owns w base v xs) (hp : 0 < xs.length) :
    ∃ g cap, v = .slice (some ⟨g, 0, none⟩) xs.length cap ∧ base ≤ g ∧ g < w.heap.size ∧ xs.length ≤ cap := by
  rcases h.2 with ⟨hv, h0⟩ | ⟨g, cap, cur, hv, hbg, hg, hle, hr⟩
  · omega
  · exact ⟨g, cap, hv, hbg, (Array.getElem?_eq_some_iff.1 hg).1, hle⟩

theorem Owns.lit (w : World) (base : Nat) (xs : List Nat) (hb : base ≤ w.heap.size) (hm : xs.length ≤ 1000000) : Owns (w.alloc (.cells (vals xs).toArray 5)) base (.slice (some ⟨w.heap.size, 0, none⟩) xs.length xs.length) xs := by
  have := World.ownsRow_lit (base := base) (e := 5) (size := 1) w (vals xs).toArray xs.length hb (by unfold maxLen; omega) (by simp [vals])
  simpa [Owns] using this

/-- Blocks that do not hold bytes stay as they are. -/
def Stay (w w' : World) : Prop := ∀ (p : Nat) (C : Array Value) (t : TypeId) (fr : Nat × Nat), w.heap[p]? = some (Obj.cells C t fr) → t ≠ 5 → w'.heap[p]? = w.heap[p]?

theorem Stay.refl (w : World) : Stay w w := fun _ _ _ _ _ _ => rfl
theorem Stay.trans {a b c : World} (h : Stay a b) (k : Stay b c) : Stay a c := fun p C t fr hp ht => (k p C t fr ((h p C t fr hp ht).trans hp) ht).trans (h p C t fr hp ht)
theorem Stay.below {w w' : World} (h : Below w.heap.size w w') : Stay w w' := fun p _ _ _ hp _ => h.block p (Array.getElem?_eq_some_iff.1 hp).1

theorem Owns.ne {w : World} {base : Nat} {v : Value} {xs : List Nat} (h : Owns w base v xs) {p : Nat} {C : Array Value} {t : TypeId} {fr : Nat × Nat} (hp : w.heap[p]? = some (Obj.cells C t fr)) (ht : t ≠ 5) : v.ownBlock ≠ some p := by
  intro e
  rcases h.2 with ⟨hv, _⟩ | ⟨g, cap, cur, hv, _, hg, _⟩
  · rw [hv] at e
    cases e
  · rw [hv] at e
    simp [Value.ownBlock] at e
    subst e
    rw [hg] at hp
    simp only [Option.some.injEq, Obj.cells.injEq] at hp
    exact ht hp.2.1.symm

theorem run_append_bytes' (w : World) (ty : TypeId) (base : Nat) (v : Value) (xs : List Nat) (hown : Owns w base v xs) (ao : Option Addr) (len cap : Nat) (ys : List Nat) (hb : Bs w ao len ys) (hn : ao = none → cap = 0)
    (hlen : xs.length + len ≤ 1000000) (hbase : base ≤ w.heap.size) :
    ∃ v' w', (Builtin.append_ #[39, 39] ty #[v, .slice ao len cap]).run Try.prog w = .ok v' w' ∧ Owns w' base v' (xs ++ ys) ∧ Below base w w' ∧ Stay w w' := by
  obtain ⟨i0, hi, hz0, hz1, hz2⟩ := info_parts info5
  have hrow : ∀ k, v.ownBlock = some k → base ≤ k := fun k hk => (World.ownsRow.lt hown k hk).1
  have hyl := hb.1
  cases ao with
  | none =>
    obtain rfl := hn rfl
    have h0 : len = 0 := by
      rcases Nat.eq_zero_or_pos len with h | h
      · exact h
      · obtain ⟨_, _, e, _⟩ := hb.2.2 0 h
        cases e
    subst h0
    have hy : ys = [] := List.eq_nil_of_length_eq_zero hyl
    subst hy
    have hrun := run_append_owned_none (P := Try.prog) (w := w) base 39 ty 5 i0 1 Try.underlying39 hi v xs.length (vals xs) hown
    exact ⟨v, w, hrun, by simpa using hown, Below.refl _ _, Stay.refl _⟩
  | some ad =>
    have hcells : ∀ j u, (vals ys)[j]? = some u → w.cell? (ad.add j) = some u := by
      intro j u hj
      have hjl : j < ys.length := by
        have := (List.getElem?_eq_some_iff.1 hj).1
        simpa [vals] using this
      obtain ⟨b, off, e, hc⟩ := hb.2.2 j (by omega)
      obtain rfl := Option.some.inj e
      rw [Addr.add_lit, hc, ← vals_get hjl, hj]
    obtain ⟨v', w', hrun, ho, hg, _⟩ := run_append_own (P := Try.prog) w base 39 ty 5 i0 (.int .u8 0) 1 1 Try.underlying39 hi hz0 hz1 hz2 rfl (by decide) v xs.length (vals xs) hown ad len cap (vals ys) (by rw [vals_length, hyl, Nat.mul_one]) hcells (vals_one ys)
      (by unfold maxLen; omega) (by omega) hbase
    refine ⟨v', w', hrun, ?_, (Below.refl base w).grown hg hbase hrow, fun p C t fr hp ht => hg.block p (Array.getElem?_eq_some_iff.1 hp).1 (hown.ne hp ht).symm⟩
    unfold Owns
    rw [List.length_append, hyl, vals_append]
    exact ho

theorem run_append_bytes (w : World) (ty : TypeId) (base : Nat) (v : Value) (xs : List Nat) (hown : Owns w base v xs) (ao : Option Addr) (len cap : Nat) (ys : List Nat) (hb : Bs w ao len ys) (hn : ao = none → cap = 0)
    (hlen : xs.length + len ≤ 1000000) (hbase : base ≤ w.heap.size) :
    ∃ v' w', (Builtin.append_ #[39, 39] ty #[v, .slice ao len cap]).run Try.prog w = .ok v' w' ∧ Owns w' base v' (xs ++ ys) ∧ Below base w w' := by
  obtain ⟨v', w', h1, h2, h3, _⟩ := run_append_bytes' w ty base v xs hown ao len cap ys hb hn hlen hbase
  exact ⟨v', w', h1, h2, h3⟩

theorem wpList_append_bytes (w : World) {ops : Array Oper} {rest : List Oper} {o : Oper} {a : Act} {Q : Exit → Act → World → Prop} (hgd : o.guard = none) (s x : Operand)
    (ho : o.op = .call { callee := .builtin .append, args := #[s, x], argTypes := #[39, 39] }) (base : Nat) (v : Value) (xs : List Nat) (hs : a.eval s = v) (hown : Owns w base v xs)
    (ao : Option Addr) (len cap : Nat) (ys : List Nat) (hx : a.eval x = .slice ao len cap) (hb : Bs w ao len ys) (hn : ao = none → cap = 0)
    (hlen : xs.length + len ≤ 1000000) (hbase : base ≤ w.heap.size)
    (hK : ∀ v' w', Owns w' base v' (xs ++ ys) → Below base w w' → wpList Try.prog ops Q rest (a.put o.dst v') w') : wpList Try.prog ops Q (o :: rest) a w := by
  refine wpList_plain hgd fun K hK' => ?_
  obtain ⟨v', w', hrun, r1, r2⟩ := run_append_bytes w o.type base v xs hown ao len cap ys hb hn hlen hbase
  unfold Oper.wp
  simp [execOp, ho, resolve, invoke, builtin, hs, hx, hrun, Result.andThen]
  exact hK' _ _ (hK v' w' r1 r2)

theorem wpList_append_bytes' (w : World) {ops : Array Oper} {rest : List Oper} {o : Oper} {a : Act} {Q : Exit → Act → World → Prop} (hgd : o.guard = none) (s x : Operand)
    (ho : o.op = .call { callee := .builtin .append, args := #[s, x], argTypes := #[39, 39] }) (base : Nat) (v : Value) (xs : List Nat) (hs : a.eval s = v) (hown : Owns w base v xs)
    (ao : Option Addr) (len cap : Nat) (ys : List Nat) (hx : a.eval x = .slice ao len cap) (hb : Bs w ao len ys) (hn : ao = none → cap = 0)
    (hlen : xs.length + len ≤ 1000000) (hbase : base ≤ w.heap.size)
    (hK : ∀ v' w', Owns w' base v' (xs ++ ys) → Below base w w' → Stay w w' → wpList Try.prog ops Q rest (a.put o.dst v') w') : wpList Try.prog ops Q (o :: rest) a w := by
  refine wpList_plain hgd fun K hK' => ?_
  obtain ⟨v', w', hrun, r1, r2, r3⟩ := run_append_bytes' w o.type base v xs hown ao len cap ys hb hn hlen hbase
  unfold Oper.wp
  simp [execOp, ho, resolve, invoke, builtin, hs, hx, hrun, Result.andThen]
  exact hK' _ _ (hK v' w' r1 r2 r3)

theorem step_append_bytes {ops : Array Oper} {o : Oper} {a : Act} {w : World} {K : Act → World → Prop} {Q : Exit → Act → World → Prop} {E : Prop} (hgd : o.guard = none) (s x : Operand)
    (ho : o.op = .call { callee := .builtin .append, args := #[s, x], argTypes := #[39, 39] }) (base : Nat) (v : Value) (xs : List Nat) (hs : a.eval s = v) (hown : Owns w base v xs)
    (ao : Option Addr) (len cap : Nat) (ys : List Nat) (hx : a.eval x = .slice ao len cap) (hb : Bs w ao len ys) (hn : ao = none → cap = 0)
    (hlen : xs.length + len ≤ 1000000) (hbase : base ≤ w.heap.size)
    (hK : ∀ v' w', Owns w' base v' (xs ++ ys) → Below base w w' → K (a.put o.dst v') w') : if Region.wanted o (yielded ops a.tmps) = true then Oper.wp Try.prog o a w K Q else E := by
  have hw : Region.wanted o (yielded ops a.tmps) = true := by simp [Region.wanted, hgd]
  rw [if_pos hw]
  obtain ⟨v', w', hrun, r1, r2⟩ := run_append_bytes w o.type base v xs hown ao len cap ys hb hn hlen hbase
  unfold Oper.wp
  simp [execOp, ho, resolve, invoke, builtin, hs, hx, hrun, Result.andThen]
  exact hK v' w' r1 r2

/-- A row that was built is said to be bytes: one place behind its end is marked, no cell turns. -/
theorem run_convert_self (w : World) (C : Array Value) (n c : Nat) :
    (convert 39 39 (.slice (some ⟨w.heap.size, 0, none⟩) n c)).run Try.prog (w.alloc (.cells C 5)) = .ok (.slice (some ⟨w.heap.size, 0, none⟩) n c) (w.alloc (.cells C 5 (C.size, C.size + 1))) := by
  have hsh : (w.alloc (.cells C 5)).shape? w.heap.size = some (5, C.size) := by
    have : (w.alloc (.cells C 5)).heap[w.heap.size]? = some (.cells C 5) := by
      show (w.heap.push (.cells C 5))[w.heap.size]? = _
      simp
    unfold World.shape?
    rw [this]
  have hfr : (w.alloc (.cells C 5)).freeze ⟨w.heap.size, C.size, none⟩ 1 = w.alloc (.cells C 5 (C.size, C.size + 1)) := by
    have hm : ∀ (a : Array Obj) (x : Obj) (f : Obj → Obj), (a.push x).modify a.size f = a.push (f x) := by
      intro a x f
      apply Array.ext
      · simp
      · intro i h1 h2
        simp only [Array.getElem_modify, Array.getElem_push]
        by_cases h : a.size = i
        · subst h
          simp
        · have hi : i < a.size := by simp at h1; omega
          simp [h, hi]
    unfold World.freeze
    rw [if_neg (by decide)]
    show ({ w.alloc (.cells C 5) with heap := (w.heap.push (.cells C 5)).modify w.heap.size _ } : World) = _
    rw [hm]
    rfl
  simp [convert, run_underlying Try.underlying39, run_underlying Try.underlying5, markStringish, hsh]
  exact hfr

theorem bs_marked (w : World) (xs : List Nat) (fr : Nat × Nat) (hx : Bytes xs) : Bs (w.alloc (.cells (vals xs).toArray 5 fr)) (some ⟨w.heap.size, 0, none⟩) xs.length xs := by
  refine ⟨rfl, hx, fun i hi => ⟨w.heap.size, 0, rfl, ?_⟩⟩
  rw [Nat.zero_add, World.cell?_alloc_mark]
  simpa using vals_get hi

theorem below_drewN (B : Nat) (w : World) (q : Nat) : Below B w (w.drewN q) := ⟨rfl, rfl, rfl, Nat.le_refl _, fun _ _ => rfl⟩

theorem Bs.any {w : World} {a a' : Option Addr} (h : Bs w a 0 []) : Bs w a' 0 [] := ⟨h.1, h.2.1, fun i hi => by omega⟩

theorem Bs.at {w : World} {b off len : Nat} {xs : List Nat} (h : Bs w (some ⟨b, off, none⟩) len xs) (i : Nat) (hi : i < len) : w.cell? ⟨b, off + i, none⟩ = some (.int .u8 (xs.getD i 0 : Nat)) := by
  obtain ⟨_, _, e, hcell⟩ := h.2.2 i hi
  simp at e
  obtain ⟨rfl, rfl⟩ := e
  exact hcell

/-- What the walk is told of a slice of integers that came in: it is nil; or it leads to a row of 'cap' cells, the numbers 'zs' (the first 'len' are its elements), each fitting its kind. -/
def IsRow (k : IntKind) (w : World) (a : Option Addr) (len cap : Nat) (zs : List Int) : Prop :=
  (a = none ∧ len = 0 ∧ cap = 0 ∧ zs = []) ∨
  ∃ x, a = some x ∧ len ≤ cap ∧ cap ≤ maxLen ∧ zs.length = cap ∧ (∀ i, i < zs.length → w.cell? (x.add i) = some (.int k (zs.getD i 0))) ∧ ∀ n ∈ zs, (Lit.int k n).wf = true

/-- A slice of bytes: where they lie; that none lies at a nil one; its length. -/
structure Came (w : World) (a : Option Addr) (len cap : Nat) (xs : List Nat) : Prop where
  bs : Bs w a len xs
  nil : a = none → cap = 0
  le : len ≤ cap
  big : len ≤ 9223372036854775807

theorem came_of_row {w : World} {a : Option Addr} {len cap : Nat} {zs : List Int} (h : IsRow .u8 w a len cap zs) : ∃ xs, Came w a len cap xs := by
  rcases h with ⟨rfl, rfl, rfl, rfl⟩ | ⟨x, rfl, hl, hm, hz, hcell, hwf⟩
  · exact ⟨[], ⟨⟨rfl, fun _ h => by simp at h, fun i hi => by omega⟩, fun _ => rfl, Nat.le_refl _, by omega⟩⟩
  · have hb : ∀ n ∈ zs, 0 ≤ n ∧ n ≤ 255 := fun n hn => bounds_u8 (hwf n hn)
    have hm' : cap ≤ 9223372036854775807 := by unfold maxLen at hm; omega
    refine ⟨(zs.take len).map Int.toNat, ⟨⟨by simp; omega, ?_, ?_⟩, (fun e => by cases e), hl, by omega⟩⟩
    · intro n hn
      obtain ⟨z, hzm, rfl⟩ := List.mem_map.1 hn
      have := hb z (List.mem_of_mem_take hzm)
      omega
    · intro i hi
      have hc := hcell i (by omega)
      obtain ⟨b, off, spot⟩ := x
      have hspot : spot = none := by
        have := World.cell?_spot (hcell 0 (by omega))
        simpa [Addr.add] using this
      subst hspot
      refine ⟨b, off, rfl, ?_⟩
      rw [Addr.add_lit] at hc
      rw [hc]
      have hi' : i < zs.length := by omega
      have hmem := hb zs[i] (List.getElem_mem hi')
      have e : (((zs.take len).map Int.toNat).getD i 0 : Nat) = (zs[i]).toNat := by
        simp [List.getD, hi, hi']
      rw [e]
      simp only [List.getD, List.getElem?_eq_getElem hi', Option.getD_some]
      rw [Int.toNat_of_nonneg hmem.1]

/-- Bytes as a string. -/
def bstr (xs : List Nat) : ByteArray := strOfNums (xs.map Int.ofNat)

theorem bstr_inj {xs ys : List Nat} (hx : Bytes xs) (hy : Bytes ys) (h : bstr xs = bstr ys) : xs = ys := by
  have h1 : (bstr xs).data.toList = (bstr ys).data.toList := by rw [h]
  unfold bstr at h1
  rw [strOfNums_data, strOfNums_data, List.map_map, List.map_map] at h1
  have key : ∀ (l : List Nat), Bytes l → (l.map ((fun n : Int => UInt8.ofNat n.toNat) ∘ Int.ofNat)).map UInt8.toNat = l := by
    intro l hl
    rw [List.map_map]
    have e : l.map (UInt8.toNat ∘ ((fun n : Int => UInt8.ofNat n.toNat) ∘ Int.ofNat)) = l.map id := by
      apply List.map_congr_left
      intro n hn
      have := hl n hn
      simp
      omega
    rw [e, List.map_id]
  rw [← key xs hx, ← key ys hy, h1]

theorem str_ne {xs ys : List Nat} (hx : Bytes xs) (hy : Bytes ys) (h : xs ≠ ys) : ((bstr xs).toList == (bstr ys).toList) = false := by
  apply beq_eq_false_iff_ne.2
  intro e
  rw [ByteArray.toList_eq, ByteArray.toList_eq] at e
  refine h (bstr_inj hx hy ?_)
  have : (bstr xs).data = (bstr ys).data := Array.toList_inj.1 e
  cases hX : bstr xs
  cases hY : bstr ys
  rw [hX, hY] at this
  simp only at this
  rw [this]

theorem run_string_of {w : World} {a : Option Addr} {len : Nat} (cap : Nat) {xs : List Nat} (h : Bs w a len xs) : (convert 39 9 (.slice a len cap)).run Try.prog w = .ok (.string (bstr xs)) w := by
  cases a with
  | none =>
    have h0 : len = 0 := by
      rcases Nat.eq_zero_or_pos len with h0 | h0
      · exact h0
      · obtain ⟨_, _, e, _⟩ := h.2.2 0 h0
        cases e
    subst h0
    have hx : xs = [] := List.eq_nil_of_length_eq_zero h.1
    subst hx
    exact run_convert_bytes_nil w 39 5 Try.underlying39 Try.underlying5 0 cap 9 Try.underlying9
  | some ad =>
    by_cases h0 : len = 0
    · subst h0
      have hx : xs = [] := List.eq_nil_of_length_eq_zero h.1
      subst hx
      rw [run_convert_bytes_string w 39 9 5 (some ad) 0 cap Try.underlying39 Try.underlying5 Try.underlying9]
      rw [run_bytesToString (P := Try.prog) w ad 0 cap [] rfl]
      rfl
    · obtain ⟨b, off, e, _⟩ := h.2.2 0 (by omega)
      obtain rfl := Option.some.inj e
      have hxl := h.1
      refine run_convert_bytes_arg w 39 5 Try.underlying39 Try.underlying5 b off len cap (xs.map Int.ofNat) (by simp [hxl]) ?_ 9 Try.underlying9
      intro i hi
      rw [h.at i hi]
      have hi' : i < xs.length := by omega
      simp [List.getD, hi']

theorem own_new (w : World) : Owns (w.alloc (.cells #[] 5)) w.heap.size (.slice (some ⟨w.heap.size, 0, none⟩) 0 0) [] := Owns.lit w w.heap.size [] (Nat.le_refl _) (by simp)

/-- Where a slice begins that is cut at k. -/
def fromA (a : Option Addr) (cap k : Nat) : Option Addr := if cap = k then a else a.map (·.add (k * 1))

theorem sz5 (w : World) : (sizeOf 5).run Try.prog w = .ok 1 w := by
  obtain ⟨i0, hi, hz0, hz1, hz2⟩ := info_parts info5
  simp [sizeOf, typeInfo, hi, hz1]

theorem elem22 : Try.prog.elem 39 = 5 := by kernel_rfl

theorem slice_from (a : Option Addr) (len cap k : Nat) (hk : k ≤ len) (w : World) : (Instr.sliceAt 39 (.slice a len cap) (some (.int .i64 (k : Nat))) none none).run Try.prog w = .ok (.slice (fromA a cap k) (len - k) (cap - k)) w := by
  have h22 : Try.prog.underlying 39 = some (.slice (Try.prog.elem 39)) := by kernel_rfl
  rw [run_sliceAt_slice w 39 _ _ _ _ h22, run_slice_l w 39 a len cap h22 .i64 (k : Nat) (by omega) (by omega), elem22, sz5]
  simp [Result.andThen, sliced, fromA]

theorem slice_upto (a : Option Addr) (len cap k : Nat) (hk : k ≤ cap) (w : World) : (Instr.sliceAt 39 (.slice a len cap) none (some (.int .i64 (k : Nat))) none).run Try.prog w = .ok (.slice (fromA a cap 0) k cap) w := by
  have h22 : Try.prog.underlying 39 = some (.slice (Try.prog.elem 39)) := by kernel_rfl
  rw [run_sliceAt_slice w 39 _ _ _ _ h22, run_slice_h w 39 a len cap h22 .i64 (k : Nat) (by omega) (by omega), elem22, sz5]
  simp [Result.andThen, sliced, fromA]

theorem Bs.from {w : World} {a : Option Addr} {len cap k : Nat} {xs : List Nat} (h : Bs w a len xs) (hk : k ≤ len) (hc : len ≤ cap) : Bs w (fromA a cap k) (len - k) (xs.drop k) := by
  refine ⟨by simp [h.1], fun x hx => h.2.1 x (List.mem_of_mem_drop hx), fun i hi => ?_⟩
  obtain ⟨b, off, rfl, hcell⟩ := h.2.2 (k + i) (by omega)
  refine ⟨b, off + k, ?_, ?_⟩
  · unfold fromA
    rw [if_neg (by omega)]
    simp only [Option.map_some, Nat.mul_one, Addr.add_lit]
  · rw [Nat.add_assoc, hcell]
    simp [List.getD]

theorem Bs.upto {w : World} {a : Option Addr} {len cap k : Nat} {xs : List Nat} (h : Bs w a len xs) (hk : k ≤ len) : Bs w (fromA a cap 0) k (xs.take k) := by
  refine ⟨by simp [h.1, hk], fun x hx => h.2.1 x (List.mem_of_mem_take hx), fun i hi => ?_⟩
  obtain ⟨b, off, rfl, hcell⟩ := h.2.2 i (by omega)
  refine ⟨b, off, ?_, ?_⟩
  · unfold fromA
    split
    · rfl
    · simp only [Option.map_some, Nat.zero_mul, Addr.add_lit, Nat.add_zero]
  · rw [hcell]
    simp [List.getD, hi]

theorem index_byte (b o len cap k : Nat) (hk : k < len) (w : World) : (Instr.indexAt 39 (.slice (some ⟨b, o, none⟩) len cap) (.int .i64 (k : Nat))).run Try.prog w = .ok (.pointer (some ⟨b, o + k, none⟩)) w := by
  have h22 : Try.prog.underlying 39 = some (.slice (Try.prog.elem 39)) := by kernel_rfl
  have h1 : (0 : Int) ≤ (k : Int) := by omega
  have h2 : (k : Int) < (len : Int) := by omega
  simp [go_sem, Instr.indexAt, run_underlying h22, h1, Addr.add_lit]
  intro h
  omega

theorem load_byte (b o x : Nat) (w : World) (h : w.cell? ⟨b, o, none⟩ = some (.int .u8 (x : Nat))) : (Instr.loadAt 5 (.pointer (some ⟨b, o, none⟩))).run Try.prog w = .ok (.int .u8 (x : Nat)) w := by
  simp [go_sem, h]

theorem build_one (x : Nat) (w : World) : (Instr.buildSlice 39 1 #[(0, .int .u8 (x : Nat))]).run Try.prog w = .ok (.slice (some ⟨w.heap.size, 0, none⟩) 1 1) (w.alloc (.cells (vals [x]).toArray 5)) := by
  simp [go_sem, vals]

theorem app_one (w : World) (base : Nat) (v : Value) (xs : List Nat) (hown : Owns w base v xs) (a : Option Addr) (cap : Nat) (ys : List Nat) (hb : Bs w a 1 ys) (hlen : xs.length + 1 ≤ 1000000) (hbase : base ≤ w.heap.size) :
    ∃ v' w', (∀ ty, (Builtin.append_ #[39, 39] ty #[v, .slice a 1 cap]).run Try.prog w = .ok v' w') ∧ Owns w' base v' (xs ++ ys) ∧ Below base w w' := by
  obtain ⟨v', w', hrun, ho, hb'⟩ := run_append_bytes w 0 base v xs hown a 1 cap ys hb (fun e => by obtain ⟨_, _, h, _⟩ := hb.2.2 0 (by omega); rw [e] at h; cases h) hlen hbase
  exact ⟨v', w', fun ty => hrun, ho, hb'⟩

theorem Owns.set {wr : World} {base g N cap : Nat} {zs : List Nat} (h : Owns wr base (.slice (some ⟨g, 0, none⟩) N cap) zs) (hN : N = zs.length) (i x : Nat) :
    Owns (wr.setCell ⟨g, i, none⟩ (.int .u8 ((x : Nat) : Int))) base (.slice (some ⟨g, 0, none⟩) N cap) (zs.set i x) := by
  subst hN
  have := (World.ownsRow.stored h i (.int .u8 ((x : Nat) : Int))).1
  unfold Owns
  rw [List.length_set, ← vals_set]
  exact this

/-- A row's cells from o on, laid anew. -/
def setAll (cur : Array Value) : Nat → List Value → Array Value
  | _, [] => cur
  | o, v :: r => setAll (cur.setIfInBounds o v) (o + 1) r

theorem setAll_size : ∀ (vs : List Value) (cur : Array Value) (o : Nat), (setAll cur o vs).size = cur.size
  | [], _, _ => rfl
  | v :: r, cur, o => by
    show (setAll (cur.setIfInBounds o v) (o + 1) r).size = _
    rw [setAll_size r]
    simp

theorem setAll_take : ∀ (vs : List Value) (cur : Array Value) (o : Nat), o + vs.length ≤ cur.size → (setAll cur o vs).toList.take (o + vs.length) = cur.toList.take o ++ vs
  | [], cur, o, _ => by simp [setAll]
  | v :: r, cur, o, h => by
    have h' : o + 1 + r.length ≤ cur.size := by simp at h; omega
    have ih := setAll_take r (cur.setIfInBounds o v) (o + 1) (by simpa using h')
    show (setAll (cur.setIfInBounds o v) (o + 1) r).toList.take (o + (r.length + 1)) = _
    rw [show o + (r.length + 1) = o + 1 + r.length by omega, ih]
    have ho : o < cur.toList.length := by simp; omega
    rw [Array.toList_setIfInBounds, List.take_succ_eq_append_getElem (by simpa using ho), List.take_set_of_le (Nat.le_refl _)]
    simp

theorem setCells_row (g : Nat) (e : TypeId) : ∀ (vs : List Value) (o : Nat) (cur : Array Value) (w : World), w.heap[g]? = some (.cells cur e (0, 0)) → (w.setCells g o vs).heap[g]? = some (.cells (setAll cur o vs) e (0, 0))
  | [], _, _, _, h => h
  | v :: r, o, cur, w, h => setCells_row g e r (o + 1) _ _ (heap_setCell_same w g o cur e v h)

theorem setCells_below {B g : Nat} (hB : B ≤ g) : ∀ (vs : List Value) (o : Nat) (w0 w : World), Below B w0 w → Below B w0 (w.setCells g o vs)
  | [], _, _, _, h => h
  | v :: r, o, w0, _, h => setCells_below hB r (o + 1) w0 _ (h.setCell hB v)

/-- A string's bytes. -/
def strB (s : ByteArray) : List Nat := s.data.toList.map UInt8.toNat

theorem strB_length (s : ByteArray) : (strB s).length = s.size := by
  unfold strB
  rw [List.length_map, Array.length_toList]
  rfl

theorem strB_bytes (s : ByteArray) : Bytes (strB s) := by
  intro x hx
  obtain ⟨c, _, rfl⟩ := List.mem_map.1 hx
  exact c.toNat_lt

theorem strB_cells (s : ByteArray) : byteCells s = vals (strB s) := by
  simp [byteCells, vals, strB]

theorem bstr_strB (s : ByteArray) : bstr (strB s) = s := by
  have h : (bstr (strB s)).data.toList = s.data.toList := by
    unfold bstr strB
    rw [strOfNums_data, List.map_map, List.map_map]
    have e : ((fun n : Int => UInt8.ofNat n.toNat) ∘ Int.ofNat) ∘ UInt8.toNat = id := by
      funext c
      simp
    rw [e, List.map_id]
  cases hb : bstr (strB s)
  cases s
  rw [hb] at h
  simp only at h
  rw [Array.toList_inj.1 h]

theorem setCells_other (g k : Nat) (hk : k ≠ g) : ∀ (vs : List Value) (o : Nat) (w : World), (w.setCells g o vs).heap[k]? = w.heap[k]?
  | [], _, _ => rfl
  | v :: r, o, w => by
    show ((w.setCell ⟨g, o, none⟩ v).setCells g (o + 1) r).heap[k]? = _
    rw [setCells_other g k hk r (o + 1) _]
    exact Below.heap_setCell w ⟨g, o, none⟩ v k hk

/-- 'append(b, s...)', b the call's own and not nil, s a string. -/
theorem run_append_str' (w : World) (ty : TypeId) (base g n cap : Nat) (xs : List Nat) (hown : Owns w base (.slice (some ⟨g, 0, none⟩) n cap) xs) (hx : Bytes xs) (s : ByteArray) (hlen : xs.length + s.size ≤ 1000000) (hbase : base ≤ w.heap.size) :
    ∃ v' w', (Builtin.append_ #[39, 9] ty #[.slice (some ⟨g, 0, none⟩) n cap, .string s]).run Try.prog w = .ok v' w' ∧ Owns w' base v' (xs ++ strB s) ∧ Below base w w' ∧ Stay w w' := by
  obtain ⟨i0, hi, hz0, hz1, hz2⟩ := info_parts info5
  obtain ⟨hn, hbs⟩ := hown.row hx
  subst hn
  have hsrc := Src.ofString (P := Try.prog) w Try.underlying9 s
  rw [← hz1, strB_cells] at hsrc
  rcases hown.2 with ⟨h', _⟩ | ⟨g', cap', cur, h', hbg, hg, hle, hmax, hcs, htk⟩
  · simp at h'
  · simp only [Value.slice.injEq, Option.some.injEq, Addr.mk.injEq, and_true, true_and] at h'
    obtain ⟨rfl, rfl⟩ := h'
    have hvl : (vals (strB s)).length = s.size := by rw [vals_length, strB_length]
    by_cases hr : xs.length + s.size ≤ cap
    · have hcell : ∀ j, j < (vals (strB s)).length → (w.cell? ⟨g, 0 + xs.length * i0.size + j, none⟩).isSome = true := by
        intro j hj
        rw [hz1, cell_of_row w g _ cur 5 (0, 0) hg]
        have : xs.length + j < cur.size := by rw [hcs]; omega
        simp
        exact this
      have hfz : ∀ j, j < (vals (strB s)).length → w.frozen? ⟨g, 0 + xs.length * i0.size + j, none⟩ = false := fun j _ => frozen_of_row w g _ cur 5 hg
      have hrun := run_append_room_src (P := Try.prog) w 39 9 ty 5 i0 Try.underlying39 hi g 0 xs.length cap (.string s) s.size (vals (strB s)) hsrc hr hcell hfz
      refine ⟨_, _, hrun, ?_, setCells_below hbg _ _ _ _ (Below.refl _ _), fun p C t fr hp ht => setCells_other g p (fun e => hown.ne hp ht (by rw [e]; rfl)) _ _ _⟩
      unfold Owns
      rw [List.length_append, strB_length]
      refine ⟨by rw [vals_length, List.length_append, strB_length, Nat.mul_one], .inr ⟨g, cap, _, rfl, hbg, setCells_row g 5 _ _ cur w hg, hr, hmax, by rw [setAll_size]; exact hcs, ?_⟩⟩
      have hst := setAll_take (vals (strB s)) cur xs.length (by rw [hvl, hcs]; omega)
      rw [hvl] at hst
      rw [hz1, Nat.zero_add, Nat.mul_one, Nat.mul_one, hst, vals_append]
      refine congrArg (fun l => l ++ vals (strB s)) ?_
      rw [← htk, Nat.mul_one]
    · have hold : (Builtin.firstCells i0.size xs.length (.slice (some ⟨g, 0, none⟩) xs.length cap)).run Try.prog w.drew = .ok (vals xs).toArray w.drew := by
        refine run_firstCells_some w.drew i0.size xs.length ⟨g, 0, none⟩ xs.length cap (vals xs) (by rw [vals_length, hz1, Nat.mul_one]) ?_
        intro j u hj
        have hjl : j < xs.length := by
          have := (List.getElem?_eq_some_iff.1 hj).1
          simpa [vals] using this
        rw [Addr.add_lit]
        have := hbs.at j hjl
        rw [← vals_get hjl, hj] at this
        exact this
      have hrun := run_append_grow_src (P := Try.prog) w 39 9 ty 5 i0 (.int .u8 0) Try.underlying39 hi hz0 (some ⟨g, 0, none⟩) xs.length cap (vals xs) hold (.string s) s.size (vals (strB s)) hsrc (by omega) (by omega)
        (growslice_fits (by omega) (by rw [hz2]; omega))
      have hge := grownCap_ge w (xs.length + s.size) cap 5
      have hcm : grownCap w (xs.length + s.size) cap 5 ≤ maxLen := grownCap_le_maxLen w _ cap 5 (by unfold maxLen; omega)
      refine ⟨_, _, hrun, ?_, ((Below.refl base w).drew).alloc hbase _, fun p C t fr hp ht => Below.heap_alloc w.drew _ p (Array.getElem?_eq_some_iff.1 hp).1⟩
      unfold Owns
      rw [List.length_append, strB_length]
      refine ⟨by rw [vals_length, List.length_append, strB_length, Nat.mul_one], .inr ⟨w.heap.size, _, _, rfl, hbase, heap_alloc_new w.drew _, hge, hcm, ?_, ?_⟩⟩
      · simp only [Array.size_append, List.size_toArray, size_zeroCells, List.length_append, hvl, vals_length]
        show xs.length + s.size + (grownCap w (xs.length + s.size) cap 5 - (xs.length + s.size)) * 1 = _
        omega
      · rw [vals_append, Array.toList_append]
        have hl : (vals xs ++ vals (strB s)).length = (xs.length + s.size) * 1 := by rw [List.length_append, hvl, vals_length, Nat.mul_one]
        rw [← hl]
        exact List.take_left

theorem run_append_str (w : World) (ty : TypeId) (base g n cap : Nat) (xs : List Nat) (hown : Owns w base (.slice (some ⟨g, 0, none⟩) n cap) xs) (hx : Bytes xs) (s : ByteArray) (hlen : xs.length + s.size ≤ 1000000) (hbase : base ≤ w.heap.size) :
    ∃ v' w', (Builtin.append_ #[39, 9] ty #[.slice (some ⟨g, 0, none⟩) n cap, .string s]).run Try.prog w = .ok v' w' ∧ Owns w' base v' (xs ++ strB s) ∧ Below base w w' := by
  obtain ⟨v', w', h1, h2, h3, _⟩ := run_append_str' w ty base g n cap xs hown hx s hlen hbase
  exact ⟨v', w', h1, h2, h3⟩

theorem wpList_append_str (w : World) {ops : Array Oper} {rest : List Oper} {o : Oper} {a : Act} {Q : Exit → Act → World → Prop} (hgd : o.guard = none) (s x : Operand)
    (ho : o.op = .call { callee := .builtin .append, args := #[s, x], argTypes := #[39, 9] }) (base g n cap : Nat) (xs : List Nat) (hs : a.eval s = .slice (some ⟨g, 0, none⟩) n cap) (hown : Owns w base (.slice (some ⟨g, 0, none⟩) n cap) xs) (hb : Bytes xs)
    (str : ByteArray) (hx : a.eval x = .string str) (hlen : xs.length + str.size ≤ 1000000) (hbase : base ≤ w.heap.size)
    (hK : ∀ v' w', Owns w' base v' (xs ++ strB str) → Below base w w' → wpList Try.prog ops Q rest (a.put o.dst v') w') : wpList Try.prog ops Q (o :: rest) a w := by
  refine wpList_plain hgd fun K hK' => ?_
  obtain ⟨v', w', hrun, r1, r2⟩ := run_append_str w o.type base g n cap xs hown hb str hlen hbase
  unfold Oper.wp
  simp [execOp, ho, resolve, invoke, builtin, hs, hx, hrun, Result.andThen]
  exact hK' _ _ (hK v' w' r1 r2)

end Go.Proofs.Ytehmemfeagjagaa
