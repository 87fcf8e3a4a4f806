/-
  Slices as their parts; slices that a thing keeps for itself, wherever they begin in their block: appended to, cut and copied over in place. Nothing of the program is named but its types.
-/
import Derived.Test.YtehmemfeagjagaaBytes
import Derived.Test.YtehmemfeagjagaaPlanE
import Derived.Laws.CopyRow
import Derived.Laws.IdiomCopy
import Derived.Deep.MidRow
import Derived.Deep.WholeRow
namespace Go.Proofs.Ytehmemfeagjagaa
open Go.RowKit
set_option maxRecDepth 100000

theorem rBelow {a b c : World} (h : Below a.heap.size a b) (k : Below b.heap.size b c) : Below a.heap.size a c := h.trans (k.mono h.size)

/-- A slice, as its parts. -/
structure Sl where
  a : Option Addr
  len : Nat
  cap : Nat
def Sl.val (s : Sl) : Value := .slice s.a s.len s.cap
def Sl.nil : Sl := ⟨none, 0, 0⟩
def Sl.from_ (s : Sl) (k : Nat) : Sl := ⟨fromA s.a s.cap k, s.len - k, s.cap - k⟩
theorem setCell_size (w : World) (a : Addr) (u : Value) : (w.setCell a u).heap.size = w.heap.size := by simp [World.setCell]

/-- Only the blocks of F, and new ones, have turned. -/
structure Frm (F : Nat → Prop) (w w' : World) : Prop where
  os : w'.os = w.os
  tape : w'.tape = w.tape
  output : w'.output = w.output
  size : w.heap.size ≤ w'.heap.size
  block : ∀ k, k < w.heap.size → ¬ F k → w'.heap[k]? = w.heap[k]?

theorem Frm.refl (F : Nat → Prop) (w : World) : Frm F w w := ⟨rfl, rfl, rfl, Nat.le_refl _, fun _ _ _ => rfl⟩
theorem Frm.ofBelow {F : Nat → Prop} {w w' : World} (h : Below w.heap.size w w') : Frm F w w' := ⟨h.os, h.tape, h.output, h.size, fun k hk _ => h.block k hk⟩
theorem Frm.trans {F G : Nat → Prop} {a b c : World} (h : Frm F a b) (k : Frm G b c) (hG : ∀ i, i < a.heap.size → G i → F i) : Frm F a c :=
  ⟨k.os.trans h.os, k.tape.trans h.tape, k.output.trans h.output, Nat.le_trans h.size k.size, fun i hi hF => (k.block i (Nat.lt_of_lt_of_le hi h.size) (fun g => hF (hG i hi g))).trans (h.block i hi hF)⟩
theorem Frm.mono {F G : Nat → Prop} {a b : World} (h : Frm F a b) (hG : ∀ i, i < a.heap.size → F i → G i) : Frm G a b :=
  ⟨h.os, h.tape, h.output, h.size, fun i hi hF => h.block i hi (fun f => hF (hG i hi f))⟩
theorem Frm.below {F : Nat → Prop} {B : Nat} {w w' : World} (h : Frm F w w') (hB : B ≤ w.heap.size) (hF : ∀ k, F k → B ≤ k) : Below B w w' :=
  ⟨h.os, h.tape, h.output, h.size, fun k hk => h.block k (Nat.lt_of_lt_of_le hk hB) (fun f => by have := hF k f; omega)⟩
theorem Frm.setCell {F : Nat → Prop} {a w : World} (h : Frm F a w) {p : Addr} (hp : F p.block) (u : Value) : Frm F a (w.setCell p u) :=
  ⟨h.os, h.tape, h.output, by have := h.size; simpa [World.setCell] using this, fun k hk hF => (Below.heap_setCell w p u k (fun e => hF (by rw [e]; exact hp))).trans (h.block k hk hF)⟩
theorem Frm.drew {F : Nat → Prop} {a w : World} (h : Frm F a w) : Frm F a w.drew := ⟨h.os, h.tape, h.output, h.size, h.block⟩

/-- The block that a slice leads to. -/
def Sl.blk (s : Sl) : Option Nat := s.a.map Addr.block
theorem Sl.blk_nil : Sl.nil.blk = none := rfl

/-- A slice that is kept: its cells, in a block of its elements' kind. -/
def Own (e : TypeId) (z : Nat) (w : World) (s : Sl) (vs : List Value) : Prop :=
  vs.length = s.len * z ∧ ((s = Sl.nil ∧ vs = []) ∨ ∃ g off cur, s.a = some ⟨g, off, none⟩ ∧ w.heap[g]? = some (.cells cur e (0, 0)) ∧ off + s.cap * z ≤ cur.size ∧ s.len ≤ s.cap ∧ s.cap ≤ maxLen ∧ (cur.toList.drop off).take (s.len * z) = vs)

theorem Own.nil (e : TypeId) (z : Nat) (w : World) : Own e z w Sl.nil [] := ⟨by simp [Sl.nil], .inl ⟨rfl, rfl⟩⟩

theorem Own.frame {e : TypeId} {z : Nat} {w w' : World} {s : Sl} {vs : List Value} (h : Own e z w s vs) (hk : ∀ k, s.blk = some k → w'.heap[k]? = w.heap[k]?) : Own e z w' s vs := by
  refine ⟨h.1, ?_⟩
  rcases h.2 with h0 | ⟨g, off, cur, ha, hg, r⟩
  · exact .inl h0
  · exact .inr ⟨g, off, cur, ha, (hk g (by rw [Sl.blk, ha]; rfl)).trans hg, r⟩

theorem Own.lt {e : TypeId} {z : Nat} {w : World} {s : Sl} {vs : List Value} (h : Own e z w s vs) {k : Nat} (hk : s.blk = some k) : k < w.heap.size := by
  rcases h.2 with ⟨h0, _⟩ | ⟨g, off, cur, ha, hg, r⟩
  · rw [h0] at hk; cases hk
  · rw [Sl.blk, ha] at hk
    cases hk
    exact (Array.getElem?_eq_some_iff.1 hg).1

theorem Own.kind {e : TypeId} {z : Nat} {w : World} {s : Sl} {vs : List Value} (h : Own e z w s vs) {k : Nat} (hk : s.blk = some k) : ∃ cur, w.heap[k]? = some (.cells cur e (0, 0)) := by
  rcases h.2 with ⟨h0, _⟩ | ⟨g, off, cur, ha, hg, r⟩
  · rw [h0] at hk; cases hk
  · rw [Sl.blk, ha] at hk
    cases hk
    exact ⟨cur, hg⟩

theorem Own.nilcap {e : TypeId} {z : Nat} {w : World} {s : Sl} {vs : List Value} (h : Own e z w s vs) (ha : s.a = none) : s.cap = 0 := by
  rcases h.2 with ⟨h0, _⟩ | ⟨g, off, cur, ha', _⟩
  · rw [h0]; rfl
  · rw [ha'] at ha; cases ha

theorem Own.lecap {e : TypeId} {z : Nat} {w : World} {s : Sl} {vs : List Value} (h : Own e z w s vs) : s.len ≤ s.cap := by
  rcases h.2 with ⟨h0, _⟩ | ⟨g, off, cur, ha', _, _, h2, _⟩
  · rw [h0]; exact Nat.le_refl _
  · exact h2
theorem Own.capmax {e : TypeId} {z : Nat} {w : World} {s : Sl} {vs : List Value} (h : Own e z w s vs) : s.cap ≤ maxLen := by
  rcases h.2 with ⟨h0, _⟩ | ⟨g, off, cur, ha', _, _, _, h2, _⟩
  · rw [h0]; exact Nat.zero_le _
  · exact h2

theorem Own.cell {e : TypeId} {z : Nat} {w : World} {s : Sl} {vs : List Value} (h : Own e z w s vs) {a : Addr} (ha : s.a = some a) (j : Nat) (u : Value) (hj : vs[j]? = some u) : w.cell? (a.add j) = some u := by
  rcases h.2 with ⟨h0, _⟩ | ⟨g, off, cur, ha', hg, _, _, _, ht⟩
  · rw [h0] at ha; cases ha
  · rw [ha'] at ha
    cases ha
    rw [Addr.add_lit, cell_of_row w g _ cur e (0, 0) hg]
    rw [← ht, List.getElem?_take, List.getElem?_drop] at hj
    split at hj
    · simpa using hj
    · cases hj

/-- What it yields to an append. -/
theorem Own.src {S e : TypeId} {z : Nat} {w : World} {s : Sl} {vs : List Value} (h : Own e z w s vs) (hu : Try.prog.underlying S = some (.slice e)) (h1 : ∀ u ∈ vs, u.oneCell' = true) : Src Try.prog z S s.val s.len vs w := by
  rcases h.2 with ⟨h0, hv⟩ | ⟨g, off, cur, ha, _⟩
  · subst h0; subst hv
    exact Src.ofNil w hu 0
  · unfold Sl.val
    rw [ha]
    exact Src.ofSlice w hu ⟨g, off, none⟩ s.len s.cap vs h.1 (fun j u hj => h.cell ha j u hj) h1

theorem set_mid (l vs : List Value) (o n : Nat) (hl : o + n + vs.length ≤ l.length) : ((setAll l.toArray (o + n) vs).toList.drop o).take (n + vs.length) = (l.drop o).take n ++ vs := by
  have h := setAll_take vs l.toArray (o + n) (by simpa using hl)
  have e : ((setAll l.toArray (o + n) vs).toList.drop o).take (n + vs.length) = ((setAll l.toArray (o + n) vs).toList.take (o + n + vs.length)).drop o := by
    rw [List.drop_take]
    congr 1
    omega
  rw [e, h, List.drop_append_of_le_length (by simp; omega)]
  congr 1
  simp [List.drop_take]

/-- append onto a slice that is kept. -/
theorem own_append {S e : TypeId} {z : Nat} {zv : Value} {bytes : Nat} (hu : Try.prog.underlying S = some (.slice e)) (hi : (Try.prog.info? e).map (fun i => (i.zero, i.size, i.bytes)) = some (some zv, z, bytes)) (hzc : zv.cells.size = z) (hby : bytes ≤ 1000)
    (w : World) (s : Sl) (us : List Value) (hown : Own e z w s us) (h1u : ∀ u ∈ us, u.oneCell' = true) (x : Value) (n : Nat) (vs : List Value) (hs : Src Try.prog z S x n vs w) (hlen : s.len + n ≤ 1000000) (ty : TypeId) :
    ∃ s' w', (Builtin.append_ #[S, S] ty #[s.val, x]).run Try.prog w = .ok s'.val w' ∧ Own e z w' s' (us ++ vs) ∧ s'.len = s.len + n ∧ Frm (fun k => s.blk = some k) w w' ∧ (s'.blk = s.blk ∨ (s'.blk = some w.heap.size ∧ w.heap.size < w'.heap.size)) := by
  obtain ⟨i0, hi, hz0, hz1, hz2⟩ := info_parts hi
  have hvl := hs.newsLen
  have hul := hown.1
  rw [← hz1] at hs
  by_cases hr : s.len + n ≤ s.cap
  · rcases hown.2 with ⟨h0, hv⟩ | ⟨g, off, cur, ha, hg, hoc, hlc, hcm, ht⟩
    · subst h0; subst hv
      have hn0 : n = 0 := by simpa [Sl.nil] using hr
      subst hn0
      have hv0 : vs = [] := List.eq_nil_of_length_eq_zero (by rw [hvl]; simp)
      subst hv0
      refine ⟨Sl.nil, w, ?_, Own.nil e z w, rfl, Frm.refl _ _, .inl rfl⟩
      simp [Builtin.append_, Sl.val, Sl.nil, run_underlying hu, sizeOf, typeInfo, hi, hs.len, hs.cells]
    · have hcell : ∀ j, j < vs.length → (w.cell? ⟨g, off + s.len * i0.size + j, none⟩).isSome = true := by
        intro j hj
        have hle : off + s.len * z + j < cur.size := by
          have : s.len * z + n * z ≤ s.cap * z := by rw [← Nat.add_mul]; exact Nat.mul_le_mul_right z hr
          omega
        rw [hz1, cell_of_row w g _ cur e (0, 0) hg]
        simpa using hle
      have hfz : ∀ j, j < vs.length → w.frozen? ⟨g, off + s.len * i0.size + j, none⟩ = false := fun j _ => frozen_of_row w g _ cur e hg
      have hrun := run_append_room_src (P := Try.prog) w S S ty e i0 hu hi g off s.len s.cap x n vs hs hr hcell hfz
      refine ⟨⟨s.a, s.len + n, s.cap⟩, _, by unfold Sl.val; simp only [ha]; exact hrun, ?_, rfl, ⟨?_, ?_, ?_, ?_, ?_⟩, .inl rfl⟩
      · refine ⟨by rw [List.length_append, hul, hvl]; show _ = (s.len + n) * z; rw [Nat.add_mul], .inr ⟨g, off, _, ha, setCells_row g e vs _ cur w hg, by rw [setAll_size]; exact hoc, hr, hcm, ?_⟩⟩
        have hle : off + s.len * z + vs.length ≤ cur.toList.length := by
          have : s.len * z + n * z ≤ s.cap * z := by rw [← Nat.add_mul]; exact Nat.mul_le_mul_right z hr
          simp only [Array.length_toList]
          omega
        have := set_mid cur.toList vs off (s.len * z) hle
        rw [Array.toArray_toList, ht, hvl] at this
        rw [hz1]
        show ((setAll cur (off + s.len * z) vs).toList.drop off).take ((s.len + n) * z) = _
        rw [Nat.add_mul]
        exact this
      · exact (setCells_below (B := 0) (Nat.zero_le g) vs _ w w (Below.refl _ _)).os
      · exact (setCells_below (B := 0) (Nat.zero_le g) vs _ w w (Below.refl _ _)).tape
      · exact (setCells_below (B := 0) (Nat.zero_le g) vs _ w w (Below.refl _ _)).output
      · exact (setCells_below (B := 0) (Nat.zero_le g) vs _ w w (Below.refl _ _)).size
      · intro k _ hF
        refine setCells_other g k (fun e => hF ?_) vs _ w
        rw [Sl.blk, ha, e]; rfl
  · have hold : (Builtin.firstCells i0.size s.len (.slice s.a s.len s.cap)).run Try.prog w.drew = .ok us.toArray w.drew := by
      rw [hz1]
      rcases hown.2 with ⟨h0, hv⟩ | ⟨g, off, cur, ha, hg, hoc, hlc, hcm, ht⟩
      · subst h0; subst hv
        exact run_firstCells_none w.drew z 0 0 0
      · rw [ha]
        exact run_firstCells_some w.drew z s.len ⟨g, off, none⟩ s.len s.cap us hul (fun j u hj => by simpa using hown.cell ha j u hj)
    have hcl := hown.lecap
    have hrun := run_append_grow_src (P := Try.prog) w S S ty e i0 zv hu hi hz0 s.a s.len s.cap us hold x n vs hs (by omega) (by omega)
      (growslice_fits (by omega) (by rw [hz2]; have : (s.len + n) * bytes ≤ 1000000 * 1000 := Nat.mul_le_mul hlen hby; omega))
    have hge := grownCap_ge w (s.len + n) s.cap e
    have hcm : grownCap w (s.len + n) s.cap e ≤ maxLen := grownCap_le_maxLen w _ s.cap e (by unfold maxLen; omega)
    refine ⟨⟨some ⟨w.heap.size, 0, none⟩, s.len + n, grownCap w (s.len + n) s.cap e⟩, _, hrun, ?_, rfl, Frm.ofBelow (((Below.refl _ w).drew).alloc (Nat.le_refl _) _), .inr ⟨rfl, ?_⟩⟩
    · refine ⟨by rw [List.length_append, hul, hvl]; show _ = (s.len + n) * z; rw [Nat.add_mul], .inr ⟨w.heap.size, 0, _, rfl, heap_alloc_new w.drew _, ?_, hge, hcm, ?_⟩⟩
      · simp only [Array.size_append, List.size_toArray, size_zeroCells, List.length_append, hul, hvl, hzc, Nat.zero_add]
        rw [← Nat.add_mul, ← Nat.add_mul]
        exact Nat.mul_le_mul_right z (by omega)
      · rw [List.drop_zero, Array.toList_append]
        have hl : (us ++ vs).length = (s.len + n) * z := by rw [List.length_append, hul, hvl, Nat.add_mul]
        show List.take ((s.len + n) * z) _ = _
        rw [← hl]
        exact List.take_left
    · show w.heap.size < (w.heap.push _).size
      simp

/-- A slice that is kept, from a place on. -/
theorem Own.from_ {e : TypeId} {w : World} {s : Sl} {vs : List Value} {k : Nat} (h : Own e 1 w s vs) (hk : k ≤ s.len) : Own e 1 w (s.from_ k) (vs.drop k) ∧ (s.from_ k).blk = s.blk := by
  have hl := h.1
  have hb : (s.from_ k).blk = s.blk := by
    unfold Sl.blk Sl.from_ fromA
    simp only
    split
    · rfl
    · cases hs : s.a with
      | none => rfl
      | some x =>
        obtain ⟨b, o, sp⟩ := x
        simp only [Option.map_some, Addr.add]
        split <;> rfl
  refine ⟨⟨by rw [List.length_drop, hl]; simp [Sl.from_], ?_⟩, hb⟩
  rcases h.2 with ⟨h0, hv⟩ | ⟨g, off, cur, ha, hg, hoc, hlc, hcm, ht⟩
  · subst h0; subst hv
    refine .inl ⟨?_, by simp⟩
    unfold Sl.from_ Sl.nil fromA
    simp
  · have hm : (s.from_ k).cap ≤ maxLen := Nat.le_trans (Nat.sub_le _ _) hcm
    have hlc' : (s.from_ k).len ≤ (s.from_ k).cap := Nat.sub_le_sub_right hlc k
    by_cases hc : s.cap = k
    · have h0 : s.len - k = 0 := by omega
      refine .inr ⟨g, off, cur, by simp [Sl.from_, fromA, hc, ha], hg, ?_, hlc', hm, ?_⟩
      · show off + (s.cap - k) * 1 ≤ _; omega
      · show (cur.toList.drop off).take ((s.len - k) * 1) = _
        rw [h0]
        have : vs.length ≤ k := by rw [hl]; omega
        rw [List.drop_eq_nil_of_le this]
        simp
    · refine .inr ⟨g, off + k, cur, by simp [Sl.from_, fromA, hc, ha, Addr.add_lit], hg, ?_, hlc', hm, ?_⟩
      · show off + k + (s.cap - k) * 1 ≤ _; omega
      · show (cur.toList.drop (off + k)).take ((s.len - k) * 1) = _
        rw [← ht, List.drop_take, List.drop_drop]
        simp

/-- Bytes that are kept, read as bytes. -/
theorem Own.came {w : World} {s : Sl} {xs : List Nat} (h : Own 5 1 w s (vals xs)) (hx : Bytes xs) : Came w s.a s.len s.cap xs := by
  have hl : xs.length = s.len := by have := h.1; rw [vals_length, Nat.mul_one] at this; exact this
  refine ⟨⟨hl, hx, fun i hi => ?_⟩, h.nilcap, h.lecap, by have := h.capmax; have := h.lecap; unfold maxLen at *; omega⟩
  rcases h.2 with ⟨h0, _⟩ | ⟨g, off, cur, ha, _⟩
  · rw [h0] at hi; exact absurd hi (Nat.not_lt_zero _)
  · refine ⟨g, off, ha, ?_⟩
    have := h.cell ha i _ (vals_get (by omega : i < xs.length))
    rwa [Addr.add_lit] at this

/-- What bytes yield to an append. -/
theorem Came.src {w : World} {a : Option Addr} {len cap : Nat} {xs : List Nat} (h : Came w a len cap xs) : Src Try.prog 1 39 (.slice a len cap) len (vals xs) w := by
  have hl := h.bs.1
  cases a with
  | none =>
    have hc := h.nil rfl
    have h0 : len = 0 := by have := h.le; omega
    subst hc; subst h0
    have : xs = [] := List.eq_nil_of_length_eq_zero hl
    subst this
    exact Src.ofNil w Try.underlying39 0
  | some ad =>
    refine Src.ofSlice w Try.underlying39 ad len cap (vals xs) (by rw [vals_length, hl, Nat.mul_one]) (fun j u hj => ?_) (vals_one xs)
    have hjl : j < xs.length := by
      have := (List.getElem?_eq_some_iff.1 hj).1
      simpa [vals] using this
    obtain ⟨b, off, e, hc⟩ := h.bs.2.2 j (by omega)
    obtain rfl := Option.some.inj e
    rw [Addr.add_lit, hc, ← vals_get hjl, hj]

/-- Bytes laid over bytes, from a place on. -/
def splice {α : Type} (xs : List α) (o : Nat) (ys : List α) : List α := xs.take o ++ ys ++ xs.drop (o + ys.length)

theorem splice_length {α : Type} (xs ys : List α) (o : Nat) (h : o + ys.length ≤ xs.length) : (splice xs o ys).length = xs.length := by
  unfold splice
  simp only [List.length_append, List.length_take, List.length_drop]
  omega

theorem vals_splice (xs ys : List Nat) (o : Nat) : splice (vals xs) o (vals ys) = vals (splice xs o ys) := by
  simp [splice, vals, List.map_take, List.map_drop]

theorem setRow_frm {w : World} {g : Nat} {cur : Array Value} {t : TypeId} {fr : Nat × Nat} (hg : w.heap[g]? = some (.cells cur t fr)) (C : Array Value) : Frm (fun k => k = g) w (w.setRow g C) ∧ (w.setRow g C).heap[g]? = some (.cells C t fr) := by
  refine ⟨⟨rfl, rfl, rfl, by simp [World.setRow], fun k _ hk => ?_⟩, setRow_heap w g cur C t fr hg⟩
  simp only [World.setRow, Array.getElem?_modify]
  rw [if_neg (fun e => hk e.symm)]

set_option maxRecDepth 100000 in
/-- copy over bytes that are kept: as many as came, from a place on. -/
theorem own_copy (w : World) (s : Sl) (xs : List Nat) (hown : Own 5 1 w s (vals xs)) (o : Nat) (a : Option Addr) (len cap : Nat) (ys zs : List Nat) (hy : Came w a len cap ys) (hz : zs = ys.take (s.len - o)) (ho : o ≤ s.len) (ty : TypeId) :
    ∃ n w', (Builtin.copy_ #[39, 39] ty #[(s.from_ o).val, .slice a len cap]).run Try.prog w = .ok n w' ∧ Own 5 1 w' s (vals (splice xs o zs)) ∧ Frm (fun k => s.blk = some k) w w' ∧ w'.heap.size = w.heap.size := by
  have hinfo : (Try.prog.info? 5).map (·.size) = some 1 := by kernel_rfl
  have hxl : xs.length = s.len := by have := hown.1; rw [vals_length, Nat.mul_one] at this; exact this
  have hyl := hy.bs.1
  have hzl : zs.length = min (s.len - o) len := by rw [hz, List.length_take, hyl]
  by_cases h0 : zs.length = 0
  · have hz0 : zs = [] := List.eq_nil_of_length_eq_zero h0
    subst hz0
    refine ⟨_, w, run_copy_none w 39 39 ty 5 _ _ _ _ _ _ Try.underlying39 hinfo (by show min len (s.len - o) = 0; rw [Nat.min_comm]; exact hzl.symm.trans h0), ?_, Frm.refl _ _, rfl⟩
    simpa [splice] using hown
  · obtain ⟨ho2, hblk⟩ := hown.from_ ho
    rcases hown.2 with ⟨hn, _⟩ | ⟨g, off, cur, ha, hg, hoc, hlc, hcm, ht⟩
    · have e : s.len = 0 := by rw [hn]; rfl
      omega
    · have hco : s.cap ≠ o := by omega
      have hfa : (s.from_ o).a = some ⟨g, off + o, none⟩ := by simp [Sl.from_, fromA, hco, ha, Addr.add_lit]
      have hpos : 0 < len := by omega
      obtain ⟨b, of', rfl, _⟩ := hy.bs.2.2 0 hpos
      have hsrc : ∀ j v, (vals zs)[j]? = some v → w.cell? ((⟨b, of', none⟩ : Addr).add j) = some v := by
        intro j v hj
        have hjl : j < zs.length := by
          have := (List.getElem?_eq_some_iff.1 hj).1
          simpa [vals] using this
        rw [Addr.add_lit, hy.bs.at j (by omega)]
        rw [vals_get hjl] at hj
        rw [← hj, hz]
        have hj2 : j < s.len - o := by omega
        simp [List.getD, hj2]
      have hlen : (vals zs).length = Nat.min len (s.from_ o).len := by
        rw [vals_length, hzl, Nat.min_comm]
        rfl
      have hfit : off + o + (vals zs).length ≤ cur.size := by rw [vals_length]; omega
      have hrun := run_copy_row (P := Try.prog) w 39 39 ty 5 g (off + o) (s.from_ o).len (s.from_ o).cap ⟨b, of', none⟩ len cap cur 5 (vals zs) Try.underlying39 hinfo hg hlen hsrc hfit (vals_one zs)
      obtain ⟨hf1, hf2⟩ := setRow_frm hg (cur.toList.take (off + o) ++ vals zs ++ cur.toList.drop (off + o + (vals zs).length)).toArray
      refine ⟨_, _, by unfold Sl.val; rw [hfa]; exact hrun, ?_, hf1.mono (fun i _ e => by rw [Sl.blk, ha, e]; rfl), by simp [World.setRow]⟩
      refine ⟨by rw [vals_length, splice_length _ _ _ (by omega), hxl, Nat.mul_one], .inr ⟨g, off, _, ha, hf2, ?_, hlc, hcm, ?_⟩⟩
      · simp only [List.size_toArray, List.length_append, List.length_take, List.length_drop, Array.length_toList] at *
        omega
      · rw [← vals_splice, ← ht]
        simp only [Nat.mul_one]
        apply List.ext_getElem?
        intro j
        simp only [splice, List.getElem?_append, List.getElem?_take, List.getElem?_drop, List.length_append, List.length_take, List.length_drop, vals_length, Array.length_toList] at *
        by_cases hj : j < s.len
        · by_cases hj1 : j < o
          · rw [if_pos hj, if_pos (by omega), if_pos (by omega), if_pos (by omega), if_pos (by omega), if_pos (by omega), if_pos (by omega), if_pos (by omega)]
          · by_cases hj2 : j < o + zs.length
            · rw [if_pos hj, if_pos (by omega), if_neg (by omega), if_pos (by omega), if_neg (by omega)]
              congr 1
              omega
            · rw [if_pos hj, if_neg (by omega), if_neg (by omega), if_pos (by omega)]
              congr 1
              omega
        · rw [if_neg hj, if_neg (by omega), if_neg (by omega)]

section
variable {ops : Array Oper} {rest : List Oper} {o : Oper} {a : Act} {Q : Exit → Act → World → Prop}
theorem wpList_val (w : World) (hgd : o.guard = none) (v : Value) (w' : World) (hrun : (execOp a.eval o).run Try.prog w = .ok (.value v) w') (hK : wpList Try.prog ops Q rest (a.put o.dst v) w') : wpList Try.prog ops Q (o :: rest) a w := by
  refine wpList_plain hgd fun K hK' => ?_
  unfold Oper.wp
  rw [hrun]
  exact hK' _ _ hK
theorem wpList_load (w : World) (hgd : o.guard = none) (t : TypeId) (x : Operand) (ho : o.op = .load t x) (p v : Value) (hp : a.eval x = p) (hrun : (Instr.loadAt t p).run Try.prog w = .ok v w) (hK : wpList Try.prog ops Q rest (a.put o.dst v) w) : wpList Try.prog ops Q (o :: rest) a w := by
  refine wpList_val w hgd v w ?_ hK
  have e : execOp a.eval o = (do pure (.value (← Instr.loadAt t (a.eval x)))) := by
    unfold execOp
    rw [ho]
  rw [e, hp]
  simp [hrun]
theorem wpList_alloc (w : World) (hgd : o.guard = none) (t : TypeId) (ho : o.op = .alloc t) (v : Value) (w' : World) (hrun : (Instr.alloc t true (.tuple #[])).run Try.prog w = .ok v w') (hK : wpList Try.prog ops Q rest (a.put o.dst v) w') : wpList Try.prog ops Q (o :: rest) a w := by
  refine wpList_val w hgd v w' ?_ hK
  have e : execOp a.eval o = (do pure (.value (← Instr.alloc t true (.tuple #[])))) := by
    unfold execOp
    rw [ho]
  rw [e]
  simp [hrun]
theorem wpList_store (w : World) (hgd : o.guard = none) (hd : o.dst = none) (t : TypeId) (x y : Operand) (ho : o.op = .store t x y) (p v : Value) (hp : a.eval x = p) (hv : a.eval y = v) (w' : World) (hrun : (Instr.storeAt t p v).run Try.prog w = .ok () w') (hK : wpList Try.prog ops Q rest a w') : wpList Try.prog ops Q (o :: rest) a w := by
  refine wpList_plain hgd fun K hK' => ?_
  have e : (execOp a.eval o).run Try.prog w = .ok .skip w' := by
    have e : execOp a.eval o = (do Instr.storeAt t (a.eval x) (a.eval y); pure .skip) := by
      unfold execOp
      rw [ho]
    rw [e, hp, hv]
    simp [hrun]
  unfold Oper.wp
  rw [e]
  obtain ⟨dst, op, ty, pos, aft, gd⟩ := o
  simp only at hd
  subst hd
  exact hK' _ _ hK
theorem wpList_copy (w : World) (hgd : o.guard = none) (t : TypeId) (x y : Operand) (ho : o.op = .call { callee := .builtin .copy, args := #[x, y], argTypes := #[t, t] }) (v : Value) (w' : World) (hrun : ∀ ty, (Builtin.copy_ #[t, t] ty #[a.eval x, a.eval y]).run Try.prog w = .ok v w') (hK : wpList Try.prog ops Q rest (a.put o.dst v) w') : wpList Try.prog ops Q (o :: rest) a w := by
  refine wpList_plain hgd fun K hK' => ?_
  unfold Oper.wp
  simp [execOp, ho, resolve, invoke, builtin, hrun, Result.andThen]
  exact hK' _ _ hK
end

end Go.Proofs.Ytehmemfeagjagaa
