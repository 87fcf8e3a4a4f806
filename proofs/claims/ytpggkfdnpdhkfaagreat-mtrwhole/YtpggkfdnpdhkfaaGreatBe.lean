/-
  Layer 7 without memory: frames, which clocks may be, where a page is, how a frame is found, what a touch, a pin and a drop make of a clock.
  Frames in memory: rows of them, rows that a call has made itself, boxes with a frame and boxes with a clock.
  Layer 7: the small functions: isPage, empty, slices.Clone, a closure, slices.IndexFunc.
  Layer 7: drawn statements of the landed clock, and of the document's Same.
  Layer 7: slices.Index, slices.Equal, copyOf, both Same, the document's At.
  Layer 7: Check, the document's May, Same and set.
  Layer 7: the document's May, Same and set.
  Layer 7: the document's set; how a frame is found.
-/
import Derived.Test.YtpggkfdnpdhkfaaGreatBa
namespace Go.Proofs.YtpggkfdnpdhkfaaGreat

/-- A frame. -/
structure Sp where
  page : Int
  used : Bool
  pin : Bool
def Sp.zero : Sp := ⟨0, false, false⟩
def Sp.none : Sp := ⟨-1, false, false⟩
def Sp.beq (a b : Sp) : Bool := a.page == b.page && (a.used == b.used && a.pin == b.pin)
theorem Sp.beq_iff {a b : Sp} : a.beq b = true ↔ a = b := by
  obtain ⟨p, u, q⟩ := a
  obtain ⟨p', u', q'⟩ := b
  simp [Sp.beq]
theorem Sp.beq_not {a b : Sp} : a.beq b = false ↔ a ≠ b := by
  rw [← Bool.not_eq_true, Sp.beq_iff]

/-- The frame number i. -/
def fr (l : List Sp) (i : Nat) : Sp := l.getD i Sp.zero
theorem fr_mem {l : List Sp} {i : Nat} (h : i < l.length) : fr l i ∈ l := by simp [fr, List.getD, h]
theorem fr_get {l : List Sp} {i : Nat} (h : i < l.length) : fr l i = l[i] := by simp [fr, List.getD, h]
theorem fr_set_same {l : List Sp} {i : Nat} (h : i < l.length) (s : Sp) : fr (l.set i s) i = s := by simp [fr, List.getD, h]
theorem fr_set_other {l : List Sp} {i j : Nat} (h : i ≠ j) (s : Sp) : fr (l.set i s) j = fr l j := by simp [fr, List.getD, h]
theorem mem_fr {l : List Sp} {s : Sp} (h : s ∈ l) : ∃ i, i < l.length ∧ fr l i = s := by
  obtain ⟨i, hi, e⟩ := List.mem_iff_getElem.1 h
  exact ⟨i, hi, by rw [fr_get hi, e]⟩
theorem drop_fr {l : List Sp} {i : Nat} (h : i < l.length) : l.drop i = fr l i :: l.drop (i + 1) := by
  rw [fr_get h]
  exact List.drop_eq_getElem_cons h

/-- The first frame of which something holds; -1: none. -/
def ixF (f : Sp → Bool) : List Sp → Nat → Int
  | [], _ => -1
  | s :: r, k => if f s = true then ((k : Nat) : Int) else ixF f r (k + 1)
theorem ixF_hit {f : Sp → Bool} {l : List Sp} {i : Nat} (h : i < l.length) (hf : f (fr l i) = true) : ixF f (l.drop i) i = ((i : Nat) : Int) := by
  rw [drop_fr h, ixF, if_pos hf]
theorem ixF_miss {f : Sp → Bool} {l : List Sp} {i : Nat} (h : i < l.length) (hf : f (fr l i) = false) : ixF f (l.drop i) i = ixF f (l.drop (i + 1)) (i + 1) := by
  rw [drop_fr h, ixF, if_neg (by rw [hf]; decide)]
theorem ixF_end {f : Sp → Bool} {l : List Sp} {i : Nat} (h : l.length ≤ i) : ixF f (l.drop i) i = -1 := by
  rw [List.drop_eq_nil_of_le h]
  rfl
theorem ixF_cases (f : Sp → Bool) : ∀ (l : List Sp) (k : Nat), (ixF f l k = -1 ∧ ∀ s ∈ l, f s = false) ∨ ∃ i, i < l.length ∧ ixF f l k = ((k + i : Nat) : Int) ∧ f (fr l i) = true ∧ ∀ j, j < i → f (fr l j) = false
  | [], _ => .inl ⟨rfl, fun _ h => by cases h⟩
  | s :: r, k => by
    by_cases hs : f s = true
    · exact .inr ⟨0, by simp, by rw [ixF, if_pos hs]; rfl, hs, fun j hj => absurd hj (Nat.not_lt_zero _)⟩
    · have hs' : f s = false := by simpa using hs
      rcases ixF_cases f r (k + 1) with ⟨h1, h2⟩ | ⟨i, hi, h1, h2, h3⟩
      · refine .inl ⟨by rw [ixF, if_neg hs]; exact h1, fun t ht => ?_⟩
        rcases List.mem_cons.1 ht with rfl | ht
        · exact hs'
        · exact h2 t ht
      · refine .inr ⟨i + 1, by simpa using hi, by rw [ixF, if_neg hs, h1]; congr 1; omega, h2, fun j hj => ?_⟩
        cases j with
        | zero => exact hs'
        | succ j => exact h3 j (by omega)
theorem ixF_congr {f g : Sp → Bool} : ∀ (l : List Sp) (k : Nat), (∀ s ∈ l, f s = g s) → ixF f l k = ixF g l k
  | [], _, _ => rfl
  | s :: r, k, h => by
    rw [ixF, ixF, h s (by simp), ixF_congr r (k + 1) (fun t ht => h t (by simp [ht]))]

/-- Where a page is. -/
def onP (p : Int) (s : Sp) : Bool := s.page == p
def ixP (l : List Sp) (p : Int) : Int := ixF (onP p) l 0
/-- The first empty frame. -/
def ixN (l : List Sp) : Int := ixF (fun s => Sp.none.beq s) l 0
theorem ixP_cases (l : List Sp) (p : Int) : (ixP l p = -1 ∧ ∀ i, i < l.length → (fr l i).page ≠ p) ∨ ∃ i, i < l.length ∧ ixP l p = ((i : Nat) : Int) ∧ (fr l i).page = p ∧ ∀ j, j < i → (fr l j).page ≠ p := by
  rcases ixF_cases (onP p) l 0 with ⟨h1, h2⟩ | ⟨i, hi, h1, h2, h3⟩
  · exact .inl ⟨h1, fun i hi => by have := h2 _ (fr_mem hi); simpa [onP] using this⟩
  · refine .inr ⟨i, hi, by rw [ixP, h1, Nat.zero_add], by simpa [onP] using h2, fun j hj => ?_⟩
    have := h3 j hj
    simpa [onP] using this
/-- Is the frame number i right? -/
def gdB (l : List Sp) (i : Nat) : Bool := (fr l i).beq Sp.none || (decide (0 ≤ (fr l i).page) && (decide ((fr l i).page < 64) && !((l.take i).any (onP (fr l i).page))))
/-- May it be? -/
def may (l : List Sp) (h : Int) : Bool := decide (1 ≤ l.length) && (decide (l.length ≤ 64) && (decide (0 ≤ h) && (decide (h < l.length) && (List.range l.length).all (gdB l))))
def Gd (l : List Sp) (i : Nat) : Prop := fr l i = Sp.none ∨ (0 ≤ (fr l i).page ∧ (fr l i).page < 64 ∧ ∀ j, j < i → (fr l j).page ≠ (fr l i).page)
theorem any_take {l : List Sp} {i : Nat} (hi : i ≤ l.length) (p : Int) : (l.take i).any (onP p) = true ↔ ∃ j, j < i ∧ (fr l j).page = p := by
  rw [List.any_eq_true]
  constructor
  · rintro ⟨s, hs, e⟩
    obtain ⟨j, hj, e2⟩ := List.mem_take_iff_getElem.1 hs
    exact ⟨j, by omega, by rw [fr_get (by omega), e2]; simpa [onP] using e⟩
  · rintro ⟨j, hj, e⟩
    exact ⟨fr l j, List.mem_take_iff_getElem.2 ⟨j, by omega, (fr_get (by omega)).symm⟩, by simpa [onP] using e⟩
theorem gdB_iff {l : List Sp} {i : Nat} (hi : i < l.length) : gdB l i = true ↔ Gd l i := by
  unfold gdB Gd
  rw [Bool.or_eq_true, Sp.beq_iff]
  simp only [Bool.and_eq_true, decide_eq_true_eq]
  constructor
  · rintro (h | ⟨h1, h2, h3⟩)
    · exact .inl h
    · refine .inr ⟨h1, h2, fun j hj e => ?_⟩
      have := (any_take (Nat.le_of_lt hi) (fr l i).page).2 ⟨j, hj, e⟩
      rw [this] at h3
      cases h3
  · rintro (h | ⟨h1, h2, h3⟩)
    · exact .inl h
    · refine .inr ⟨h1, h2, ?_⟩
      cases hh : (l.take i).any (onP (fr l i).page) with
      | false => rfl
      | true =>
        obtain ⟨j, hj, e⟩ := (any_take (Nat.le_of_lt hi) _).1 hh
        exact absurd e (h3 j hj)
theorem may_iff {l : List Sp} {h : Int} : may l h = true ↔ 1 ≤ l.length ∧ l.length ≤ 64 ∧ 0 ≤ h ∧ h < l.length ∧ ∀ i, i < l.length → Gd l i := by
  unfold may
  simp only [Bool.and_eq_true, decide_eq_true_eq, List.all_eq_true, List.mem_range]
  constructor
  · rintro ⟨h1, h2, h3, h4, h5⟩
    exact ⟨h1, h2, h3, h4, fun i hi => (gdB_iff hi).1 (h5 i hi)⟩
  · rintro ⟨h1, h2, h3, h4, h5⟩
    exact ⟨h1, h2, h3, h4, fun i hi => (gdB_iff hi).2 (h5 i hi)⟩
theorem may_not {l : List Sp} {h : Int} {i : Nat} (hi : i < l.length) (hg : gdB l i = false) : may l h = false := by
  cases hm : may l h with
  | false => rfl
  | true =>
    have := (gdB_iff hi).2 ((may_iff.1 hm).2.2.2.2 i hi)
    rw [this] at hg
    cases hg

/-- A page is in one frame. -/
theorem Gds.one {l : List Sp} (h : ∀ i, i < l.length → Gd l i) {i j : Nat} (hi : i < l.length) (hj : j < l.length) (e : (fr l i).page = (fr l j).page) (hp : 0 ≤ (fr l i).page) : i = j := by
  rcases Nat.lt_trichotomy i j with hlt | rfl | hlt
  · rcases h j hj with h1 | ⟨_, _, h1⟩
    · rw [e, h1] at hp
      simp [Sp.none] at hp
    · exact absurd e (h1 i hlt)
  · rfl
  · rcases h i hi with h1 | ⟨_, _, h1⟩
    · rw [h1] at hp
      simp [Sp.none] at hp
    · exact absurd e.symm (h1 j hlt)
theorem Gd.empty {l : List Sp} {i : Nat} (h : Gd l i) (hp : (fr l i).page < 0) : fr l i = Sp.none := by
  rcases h with h | ⟨h, _⟩
  · exact h
  · omega
theorem Gd.bound {l : List Sp} {i : Nat} (h : Gd l i) : -1 ≤ (fr l i).page ∧ (fr l i).page < 64 := by
  rcases h with h | ⟨h, h2, _⟩
  · rw [h]; simp [Sp.none]
  · omega
theorem Gd.pinned {l : List Sp} {i : Nat} (h : Gd l i) (hp : (fr l i).pin = true) : 0 ≤ (fr l i).page := by
  rcases h with h | ⟨h, _⟩
  · rw [h] at hp
    cases hp
  · exact h
theorem ixN_is {l : List Sp} (h : ∀ i, i < l.length → Gd l i) : ixN l = ixP l (-1) := by
  refine ixF_congr l 0 (fun s hs => ?_)
  obtain ⟨i, hi, rfl⟩ := mem_fr hs
  cases hc : onP (-1) (fr l i) with
  | true =>
    have : (fr l i).page = -1 := by simpa [onP] using hc
    have e := (h i hi).empty (by omega)
    rw [e]
    rfl
  | false =>
    rw [Sp.beq_not]
    intro e
    rw [← e] at hc
    cases hc

/-- The hand goes round: at most k frames more. What it leaves, where it stands, the frame found (-1: none). -/
structure Rd where
  l : List Sp
  h : Nat
  at_ : Int
def rnd : Nat → List Sp → Nat → Rd
  | 0, l, h => ⟨l, h, -1⟩
  | k + 1, l, h => if (fr l h).pin = true then rnd k l ((h + 1) % l.length) else if (fr l h).used = true then rnd k (l.set h ⟨(fr l h).page, false, (fr l h).pin⟩) ((h + 1) % l.length) else ⟨l, (h + 1) % l.length, ((h : Nat) : Int)⟩

/-- A clock, a frame, the page that was there, and what is told. -/
structure Tc where
  l : List Sp
  h : Int
  at_ : Int
  was : Int
  e : Int
def touch (l : List Sp) (h p : Int) : Tc :=
  if p < 0 ∨ 63 < p then ⟨l, h, -1, -1, 1⟩
  else if 0 ≤ ixP l p then ⟨l.set (ixP l p).toNat ⟨(fr l (ixP l p).toNat).page, true, (fr l (ixP l p).toNat).pin⟩, h, ixP l p, -1, 0⟩
  else if 0 ≤ ixP l (-1) then ⟨l.set (ixP l (-1)).toNat ⟨p, true, false⟩, h, ixP l (-1), -1, 0⟩
  else if (rnd (2 * l.length) l h.toNat).at_ < 0 then ⟨l, h, -1, -1, 11⟩
  else ⟨(rnd (2 * l.length) l h.toNat).l.set (rnd (2 * l.length) l h.toNat).at_.toNat ⟨p, true, false⟩, ((rnd (2 * l.length) l h.toNat).h : Int), (rnd (2 * l.length) l h.toNat).at_, (fr (rnd (2 * l.length) l h.toNat).l (rnd (2 * l.length) l h.toNat).at_.toNat).page, 0⟩

/-- A clock, and what is told. -/
structure Pc where
  l : List Sp
  e : Int
def dropC (l : List Sp) (p : Int) : Pc :=
  if p < 0 ∨ ixP l p < 0 then ⟨l, 3⟩ else if (fr l (ixP l p).toNat).pin = true then ⟨l, 1⟩ else ⟨l.set (ixP l p).toNat Sp.none, 0⟩

end Go.Proofs.YtpggkfdnpdhkfaaGreat

namespace Go.Proofs.YtpggkfdnpdhkfaaGreat
open Go.RowKit
set_option maxRecDepth 100000

def Sp.val (x : Sp) : Value := .agg #[.int .i64 x.page, .bool x.used, .bool x.pin]
def Sp.cells (x : Sp) : List Value := [.int .i64 x.page, .bool x.used, .bool x.pin]
def cellsS (l : List Sp) : List Value := l.flatMap Sp.cells
/-- A clock, as a value. -/
def ckV (v : Sl) (h : Int) : Value := .agg #[v.val, .int .i64 h]

theorem cellsS_length : ∀ l, (cellsS l).length = l.length * 3
  | [] => rfl
  | i :: r => by
    have := cellsS_length r
    simp only [cellsS, List.flatMap_cons, List.length_append, List.length_cons] at *
    rw [this]
    simp [Sp.cells]
    omega
theorem cellsS_append (l m : List Sp) : cellsS (l ++ m) = cellsS l ++ cellsS m := by simp [cellsS]
theorem cellsS_one (l : List Sp) : ∀ u ∈ cellsS l, u.oneCell' = true := by
  intro u hu
  obtain ⟨i, _, hi⟩ := List.mem_flatMap.1 hu
  simp only [Sp.cells, List.mem_cons, List.mem_nil_iff, or_false] at hi
  rcases hi with rfl | rfl | rfl <;> rfl
theorem cellsS_get : ∀ (l : List Sp) (j t : Nat), j < l.length → t < 3 → (cellsS l)[j * 3 + t]? = (fr l j).cells[t]?
  | i :: r, 0, t, _, ht => by
    simp only [cellsS, List.flatMap_cons]
    rw [List.getElem?_append_left (by simp [Sp.cells]; omega)]
    simp [fr]
  | i :: r, j + 1, t, hj, ht => by
    have := cellsS_get r j t (by simpa using hj) ht
    simp only [cellsS, List.flatMap_cons] at *
    rw [List.getElem?_append_right (by simp [Sp.cells]; omega)]
    have e : (j + 1) * 3 + t - i.cells.length = j * 3 + t := by simp [Sp.cells]; omega
    rw [e, this]
    simp [fr, List.getD]
theorem cellsS_set : ∀ (l : List Sp) (i : Nat) (x : Sp), cellsS (l.set i x) = (((cellsS l).set (i * 3) (.int .i64 x.page)).set (i * 3 + 1) (.bool x.used)).set (i * 3 + 2) (.bool x.pin)
  | [], _, _ => rfl
  | y :: r, 0, x => rfl
  | y :: r, i + 1, x => by
    have ih := cellsS_set r i x
    show y.cells ++ cellsS (r.set i x) = (((y.cells ++ cellsS r).set ((i + 1) * 3) _).set ((i + 1) * 3 + 1) _).set ((i + 1) * 3 + 2) _
    rw [ih, show (i + 1) * 3 = i * 3 + 3 by omega]
    rfl
theorem cellsS_set1 : ∀ (l : List Sp) (i : Nat) (u : Bool), cellsS (l.set i ⟨(fr l i).page, u, (fr l i).pin⟩) = (cellsS l).set (i * 3 + 1) (.bool u)
  | [], _, _ => rfl
  | y :: r, 0, x => rfl
  | y :: r, i + 1, x => by
    have ih := cellsS_set1 r i x
    show y.cells ++ cellsS (r.set i ⟨(fr r i).page, x, (fr r i).pin⟩) = (y.cells ++ cellsS r).set ((i + 1) * 3 + 1) _
    rw [ih, show (i + 1) * 3 = i * 3 + 3 by omega]
    rfl
theorem cellsS_set2 : ∀ (l : List Sp) (i : Nat) (u : Bool), cellsS (l.set i ⟨(fr l i).page, (fr l i).used, u⟩) = (cellsS l).set (i * 3 + 2) (.bool u)
  | [], _, _ => rfl
  | y :: r, 0, x => rfl
  | y :: r, i + 1, x => by
    have ih := cellsS_set2 r i x
    show y.cells ++ cellsS (r.set i ⟨(fr r i).page, (fr r i).used, x⟩) = (y.cells ++ cellsS r).set ((i + 1) * 3 + 2) _
    rw [ih, show (i + 1) * 3 = i * 3 + 3 by omega]
    rfl

/-- The blocks of D that are there stay as they are. -/
def Kept (D : Nat → Prop) (w w' : World) : Prop := ∀ k, D k → k < w.heap.size → w'.heap[k]? = w.heap[k]?
theorem Kept.all {D : Nat → Prop} {B : Nat} {w w' : World} (h : Below B w w') (hB : w.heap.size ≤ B) : Kept D w w' := fun k _ hl => h.block k (by omega)
theorem Kept.frm {D F : Nat → Prop} {w w' : World} (h : Frm F w w') (hD : ∀ k, D k → ¬ F k) : Kept D w w' := fun k hk hl => h.block k hl (hD k hk)
theorem Kept.cell {D : Nat → Prop} {w w' : World} (h : Kept D w w') {a : Addr} {u : Value} (hc : w.cell? a = some u) (hD : D a.block) : w'.cell? a = some u := by
  have := h a.block hD (World.block_lt_of_cell? w _ hc)
  simp only [World.cell?] at hc ⊢
  rw [this]
  exact hc
theorem Kept.set {D : Nat → Prop} {w : World} {p : Addr} {u : Value} (hD : ∀ k, D k → k ≠ p.block) : Kept D w (w.setCell p u) := fun k hk _ => Below.heap_setCell w p u k (hD k hk)

/-- The frames l lie where the slice leads, in blocks of D. -/
structure Gs (D : Nat → Prop) (w : World) (v : Sl) (l : List Sp) : Prop where
  len : l.length = v.len
  nil : v.a = none → v.cap = 0
  le : v.len ≤ v.cap
  big : v.len ≤ 1000000
  home : ∀ ad, v.a = some ad → 0 < v.len → D ad.block
  cell : ∀ i, i < v.len → ∃ b off, v.a = some ⟨b, off, none⟩ ∧ w.cell? ⟨b, off + i * 3, none⟩ = some (.int .i64 (fr l i).page) ∧ w.cell? ⟨b, off + i * 3 + 1, none⟩ = some (.bool (fr l i).used) ∧ w.cell? ⟨b, off + i * 3 + 2, none⟩ = some (.bool (fr l i).pin)
  ty : ∀ ad, v.a = some ad → 0 < v.len → ∃ C fz, w.heap[ad.block]? = some (.cells C 130 fz)

theorem Gs.keep {D : Nat → Prop} {w w' : World} {v : Sl} {l : List Sp} (h : Gs D w v l) (hk : Kept D w w') : Gs D w' v l := by
  refine ⟨h.len, h.nil, h.le, h.big, h.home, fun i hi => ?_, fun ad ha hl => ?_⟩
  · obtain ⟨b, off, ha, c0, c1, c2⟩ := h.cell i hi
    have hD := h.home _ ha (by omega)
    exact ⟨b, off, ha, hk.cell c0 hD, hk.cell c1 hD, hk.cell c2 hD⟩
  · obtain ⟨C, fz, hc⟩ := h.ty ad ha hl
    exact ⟨C, fz, (hk _ (h.home ad ha hl) (Array.getElem?_eq_some_iff.1 hc).1).trans hc⟩
theorem Gs.below {D : Nat → Prop} {B : Nat} {w w' : World} {v : Sl} {l : List Sp} (h : Gs D w v l) (hb : Below B w w') (hB : w.heap.size ≤ B) : Gs D w' v l := h.keep (Kept.all hb hB)
theorem Gs.mono {D E : Nat → Prop} {w : World} {v : Sl} {l : List Sp} (h : Gs D w v l) (hE : ∀ k, D k → k < w.heap.size → E k) : Gs E w v l := by
  refine ⟨h.len, h.nil, h.le, h.big, fun ad ha hl => hE _ (h.home ad ha hl) ?_, h.cell, h.ty⟩
  obtain ⟨b, off, ha', c0, _⟩ := h.cell 0 hl
  rw [ha'] at ha
  cases ha
  exact World.block_lt_of_cell? w _ c0
theorem Gs.none {D : Nat → Prop} {w : World} : Gs D w Sl.nil [] := ⟨rfl, fun _ => rfl, Nat.le_refl _, by decide, fun _ h _ => (by cases h), fun _ h => absurd h (Nat.not_lt_zero _), fun _ h _ => (by cases h)⟩

theorem infoSp : (Tryz.prog.info? 130).map (fun i => (i.zero, i.size, i.bytes)) = some (some (.agg #[.int .i64 0, .bool false, .bool false]), 3, 16) := by kernel_rfl

/-- A row of frames that the call has made. -/
def OwnS (w : World) (v : Sl) (l : List Sp) : Prop := Own 130 3 w v (cellsS l)
theorem OwnS.len {w : World} {v : Sl} {l : List Sp} (h : OwnS w v l) : l.length = v.len := by
  have := h.1
  rw [cellsS_length] at this
  omega
theorem OwnS.cells {w : World} {v : Sl} {l : List Sp} (h : OwnS w v l) {g off : Nat} (ha : v.a = some ⟨g, off, none⟩) {i : Nat} (hi : i < v.len) : w.cell? ⟨g, off + i * 3, none⟩ = some (.int .i64 (fr l i).page) ∧ w.cell? ⟨g, off + i * 3 + 1, none⟩ = some (.bool (fr l i).used) ∧ w.cell? ⟨g, off + i * 3 + 2, none⟩ = some (.bool (fr l i).pin) := by
  have hl := h.len
  refine ⟨?_, ?_, ?_⟩
  · have := h.cell ha (i * 3 + 0) _ (cellsS_get l i 0 (by omega) (by omega))
    rwa [Addr.add_lit] at this
  · have := h.cell ha (i * 3 + 1) _ (cellsS_get l i 1 (by omega) (by omega))
    rwa [Addr.add_lit] at this
  · have := h.cell ha (i * 3 + 2) _ (cellsS_get l i 2 (by omega) (by omega))
    rwa [Addr.add_lit] at this
theorem OwnS.gs {D : Nat → Prop} {w : World} {v : Sl} {l : List Sp} (h : OwnS w v l) (hD : ∀ k, v.blk = some k → D k) (hm : v.len ≤ 1000000) : Gs D w v l := by
  refine ⟨h.len, h.nilcap, h.lecap, hm, fun ad ha _ => hD _ (by rw [Sl.blk, ha]; rfl), fun i hi => ?_, fun ad ha _ => ?_⟩
  · rcases h.2 with ⟨h0, _⟩ | ⟨g, off, cur, ha, _⟩
    · rw [h0] at hi; exact absurd hi (Nat.not_lt_zero _)
    · exact ⟨g, off, ha, h.cells ha hi⟩
  · obtain ⟨C, hc⟩ := h.kind (k := ad.block) (by rw [Sl.blk, ha]; rfl)
    exact ⟨C, _, hc⟩
theorem OwnS.new (w : World) : OwnS (w.alloc (.cells #[] 130)) ⟨some ⟨w.heap.size, 0, none⟩, 0, 0⟩ [] :=
  ⟨rfl, .inr ⟨w.heap.size, 0, _, rfl, heap_alloc_new w _, by simp, Nat.le_refl _, by simp, rfl⟩⟩
theorem OwnS.pos {w : World} {v : Sl} {l : List Sp} (h : OwnS w v l) (hp : 0 < v.len) : ∃ g off, v.a = some ⟨g, off, none⟩ := by
  rcases h.2 with ⟨h0, _⟩ | ⟨g, off, cur, ha, _⟩
  · rw [h0] at hp; exact absurd hp (Nat.not_lt_zero _)
  · exact ⟨g, off, ha⟩
theorem OwnS.frozen {w : World} {v : Sl} {l : List Sp} (h : OwnS w v l) {g off : Nat} (ha : v.a = some ⟨g, off, none⟩) (o : Nat) : w.frozen? ⟨g, o, none⟩ = false := by
  obtain ⟨cur, hc⟩ := h.kind (k := g) (by rw [Sl.blk, ha]; rfl)
  exact frozen_of_row w g _ cur 130 hc

/-- A cell of a row turns. -/
theorem Own.setCell {e : TypeId} {z : Nat} {w : World} {s : Sl} {vs : List Value} (h : Own e z w s vs) {g off : Nat} (ha : s.a = some ⟨g, off, none⟩) (j : Nat) (u : Value) : Own e z (w.setCell ⟨g, off + j, none⟩ u) s (vs.set j u) := by
  refine ⟨by rw [List.length_set]; exact h.1, ?_⟩
  rcases h.2 with ⟨h0, _⟩ | ⟨g', off', cur, ha', hg, hoc, hlc, hcm, ht⟩
  · rw [h0] at ha; cases ha
  · rw [ha] at ha'
    simp only [Option.some.injEq, Addr.mk.injEq, and_true] at ha'
    obtain ⟨rfl, rfl⟩ := ha'
    refine .inr ⟨g, off, _, ha, heap_setCell_same w g (off + j) cur e u hg, by simpa using hoc, hlc, hcm, ?_⟩
    rw [Array.toList_setIfInBounds, List.drop_set, if_neg (by omega), Nat.add_sub_cancel_left, List.take_set, ht]

/-- A frame laid over a frame. -/
def setSp (w : World) (g o : Nat) (x : Sp) : World := ((w.setCell ⟨g, o, none⟩ (.int .i64 x.page)).setCell ⟨g, o + 1, none⟩ (.bool x.used)).setCell ⟨g, o + 2, none⟩ (.bool x.pin)
theorem setSp_frm (w : World) (g o : Nat) (x : Sp) : Frm (fun k => k = g) w (setSp w g o x) :=
  (((Frm.refl (fun k => k = g) w).setCell (p := ⟨g, o, none⟩) rfl _).setCell (p := ⟨g, o + 1, none⟩) rfl _).setCell (p := ⟨g, o + 2, none⟩) rfl _
theorem OwnS.store {w : World} {v : Sl} {l : List Sp} (h : OwnS w v l) {g off : Nat} (ha : v.a = some ⟨g, off, none⟩) (i : Nat) (x : Sp) : OwnS (setSp w g (off + i * 3) x) v (l.set i x) := by
  unfold OwnS setSp
  rw [cellsS_set]
  have h1 := Own.setCell h ha (i * 3) (.int .i64 x.page)
  have h2 := h1.setCell ha (i * 3 + 1) (.bool x.used)
  have h3 := h2.setCell ha (i * 3 + 2) (.bool x.pin)
  rw [← Nat.add_assoc, ← Nat.add_assoc] at h3
  exact h3
theorem OwnS.use {w : World} {v : Sl} {l : List Sp} (h : OwnS w v l) {g off : Nat} (ha : v.a = some ⟨g, off, none⟩) (i : Nat) (u : Bool) : OwnS (w.setCell ⟨g, off + i * 3 + 1, none⟩ (.bool u)) v (l.set i ⟨(fr l i).page, u, (fr l i).pin⟩) := by
  unfold OwnS
  rw [cellsS_set1, Nat.add_assoc]
  exact Own.setCell h ha (i * 3 + 1) (.bool u)
theorem OwnS.pinned {w : World} {v : Sl} {l : List Sp} (h : OwnS w v l) {g off : Nat} (ha : v.a = some ⟨g, off, none⟩) (i : Nat) (u : Bool) : OwnS (w.setCell ⟨g, off + i * 3 + 2, none⟩ (.bool u)) v (l.set i ⟨(fr l i).page, (fr l i).used, u⟩) := by
  unfold OwnS
  rw [cellsS_set2, Nat.add_assoc]
  exact Own.setCell h ha (i * 3 + 2) (.bool u)
theorem OwnS.frame {w w' : World} {v : Sl} {l : List Sp} (h : OwnS w v l) (hk : ∀ k, v.blk = some k → w'.heap[k]? = w.heap[k]?) : OwnS w' v l := Own.frame h hk
theorem OwnS.below {w w' : World} {v : Sl} {l : List Sp} (h : OwnS w v l) (hb : Below w.heap.size w w') : OwnS w' v l := Own.frame h (fun k hk => hb.block k (Own.lt h hk))

/-- What frames yield to an append. -/
theorem Gs.src {D : Nat → Prop} {w : World} {v : Sl} {l : List Sp} (h : Gs D w v l) : Src Tryz.prog 3 38 v.val v.len (cellsS l) w := by
  obtain ⟨a, len, cap⟩ := v
  have hl : l.length = len := h.len
  cases a with
  | none =>
    have hc : cap = 0 := h.nil rfl
    have h0 : len = 0 := by have : len ≤ cap := h.le; omega
    subst hc; subst h0
    have : l = [] := List.eq_nil_of_length_eq_zero hl
    subst this
    exact Src.ofNil w Tryz.underlying38 0
  | some ad =>
    refine Src.ofSlice w Tryz.underlying38 ad len cap (cellsS l) (by rw [cellsS_length, hl]) (fun j u hj => ?_) (cellsS_one l)
    have hjl : j < l.length * 3 := by
      have := (List.getElem?_eq_some_iff.1 hj).1
      rw [cellsS_length] at this
      exact this
    obtain ⟨b, off, e, c0, c1, c2⟩ := h.cell (j / 3) (by show j / 3 < len; omega)
    obtain rfl := Option.some.inj e
    have hg := cellsS_get l (j / 3) (j % 3) (by omega) (by omega)
    rw [show j / 3 * 3 + j % 3 = j by omega, hj] at hg
    rw [Addr.add_lit]
    have hm4 : j % 3 = 0 ∨ j % 3 = 1 ∨ j % 3 = 2 := by omega
    rcases hm4 with e4 | e4 | e4 <;> rw [e4] at hg
    · rw [show off + j = off + j / 3 * 3 by omega, c0, hg]; rfl
    · rw [show off + j = off + j / 3 * 3 + 1 by omega, c1, hg]; rfl
    · rw [show off + j = off + j / 3 * 3 + 2 by omega, c2, hg]; rfl

/-- append([]T{}, s...): a row of the call's own. -/
theorem append_new {D : Nat → Prop} (w : World) (v : Sl) (l : List Sp) (h : Gs D w v l) (ty : TypeId) :
    ∃ v' w', (Builtin.append_ #[38, 38] ty #[.slice (some ⟨w.heap.size, 0, none⟩) 0 0, v.val]).run Tryz.prog (w.alloc (.cells #[] 130)) = .ok v'.val w' ∧ OwnS w' v' l ∧ v'.len = v.len ∧ Below w.heap.size w w' ∧ ∀ k, v'.blk = some k → w.heap.size ≤ k := by
  have hB := below_alloc w (.cells #[] 130)
  have h1 := (h.below hB (Nat.le_refl _)).src
  obtain ⟨v', w', hrun, ho, hlen, hf, hbk⟩ := own_append Tryz.underlying38 infoSp rfl (by decide) _ ⟨some ⟨w.heap.size, 0, none⟩, 0, 0⟩ [] (OwnS.new w) (fun _ h => by cases h) _ v.len (cellsS l) h1 (by have := h.big; show 0 + v.len ≤ _; omega) ty
  refine ⟨v', w', hrun, ho, by rw [hlen]; exact Nat.zero_add _, hB.trans (hf.below hB.size (fun k hk => ?_)), fun k hk => ?_⟩
  · have : some w.heap.size = some k := hk
    cases this
    exact Nat.le_refl _
  · rcases hbk with e | ⟨e, _⟩
    · rw [e] at hk
      have : some w.heap.size = some k := hk
      cases this
      exact Nat.le_refl _
    · rw [e] at hk
      cases hk
      exact hB.size

section
variable {ops : Array Oper} {rest : List Oper} {o : Oper} {a : Act} {Q : Exit → Act → World → Prop}
theorem wpList_append_new {D : Nat → Prop} (w : World) (hgd : o.guard = none) (s y : Operand) (ho : o.op = .call { callee := .builtin .append, args := #[s, y], argTypes := #[38, 38] }) (v : Sl) (l : List Sp) (hs : a.eval s = .slice (some ⟨w.heap.size, 0, none⟩) 0 0) (hy : a.eval y = v.val) (h : Gs D w v l)
    (hK : ∀ v' w', OwnS w' v' l → v'.len = v.len → Below w.heap.size w w' → (∀ k, v'.blk = some k → w.heap.size ≤ k) → wpList Tryz.prog ops Q rest (a.put o.dst v'.val) w') : wpList Tryz.prog ops Q (o :: rest) a (w.alloc (.cells #[] 130)) := by
  refine wpList_plain hgd fun K hK' => ?_
  obtain ⟨v', w', hrun, r1, r2, r3, r4⟩ := append_new w v l h o.type
  unfold Oper.wp
  simp [execOp, ho, resolve, invoke, builtin, hs, hy, hrun, Result.andThen]
  exact hK' _ _ (hK v' w' r1 r2 r3 r4)
end

theorem alloc_size (w : World) (o : Obj) : (w.alloc o).heap.size = w.heap.size + 1 := by
  show (w.heap.push o).size = _
  simp

/-- A box with a clock. -/
def CkBlk (w : World) (p : Nat) (v : Value) (h : Int) : Prop := w.heap[p]? = some (Obj.cells #[v, .int .i64 h] 40 (0, 0))
theorem CkBlk.c0 {w : World} {p : Nat} {v : Value} {h : Int} (k : CkBlk w p v h) : w.cell? ⟨p, 0, none⟩ = some v := by unfold CkBlk at k; simp [World.cell?, k]
theorem CkBlk.c1 {w : World} {p : Nat} {v : Value} {h : Int} (k : CkBlk w p v h) : w.cell? ⟨p, 1, none⟩ = some (.int .i64 h) := by unfold CkBlk at k; simp [World.cell?, k]
theorem CkBlk.fz {w : World} {p : Nat} {v : Value} {h : Int} (k : CkBlk w p v h) (o : Nat) : w.frozen? ⟨p, o, none⟩ = false := frozen_of_row w p _ _ 40 k
theorem CkBlk.lt {w : World} {p : Nat} {v : Value} {h : Int} (k : CkBlk w p v h) : p < w.heap.size := (Array.getElem?_eq_some_iff.1 k).1
theorem ckBlk_new (w : World) (v : Value) (h : Int) : CkBlk (w.alloc (.cells #[v, .int .i64 h] 40)) w.heap.size v h := heap_alloc_new w _
theorem CkBlk.at {w w' : World} {p : Nat} {v : Value} {h : Int} (k : CkBlk w p v h) (hb : w'.heap[p]? = w.heap[p]?) : CkBlk w' p v h := hb.trans k
theorem CkBlk.below {w w' : World} {p : Nat} {v : Value} {h : Int} (k : CkBlk w p v h) (hb : Below w.heap.size w w') : CkBlk w' p v h := (hb.block p k.lt).trans k
/-- A clock laid over a clock. -/
def setCk (w : World) (p : Nat) (v : Value) (h : Int) : World := (w.setCell ⟨p, 0, none⟩ v).setCell ⟨p, 1, none⟩ (.int .i64 h)
theorem CkBlk.set {w : World} {p : Nat} {v : Value} {h : Int} (k : CkBlk w p v h) (v' : Value) (h' : Int) : CkBlk (setCk w p v' h') p v' h' := by
  have h1 := heap_setCell_same w p 0 _ 40 v' k
  have h2 := heap_setCell_same _ p 1 _ 40 (.int .i64 h') h1
  unfold CkBlk setCk
  rw [h2]
  simp
theorem CkBlk.hand {w : World} {p : Nat} {v : Value} {h : Int} (k : CkBlk w p v h) (h' : Int) : CkBlk (w.setCell ⟨p, 1, none⟩ (.int .i64 h')) p v h' := by
  have h2 := heap_setCell_same _ p 1 _ 40 (.int .i64 h') k
  unfold CkBlk
  rw [h2]
  simp
theorem CkBlk.row {w : World} {p : Nat} {v : Value} {h : Int} (k : CkBlk w p v h) (v' : Value) : CkBlk (w.setCell ⟨p, 0, none⟩ v') p v' h := by
  have h2 := heap_setCell_same _ p 0 _ 40 v' k
  unfold CkBlk
  rw [h2]
  simp
theorem setCk_frm (w : World) (p : Nat) (v : Value) (h : Int) : Frm (fun k => k = p) w (setCk w p v h) :=
  ((Frm.refl (fun k => k = p) w).setCell (p := ⟨p, 0, none⟩) rfl _).setCell (p := ⟨p, 1, none⟩) rfl _
theorem setCk_size (w : World) (p : Nat) (v : Value) (h : Int) : (setCk w p v h).heap.size = w.heap.size := by simp only [setCk, setCell_size]

/-- A box with a frame. -/
def SpBlk (w : World) (p : Nat) (x : Sp) : Prop := w.heap[p]? = some (Obj.cells #[.int .i64 x.page, .bool x.used, .bool x.pin] 130 (0, 0))
theorem SpBlk.c0 {w : World} {p : Nat} {x : Sp} (k : SpBlk w p x) : w.cell? ⟨p, 0, none⟩ = some (.int .i64 x.page) := by unfold SpBlk at k; simp [World.cell?, k]
theorem SpBlk.c1 {w : World} {p : Nat} {x : Sp} (k : SpBlk w p x) : w.cell? ⟨p, 1, none⟩ = some (.bool x.used) := by unfold SpBlk at k; simp [World.cell?, k]
theorem SpBlk.c2 {w : World} {p : Nat} {x : Sp} (k : SpBlk w p x) : w.cell? ⟨p, 2, none⟩ = some (.bool x.pin) := by unfold SpBlk at k; simp [World.cell?, k]
theorem SpBlk.fz {w : World} {p : Nat} {x : Sp} (k : SpBlk w p x) (o : Nat) : w.frozen? ⟨p, o, none⟩ = false := frozen_of_row w p _ _ 130 k
theorem SpBlk.lt {w : World} {p : Nat} {x : Sp} (k : SpBlk w p x) : p < w.heap.size := (Array.getElem?_eq_some_iff.1 k).1
theorem spBlk_new (w : World) (x : Sp) : SpBlk (w.alloc (.cells #[.int .i64 x.page, .bool x.used, .bool x.pin] 130)) w.heap.size x := heap_alloc_new w _
theorem SpBlk.below {w w' : World} {p : Nat} {x : Sp} (k : SpBlk w p x) (hb : Below w.heap.size w w') : SpBlk w' p x := (hb.block p k.lt).trans k
theorem SpBlk.set {w : World} {p : Nat} {x : Sp} (k : SpBlk w p x) (y : Sp) : SpBlk (setSp w p 0 y) p y := by
  have h1 := heap_setCell_same w p 0 _ 130 (.int .i64 y.page) k
  have h2 := heap_setCell_same _ p 1 _ 130 (.bool y.used) h1
  have h3 := heap_setCell_same _ p 2 _ 130 (.bool y.pin) h2
  unfold SpBlk setSp
  rw [h3]
  simp
theorem SpBlk.use {w : World} {p : Nat} {x : Sp} (k : SpBlk w p x) (u : Bool) : SpBlk (w.setCell ⟨p, 1, none⟩ (.bool u)) p ⟨x.page, u, x.pin⟩ := by
  have h2 := heap_setCell_same _ p 1 _ 130 (.bool u) k
  unfold SpBlk
  rw [h2]
  simp
theorem SpBlk.pinned {w : World} {p : Nat} {x : Sp} (k : SpBlk w p x) (u : Bool) : SpBlk (w.setCell ⟨p, 2, none⟩ (.bool u)) p ⟨x.page, x.used, u⟩ := by
  have h2 := heap_setCell_same _ p 2 _ 130 (.bool u) k
  unfold SpBlk
  rw [h2]
  simp

theorem store_sp (g o : Nat) (x : Sp) (w : World) {u0 u1 u2 : Value} (c0 : w.cell? ⟨g, o, none⟩ = some u0) (c1 : w.cell? ⟨g, o + 1, none⟩ = some u1) (c2 : w.cell? ⟨g, o + 2, none⟩ = some u2) (f0 : w.frozen? ⟨g, o, none⟩ = false) (f1 : w.frozen? ⟨g, o + 1, none⟩ = false) (f2 : w.frozen? ⟨g, o + 2, none⟩ = false) :
    (Instr.storeAt 130 (.pointer (some ⟨g, o, none⟩)) x.val).run Tryz.prog w = .ok () (setSp w g o x) := by
  obtain ⟨p, u, q⟩ := x
  unfold Sp.val setSp
  simp [go_sem, Instr.storeAt, c0, c1, c2, f0, f1, f2]
theorem store_ck (g : Nat) (v : Sl) (h : Int) (w : World) {v0 : Value} {h0 : Int} (k : CkBlk w g v0 h0) :
    (Instr.storeAt 40 (.pointer (some ⟨g, 0, none⟩)) (ckV v h)).run Tryz.prog w = .ok () (setCk w g v.val h) := by
  have c0 := k.c0
  have c1 := k.c1
  have f0 := k.fz 0
  have f1 := k.fz 1
  obtain ⟨a, len, cap⟩ := v
  unfold ckV setCk Sl.val
  simp [go_sem, Instr.storeAt, c0, c1, f0, f1]

/-- Frames are compared whole. -/
theorem guard_sp : Tryz.prog.eqGuardType Tryz.prog.depth 130 = false := by kernel_rfl
theorem stood_sp : Tryz.prog.stoodInHeld 130 = false := by kernel_rfl
theorem fields_sp : Tryz.prog.underlying 130 = some (.struct (Tryz.prog.fieldsOf 130)) := by kernel_rfl
theorem equal_sp (x y : Sp) (w : World) : (Op.equalIn 10000 130 x.val y.val).run Tryz.prog w = .ok (x.beq y) w := by
  obtain ⟨p, u, q⟩ := x
  obtain ⟨p', u', q'⟩ := y
  unfold Sp.val Sp.beq
  rw [run_equalIn_struct w 9999 130 _ _ fields_sp stood_sp]
  simp only [Program.fieldsOf, Tryz.underlying130]
  simp [go_sem, Op.eqFields, part, run_equalIn_int, run_equalIn_bool', Tryz.underlying3, Tryz.underlying4]
  by_cases h1 : p = p' <;> by_cases h2 : u = u' <;> by_cases h3 : q = q' <;> simp [h1, h2, h3]
theorem eql_sp (x y : Sp) (a c : Operand) (w : World) : (do eqGuard .eql 130 a c x.val y.val; binOp .eql 130 x.val y.val : Sem Value).run Tryz.prog w = .ok (.bool (x.beq y)) w := by
  have h := equal_sp x y w
  unfold Sp.val at *
  rw [Sem.run_bind, run_eqGuard_agg w .eql 130 a c _ _ guard_sp, Result.andThen_ok, run_eql_struct, h]
  rfl
theorem ixSp (b o len cap k : Nat) (hk : k < len) (w : World) : (Instr.indexAt 38 (.slice (some ⟨b, o, none⟩) len cap) (.int .i64 ((k : Nat) : Int))).run Tryz.prog w = .ok (.pointer (some ⟨b, o + k * 3, none⟩)) w := by
  have h1 : (0 : Int) ≤ ((k : Nat) : Int) := by omega
  have h2 : ((k : Nat) : Int) < ((len : Nat) : Int) := by omega
  simp [go_sem, Instr.indexAt, hk, Addr.add_lit]
theorem ldSp (b o : Nat) (x : Sp) (w : World) (h : w.cell? ⟨b, o, none⟩ = some (.int .i64 x.page) ∧ w.cell? ⟨b, o + 1, none⟩ = some (.bool x.used) ∧ w.cell? ⟨b, o + 2, none⟩ = some (.bool x.pin)) : (Instr.loadAt 130 (.pointer (some ⟨b, o, none⟩))).run Tryz.prog w = .ok x.val w := by
  obtain ⟨c0, c1, c2⟩ := h
  unfold Sp.val
  simp [go_sem, Instr.loadAt, c0, c1, c2]
theorem ldRow (p : Nat) (v : Sl) (h : Int) (w : World) (k : CkBlk w p v.val h) : (Instr.loadAt 38 (.pointer (some ⟨p, 0, none⟩))).run Tryz.prog w = .ok v.val w := by
  have c0 := k.c0
  obtain ⟨a, len, cap⟩ := v
  unfold Sl.val at *
  simp [go_sem, Instr.loadAt, c0]
theorem ldHand (p : Nat) (v : Value) (h : Int) (w : World) (k : CkBlk w p v h) : (Instr.loadAt 3 (.pointer (some ⟨p, 1, none⟩))).run Tryz.prog w = .ok (.int .i64 h) w := by
  have c1 := k.c1
  simp [go_sem, Instr.loadAt, c1]
theorem fdCk0 (p : Nat) (w : World) : (Instr.fieldAt 40 (.pointer (some ⟨p, 0, none⟩)) 0).run Tryz.prog w = .ok (.pointer (some ⟨p, 0, none⟩)) w := by simp [go_sem, Instr.fieldAt]
theorem fdCk1 (p : Nat) (w : World) : (Instr.fieldAt 40 (.pointer (some ⟨p, 0, none⟩)) 1).run Tryz.prog w = .ok (.pointer (some ⟨p, 1, none⟩)) w := by simp [go_sem, Instr.fieldAt]
theorem below_drewC (w : World) : Below w.heap.size w w.drew := (Below.refl _ _).drew
end Go.Proofs.YtpggkfdnpdhkfaaGreat

namespace Go.Proofs.YtpggkfdnpdhkfaaGreat
open Go.RowKit
set_option maxRecDepth 100000

def isPg (p : Int) : Bool := decide (0 ≤ p) && decide (p < 64)

set_option maxHeartbeats 1000000 in
theorem isPage_any (p : Int) (w : World) : Calls Tryz.prog 124 #[.int .i64 p] w fun e w' => e = .returned (.bool (isPg p)) ∧ w' = w := by
  by_cases h1 : 0 ≤ p
  · by_cases h2 : p < 64
    · have e : isPg p = true := by simp [isPg, h1, h2]
      rw [e]
      go_enter Tryz.func124, Tryz.ntmps124
      go_wp2_with fail
      go_ret
      exact ⟨rfl, rfl⟩
    · have e : isPg p = false := by simp [isPg, h2]
      rw [e]
      go_enter Tryz.func124, Tryz.ntmps124
      go_wp2_with fail
      go_ret
      exact ⟨rfl, rfl⟩
  · have e : isPg p = false := by simp [isPg, h1]
    rw [e]
    go_enter Tryz.func124, Tryz.ntmps124
    go_wp2_with fail
    go_ret
    exact ⟨rfl, rfl⟩

theorem sp_results {fn : Func} {x : Nat} (hr : fn.results = #[.cell x 130]) {W : World} {g : Nat} {s : Sp} (h : SpBlk W g s) (tmps : Array Value) (ht : tmps.getD x undef = .pointer (some ⟨g, 0, none⟩)) : (results fn tmps).run Tryz.prog W = .ok s.val W := by
  have c0 := h.c0
  have c1 := h.c1
  have c2 := h.c2
  have ht2 : tmps[x]?.getD undef = .pointer (some ⟨g, 0, none⟩) := by simpa using ht
  simp [results, hr, ht2, go_sem, c0, c1, c2, Sp.val]
theorem ck_results {fn : Func} {x : Nat} (hr : fn.results = #[.cell x 40]) {W : World} {g : Nat} {v : Sl} {h : Int} (k : CkBlk W g v.val h) (tmps : Array Value) (ht : tmps.getD x undef = .pointer (some ⟨g, 0, none⟩)) : (results fn tmps).run Tryz.prog W = .ok (ckV v h) W := by
  have c0 := k.c0
  have c1 := k.c1
  unfold ckV Sl.val at *
  have ht2 : tmps[x]?.getD undef = .pointer (some ⟨g, 0, none⟩) := by simpa using ht
  simp [results, hr, ht2, go_sem, c0, c1]
theorem ck_results1 {fn : Func} {x y : Nat} (hr : fn.results = #[.cell x 40, .tmp y]) {W : World} {g : Nat} {v : Sl} {h : Int} (k : CkBlk W g v.val h) (tmps : Array Value) (ht : tmps.getD x undef = .pointer (some ⟨g, 0, none⟩)) {u : Value} (hy : tmps.getD y undef = u) : (results fn tmps).run Tryz.prog W = .ok (.tuple #[ckV v h, u]) W := by
  have c0 := k.c0
  have c1 := k.c1
  unfold ckV Sl.val at *
  have ht2 : tmps[x]?.getD undef = .pointer (some ⟨g, 0, none⟩) := by simpa using ht
  have hy2 : tmps[y]?.getD undef = u := by simpa using hy
  simp [results, hr, ht2, hy2, go_sem, c0, c1]
theorem ck_results3 {fn : Func} {x y z t : Nat} (hr : fn.results = #[.cell x 40, .tmp y, .tmp z, .tmp t]) {W : World} {g : Nat} {v : Sl} {h : Int} (k : CkBlk W g v.val h) (tmps : Array Value) (ht : tmps.getD x undef = .pointer (some ⟨g, 0, none⟩)) {u1 u2 u3 : Value} (hy : tmps.getD y undef = u1) (hz : tmps.getD z undef = u2) (h3 : tmps.getD t undef = u3) : (results fn tmps).run Tryz.prog W = .ok (.tuple #[ckV v h, u1, u2, u3]) W := by
  have c0 := k.c0
  have c1 := k.c1
  unfold ckV Sl.val at *
  have ht2 : tmps[x]?.getD undef = .pointer (some ⟨g, 0, none⟩) := by simpa using ht
  have hy2 : tmps[y]?.getD undef = u1 := by simpa using hy
  have hz2 : tmps[z]?.getD undef = u2 := by simpa using hz
  have h32 : tmps[t]?.getD undef = u3 := by simpa using h3
  simp [results, hr, ht2, hy2, hz2, h32, go_sem, c0, c1]

set_option maxHeartbeats 1000000 in
theorem empty_any (w : World) : Calls Tryz.prog 104 #[] w fun e w' => e = .returned Sp.none.val ∧ Below w.heap.size w w' := by
  have HB := hide (spBlk_new w Sp.none)
  have HF := hide (below_alloc w (.cells #[.int .i64 (-1), .bool false, .bool false] 130))
  go_enter Tryz.func104, Tryz.ntmps104
  go_wp2_with fail
  refine bodyPost_ret (sp_results rfl HB.out _ rfl) rfl ?_
  exact ⟨rfl, HF.out⟩

set_option maxHeartbeats 1000000 in
theorem cloneS_any {D : Nat → Prop} (w : World) (v : Sl) (l : List Sp) (h : Gs D w v l) : Calls Tryz.prog 125 #[v.val] w fun e w' => Below w.heap.size w w' ∧ ∃ s : Sl, e = .returned s.val ∧ OwnS w' s l ∧ s.len = v.len ∧ ∀ k, s.blk = some k → w.heap.size ≤ k := by
  obtain ⟨a, len, cap⟩ := v
  cases a with
  | none =>
    have hc : cap = 0 := h.nil rfl
    have h0 : len = 0 := by have : len ≤ cap := h.le; omega
    subst hc; subst h0
    have hx : l = [] := List.eq_nil_of_length_eq_zero h.len
    subst hx
    clear h
    have HN := hide (Own.nil 130 3 w)
    have HB := hide (Below.refl w.heap.size w)
    have he : ∀ w : World, (binOp .eql 38 (.slice none 0 0) (.slice none 0 0)).run Tryz.prog w = .ok (.bool true) w := fun _ => rfl
    unfold Sl.val
    simp only
    go_enter Tryz.func125, Tryz.ntmps125
    go_wp2_with fail
    go_ret
    exact ⟨HB.out, Sl.nil, rfl, HN.out, rfl, fun k hk => by cases hk⟩
  | some ad =>
    have HG := hide h
    have he : ∀ w : World, (binOp .eql 38 (.slice (some ad) len cap) (.slice none 0 0)).run Tryz.prog w = .ok (.bool false) w := fun _ => rfl
    clear h
    unfold Sl.val
    simp only
    go_enter Tryz.func125, Tryz.ntmps125
    go_wp2_with (at_builtin; refine wpList_append_new _ rfl (.tmp 5) (.tmp 6) rfl ⟨some ad, len, cap⟩ _ rfl rfl HG.out ?_)
    intro v1 w1 ho1 hl1 hb1 hk1
    have HO1 := hide ho1
    have HL1 := hide hl1
    have HB1 := hide hb1
    have HK1 := hide hk1
    clear ho1 hl1 hb1 hk1 HG
    go_wp2_with fail
    go_ret
    exact ⟨HB1.out, v1, rfl, HO1.out, HL1.out, HK1.out⟩

/-- What is captured. -/
def pgV (b : Nat) : Value := .func (.func 127) #[] #[.pointer (some ⟨b, 0, none⟩)]

set_option maxHeartbeats 1000000 in
theorem closure_any (x : Sp) (b : Nat) (p : Int) (w : World) (hb : w.cell? ⟨b, 0, none⟩ = some (.int .i64 p)) : Calls Tryz.prog 127 #[.agg #[.int .i64 x.page, .bool x.used, .bool x.pin], .pointer (some ⟨b, 0, none⟩)] w fun e w' => e = .returned (.bool (onP p x)) ∧ Below w.heap.size w w' := by
  have hA := below_alloc w (.cells #[.int .i64 x.page, .bool x.used, .bool x.pin] 130)
  have hc := (hA.cell (p := ⟨b, 0, none⟩) (World.block_lt_of_cell? w _ hb)).trans hb
  have HA := hide hA
  clear hb hA
  unfold onP
  go_enter Tryz.func127, Tryz.ntmps127
  go_wp2_with fail
  go_ret
  exact ⟨rfl, HA.out⟩

set_option maxHeartbeats 4000000 in
theorem indexFunc_any {D : Nat → Prop} (w : World) (v : Sl) (l : List Sp) (h : Gs D w v l) (b : Nat) (p : Int) (hb : w.cell? ⟨b, 0, none⟩ = some (.int .i64 p)) :
    Calls Tryz.prog 126 #[v.val, pgV b] w fun e w' => e = .returned (.int .i64 (ixP l p)) ∧ Below w.heap.size w w' := by
  obtain ⟨a, len, cap⟩ := v
  have HG := hide h
  have hl : l.length = len := h.len
  have HL := hide hl
  have hbig : len ≤ 1000000 := h.big
  have HC := hide hb
  have H0 := hide (Below.refl w.heap.size w)
  have HI : Hid (ixP l p = ixF (onP p) (l.drop 0) 0) := rfl
  clear h hl hb
  unfold Sl.val pgV
  simp only
  go_enter Tryz.func126, Tryz.ntmps126
  go_wp2_with fail
  go_loopw [8] (fun iv wr => ∃ i : Nat, i ≤ len ∧ iv = .int .i64 (i : Nat) ∧ Hid (ixP l p = ixF (onP p) (l.drop i) i) ∧ Hid (Below w.heap.size w wr)) (fun iv _ => len - (intOf iv).toNat)
  case atStart => exact ⟨0, Nat.zero_le _, rfl, HI, H0⟩
  case round =>
    obtain ⟨i, hi, rfl, hix, hbr⟩ := hrel
    rcases Nat.lt_or_ge i len with hlt | hge
    · have i1 : ((i : Nat) : Int) < ((len : Nat) : Int) := by omega
      obtain ⟨bb, oo, ha, c0, c1, c2⟩ := (HG.out.below hbr.out (Nat.le_refl _)).cell i hlt
      replace ha : a = some ⟨bb, oo, none⟩ := ha
      subst ha
      obtain ⟨x, hx⟩ : ∃ x, x = fr l i := ⟨_, rfl⟩
      rw [← hx] at c0 c1 c2
      have HCL := hide (closure_any x b p wr ((hbr.out.cell (World.block_lt_of_cell? w _ HC.out)).trans HC.out))
      have HX := hide hx
      clear hx
      cases hon : onP p x with
      | true =>
        rw [hon] at HCL
        have HE : Hid (ixP l p = ((i : Nat) : Int)) := hix.out.trans (ixF_hit (by rw [HL.out]; exact hlt) (by rw [← HX.out]; exact hon))
        clear hix
        go_wp2_with fail
        refine HCL.out.mono ?_
        rintro e w1 ⟨rfl, hb1⟩
        have HB1 := hide (rBelow hbr.out hb1)
        clear hb1
        go_wp2_with fail
        go_ret
        exact ⟨by rw [HE.out]; rfl, HB1.out⟩
      | false =>
        rw [hon] at HCL
        have HE : Hid (ixP l p = ixF (onP p) (l.drop (i + 1)) (i + 1)) := hix.out.trans (ixF_miss (by rw [HL.out]; exact hlt) (by rw [← HX.out]; exact hon))
        clear hix
        go_wp2_with fail
        refine HCL.out.mono ?_
        rintro e w1 ⟨rfl, hb1⟩
        have HB1 := hide (rBelow hbr.out hb1)
        clear hb1
        go_wp2_with fail
        go_roundw
        case rel => exact ⟨i + 1, by omega, by go_num, HE, HB1⟩
        case measure => simp only [intOf]; omega
    · have HE : Hid (ixP l p = -1) := hix.out.trans (ixF_end (by rw [HL.out]; exact hge))
      have i1 : ¬ ((i : Nat) : Int) < ((len : Nat) : Int) := by omega
      clear hix
      go_wp2_with fail
      go_ret
      exact ⟨by rw [HE.out]; rfl, hbr.out⟩

/-- Where a page that may be is. -/
def frm (l : List Sp) (p : Int) : Int := if isPg p = true then ixP l p else -1

set_option maxHeartbeats 4000000 in
theorem frameOf_any {D : Nat → Prop} (w : World) (v : Sl) (h : Int) (l : List Sp) (hg : Gs D w v l) (p : Int) :
    Calls Tryz.prog 116 #[ckV v h, .int .i64 p] w fun e w' => e = .returned (.int .i64 (frm l p)) ∧ Below w.heap.size w w' := by
  obtain ⟨a, len, cap⟩ := v
  have hmf : ∀ (fn : Fn) (first cap : Array Value) (w : World), (Instr.makeFunc fn first cap).run Tryz.prog w = .ok (.func fn first cap) w := fun _ _ _ _ => rfl
  have hA1 := below_alloc w (.cells #[.slice a len cap, .int .i64 h] 40)
  have hA2 := below_alloc (w.alloc (.cells #[.slice a len cap, .int .i64 h] 40)) (.cells #[.int .i64 p] 3)
  have hA := rBelow hA1 hA2
  have hcell : ((w.alloc (.cells #[.slice a len cap, .int .i64 h] 40)).alloc (.cells #[.int .i64 p] 3)).cell? ⟨w.heap.size + 1, 0, none⟩ = some (.int .i64 p) := by
    have hb := heap_alloc_new (w.alloc (.cells #[.slice a len cap, .int .i64 h] 40)) (.cells #[.int .i64 p] 3)
    rw [alloc_size] at hb
    rw [cell_of_row _ _ _ _ _ _ hb]
    rfl
  have HI := hide (indexFunc_any _ ⟨a, len, cap⟩ l (hg.below hA (Nat.le_refl _)) (w.heap.size + 1) p hcell)
  have HP := hide (isPage_any p)
  have HA := hide hA
  clear hg hA1 hA2 hA hcell
  unfold ckV pgV Sl.val at *
  simp only at *
  cases hp : isPg p with
  | true =>
    rw [hp] at HP
    have e : frm l p = ixP l p := by unfold frm; rw [if_pos hp]
    rw [e]
    clear e
    go_enter Tryz.func116, Tryz.ntmps116
    go_wp2_with fail
    refine (HP.out _).mono ?_
    rintro e w1 ⟨rfl, rfl⟩
    go_wp2_with fail
    refine HI.out.mono ?_
    rintro e w1 ⟨rfl, hb1⟩
    have HB1 := hide (rBelow HA.out hb1)
    clear hb1
    go_wp2_with fail
    go_ret
    exact ⟨rfl, HB1.out⟩
  | false =>
    rw [hp] at HP
    have e : frm l p = -1 := by unfold frm; rw [if_neg (by rw [hp]; decide)]
    rw [e]
    clear e
    go_enter Tryz.func116, Tryz.ntmps116
    go_wp2_with fail
    refine (HP.out _).mono ?_
    rintro e w1 ⟨rfl, rfl⟩
    go_wp2_with fail
    go_ret
    exact ⟨rfl, HA.out⟩
end Go.Proofs.YtpggkfdnpdhkfaaGreat

namespace Go.Proofs.YtpggkfdnpdhkfaaGreat
open Go.RowKit
set_option maxRecDepth 100000

namespace Pl
section
variable {P : Program} {ops : Array Oper} {S : World → Prop} {Q : Exit → Act → World → Prop} {n fuel : Nat} {listed : Array Bool} {f : Nat → Value} {w : World}
end
end Pl

/-- Three cells that are a frame. -/
def Cell3 (w : World) (b o : Nat) (x : Sp) : Prop := w.cell? ⟨b, o, none⟩ = some (.int .i64 x.page) ∧ w.cell? ⟨b, o + 1, none⟩ = some (.bool x.used) ∧ w.cell? ⟨b, o + 2, none⟩ = some (.bool x.pin)
theorem Cell3.below {w w' : World} {b o : Nat} {x : Sp} (h : Cell3 w b o x) (hb : Below w.heap.size w w') : Cell3 w' b o x := by
  obtain ⟨c0, c1, c2⟩ := h
  have hlt := World.block_lt_of_cell? w _ c0
  exact ⟨(hb.cell (p := ⟨b, o, none⟩) hlt).trans c0, (hb.cell (p := ⟨b, o + 1, none⟩) hlt).trans c1, (hb.cell (p := ⟨b, o + 2, none⟩) hlt).trans c2⟩
theorem SpBlk.cell3 {w : World} {p : Nat} {x : Sp} (k : SpBlk w p x) : Cell3 w p 0 x := ⟨k.c0, k.c1, k.c2⟩

theorem entEmpty : ∀ args w, (callFunc 104 args).run Tryz.prog w = .ok (.enter 104 args) w := Pl.enters Tryz.func104 (by kernel_rfl) (by kernel_rfl)
theorem entCloneS : ∀ args w, (callFunc 125 args).run Tryz.prog w = .ok (.enter 125 args) w := Pl.enters Tryz.func125 (by kernel_rfl) (by kernel_rfl)
theorem entIndex : ∀ args w, (callFunc 135 args).run Tryz.prog w = .ok (.enter 135 args) w := Pl.enters Tryz.func135 (by kernel_rfl) (by kernel_rfl)
theorem build_ck (v : Sl) (h : Int) (w : World) : (Instr.build 40 #[(0, v.val), (1, .int .i64 h)]).run Tryz.prog w = .ok (ckV v h) w := by
  obtain ⟨a, len, cap⟩ := v
  unfold ckV Sl.val
  simp [go_sem, Instr.build]

set_option maxHeartbeats 2000000 in
set_option maxRecDepth 100000 in
theorem index4 (w : World) (b o len cap i g : Nat) (x y : Sp) (r : Bool) (hi : i < len) (hx : SpBlk w g x) (hy : Cell3 w b (o + i * 3) y) (hr : x.beq y = r)
    {Q : Exit → Act → World → Prop} {A : Act} (hsz : A.tmps.size = 19) (hdf : A.defers = []) (s0 : A.tmps.getD 0 undef = .slice (some ⟨b, o, none⟩) len cap) (s3 : A.tmps.getD 3 undef = .pointer (some ⟨g, 0, none⟩)) (s5 : A.tmps.getD 5 undef = .int .i64 ((i : Nat) : Int))
    (hend : ∀ (u : Nat → Value) w', Below w.heap.size w w' → Q .normal (((((((A).put (some 11) (u 11)).put (some 12) (u 12)).put (some 13) (u 13)).put (some 14) (u 14)).put (some 15) (u 15)).put (some 16) (.bool r)) w') :
    (Code.region 4 (Pl.find 4 ((Tryz.f135.body).getD .skip)) true).wp Tryz.prog Q A w := by
  have hA := Pl.At.same (v := .int .i64 ((i : Nat) : Int)) (d := 5) (Pl.At.same (v := .pointer (some ⟨g, 0, none⟩)) (d := 3) (Pl.At.same (v := .slice (some ⟨b, o, none⟩) len cap) (d := 0) (Pl.At.here hsz hdf) s0) s3) s5
  refine Pl.H.start (S := (fun w' => Below w.heap.size w w')) (by kernel_rfl) hA (below_drewC w) ?_
  rw [show (Pl.find 4 ((Tryz.f135.body).getD .skip)).size = 6 by kernel_rfl]
  refine Pl.H.take 0 11 (Sp.val x) (by kernel_rfl) (by kernel_rfl) (by kernel_rfl) (Pl.free 0 (by kernel_rfl)) (Pl.load 0 130 (.tmp 3) _ (by kernel_rfl) (by decide) (fun w' hS => ldSp g 0 x w' (hx.below hS).cell3)) (below_drewC w) ?_
  refine Pl.H.take 1 12 (.slice (some ⟨b, o, none⟩) len cap) (by kernel_rfl) (by kernel_rfl) (by kernel_rfl) (Pl.free 1 (by kernel_rfl)) (Pl.move 1 (.tmp 0) (by kernel_rfl) (by decide)) (below_drewC w) ?_
  refine Pl.H.take 2 13 (.int .i64 ((i : Nat) : Int)) (by kernel_rfl) (by kernel_rfl) (by kernel_rfl) (Pl.free 2 (by kernel_rfl)) (Pl.move 2 (.tmp 5) (by kernel_rfl) (by decide)) (below_drewC w) ?_
  refine Pl.H.take 3 14 (.pointer (some ⟨b, o + i * 3, none⟩)) (by kernel_rfl) (by kernel_rfl) (by kernel_rfl) (Pl.free 3 (by kernel_rfl)) (Pl.index 3 38 (.tmp 12) (.tmp 13) _ (by kernel_rfl) (by decide) (by decide) (ixSp b o len cap i hi)) (below_drewC w) ?_
  refine Pl.H.take 4 15 (Sp.val y) (by kernel_rfl) (by kernel_rfl) (by kernel_rfl) (Pl.free 4 (by kernel_rfl)) (Pl.load 4 130 (.tmp 14) _ (by kernel_rfl) (by decide) (fun w' hS => ldSp b (o + i * 3) y w' (hy.below hS))) (below_drewC w) ?_
  refine Pl.H.take 5 16 (.bool r) (by kernel_rfl) (by kernel_rfl) (by kernel_rfl) (Pl.free 5 (by kernel_rfl)) (Pl.binV 5 .eql 130 130 (.tmp 11) (.tmp 15) (Sp.val x) (Sp.val y) _ (by kernel_rfl) (by decide) (by decide) rfl rfl (fun w => hr ▸ eql_sp x y _ _ w)) (below_drewC w) ?_
  refine Pl.H.done (by kernel_rfl) (fun A' hA' => ?_)
  rw [Pl.At.ext hA' ((((((hA.put 11 _).put 12 _).put 13 _).put 14 _).put 15 _).put 16 _)]
  exact hend (fun d => if d = 11 then Sp.val x else if d = 12 then .slice (some ⟨b, o, none⟩) len cap else if d = 13 then .int .i64 ((i : Nat) : Int) else if d = 14 then .pointer (some ⟨b, o + i * 3, none⟩) else if d = 15 then Sp.val y else undef) _ (below_drewC w)

set_option maxHeartbeats 2000000 in
set_option maxRecDepth 100000 in
theorem check9 (w : World) (g : Nat) (x : Sp) (r : Bool) (hx : SpBlk w g x) (hr : x.beq Sp.none = r)
    {Q : Exit → Act → World → Prop} {A : Act} (hsz : A.tmps.size = 51) (hdf : A.defers = []) (s5 : A.tmps.getD 5 undef = .pointer (some ⟨g, 0, none⟩))
    (hend : ∀ (u : Nat → Value) w', Below w.heap.size w w' → Q .normal ((((A).put (some 34) (u 34)).put (some 35) (u 35)).put (some 36) (.bool r)) w') :
    (Code.region 9 (Pl.find 9 ((Tryz.f114.body).getD .skip)) true).wp Tryz.prog Q A w := by
  have hA := Pl.At.same (v := .pointer (some ⟨g, 0, none⟩)) (d := 5) (Pl.At.here hsz hdf) s5
  refine Pl.H.start (S := (fun w' => Below w.heap.size w w')) (by kernel_rfl) hA (below_drewC w) ?_
  rw [show (Pl.find 9 ((Tryz.f114.body).getD .skip)).size = 3 by kernel_rfl]
  refine Pl.H.take 0 34 (Sp.val x) (by kernel_rfl) (by kernel_rfl) (by kernel_rfl) (Pl.free 0 (by kernel_rfl)) (Pl.load 0 130 (.tmp 5) _ (by kernel_rfl) (by decide) (fun w' hS => ldSp g 0 x w' (hx.below hS).cell3)) (below_drewC w) ?_
  refine Pl.H.call 1 35 104 [] #[] (by kernel_rfl) (by kernel_rfl) (by kernel_rfl) (Pl.free 1 (by kernel_rfl)) (by kernel_rfl) (by decide) entEmpty (Calls.mono (empty_any w.drew) ?_)
  rintro e w1 ⟨rfl, hb1⟩
  refine ⟨Sp.val Sp.none, rfl, (rBelow (below_drewC w) hb1), ?_⟩
  refine Pl.H.take 2 36 (.bool r) (by kernel_rfl) (by kernel_rfl) (by kernel_rfl) (Pl.free 2 (by kernel_rfl)) (Pl.binV 2 .eql 130 130 (.tmp 34) (.tmp 35) (Sp.val x) (Sp.val Sp.none) _ (by kernel_rfl) (by decide) (by decide) rfl rfl (fun w => hr ▸ eql_sp x Sp.none _ _ w)) (rBelow (below_drewC w) hb1) ?_
  refine Pl.H.done (by kernel_rfl) (fun A' hA' => ?_)
  rw [Pl.At.ext hA' (((hA.put 34 _).put 35 _).put 36 _)]
  exact hend (fun d => if d = 34 then Sp.val x else if d = 35 then Sp.val Sp.none else undef) _ (rBelow (below_drewC w) hb1)

set_option maxHeartbeats 2000000 in
set_option maxRecDepth 100000 in
theorem copyOf1 {D : Nat → Prop} (w : World) (c q : Nat) (v : Sl) (h : Int) (v0 : Value) (h0 : Int) (l : List Sp) (hc : CkBlk w c v.val h) (hr : CkBlk w q v0 h0) (hne : c ≠ q) (hg : Gs D w v l)
    {Q : Exit → Act → World → Prop} {A : Act} (hsz : A.tmps.size = 9) (hdf : A.defers = []) (s1 : A.tmps.getD 1 undef = .pointer (some ⟨c, 0, none⟩)) (s2 : A.tmps.getD 2 undef = .pointer (some ⟨q, 0, none⟩))
    (hend : ∀ (u : Nat → Value) w' (s : Sl), (CkBlk w' q s.val h ∧ OwnS w' s l ∧ s.len = v.len ∧ Frm (fun k => k = q) w w' ∧ ∀ k, s.blk = some k → w.heap.size ≤ k) → Q .normal (((((((A).put (some 3) (u 3)).put (some 4) (u 4)).put (some 6) (u 6)).put (some 7) (u 7)).put (some 5) (u 5)).put (some 8) (u 8)) w') :
    (Code.region 1 (Pl.find 1 ((Tryz.f115.body).getD .skip)) true).wp Tryz.prog Q A w := by
  have hA := Pl.At.same (v := .pointer (some ⟨q, 0, none⟩)) (d := 2) (Pl.At.same (v := .pointer (some ⟨c, 0, none⟩)) (d := 1) (Pl.At.here hsz hdf) s1) s2
  refine Pl.H.start (S := (fun w' => CkBlk w' c v.val h)) (by kernel_rfl) hA (hc.below (below_drewC w)) ?_
  rw [show (Pl.find 1 ((Tryz.f115.body).getD .skip)).size = 7 by kernel_rfl]
  refine Pl.H.take 0 3 (.pointer (some ⟨c, 0, none⟩)) (by kernel_rfl) (by kernel_rfl) (by kernel_rfl) (Pl.free 0 (by kernel_rfl)) (Pl.field 0 40 (.tmp 1) 0 _ (by kernel_rfl) (by decide) (fdCk0 c)) (hc.below (below_drewC w)) ?_
  refine Pl.H.take 1 4 (Sl.val v) (by kernel_rfl) (by kernel_rfl) (by kernel_rfl) (Pl.free 1 (by kernel_rfl)) (Pl.load 1 38 (.tmp 3) _ (by kernel_rfl) (by decide) (fun w' hS => ldRow c v h w' hS)) (hc.below (below_drewC w)) ?_
  refine Pl.H.take 3 6 (.pointer (some ⟨c, 1, none⟩)) (by kernel_rfl) (by kernel_rfl) (by kernel_rfl) (Pl.free 3 (by kernel_rfl)) (Pl.field 3 40 (.tmp 1) 1 _ (by kernel_rfl) (by decide) (fdCk1 c)) (hc.below (below_drewC w)) ?_
  refine Pl.H.take 4 7 (.int .i64 h) (by kernel_rfl) (by kernel_rfl) (by kernel_rfl) (Pl.free 4 (by kernel_rfl)) (Pl.load 4 3 (.tmp 6) _ (by kernel_rfl) (by decide) (fun w' hS => ldHand c v.val h w' hS)) (hc.below (below_drewC w)) ?_
  refine Pl.H.call 2 5 125 [(.tmp 4)] #[38] (by kernel_rfl) (by kernel_rfl) (by kernel_rfl) (Pl.free 2 (by kernel_rfl)) (by kernel_rfl) (by decide) entCloneS (Calls.mono (cloneS_any w.drew v l (hg.below (below_drewC w) (Nat.le_refl _))) ?_)
  rintro e w1 ⟨hb1, s, rfl, ho, hl, hk⟩
  have hS1 : CkBlk w1 c v.val h := hc.below (rBelow (below_drewC w) hb1)
  have hr1 : CkBlk w1 q v0 h0 := hr.below (rBelow (below_drewC w) hb1)
  refine ⟨Sl.val s, rfl, hS1, ?_⟩
  refine Pl.H.take 5 8 (ckV s h) (by kernel_rfl) (by kernel_rfl) (by kernel_rfl) (Pl.free 5 (by kernel_rfl)) (Pl.buildV 5 40 [(0, .tmp 5), (1, .tmp 7)] _ (by kernel_rfl) (by decide) (fun w => build_ck s h w)) hS1 ?_
  have hS2 : CkBlk (setCk w1 q s.val h) c v.val h := hS1.at ((setCk_frm w1 q s.val h).block c hS1.lt hne)
  refine Pl.H.store 6 (setCk w1 q s.val h) (by kernel_rfl) (by kernel_rfl) (by kernel_rfl) (Pl.free 6 (by kernel_rfl)) (Pl.storeV 6 40 (.tmp 2) (.tmp 8) _ (by kernel_rfl) (by decide) (by decide) (store_ck q s h w1 hr1)) hS2 ?_
  refine Pl.H.done (by kernel_rfl) (fun A' hA' => ?_)
  rw [Pl.At.ext hA' ((((((hA.put 3 _).put 4 _).put 6 _).put 7 _).put 5 _).put 8 _)]
  exact hend (fun d => if d = 3 then .pointer (some ⟨c, 0, none⟩) else if d = 4 then Sl.val v else if d = 6 then .pointer (some ⟨c, 1, none⟩) else if d = 7 then .int .i64 h else if d = 5 then Sl.val s else if d = 8 then ckV s h else undef) _ s ⟨hr1.set s.val h, ho.frame (fun k hk' => (setCk_frm w1 q s.val h).block k (Own.lt ho hk') (by have e1 := hk k hk'; have e2 := hr.lt; have e3 : w.drew.heap.size = w.heap.size := rfl; omega)), hl, (Frm.ofBelow (F := fun k => k = q) (rBelow (below_drewC w) hb1)).trans (setCk_frm w1 q s.val h) (fun _ _ e => e), hk⟩

set_option maxHeartbeats 2000000 in
set_option maxRecDepth 100000 in
theorem find1 (w : World) (c : Nat) (v : Sl) (h : Int) (l : List Sp) (hc : CkBlk w c v.val h) (hI : ∀ w1, Below w.heap.size w w1 → Calls Tryz.prog 135 #[v.val, Sp.none.val] w1 fun e w2 => e = .returned (.int .i64 (ixN l)) ∧ Below w1.heap.size w1 w2)
    {Q : Exit → Act → World → Prop} {A : Act} (hsz : A.tmps.size = 59) (hdf : A.defers = []) (s0 : A.tmps.getD 0 undef = .pointer (some ⟨c, 0, none⟩))
    (hend : ∀ (u : Nat → Value) w', Below w.heap.size w w' → Q .normal ((((((((A).put (some 6) (u 6)).put (some 7) (u 7)).put (some 8) (u 8)).put (some 9) (u 9)).put (some 10) (u 10)).put (some 11) (u 11)).put (some 3) (.int .i64 (ixN l))) w') :
    (Code.region 1 (Pl.find 1 ((Tryz.f128.body).getD .skip)) true).wp Tryz.prog Q A w := by
  have hA := Pl.At.same (v := .pointer (some ⟨c, 0, none⟩)) (d := 0) (Pl.At.here hsz hdf) s0
  refine Pl.H.start (S := (fun w' => Below w.heap.size w w')) (by kernel_rfl) hA (below_drewC w) ?_
  rw [show (Pl.find 1 ((Tryz.f128.body).getD .skip)).size = 7 by kernel_rfl]
  refine Pl.H.take 0 6 (.pointer (some ⟨c, 0, none⟩)) (by kernel_rfl) (by kernel_rfl) (by kernel_rfl) (Pl.free 0 (by kernel_rfl)) (Pl.move 0 (.tmp 0) (by kernel_rfl) (by decide)) (below_drewC w) ?_
  refine Pl.H.take 1 7 (.pointer (some ⟨c, 0, none⟩)) (by kernel_rfl) (by kernel_rfl) (by kernel_rfl) (Pl.free 1 (by kernel_rfl)) (Pl.nilc 1 (.tmp 6) _ (by kernel_rfl) (by decide) rfl) (below_drewC w) ?_
  refine Pl.H.take 2 8 (.pointer (some ⟨c, 0, none⟩)) (by kernel_rfl) (by kernel_rfl) (by kernel_rfl) (Pl.free 2 (by kernel_rfl)) (Pl.field 2 40 (.tmp 7) 0 _ (by kernel_rfl) (by decide) (fdCk0 c)) (below_drewC w) ?_
  refine Pl.H.take 3 9 (Sl.val v) (by kernel_rfl) (by kernel_rfl) (by kernel_rfl) (Pl.free 3 (by kernel_rfl)) (Pl.load 3 38 (.tmp 8) _ (by kernel_rfl) (by decide) (fun w' hS => ldRow c v h w' (hc.below hS))) (below_drewC w) ?_
  refine Pl.H.call 4 10 104 [] #[] (by kernel_rfl) (by kernel_rfl) (by kernel_rfl) (Pl.free 4 (by kernel_rfl)) (by kernel_rfl) (by decide) entEmpty (Calls.mono (empty_any w.drew) ?_)
  rintro e w1 ⟨rfl, hb1⟩
  refine ⟨Sp.val Sp.none, rfl, (rBelow (below_drewC w) hb1), ?_⟩
  refine Pl.H.call 5 11 135 [(.tmp 9), (.tmp 10)] #[38, 130] (by kernel_rfl) (by kernel_rfl) (by kernel_rfl) (Pl.free 5 (by kernel_rfl)) (by kernel_rfl) (by decide) entIndex (Calls.mono (hI w1 (rBelow (below_drewC w) hb1)) ?_)
  rintro e w2 ⟨rfl, hb2⟩
  refine ⟨.int .i64 (ixN l), rfl, (rBelow (rBelow (below_drewC w) hb1) hb2), ?_⟩
  refine Pl.H.take 6 3 (.int .i64 (ixN l)) (by kernel_rfl) (by kernel_rfl) (by kernel_rfl) (Pl.free 6 (by kernel_rfl)) (Pl.assign 6 (.tmp 11) (by kernel_rfl) (by decide)) (rBelow (rBelow (below_drewC w) hb1) hb2) ?_
  refine Pl.H.done (by kernel_rfl) (fun A' hA' => ?_)
  rw [Pl.At.ext hA' (((((((hA.put 6 _).put 7 _).put 8 _).put 9 _).put 10 _).put 11 _).put 3 _)]
  exact hend (fun d => if d = 6 then .pointer (some ⟨c, 0, none⟩) else if d = 7 then .pointer (some ⟨c, 0, none⟩) else if d = 8 then .pointer (some ⟨c, 0, none⟩) else if d = 9 then Sl.val v else if d = 10 then Sp.val Sp.none else if d = 11 then .int .i64 (ixN l) else undef) _ (rBelow (rBelow (below_drewC w) hb1) hb2)

set_option maxHeartbeats 2000000 in
set_option maxRecDepth 100000 in
theorem drop10 (w : World) (c b o len cap i : Nat) (h : Int) (l : List Sp) (hc : CkBlk w c (.slice (some ⟨b, o, none⟩) len cap) h) (ho : OwnS w ⟨some ⟨b, o, none⟩, len, cap⟩ l) (hi : i < len) (hne : c ≠ b)
    {Q : Exit → Act → World → Prop} {A : Act} (hsz : A.tmps.size = 36) (hdf : A.defers = []) (s7 : A.tmps.getD 7 undef = .pointer (some ⟨c, 0, none⟩)) (s8 : A.tmps.getD 8 undef = .int .i64 ((i : Nat) : Int))
    (hend : ∀ (u : Nat → Value) w', (CkBlk w' c (.slice (some ⟨b, o, none⟩) len cap) h ∧ OwnS w' ⟨some ⟨b, o, none⟩, len, cap⟩ (l.set i Sp.none) ∧ Frm (fun k => k = b) w w') → Q .normal ((((((A).put (some 30) (u 30)).put (some 31) (u 31)).put (some 32) (u 32)).put (some 33) (u 33)).put (some 34) (u 34)) w') :
    (Code.region 10 (Pl.find 10 ((Tryz.f94.body).getD .skip)) true).wp Tryz.prog Q A w := by
  have hA := Pl.At.same (v := .int .i64 ((i : Nat) : Int)) (d := 8) (Pl.At.same (v := .pointer (some ⟨c, 0, none⟩)) (d := 7) (Pl.At.here hsz hdf) s7) s8
  refine Pl.H.start (S := (fun w' => CkBlk w' c (.slice (some ⟨b, o, none⟩) len cap) h)) (by kernel_rfl) hA (hc.below (below_drewC w)) ?_
  rw [show (Pl.find 10 ((Tryz.f94.body).getD .skip)).size = 6 by kernel_rfl]
  refine Pl.H.take 0 30 (.pointer (some ⟨c, 0, none⟩)) (by kernel_rfl) (by kernel_rfl) (by kernel_rfl) (Pl.free 0 (by kernel_rfl)) (Pl.field 0 40 (.tmp 7) 0 _ (by kernel_rfl) (by decide) (fdCk0 c)) (hc.below (below_drewC w)) ?_
  refine Pl.H.take 1 31 (.slice (some ⟨b, o, none⟩) len cap) (by kernel_rfl) (by kernel_rfl) (by kernel_rfl) (Pl.free 1 (by kernel_rfl)) (Pl.load 1 38 (.tmp 30) _ (by kernel_rfl) (by decide) (fun w' hS => ldRow c ⟨some ⟨b, o, none⟩, len, cap⟩ h w' hS)) (hc.below (below_drewC w)) ?_
  refine Pl.H.take 2 32 (.int .i64 ((i : Nat) : Int)) (by kernel_rfl) (by kernel_rfl) (by kernel_rfl) (Pl.free 2 (by kernel_rfl)) (Pl.move 2 (.tmp 8) (by kernel_rfl) (by decide)) (hc.below (below_drewC w)) ?_
  refine Pl.H.call 3 33 104 [] #[] (by kernel_rfl) (by kernel_rfl) (by kernel_rfl) (Pl.free 3 (by kernel_rfl)) (by kernel_rfl) (by decide) entEmpty (Calls.mono (empty_any w.drew) ?_)
  rintro e w1 ⟨rfl, hb1⟩
  have hS1 : CkBlk w1 c (.slice (some ⟨b, o, none⟩) len cap) h := hc.below (rBelow (below_drewC w) hb1)
  have ho1 := ho.below (rBelow (below_drewC w) hb1)
  refine ⟨Sp.val Sp.none, rfl, hS1, ?_⟩
  refine Pl.H.take 4 34 (.pointer (some ⟨b, o + i * 3, none⟩)) (by kernel_rfl) (by kernel_rfl) (by kernel_rfl) (Pl.free 4 (by kernel_rfl)) (Pl.index 4 38 (.tmp 31) (.tmp 32) _ (by kernel_rfl) (by decide) (by decide) (ixSp b o len cap i hi)) hS1 ?_
  obtain ⟨k0, k1, k2⟩ := ho1.cells rfl hi
  have hS2 : CkBlk (setSp w1 b (o + i * 3) Sp.none) c (.slice (some ⟨b, o, none⟩) len cap) h := hS1.at ((setSp_frm w1 b _ Sp.none).block c hS1.lt hne)
  refine Pl.H.store 5 (setSp w1 b (o + i * 3) Sp.none) (by kernel_rfl) (by kernel_rfl) (by kernel_rfl) (Pl.free 5 (by kernel_rfl)) (Pl.storeV 5 130 (.tmp 34) (.tmp 33) _ (by kernel_rfl) (by decide) (by decide) (store_sp b (o + i * 3) Sp.none w1 k0 k1 k2 (ho1.frozen rfl _) (ho1.frozen rfl _) (ho1.frozen rfl _))) hS2 ?_
  refine Pl.H.done (by kernel_rfl) (fun A' hA' => ?_)
  rw [Pl.At.ext hA' (((((hA.put 30 _).put 31 _).put 32 _).put 33 _).put 34 _)]
  exact hend (fun d => if d = 30 then .pointer (some ⟨c, 0, none⟩) else if d = 31 then .slice (some ⟨b, o, none⟩) len cap else if d = 32 then .int .i64 ((i : Nat) : Int) else if d = 33 then Sp.val Sp.none else if d = 34 then .pointer (some ⟨b, o + i * 3, none⟩) else undef) _ ⟨hS2, ho1.store rfl i Sp.none, (Frm.ofBelow (F := fun k => k = b) (rBelow (below_drewC w) hb1)).trans (setSp_frm w1 b _ Sp.none) (fun _ _ e => e)⟩
end Go.Proofs.YtpggkfdnpdhkfaaGreat

namespace Go.Proofs.YtpggkfdnpdhkfaaGreat
open Go.RowKit
set_option maxRecDepth 100000

set_option maxHeartbeats 4000000 in
theorem index_any {D : Nat → Prop} (w : World) (v : Sl) (l : List Sp) (h : Gs D w v l) :
    Calls Tryz.prog 135 #[v.val, Sp.none.val] w fun e w' => e = .returned (.int .i64 (ixN l)) ∧ Below w.heap.size w w' := by
  obtain ⟨a, len, cap⟩ := v
  have hl : l.length = len := h.len
  have HL := hide hl
  have hbig : len ≤ 1000000 := h.big
  have hA := below_alloc w (.cells #[.int .i64 (-1), .bool false, .bool false] 130)
  have HG := hide (h.below hA (Nat.le_refl _))
  have H0 := hide (Below.refl (w.alloc (.cells #[.int .i64 (-1), .bool false, .bool false] 130)).heap.size (w.alloc (.cells #[.int .i64 (-1), .bool false, .bool false] 130)))
  have HB := hide (spBlk_new w Sp.none)
  have HA := hide hA
  have HI : Hid (ixN l = ixF (fun s => Sp.none.beq s) (l.drop 0) 0) := rfl
  clear h hl hA
  unfold Sl.val Sp.val Sp.none
  simp only
  go_enter Tryz.func135, Tryz.ntmps135
  go_wp2_with fail
  generalize hW : w.alloc (.cells #[.int .i64 (-1), .bool false, .bool false] 130) = W at *
  have HB' : Hid (SpBlk W w.heap.size Sp.none) := hide (by have := HB.out; unfold Sp.none at this; simp only at this; rw [hW] at this; exact this)
  clear hW HB
  go_loopw [8] (fun iv wr => ∃ i : Nat, i ≤ len ∧ iv = .int .i64 (i : Nat) ∧ Hid (ixN l = ixF (fun s => Sp.none.beq s) (l.drop i) i) ∧ Hid (Below W.heap.size W wr)) (fun iv _ => len - (intOf iv).toNat)
  case atStart => exact ⟨0, Nat.zero_le _, rfl, HI, H0⟩
  case round =>
    obtain ⟨i, hi, rfl, hix, hbr⟩ := hrel
    rcases Nat.lt_or_ge i len with hlt | hge
    · have i1 : ((i : Nat) : Int) < ((len : Nat) : Int) := by omega
      obtain ⟨bb, oo, ha, c0, c1, c2⟩ := (HG.out.below hbr.out (Nat.le_refl _)).cell i hlt
      replace ha : a = some ⟨bb, oo, none⟩ := ha
      subst ha
      have HC3 : Hid (Cell3 wr bb (oo + i * 3) (fr l i)) := ⟨c0, c1, c2⟩
      have HBK := hide (HB'.out.below hbr.out)
      clear c0 c1 c2
      cases hon : Sp.none.beq (fr l i) with
      | true =>
        have HE : Hid (ixN l = ((i : Nat) : Int)) := hix.out.trans (ixF_hit (by rw [HL.out]; exact hlt) hon)
        have HON := hide hon
        clear hix hon
        go_wp2_with fail
        refine Pl.region_is (ops := Pl.find 4 ((Tryz.f135.body).getD .skip)) (by kernel_rfl) ?_
        refine index4 _ bb oo len cap i w.heap.size Sp.none (fr l i) true hlt HBK.out HC3.out HON.out (by rfl) rfl (by rfl) (by rfl) (by rfl) ?_
        intro u w1 hb1
        simp only [Act.put, List.setIfInBounds_toArray, List.set_cons_zero, List.set_cons_succ]
        have HB1 := hide (rBelow HA.out (rBelow hbr.out hb1))
        clear hb1 HC3 HBK
        go_wp2_with fail
        go_ret
        exact ⟨by rw [HE.out]; rfl, HB1.out⟩
      | false =>
        have HE : Hid (ixN l = ixF (fun s => Sp.none.beq s) (l.drop (i + 1)) (i + 1)) := hix.out.trans (ixF_miss (by rw [HL.out]; exact hlt) hon)
        have HON := hide hon
        clear hix hon
        go_wp2_with fail
        refine Pl.region_is (ops := Pl.find 4 ((Tryz.f135.body).getD .skip)) (by kernel_rfl) ?_
        refine index4 _ bb oo len cap i w.heap.size Sp.none (fr l i) false hlt HBK.out HC3.out HON.out (by rfl) rfl (by rfl) (by rfl) (by rfl) ?_
        intro u w1 hb1
        simp only [Act.put, List.setIfInBounds_toArray, List.set_cons_zero, List.set_cons_succ]
        have HB1 := hide (rBelow hbr.out hb1)
        clear hb1 HC3 HBK
        go_wp2_with fail
        go_roundw
        case rel => exact ⟨i + 1, by omega, by go_num, HE, HB1⟩
        case measure => simp only [intOf]; omega
    · have HE : Hid (ixN l = -1) := hix.out.trans (ixF_end (by rw [HL.out]; exact hge))
      have i1 : ¬ ((i : Nat) : Int) < ((len : Nat) : Int) := by omega
      have HB1 := hide (rBelow HA.out hbr.out)
      clear hix
      go_wp2_with fail
      go_ret
      exact ⟨by rw [HE.out]; rfl, HB1.out⟩

set_option maxHeartbeats 4000000 in
theorem copyOf_any {D : Nat → Prop} (w : World) (v : Sl) (h : Int) (l : List Sp) (hg : Gs D w v l) :
    Calls Tryz.prog 115 #[ckV v h] w fun e w' => Below w.heap.size w w' ∧ ∃ s : Sl, e = .returned (ckV s h) ∧ OwnS w' s l ∧ s.len = v.len ∧ ∀ k, s.blk = some k → w.heap.size ≤ k := by
  have hA1 := below_alloc w (.cells #[v.val, .int .i64 h] 40)
  have hA2 := below_alloc (w.alloc (.cells #[v.val, .int .i64 h] 40)) (.cells #[.slice none 0 0, .int .i64 0] 40)
  have hk1 := (ckBlk_new w v.val h).below hA2
  have hk2 := ckBlk_new (w.alloc (.cells #[v.val, .int .i64 h] 40)) (.slice none 0 0) 0
  rw [alloc_size] at hk2
  have HK1 := hide hk1
  have HK2 := hide hk2
  have hA := rBelow hA1 hA2
  have HG := hide (hg.below hA (Nat.le_refl _))
  have HA := hide hA
  have HS : Hid (w.heap.size ≠ w.heap.size + 1) := by show _ ≠ _; omega
  clear hg hA1 hA2 hk1 hk2 hA
  obtain ⟨a, len, cap⟩ := v
  unfold ckV Sl.val
  simp only
  go_enter Tryz.func115, Tryz.ntmps115
  go_wp2_with fail
  refine Pl.region_is (ops := Pl.find 1 ((Tryz.f115.body).getD .skip)) (by kernel_rfl) ?_
  refine copyOf1 _ w.heap.size (w.heap.size + 1) ⟨a, len, cap⟩ h _ _ l HK1.out HK2.out HS.out HG.out (by rfl) rfl (by rfl) (by rfl) ?_
  intro u w1 s ⟨hr, ho, hl, hf, hk⟩
  simp only [Act.put, List.setIfInBounds_toArray, List.set_cons_zero, List.set_cons_succ]
  have HR := hide hr
  have HF : Hid (Below w.heap.size w w1) := HA.out.trans (hf.below HA.out.size (fun k hk => by rw [hk]; exact Nat.le_succ _))
  have HO := hide ho
  have HL := hide hl
  have HK : Hid (∀ k, s.blk = some k → w.heap.size ≤ k) := fun k h9 => Nat.le_trans HA.out.size (hk k h9)
  clear hr ho hl hf hk
  go_wp2_with fail
  refine bodyPost_ret (ck_results rfl HR.out _ rfl) rfl ?_
  exact ⟨HF.out, s, rfl, HO.out, HL.out, HK.out⟩

end Go.Proofs.YtpggkfdnpdhkfaaGreat

namespace Go.Proofs.YtpggkfdnpdhkfaaGreat
open Go.RowKit
set_option maxRecDepth 100000

/-- Which pages have been met. -/
def seenB (l : List Sp) (i : Nat) (p : Nat) : Bool := (l.take i).any (onP ((p : Nat) : Int))
def seenC (l : List Sp) (i : Nat) : List Value := (List.range 64).map fun p => Value.bool (seenB l i p)
def Th (w : World) (g : Nat) (l : List Sp) (i : Nat) : Prop := w.heap[g]? = some (Obj.cells (seenC l i).toArray 174 (0, 0))
theorem seenC_get (l : List Sp) (i p : Nat) (hp : p < 64) : (seenC l i)[p]? = some (.bool (seenB l i p)) := by
  unfold seenC
  rw [List.getElem?_map, List.getElem?_range hp]
  rfl
theorem Th.cell {w : World} {g : Nat} {l : List Sp} {i : Nat} (h : Th w g l i) (p : Nat) (hp : p < 64) : w.cell? ⟨g, p, none⟩ = some (.bool (seenB l i p)) := by
  rw [cell_of_row _ _ _ _ _ _ h]
  simpa using seenC_get l i p hp
theorem Th.fz {w : World} {g : Nat} {l : List Sp} {i : Nat} (h : Th w g l i) (o : Nat) : w.frozen? ⟨g, o, none⟩ = false := frozen_of_row w g _ _ 174 h
theorem Th.below {w w' : World} {g : Nat} {l : List Sp} {i : Nat} (h : Th w g l i) (hb : Below w.heap.size w w') : Th w' g l i := (hb.block g (Array.getElem?_eq_some_iff.1 h).1).trans h
theorem seen_succ {l : List Sp} {i : Nat} (hi : i < l.length) (p : Nat) : seenB l (i + 1) p = (seenB l i p || onP ((p : Nat) : Int) (fr l i)) := by
  unfold seenB
  rw [List.take_succ_eq_append_getElem hi, List.any_append, ← fr_get hi]
  simp
theorem seenC_skip {l : List Sp} {i : Nat} (hi : i < l.length) (h : (fr l i).page < 0) : seenC l (i + 1) = seenC l i := by
  unfold seenC
  apply List.map_congr_left
  intro p hp
  rw [seen_succ hi p]
  have : onP ((p : Nat) : Int) (fr l i) = false := by unfold onP; rw [beq_eq_false_iff_ne]; omega
  rw [this, Bool.or_false]
theorem seenC_set {l : List Sp} {i : Nat} (hi : i < l.length) (q : Nat) (h : (fr l i).page = ((q : Nat) : Int)) : (seenC l i).set q (.bool true) = seenC l (i + 1) := by
  apply List.ext_getElem?
  intro j
  by_cases hj : j < 64
  · rw [seenC_get l (i + 1) j hj, List.getElem?_set, seen_succ hi j]
    have hl : (seenC l i).length = 64 := by simp [seenC]
    by_cases e : q = j
    · subst e
      rw [if_pos rfl, if_pos (by rw [hl]; exact hj)]
      have : onP ((q : Nat) : Int) (fr l i) = true := by unfold onP; rw [h]; simp
      rw [this, Bool.or_true]
    · rw [if_neg e, seenC_get l i j hj]
      have : onP ((j : Nat) : Int) (fr l i) = false := by unfold onP; rw [beq_eq_false_iff_ne]; omega
      rw [this, Bool.or_false]
  · have hl : (seenC l i).length = 64 := by simp [seenC]
    have hl2 : (seenC l (i + 1)).length = 64 := by simp [seenC]
    rw [List.getElem?_eq_none (by rw [List.length_set, hl]; omega), List.getElem?_eq_none (by rw [hl2]; omega)]
theorem Th.set {w : World} {g : Nat} {l : List Sp} {i : Nat} (h : Th w g l i) (hi : i < l.length) (q : Nat) (hq : (fr l i).page = ((q : Nat) : Int)) : Th (w.setCell ⟨g, q, none⟩ (.bool true)) g l (i + 1) := by
  have h2 := heap_setCell_same _ g q _ 174 (.bool true) h
  unfold Th
  rw [h2, List.setIfInBounds_toArray, seenC_set hi q hq]

def noSeen : Array Value := (List.replicate 64 (Value.bool false)).toArray
theorem info64 : (Tryz.prog.info? 174).map (fun i => (i.zero, i.size, i.bytes)) = some (some (.agg noSeen), 64, 64) := by kernel_rfl
theorem alloc64 (l : List Sp) (w : World) : (Instr.alloc 174 true (.tuple #[])).run Tryz.prog w = .ok (.pointer (some ⟨w.heap.size, 0, none⟩)) (w.alloc (.cells (seenC l 0).toArray 174)) := by
  have e : (seenC l 0).toArray = noSeen := rfl
  rw [e]
  obtain ⟨i0, hi, hz0, hz1, hz2⟩ := info_parts info64
  simp [Instr.alloc, zeroValue, typeInfo, hi, hz0, newVar, newRow, Value.cells]

/-- How it is told. -/
def chk (l : List Sp) (h : Int) : Int := if may l h = true then 0 else 1
theorem chk_ok {l : List Sp} {h : Int} (e : may l h = true) : chk l h = 0 := if_pos e
theorem chk_no {l : List Sp} {h : Int} (e : may l h = false) : chk l h = 1 := if_neg (by rw [e]; decide)
theorem may_false {l : List Sp} {h : Int} (e : ¬ (1 ≤ l.length ∧ l.length ≤ 64 ∧ 0 ≤ h ∧ h < l.length)) : may l h = false := by
  cases hm : may l h with
  | false => rfl
  | true =>
    obtain ⟨h1, h2, h3, h4, _⟩ := may_iff.1 hm
    exact absurd ⟨h1, h2, h3, h4⟩ e
theorem gd_none {l : List Sp} {i : Nat} (h : (fr l i).beq Sp.none = true) : gdB l i = true := by
  unfold gdB
  rw [h]
  rfl
theorem gd_page {l : List Sp} {i q : Nat} (hq : (fr l i).page = ((q : Nat) : Int)) (h64 : q < 64) (hs : seenB l i q = false) : gdB l i = true := by
  unfold gdB
  unfold seenB at hs
  rw [hq, hs]
  have : ((q : Nat) : Int) < 64 := by omega
  simp [this]
theorem gd_not {l : List Sp} {i : Nat} (h : (fr l i).beq Sp.none = false) (hp : isPg (fr l i).page = false) : gdB l i = false := by
  unfold gdB
  rw [h]
  unfold isPg at hp
  simp at hp ⊢
  intro h1 h2
  have := hp h1
  omega
theorem gd_twice {l : List Sp} {i q : Nat} (h : (fr l i).beq Sp.none = false) (hq : (fr l i).page = ((q : Nat) : Int)) (hs : seenB l i q = true) : gdB l i = false := by
  unfold gdB
  unfold seenB at hs
  rw [h, hq, hs]
  simp

set_option maxHeartbeats 8000000 in
set_option maxRecDepth 100000 in
theorem check_any {D : Nat → Prop} (w : World) (v : Sl) (h : Int) (l : List Sp) (hg : Gs D w v l) :
    Calls Tryz.prog 114 #[ckV v h] w fun e w' => e = .returned (.int .i64 (chk l h)) ∧ Below w.heap.size w w' := by
  obtain ⟨a, len, cap⟩ := v
  have hl : l.length = len := hg.len
  have hbig : len ≤ 1000000 := hg.big
  have hA := below_alloc w (.cells #[.slice a len cap, .int .i64 h] 40)
  have HA := hide hA
  by_cases hok : 1 ≤ len ∧ len ≤ 64 ∧ 0 ≤ h ∧ h < len
  · obtain ⟨h1, h2, h3, h4⟩ := hok
    have i1 : ¬ ((len : Nat) : Int) < 1 := by omega
    have i2 : ¬ (64 : Int) < ((len : Nat) : Int) := by omega
    have i3 : ¬ h < 0 := by omega
    have i4 : ¬ ((len : Nat) : Int) ≤ h := by omega
    have hA2 := below_alloc (w.alloc (.cells #[.slice a len cap, .int .i64 h] 40)) (.cells (seenC l 0).toArray 174)
    have HM := hide (alloc64 l (w.alloc (.cells #[.slice a len cap, .int .i64 h] 40)))
    have HB := hide (rBelow hA hA2)
    have hT : Th ((w.alloc (.cells #[.slice a len cap, .int .i64 h] 40)).alloc (.cells (seenC l 0).toArray 174)) (w.heap.size + 1) l 0 := by
      have := heap_alloc_new (w.alloc (.cells #[.slice a len cap, .int .i64 h] 40)) (.cells (seenC l 0).toArray 174)
      rw [alloc_size] at this
      exact this
    have HT := hide hT
    have HL := hide hl
    have HG := hide hg
    have HI : Hid (∀ j, j < 0 → gdB l j = true) := fun j hj => absurd hj (Nat.not_lt_zero _)
    clear hg hl hA hA2 hT h1 h2 h3 h4
    generalize hC : Obj.cells (seenC l 0).toArray 174 = C at *
    clear hC
    unfold ckV Sl.val
    simp only
    go_enter Tryz.func114, Tryz.ntmps114
    go_wp2_with (refine wpList_alloc _ rfl 174 rfl (.pointer (some ⟨w.heap.size + 1, 0, none⟩)) _ (by have := HM.out; rw [alloc_size] at this; exact this) ?_)
    generalize (w.alloc (.cells #[.slice a len cap, .int .i64 h] 40)).alloc C = W at *
    clear HM HA
    go_loopw [30] (fun iv wr => ∃ i : Nat, i ≤ len ∧ iv = .int .i64 (i : Nat) ∧ Hid (∀ j, j < i → gdB l j = true) ∧ Hid (Below w.heap.size w wr) ∧ Hid (Th wr (w.heap.size + 1) l i)) (fun iv _ => len - (intOf iv).toNat)
    case atStart => exact ⟨0, Nat.zero_le _, rfl, HI, HB, HT⟩
    case round =>
      obtain ⟨i, hi, rfl, hix, hbr, hth⟩ := hrel
      rcases Nat.lt_or_ge i len with hlt | hge
      · have i5 : ((i : Nat) : Int) < ((len : Nat) : Int) := by omega
        have hil : i < l.length := by rw [HL.out]; exact hlt
        have HIL := hide hil
        obtain ⟨bb, oo, ha, c0, c1, c2⟩ := (HG.out.below hbr.out (Nat.le_refl _)).cell i hlt
        replace ha : a = some ⟨bb, oo, none⟩ := ha
        subst ha
        obtain ⟨x, hx⟩ : ∃ x, x = fr l i := ⟨_, rfl⟩
        rw [← hx] at c0 c1 c2
        have HX := hide hx
        have HSP := hide (spBlk_new wr x)
        have HAW := hide (below_alloc wr (.cells #[.int .i64 x.page, .bool x.used, .bool x.pin] 130))
        cases hon : x.beq Sp.none with
        | true =>
          have HIX : Hid (∀ j, j < i + 1 → gdB l j = true) := by
            intro j hj
            by_cases e : j = i
            · rw [e]; exact gd_none (by rw [← hx]; exact hon)
            · exact hix.out j (by omega)
          have HTE : Hid (seenC l (i + 1) = seenC l i) := seenC_skip hil (by rw [← hx, Sp.beq_iff.1 hon]; decide)
          have HON := hide hon
          clear hon hx hil hix
          go_wp2_with fail
          refine Pl.region_is (ops := Pl.find 9 ((Tryz.f114.body).getD .skip)) (by kernel_rfl) ?_
          refine check9 _ wr.heap.size x true HSP.out HON.out (by rfl) rfl (by rfl) ?_
          intro u w1 hb1
          simp only [Act.put, List.setIfInBounds_toArray, List.set_cons_zero, List.set_cons_succ]
          have hb2 := rBelow HAW.out hb1
          have HB2 := hide (rBelow hbr.out hb2)
          have HT2 : Hid (Th w1 (w.heap.size + 1) l (i + 1)) := by
            have e := hth.out.below hb2
            unfold Th at e ⊢
            rw [HTE.out]
            exact e
          clear hb1 hb2 HSP HAW HTE
          go_wp2_with fail
          go_roundw
          case rel => exact ⟨i + 1, by omega, by go_num, HIX, HB2, HT2⟩
          case measure => simp only [intOf]; omega
        | false =>
          cases hpg : isPg x.page with
          | false =>
            have HMF := hide (chk_no (may_not (h := h) hil (gd_not (by rw [← hx]; exact hon) (by rw [← hx]; exact hpg))))
            have HP := hide (isPage_any x.page)
            rw [hpg] at HP
            have HON := hide hon
            clear hon hx hil hix hpg
            go_wp2_with fail
            refine Pl.region_is (ops := Pl.find 9 ((Tryz.f114.body).getD .skip)) (by kernel_rfl) ?_
            refine check9 _ wr.heap.size x false HSP.out HON.out (by rfl) rfl (by rfl) ?_
            intro u w1 hb1
            simp only [Act.put, List.setIfInBounds_toArray, List.set_cons_zero, List.set_cons_succ]
            have hb2 := rBelow HAW.out hb1
            have HB2 := hide (rBelow hbr.out hb2)
            have hs1 := HSP.out.below hb1
            have k0 := hs1.c0
            clear hb1 hb2 HSP HAW hs1 c0 c1 c2
            go_wp2_with fail
            refine (HP.out _).mono ?_
            rintro e w2 ⟨rfl, hw2⟩
            obtain rfl := hw2.symm
            go_wp2_with fail
            go_ret
            exact ⟨by rw [HMF.out]; rfl, HB2.out⟩
          | true =>
            have hpp : 0 ≤ x.page ∧ x.page < 64 := by unfold isPg at hpg; simpa using hpg
            obtain ⟨q, hq⟩ := Int.eq_ofNat_of_zero_le hpp.1
            have hq64 : q < 64 := by omega
            have HQ := hide hq
            have HP := hide (isPage_any x.page)
            rw [hpg] at HP
            cases hse : seenB l i q with
            | true =>
              have HMF := hide (chk_no (may_not (h := h) hil (gd_twice (by rw [← hx]; exact hon) (by rw [← hx]; exact hq) hse)))
              have HON := hide hon
              have HSE := hide hse
              clear hon hx hil hix hpg hse hpp hq
              go_wp2_with fail
              refine Pl.region_is (ops := Pl.find 9 ((Tryz.f114.body).getD .skip)) (by kernel_rfl) ?_
              refine check9 _ wr.heap.size x false HSP.out HON.out (by rfl) rfl (by rfl) ?_
              intro u w1 hb1
              simp only [Act.put, List.setIfInBounds_toArray, List.set_cons_zero, List.set_cons_succ]
              have hb2 := rBelow HAW.out hb1
              have HB2 := hide (rBelow hbr.out hb2)
              have hs1 := HSP.out.below hb1
              have k0 := hs1.c0
              rw [HQ.out] at k0
              have kt := (hth.out.below hb2).cell q hq64
              rw [HSE.out] at kt
              rw [HQ.out] at HP
              have i6 : (0 : Int) ≤ ((q : Nat) : Int) := by omega
              have i7 : ((q : Nat) : Int) < 64 := by omega
              clear hb1 hb2 HSP HAW hs1 c0 c1 c2
              go_wp2_with fail
              refine (HP.out _).mono ?_
              rintro e w2 ⟨rfl, hw2⟩
              obtain rfl := hw2.symm
              go_wp2_with fail
              go_ret
              exact ⟨by rw [HMF.out]; rfl, HB2.out⟩
            | false =>
              have HIX : Hid (∀ j, j < i + 1 → gdB l j = true) := by
                intro j hj
                by_cases e : j = i
                · rw [e]; exact gd_page (by rw [← hx]; exact hq) hq64 hse
                · exact hix.out j (by omega)
              have HON := hide hon
              have HSE := hide hse
              clear hon hx hil hix hpg hse hpp hq
              go_wp2_with fail
              refine Pl.region_is (ops := Pl.find 9 ((Tryz.f114.body).getD .skip)) (by kernel_rfl) ?_
              refine check9 _ wr.heap.size x false HSP.out HON.out (by rfl) rfl (by rfl) ?_
              intro u w1 hb1
              simp only [Act.put, List.setIfInBounds_toArray, List.set_cons_zero, List.set_cons_succ]
              have hb2 := rBelow HAW.out hb1
              have HB2 := hide ((rBelow hbr.out hb2).setCell (p := ⟨w.heap.size + 1, q, none⟩) (Nat.le_succ _) (.bool true))
              have hs1 := HSP.out.below hb1
              have k0 := hs1.c0
              rw [HQ.out] at k0
              have hth1 := hth.out.below hb2
              have kt := hth1.cell q hq64
              rw [HSE.out] at kt
              have kf := hth1.fz q
              have HT2 := hide (hth1.set HIL.out q (by rw [← HX.out]; exact HQ.out))
              rw [HQ.out] at HP
              have i6 : (0 : Int) ≤ ((q : Nat) : Int) := by omega
              have i7 : ((q : Nat) : Int) < 64 := by omega
              clear hb1 hb2 HSP HAW hs1 c0 c1 c2 hth1
              go_wp2_with fail
              refine (HP.out _).mono ?_
              rintro e w2 ⟨rfl, hw2⟩
              obtain rfl := hw2.symm
              go_wp2_with fail
              go_roundw
              case rel => exact ⟨i + 1, by omega, by go_num, HIX, HB2, HT2⟩
              case measure => simp only [intOf]; omega
      · have i5 : ¬ ((i : Nat) : Int) < ((len : Nat) : Int) := by omega
        have HE : Hid (chk l h = 0) := chk_ok (may_iff.2 ⟨by rw [HL.out]; omega, by rw [HL.out]; omega, by omega, by rw [HL.out]; omega, fun j hj => (gdB_iff hj).1 (hix.out j (by rw [HL.out] at hj; omega))⟩)
        clear hix
        go_wp2_with fail
        go_ret
        exact ⟨by rw [HE.out]; rfl, hbr.out⟩
  · have HE := hide (chk_no (may_false (l := l) (h := h) (by rw [hl]; exact hok)))
    clear hg hl hA
    unfold ckV Sl.val
    simp only
    by_cases h1 : 1 ≤ len
    · by_cases h2 : len ≤ 64
      · have i1 : ¬ ((len : Nat) : Int) < 1 := by omega
        have i2 : ¬ (64 : Int) < ((len : Nat) : Int) := by omega
        by_cases h3 : 0 ≤ h
        · have i3 : ¬ h < 0 := by omega
          have i4 : ((len : Nat) : Int) ≤ h := by omega
          clear hok
          go_enter Tryz.func114, Tryz.ntmps114
          go_wp2_with fail
          go_ret
          exact ⟨by rw [HE.out]; rfl, HA.out⟩
        · have i3 : h < 0 := by omega
          clear hok
          go_enter Tryz.func114, Tryz.ntmps114
          go_wp2_with fail
          go_ret
          exact ⟨by rw [HE.out]; rfl, HA.out⟩
      · have i1 : ¬ ((len : Nat) : Int) < 1 := by omega
        have i2 : (64 : Int) < ((len : Nat) : Int) := by omega
        clear hok
        go_enter Tryz.func114, Tryz.ntmps114
        go_wp2_with fail
        go_ret
        exact ⟨by rw [HE.out]; rfl, HA.out⟩
    · have i1 : ((len : Nat) : Int) < 1 := by omega
      clear hok
      go_enter Tryz.func114, Tryz.ntmps114
      go_wp2_with fail
      go_ret
      exact ⟨by rw [HE.out]; rfl, HA.out⟩
end Go.Proofs.YtpggkfdnpdhkfaaGreat

namespace Go.Proofs.YtpggkfdnpdhkfaaGreat
open Go.RowKit
set_option maxRecDepth 100000

end Go.Proofs.YtpggkfdnpdhkfaaGreat

namespace Go.Proofs.YtpggkfdnpdhkfaaGreat
open Go.RowKit
set_option maxRecDepth 100000

theorem st_hand (w : World) (p : Nat) (v0 : Value) (h0 : Int) (k : CkBlk w p v0 h0) (h : Int) : ∃ W, (Instr.storeAt 3 (.pointer (some ⟨p, 1, none⟩)) (.int .i64 h)).run Tryz.prog w = .ok () W ∧ CkBlk W p v0 h ∧ Frm (fun k => k = p) w W := by
  refine ⟨w.setCell ⟨p, 1, none⟩ (.int .i64 h), ?_, k.hand h, (Frm.refl (fun k => k = p) w).setCell (p := ⟨p, 1, none⟩) rfl _⟩
  have c0 := k.c1
  have f0 := k.fz 1
  simp [go_sem, Instr.storeAt, c0, f0]
theorem st_ck (w : World) (p : Nat) (v0 : Value) (h0 : Int) (k : CkBlk w p v0 h0) (v : Sl) (h : Int) : ∃ W, (Instr.storeAt 40 (.pointer (some ⟨p, 0, none⟩)) (ckV v h)).run Tryz.prog w = .ok () W ∧ CkBlk W p v.val h ∧ Frm (fun k => k = p) w W :=
  ⟨_, store_ck p v h w k, k.set v.val h, setCk_frm w p v.val h⟩
theorem st_sp (w : World) (g off len cap : Nat) (l : List Sp) (o : OwnS w ⟨some ⟨g, off, none⟩, len, cap⟩ l) (i : Nat) (hi : i < len) (x : Sp) : ∃ W, (Instr.storeAt 130 (.pointer (some ⟨g, off + i * 3, none⟩)) x.val).run Tryz.prog w = .ok () W ∧ OwnS W ⟨some ⟨g, off, none⟩, len, cap⟩ (l.set i x) ∧ Frm (fun k => k = g) w W := by
  obtain ⟨k0, k1, k2⟩ := o.cells rfl hi
  exact ⟨_, store_sp g (off + i * 3) x w k0 k1 k2 (o.frozen rfl _) (o.frozen rfl _) (o.frozen rfl _), o.store rfl i x, setSp_frm w g _ x⟩
theorem st_use (w : World) (g off len cap : Nat) (l : List Sp) (o : OwnS w ⟨some ⟨g, off, none⟩, len, cap⟩ l) (i : Nat) (hi : i < len) (u : Bool) : ∃ W, (Instr.storeAt 4 (.pointer (some ⟨g, off + i * 3 + 1, none⟩)) (.bool u)).run Tryz.prog w = .ok () W ∧ OwnS W ⟨some ⟨g, off, none⟩, len, cap⟩ (l.set i ⟨(fr l i).page, u, (fr l i).pin⟩) ∧ Frm (fun k => k = g) w W := by
  obtain ⟨k0, k1, k2⟩ := o.cells rfl hi
  have f1 := o.frozen rfl (off + i * 3 + 1)
  refine ⟨w.setCell ⟨g, off + i * 3 + 1, none⟩ (.bool u), ?_, o.use rfl i u, (Frm.refl (fun k => k = g) w).setCell (p := ⟨g, off + i * 3 + 1, none⟩) rfl _⟩
  simp [go_sem, Instr.storeAt, k1, f1]
theorem st_pin (w : World) (g off len cap : Nat) (l : List Sp) (o : OwnS w ⟨some ⟨g, off, none⟩, len, cap⟩ l) (i : Nat) (hi : i < len) (u : Bool) : ∃ W, (Instr.storeAt 4 (.pointer (some ⟨g, off + i * 3 + 2, none⟩)) (.bool u)).run Tryz.prog w = .ok () W ∧ OwnS W ⟨some ⟨g, off, none⟩, len, cap⟩ (l.set i ⟨(fr l i).page, (fr l i).used, u⟩) ∧ Frm (fun k => k = g) w W := by
  obtain ⟨k0, k1, k2⟩ := o.cells rfl hi
  have f1 := o.frozen rfl (off + i * 3 + 2)
  refine ⟨w.setCell ⟨g, off + i * 3 + 2, none⟩ (.bool u), ?_, o.pinned rfl i u, (Frm.refl (fun k => k = g) w).setCell (p := ⟨g, off + i * 3 + 2, none⟩) rfl _⟩
  simp [go_sem, Instr.storeAt, k2, f1]
theorem OwnS.off {w W : World} {b o sl sc : Nat} {l : List Sp} (ho : OwnS w ⟨some ⟨b, o, none⟩, sl, sc⟩ l) {p : Nat} (hf : Frm (fun k => k = p) w W) (hne : b ≠ p) : OwnS W ⟨some ⟨b, o, none⟩, sl, sc⟩ l :=
  ho.frame (fun k hk => hf.block k (Own.lt ho hk) (by have e : some b = some k := hk; cases e; exact hne))
theorem CkBlk.off {w W : World} {p q : Nat} {v : Value} {h : Int} (k : CkBlk w p v h) (hf : Frm (fun k => k = q) w W) (hne : p ≠ q) : CkBlk W p v h := k.at (hf.block _ k.lt hne)
theorem SpBlk.off {w W : World} {p q : Nat} {x : Sp} (k : SpBlk w p x) (hf : Frm (fun k => k = q) w W) (hne : p ≠ q) : SpBlk W p x := (hf.block _ k.lt hne).trans k
theorem Below.more {B : Nat} {w w' W : World} {p : Nat} (h : Below B w w') (hf : Frm (fun k => k = p) w' W) (hB : B ≤ w'.heap.size) (hp : B ≤ p) : Below B w W := h.trans (hf.below hB (fun k hk => by rw [hk]; exact hp))

end Go.Proofs.YtpggkfdnpdhkfaaGreat
