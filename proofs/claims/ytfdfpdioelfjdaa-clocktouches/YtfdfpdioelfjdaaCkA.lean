/-
  Layer 7 without memory: frames, which clocks may be, where a page is, how a frame is found, what a touch, a pin and a drop make of a clock.
-/
import Derived.Test.YtfdfpdioelfjdaaSlB
namespace Go.Proofs.Ytfdfpdioelfjdaa

/-- A frame. -/
structure Sp where
  page : Int
  used : Bool
  pin : Bool
def Sp.zero : Sp := ⟨0, false, false⟩
def Sp.none : Sp := ⟨-1, false, false⟩
def Sp.beq (a b : Sp) : Bool := a.page == b.page && (a.used == b.used && a.pin == b.pin)
theorem Sp.beq_iff {a b : Sp} : a.beq b = true ↔ a = b := by
  obtain ⟨p, u, q⟩ := a
  obtain ⟨p', u', q'⟩ := b
  simp [Sp.beq]
theorem Sp.beq_not {a b : Sp} : a.beq b = false ↔ a ≠ b := by
  rw [← Bool.not_eq_true, Sp.beq_iff]

/-- The frame number i. -/
def fr (l : List Sp) (i : Nat) : Sp := l.getD i Sp.zero
theorem fr_mem {l : List Sp} {i : Nat} (h : i < l.length) : fr l i ∈ l := by simp [fr, List.getD, h]
theorem fr_get {l : List Sp} {i : Nat} (h : i < l.length) : fr l i = l[i] := by simp [fr, List.getD, h]
theorem fr_set_same {l : List Sp} {i : Nat} (h : i < l.length) (s : Sp) : fr (l.set i s) i = s := by simp [fr, List.getD, h]
theorem fr_set_other {l : List Sp} {i j : Nat} (h : i ≠ j) (s : Sp) : fr (l.set i s) j = fr l j := by simp [fr, List.getD, h]
theorem fr_ext {l m : List Sp} (hl : l.length = m.length) (h : ∀ i, i < l.length → fr l i = fr m i) : l = m := by
  apply List.ext_getElem hl
  intro i h1 h2
  have := h i h1
  rwa [fr_get h1, fr_get h2] at this
theorem mem_fr {l : List Sp} {s : Sp} (h : s ∈ l) : ∃ i, i < l.length ∧ fr l i = s := by
  obtain ⟨i, hi, e⟩ := List.mem_iff_getElem.1 h
  exact ⟨i, hi, by rw [fr_get hi, e]⟩
theorem drop_fr {l : List Sp} {i : Nat} (h : i < l.length) : l.drop i = fr l i :: l.drop (i + 1) := by
  rw [fr_get h]
  exact List.drop_eq_getElem_cons h

/-- The first frame of which something holds; -1: none. -/
def ixF (f : Sp → Bool) : List Sp → Nat → Int
  | [], _ => -1
  | s :: r, k => if f s = true then ((k : Nat) : Int) else ixF f r (k + 1)
theorem ixF_hit {f : Sp → Bool} {l : List Sp} {i : Nat} (h : i < l.length) (hf : f (fr l i) = true) : ixF f (l.drop i) i = ((i : Nat) : Int) := by
  rw [drop_fr h, ixF, if_pos hf]
theorem ixF_miss {f : Sp → Bool} {l : List Sp} {i : Nat} (h : i < l.length) (hf : f (fr l i) = false) : ixF f (l.drop i) i = ixF f (l.drop (i + 1)) (i + 1) := by
  rw [drop_fr h, ixF, if_neg (by rw [hf]; decide)]
theorem ixF_end {f : Sp → Bool} {l : List Sp} {i : Nat} (h : l.length ≤ i) : ixF f (l.drop i) i = -1 := by
  rw [List.drop_eq_nil_of_le h]
  rfl
theorem ixF_cases (f : Sp → Bool) : ∀ (l : List Sp) (k : Nat), (ixF f l k = -1 ∧ ∀ s ∈ l, f s = false) ∨ ∃ i, i < l.length ∧ ixF f l k = ((k + i : Nat) : Int) ∧ f (fr l i) = true ∧ ∀ j, j < i → f (fr l j) = false
  | [], _ => .inl ⟨rfl, fun _ h => by cases h⟩
  | s :: r, k => by
    by_cases hs : f s = true
    · exact .inr ⟨0, by simp, by rw [ixF, if_pos hs]; rfl, hs, fun j hj => absurd hj (Nat.not_lt_zero _)⟩
    · have hs' : f s = false := by simpa using hs
      rcases ixF_cases f r (k + 1) with ⟨h1, h2⟩ | ⟨i, hi, h1, h2, h3⟩
      · refine .inl ⟨by rw [ixF, if_neg hs]; exact h1, fun t ht => ?_⟩
        rcases List.mem_cons.1 ht with rfl | ht
        · exact hs'
        · exact h2 t ht
      · refine .inr ⟨i + 1, by simpa using hi, by rw [ixF, if_neg hs, h1]; congr 1; omega, h2, fun j hj => ?_⟩
        cases j with
        | zero => exact hs'
        | succ j => exact h3 j (by omega)
theorem ixF_congr {f g : Sp → Bool} : ∀ (l : List Sp) (k : Nat), (∀ s ∈ l, f s = g s) → ixF f l k = ixF g l k
  | [], _, _ => rfl
  | s :: r, k, h => by
    rw [ixF, ixF, h s (by simp), ixF_congr r (k + 1) (fun t ht => h t (by simp [ht]))]

/-- Where a page is. -/
def onP (p : Int) (s : Sp) : Bool := s.page == p
def ixP (l : List Sp) (p : Int) : Int := ixF (onP p) l 0
/-- The first empty frame. -/
def ixN (l : List Sp) : Int := ixF (fun s => Sp.none.beq s) l 0
theorem ixP_cases (l : List Sp) (p : Int) : (ixP l p = -1 ∧ ∀ i, i < l.length → (fr l i).page ≠ p) ∨ ∃ i, i < l.length ∧ ixP l p = ((i : Nat) : Int) ∧ (fr l i).page = p ∧ ∀ j, j < i → (fr l j).page ≠ p := by
  rcases ixF_cases (onP p) l 0 with ⟨h1, h2⟩ | ⟨i, hi, h1, h2, h3⟩
  · exact .inl ⟨h1, fun i hi => by have := h2 _ (fr_mem hi); simpa [onP] using this⟩
  · refine .inr ⟨i, hi, by rw [ixP, h1, Nat.zero_add], by simpa [onP] using h2, fun j hj => ?_⟩
    have := h3 j hj
    simpa [onP] using this
theorem ixP_range (l : List Sp) (p : Int) : -1 ≤ ixP l p ∧ ixP l p < l.length ∨ l.length = 0 ∧ ixP l p = -1 := by
  rcases ixP_cases l p with ⟨h, _⟩ | ⟨i, hi, h, _⟩ <;> omega

/-- Is the frame number i right? -/
def gdB (l : List Sp) (i : Nat) : Bool := (fr l i).beq Sp.none || (decide (0 ≤ (fr l i).page) && (decide ((fr l i).page < 64) && !((l.take i).any (onP (fr l i).page))))
/-- May it be? -/
def may (l : List Sp) (h : Int) : Bool := decide (1 ≤ l.length) && (decide (l.length ≤ 64) && (decide (0 ≤ h) && (decide (h < l.length) && (List.range l.length).all (gdB l))))
def Gd (l : List Sp) (i : Nat) : Prop := fr l i = Sp.none ∨ (0 ≤ (fr l i).page ∧ (fr l i).page < 64 ∧ ∀ j, j < i → (fr l j).page ≠ (fr l i).page)
theorem any_take {l : List Sp} {i : Nat} (hi : i ≤ l.length) (p : Int) : (l.take i).any (onP p) = true ↔ ∃ j, j < i ∧ (fr l j).page = p := by
  rw [List.any_eq_true]
  constructor
  · rintro ⟨s, hs, e⟩
    obtain ⟨j, hj, e2⟩ := List.mem_take_iff_getElem.1 hs
    exact ⟨j, by omega, by rw [fr_get (by omega), e2]; simpa [onP] using e⟩
  · rintro ⟨j, hj, e⟩
    exact ⟨fr l j, List.mem_take_iff_getElem.2 ⟨j, by omega, (fr_get (by omega)).symm⟩, by simpa [onP] using e⟩
theorem gdB_iff {l : List Sp} {i : Nat} (hi : i < l.length) : gdB l i = true ↔ Gd l i := by
  unfold gdB Gd
  rw [Bool.or_eq_true, Sp.beq_iff]
  simp only [Bool.and_eq_true, decide_eq_true_eq]
  constructor
  · rintro (h | ⟨h1, h2, h3⟩)
    · exact .inl h
    · refine .inr ⟨h1, h2, fun j hj e => ?_⟩
      have := (any_take (Nat.le_of_lt hi) (fr l i).page).2 ⟨j, hj, e⟩
      rw [this] at h3
      cases h3
  · rintro (h | ⟨h1, h2, h3⟩)
    · exact .inl h
    · refine .inr ⟨h1, h2, ?_⟩
      cases hh : (l.take i).any (onP (fr l i).page) with
      | false => rfl
      | true =>
        obtain ⟨j, hj, e⟩ := (any_take (Nat.le_of_lt hi) _).1 hh
        exact absurd e (h3 j hj)
theorem may_iff {l : List Sp} {h : Int} : may l h = true ↔ 1 ≤ l.length ∧ l.length ≤ 64 ∧ 0 ≤ h ∧ h < l.length ∧ ∀ i, i < l.length → Gd l i := by
  unfold may
  simp only [Bool.and_eq_true, decide_eq_true_eq, List.all_eq_true, List.mem_range]
  constructor
  · rintro ⟨h1, h2, h3, h4, h5⟩
    exact ⟨h1, h2, h3, h4, fun i hi => (gdB_iff hi).1 (h5 i hi)⟩
  · rintro ⟨h1, h2, h3, h4, h5⟩
    exact ⟨h1, h2, h3, h4, fun i hi => (gdB_iff hi).2 (h5 i hi)⟩
theorem may_not {l : List Sp} {h : Int} {i : Nat} (hi : i < l.length) (hg : gdB l i = false) : may l h = false := by
  cases hm : may l h with
  | false => rfl
  | true =>
    have := (gdB_iff hi).2 ((may_iff.1 hm).2.2.2.2 i hi)
    rw [this] at hg
    cases hg

/-- A page is in one frame. -/
theorem Gds.one {l : List Sp} (h : ∀ i, i < l.length → Gd l i) {i j : Nat} (hi : i < l.length) (hj : j < l.length) (e : (fr l i).page = (fr l j).page) (hp : 0 ≤ (fr l i).page) : i = j := by
  rcases Nat.lt_trichotomy i j with hlt | rfl | hlt
  · rcases h j hj with h1 | ⟨_, _, h1⟩
    · rw [e, h1] at hp
      simp [Sp.none] at hp
    · exact absurd e (h1 i hlt)
  · rfl
  · rcases h i hi with h1 | ⟨_, _, h1⟩
    · rw [h1] at hp
      simp [Sp.none] at hp
    · exact absurd e.symm (h1 j hlt)
theorem Gd.empty {l : List Sp} {i : Nat} (h : Gd l i) (hp : (fr l i).page < 0) : fr l i = Sp.none := by
  rcases h with h | ⟨h, _⟩
  · exact h
  · omega
theorem Gd.bound {l : List Sp} {i : Nat} (h : Gd l i) : -1 ≤ (fr l i).page ∧ (fr l i).page < 64 := by
  rcases h with h | ⟨h, h2, _⟩
  · rw [h]; simp [Sp.none]
  · omega
theorem Gd.pinned {l : List Sp} {i : Nat} (h : Gd l i) (hp : (fr l i).pin = true) : 0 ≤ (fr l i).page := by
  rcases h with h | ⟨h, _⟩
  · rw [h] at hp
    cases hp
  · exact h
theorem ixN_is {l : List Sp} (h : ∀ i, i < l.length → Gd l i) : ixN l = ixP l (-1) := by
  refine ixF_congr l 0 (fun s hs => ?_)
  obtain ⟨i, hi, rfl⟩ := mem_fr hs
  cases hc : onP (-1) (fr l i) with
  | true =>
    have : (fr l i).page = -1 := by simpa [onP] using hc
    have e := (h i hi).empty (by omega)
    rw [e]
    rfl
  | false =>
    rw [Sp.beq_not]
    intro e
    rw [← e] at hc
    cases hc

/-- The hand goes round: at most k frames more. What it leaves, where it stands, the frame found (-1: none). -/
structure Rd where
  l : List Sp
  h : Nat
  at_ : Int
def rnd : Nat → List Sp → Nat → Rd
  | 0, l, h => ⟨l, h, -1⟩
  | k + 1, l, h => if (fr l h).pin = true then rnd k l ((h + 1) % l.length) else if (fr l h).used = true then rnd k (l.set h ⟨(fr l h).page, false, (fr l h).pin⟩) ((h + 1) % l.length) else ⟨l, (h + 1) % l.length, ((h : Nat) : Int)⟩

/-- A clock, a frame, the page that was there, and what is told. -/
structure Tc where
  l : List Sp
  h : Int
  at_ : Int
  was : Int
  e : Int
def touch (l : List Sp) (h p : Int) : Tc :=
  if p < 0 ∨ 63 < p then ⟨l, h, -1, -1, 1⟩
  else if 0 ≤ ixP l p then ⟨l.set (ixP l p).toNat ⟨(fr l (ixP l p).toNat).page, true, (fr l (ixP l p).toNat).pin⟩, h, ixP l p, -1, 0⟩
  else if 0 ≤ ixP l (-1) then ⟨l.set (ixP l (-1)).toNat ⟨p, true, false⟩, h, ixP l (-1), -1, 0⟩
  else if (rnd (2 * l.length) l h.toNat).at_ < 0 then ⟨l, h, -1, -1, 11⟩
  else ⟨(rnd (2 * l.length) l h.toNat).l.set (rnd (2 * l.length) l h.toNat).at_.toNat ⟨p, true, false⟩, ((rnd (2 * l.length) l h.toNat).h : Int), (rnd (2 * l.length) l h.toNat).at_, (fr (rnd (2 * l.length) l h.toNat).l (rnd (2 * l.length) l h.toNat).at_.toNat).page, 0⟩

/-- A clock, and what is told. -/
structure Pc where
  l : List Sp
  e : Int
def pinC (l : List Sp) (p : Int) (on : Bool) : Pc :=
  if p < 0 ∨ ixP l p < 0 then ⟨l, 3⟩ else ⟨l.set (ixP l p).toNat ⟨(fr l (ixP l p).toNat).page, (fr l (ixP l p).toNat).used, on⟩, 0⟩
def dropC (l : List Sp) (p : Int) : Pc :=
  if p < 0 ∨ ixP l p < 0 then ⟨l, 3⟩ else if (fr l (ixP l p).toNat).pin = true then ⟨l, 1⟩ else ⟨l.set (ixP l p).toNat Sp.none, 0⟩

end Go.Proofs.Ytfdfpdioelfjdaa
