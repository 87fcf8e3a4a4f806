/-
  Layer 16 without memory: views, which may be, whom they see, the view of numbers.
-/
import Derived.Test.YtehmemfeagjagaaVwA
namespace Go.Proofs.Ytehmemfeagjagaa

/-- A view. -/
structure Vw where
  self : Int
  next : Int
  act : List Int
def Vw.zero : Vw := ⟨0, 0, []⟩
/-- It may be. -/
abbrev MayV (v : Vw) : Prop := (0 ≤ v.self ∧ v.self ≤ 2147483647) ∧ (0 ≤ v.next ∧ v.next ≤ 2147483647) ∧ v.act.length ≤ 64 ∧ (∀ i, i < v.act.length → 1 ≤ v.act.getD i 0 ∧ v.act.getD i 0 < v.next ∧ v.act.getD i 0 ≠ v.self) ∧ ∀ i, i < v.act.length → 0 < i → v.act.getD (i - 1) 0 < v.act.getD i 0
/-- A view that may be sees a writer. -/
def seesV (v : Vw) (x : Int) : Bool := (x == 0) || ((decide (0 < x) && (x == v.self)) || (decide (0 < x) && (decide (x < v.next) && !(v.act.contains x))))
def seesA (v : Vw) (x : Int) : Bool := decide (MayV v) && seesV v x
def allV (l : List Vw) (x : Int) : Bool := l.all fun v => seesA v x
def sameV (a b : Vw) : Bool := decide (a.self = b.self) && (decide (a.next = b.next) && decide (a.act = b.act))

/-- Where a number is put. -/
def atV : List Int → Int → Nat
  | [], _ => 0
  | x :: r, t => if x < t then atV r t + 1 else 0
theorem atV_le : ∀ (l : List Int) (t : Int), atV l t ≤ l.length
  | [], _ => Nat.le_refl _
  | x :: r, t => by
    unfold atV
    have := atV_le r t
    split
    · simpa using this
    · exact Nat.zero_le _
theorem atV_lt : ∀ {l : List Int} {t : Int} {i : Nat}, i < atV l t → l.getD i 0 < t
  | [], _, i, h => absurd h (Nat.not_lt_zero _)
  | x :: r, t, i, h => by
    unfold atV at h
    split at h
    · rename_i hx
      cases i with
      | zero => exact hx
      | succ i =>
        have := atV_lt (l := r) (t := t) (i := i) (by omega)
        simpa using this
    · exact absurd h (Nat.not_lt_zero _)
theorem atV_ge : ∀ {l : List Int} {t : Int}, atV l t < l.length → ¬ l.getD (atV l t) 0 < t
  | [], _, h => absurd h (Nat.not_lt_zero _)
  | x :: r, t, h => by
    unfold atV at h ⊢
    split
    · rename_i hx
      rw [if_pos hx] at h
      have := atV_ge (l := r) (t := t) (by simpa using h)
      simpa using this
    · rename_i hx
      simpa using hx
def insV (l : List Int) (t : Int) : List Int := l.take (atV l t) ++ t :: l.drop (atV l t)
theorem insV_mem {l : List Int} {t x : Int} : x ∈ insV l t ↔ x = t ∨ x ∈ l := by
  unfold insV
  constructor
  · intro h
    rcases List.mem_append.1 h with h | h
    · exact .inr (List.mem_of_mem_take h)
    · rcases List.mem_cons.1 h with h | h
      · exact .inl h
      · exact .inr (List.mem_of_mem_drop h)
  · intro h
    rcases h with h | h
    · exact List.mem_append.2 (.inr (List.mem_cons.2 (.inl h)))
    · rw [← List.take_append_drop (atV l t) l] at h
      rcases List.mem_append.1 h with h | h
      · exact List.mem_append.2 (.inl h)
      · exact List.mem_append.2 (.inr (List.mem_cons.2 (.inr h)))
theorem insV_len (l : List Int) (t : Int) : (insV l t).length = l.length + 1 := by
  have := atV_le l t
  simp [insV]
  omega
/-- Rising. -/
def Up (l : List Int) : Prop := l.Pairwise (· < ·)
theorem insV_cons_lt {x t : Int} {r : List Int} (h : x < t) : insV (x :: r) t = x :: insV r t := by
  unfold insV
  simp [atV, h]
theorem insV_cons_ge {x t : Int} {r : List Int} (h : ¬ x < t) : insV (x :: r) t = t :: x :: r := by
  unfold insV
  simp [atV, h]
theorem insV_up : ∀ {l : List Int} {t : Int}, Up l → ¬ t ∈ l → Up (insV l t)
  | [], t, _, _ => by simp [insV, atV, Up]
  | x :: r, t, h, hn => by
    have h1 := List.pairwise_cons.1 h
    by_cases hx : x < t
    · rw [insV_cons_lt hx]
      refine List.pairwise_cons.2 ⟨fun y hy => ?_, insV_up h1.2 (fun e => hn (List.mem_cons.2 (.inr e)))⟩
      rcases insV_mem.1 hy with rfl | hy
      · exact hx
      · exact h1.1 y hy
    · rw [insV_cons_ge hx]
      have hne : t ≠ x := fun e => hn (List.mem_cons.2 (.inl e))
      refine List.pairwise_cons.2 ⟨fun y hy => ?_, h⟩
      rcases List.mem_cons.1 hy with rfl | hy
      · omega
      · have := h1.1 y hy
        omega
theorem up_same : ∀ {l m : List Int}, Up l → Up m → (∀ x, x ∈ l ↔ x ∈ m) → l = m
  | [], [], _, _, _ => rfl
  | [], y :: m, _, _, h => absurd ((h y).2 (List.mem_cons.2 (.inl rfl))) (by simp)
  | x :: l, [], _, _, h => absurd ((h x).1 (List.mem_cons.2 (.inl rfl))) (by simp)
  | x :: l, y :: m, hl, hm, h => by
    have h1 := List.pairwise_cons.1 hl
    have h2 := List.pairwise_cons.1 hm
    have e : x = y := by
      rcases List.mem_cons.1 ((h x).1 (List.mem_cons.2 (.inl rfl))) with e | e
      · exact e
      · rcases List.mem_cons.1 ((h y).2 (List.mem_cons.2 (.inl rfl))) with e2 | e2
        · exact e2.symm
        · have a := h1.1 y e2
          have b := h2.1 x e
          omega
    subst e
    congr 1
    refine up_same h1.2 h2.2 (fun z => ?_)
    constructor
    · intro hz
      rcases List.mem_cons.1 ((h z).1 (List.mem_cons.2 (.inr hz))) with e | e
      · have := h1.1 z hz
        omega
      · exact e
    · intro hz
      rcases List.mem_cons.1 ((h z).2 (List.mem_cons.2 (.inr hz))) with e | e
      · have := h2.1 z hz
        omega
      · exact e
theorem up_iff {l : List Int} : Up l ↔ ∀ i, i < l.length → 0 < i → l.getD (i - 1) 0 < l.getD i 0 := by
  constructor
  · intro h i hi h0
    have := List.pairwise_iff_getElem.1 h (i - 1) i (by omega) hi (by omega)
    have e1 : i - 1 < l.length := by omega
    simpa [List.getD, hi, e1] using this
  · intro h
    have step : ∀ d i, i + d + 1 < l.length → l.getD i 0 < l.getD (i + d + 1) 0 := by
      intro d
      induction d with
      | zero =>
        intro i hi
        have := h (i + 1) hi (by omega)
        simpa using this
      | succ d ih =>
        intro i hi
        have a := ih i (by omega)
        have b := h (i + (d + 1) + 1) hi (by omega)
        have e : i + (d + 1) + 1 - 1 = i + d + 1 := by omega
        rw [e] at b
        omega
    refine List.pairwise_iff_getElem.2 (fun i j hi hj hij => ?_)
    have := step (j - i - 1) i (by omega)
    have e : i + (j - i - 1) + 1 = j := by omega
    rw [e] at this
    simpa [List.getD, hi, hj] using this

/-- One number more. -/
def stepV (self next : Int) (acc : List Int) (t : Int) : List Int := if next ≤ t ∨ t = self ∨ t ∈ acc then acc else insV acc t
def actsV (self next : Int) (live : List Int) : List Int := live.foldl (stepV self next) []
theorem stepV_mem {self next : Int} {acc : List Int} {t x : Int} : x ∈ stepV self next acc t ↔ x ∈ acc ∨ (x = t ∧ x < next ∧ x ≠ self) := by
  unfold stepV
  split
  · rename_i h
    constructor
    · exact .inl
    · rintro (h1 | ⟨rfl, h1, h2⟩)
      · exact h1
      · rcases h with h | h | h
        · omega
        · exact absurd h h2
        · exact h
  · rename_i h
    rw [insV_mem]
    constructor
    · rintro (rfl | h1)
      · exact .inr ⟨rfl, by omega, fun e => h (.inr (.inl e))⟩
      · exact .inl h1
    · rintro (h1 | ⟨h1, _⟩)
      · exact .inr h1
      · exact .inl h1
theorem stepV_up {self next : Int} {acc : List Int} {t : Int} (h : Up acc) : Up (stepV self next acc t) := by
  unfold stepV
  split
  · exact h
  · rename_i hn
    exact insV_up h (fun e => hn (.inr (.inr e)))
theorem stepV_len (self next : Int) (acc : List Int) (t : Int) : (stepV self next acc t).length ≤ acc.length + 1 := by
  unfold stepV
  split
  · omega
  · rw [insV_len]; exact Nat.le_refl _
theorem fold_mem {self next : Int} : ∀ (l acc : List Int) {x : Int}, x ∈ l.foldl (stepV self next) acc ↔ x ∈ acc ∨ (x ∈ l ∧ x < next ∧ x ≠ self)
  | [], acc, x => by simp
  | t :: r, acc, x => by
    rw [List.foldl_cons, fold_mem r, stepV_mem]
    constructor
    · rintro ((h | ⟨rfl, h⟩) | ⟨h, h2⟩)
      · exact .inl h
      · exact .inr ⟨List.mem_cons.2 (.inl rfl), h⟩
      · exact .inr ⟨List.mem_cons.2 (.inr h), h2⟩
    · rintro (h | ⟨h, h2⟩)
      · exact .inl (.inl h)
      · rcases List.mem_cons.1 h with rfl | h
        · exact .inl (.inr ⟨rfl, h2⟩)
        · exact .inr ⟨h, h2⟩
theorem fold_up {self next : Int} : ∀ (l acc : List Int), Up acc → Up (l.foldl (stepV self next) acc)
  | [], _, h => h
  | t :: r, acc, h => by rw [List.foldl_cons]; exact fold_up r _ (stepV_up h)
theorem fold_len (self next : Int) : ∀ (l acc : List Int), (l.foldl (stepV self next) acc).length ≤ acc.length + l.length
  | [], acc => by simp
  | t :: r, acc => by
    rw [List.foldl_cons, List.length_cons]
    have := fold_len self next r (stepV self next acc t)
    have := stepV_len self next acc t
    omega
theorem actsV_mem {self next : Int} {live : List Int} {x : Int} : x ∈ actsV self next live ↔ x ∈ live ∧ x < next ∧ x ≠ self := by
  unfold actsV
  rw [fold_mem]
  simp
theorem actsV_up (self next : Int) (live : List Int) : Up (actsV self next live) := fold_up live [] List.Pairwise.nil
theorem actsV_take (self next : Int) {live : List Int} {i : Nat} (h : i < live.length) : actsV self next (live.take (i + 1)) = stepV self next (actsV self next (live.take i)) (live.getD i 0) := by
  unfold actsV
  rw [List.take_succ_eq_append_getElem h, List.foldl_append]
  simp [List.getD, h]
theorem actsV_len (self next : Int) (live : List Int) : (actsV self next live).length ≤ live.length := by
  have := fold_len self next live []
  simpa [actsV] using this
/-- The view of a transaction; none: there is none. -/
def ofV (self next : Int) (live : List Int) : Option Vw := if (∀ x ∈ live, 1 ≤ x) ∧ MayV ⟨self, next, actsV self next live⟩ then some ⟨self, next, actsV self next live⟩ else none
theorem ofV_some {self next : Int} {live : List Int} (h : ∀ x ∈ live, 1 ≤ x) (hm : MayV ⟨self, next, actsV self next live⟩) : ofV self next live = some ⟨self, next, actsV self next live⟩ := if_pos ⟨h, hm⟩
theorem ofV_low {self next : Int} {live : List Int} {x : Int} (h : x ∈ live) (hx : x < 1) : ofV self next live = none := if_neg (fun k => by have := k.1 x h; omega)
theorem ofV_not {self next : Int} {live : List Int} (hm : ¬ MayV ⟨self, next, actsV self next live⟩) : ofV self next live = none := if_neg (fun k => hm k.2)
theorem ofV_may {self next : Int} {live : List Int} {v : Vw} (h : ofV self next live = some v) : MayV v := by
  unfold ofV at h
  split at h
  · rename_i hk
    cases h
    exact hk.2
  · cases h
/-- What is rising, and has the numbers that are asked for, is the view's row. -/
theorem actsV_is {self next : Int} {live m : List Int} (hu : Up m) (h : ∀ x, x ∈ m ↔ x ∈ live ∧ x < next ∧ x ≠ self) : m = actsV self next live :=
  up_same hu (actsV_up _ _ _) (fun x => by rw [h x, actsV_mem])

end Go.Proofs.Ytehmemfeagjagaa
