/-
  Tables without memory: which may be; a transaction found, entered, writing, committed, gone; who writes, who is the eldest. Nothing of the program.
-/
import Derived.Test.YtdbgbldmjgonjaaBytes
namespace Go.Proofs.Ytdbgbldmjgonjaa

/-- An entry. -/
structure En where
  tx : Int
  st : Int
  last : Int
  com : Int
deriving DecidableEq
def En.zero : En := ⟨0, 0, 0, 0⟩

/-- A table. -/
structure Tb where
  nx : Int
  no : Int
  cm : Int
  es : List En
deriving DecidableEq
def Tb.zero : Tb := ⟨0, 0, 0, []⟩
def firstT : Tb := ⟨1, 1, 0, List.replicate 12 En.zero⟩

/-- Entry i; the zero one, where there is none. -/
def Tb.en (t : Tb) (i : Nat) : En := t.es.getD i En.zero

theorem en_get {l : List En} {i : Nat} (h : i < l.length) : l.getD i En.zero = l[i] := by simp [List.getD, h]
theorem en_mem {t : Tb} {i : Nat} (h : i < t.es.length) : t.en i ∈ t.es := by unfold Tb.en; rw [en_get h]; exact List.getElem_mem h

/-- May entry i be, as far as those ahead of it are asked? -/
structure EntOk (t : Tb) (i : Nat) : Prop where
  st : 0 ≤ (t.en i).st ∧ (t.en i).st ≤ 2
  free : (t.en i).st = 0 → t.en i = En.zero
  tx : (t.en i).st ≠ 0 → 1 ≤ (t.en i).tx ∧ (t.en i).tx < t.nx
  last : (t.en i).st ≠ 0 → 0 ≤ (t.en i).last ∧ (t.en i).last ≤ 65535
  act : (t.en i).st = 1 → (t.en i).com = 0
  done : (t.en i).st = 2 → 1 ≤ (t.en i).com ∧ (t.en i).com ≤ t.cm
  one : (t.en i).st ≠ 0 → ∀ k, k < i → (t.en k).tx ≠ (t.en i).tx ∧ (0 < (t.en i).com → (t.en k).com ≠ (t.en i).com)

structure Tb.May (t : Tb) : Prop where
  nx : 1 ≤ t.nx ∧ t.nx ≤ 2147483647
  no : 1 ≤ t.no ∧ t.no ≤ 2147483647
  cm : 0 ≤ t.cm ∧ t.cm ≤ 2147483647
  len : t.es.length = 12
  ok : ∀ i, i < 12 → EntOk t i

/-- The same, with no word of who is ahead. -/
structure Tb.Ok (t : Tb) : Prop where
  nx : 1 ≤ t.nx ∧ t.nx ≤ 2147483647
  no : 1 ≤ t.no ∧ t.no ≤ 2147483647
  cm : 0 ≤ t.cm ∧ t.cm ≤ 2147483647
  len : t.es.length = 12
  st : ∀ i, i < 12 → 0 ≤ (t.en i).st ∧ (t.en i).st ≤ 2
  free : ∀ i, i < 12 → (t.en i).st = 0 → t.en i = En.zero
  tx : ∀ i, i < 12 → (t.en i).st ≠ 0 → 1 ≤ (t.en i).tx ∧ (t.en i).tx < t.nx
  last : ∀ i, i < 12 → (t.en i).st ≠ 0 → 0 ≤ (t.en i).last ∧ (t.en i).last ≤ 65535
  act : ∀ i, i < 12 → (t.en i).st = 1 → (t.en i).com = 0
  done : ∀ i, i < 12 → (t.en i).st = 2 → 1 ≤ (t.en i).com ∧ (t.en i).com ≤ t.cm
  txs : ∀ i j, i < 12 → j < 12 → i ≠ j → (t.en i).st ≠ 0 → (t.en i).tx ≠ (t.en j).tx
  coms : ∀ i j, i < 12 → j < 12 → i ≠ j → (t.en i).st = 2 → (t.en i).com ≠ (t.en j).com

theorem Tb.May.ok' {t : Tb} (h : t.May) : t.Ok := by
  have hz : ∀ i, i < 12 → (t.en i).st = 0 → (t.en i).tx = 0 ∧ (t.en i).com = 0 := fun i hi h0 => by rw [(h.ok i hi).free h0]; exact ⟨rfl, rfl⟩
  refine ⟨h.nx, h.no, h.cm, h.len, fun i hi => (h.ok i hi).st, fun i hi => (h.ok i hi).free, fun i hi => (h.ok i hi).tx, fun i hi => (h.ok i hi).last, fun i hi => (h.ok i hi).act, fun i hi => (h.ok i hi).done, fun i j hi hj hij h0 => ?_, fun i j hi hj hij h2 => ?_⟩
  · by_cases hj0 : (t.en j).st = 0
    · have := (h.ok i hi).tx h0
      rw [(hz j hj hj0).1]
      omega
    · rcases Nat.lt_or_gt_of_ne hij with hlt | hlt
      · exact ((h.ok j hj).one hj0 i hlt).1
      · exact fun e => ((h.ok i hi).one h0 j hlt).1 e.symm
  · have hc := (h.ok i hi).done h2
    by_cases hj0 : (t.en j).st = 0
    · rw [(hz j hj hj0).2]
      omega
    · rcases Nat.lt_or_gt_of_ne hij with hlt | hlt
      · by_cases hcj : 0 < (t.en j).com
        · exact ((h.ok j hj).one hj0 i hlt).2 hcj
        · omega
      · exact fun e => ((h.ok i hi).one (by omega) j hlt).2 (by omega) e.symm

theorem Tb.Ok.may {t : Tb} (h : t.Ok) : t.May := by
  refine ⟨h.nx, h.no, h.cm, h.len, fun i hi => ⟨h.st i hi, h.free i hi, h.tx i hi, h.last i hi, h.act i hi, h.done i hi, fun h0 k hk => ⟨fun e => h.txs i k hi (by omega) (by omega) h0 e.symm, fun hc e => ?_⟩⟩⟩
  have h2 : (t.en i).st = 2 := by
    have := h.st i hi
    have h1 : (t.en i).st ≠ 1 := fun h1 => by have := h.act i hi h1; omega
    omega
  exact h.coms i k hi (by omega) (by omega) h2 e.symm

theorem first_may : firstT.May := by
  have hz : ∀ i, firstT.en i = En.zero := fun i => by
    show (List.replicate 12 En.zero).getD i En.zero = En.zero
    rw [List.getD_eq_getElem?_getD, List.getElem?_replicate]
    split <;> rfl
  have h0 : En.zero.st = 0 := rfl
  refine ⟨by decide, by decide, by decide, rfl, fun i _ => ?_⟩
  constructor <;> rw [hz i]
  · decide
  · exact fun _ => rfl
  · exact fun h => absurd h0 h
  · exact fun h => absurd h0 h
  · exact fun _ => rfl
  · exact fun h => by cases h
  · exact fun h => absurd h0 h

/-! ### Which entry -/
def isTx (tx : Int) (e : En) : Bool := decide (0 < tx) && e.tx == tx
def isFree (e : En) : Bool := e.st == 0
def findN (t : Tb) (tx : Int) : Option Nat := t.es.findIdx? (isTx tx)
def freeN (t : Tb) : Option Nat := t.es.findIdx? isFree
/-- As a number: -1, where there is none. -/
def ixN : Option Nat → Int
  | none => -1
  | some i => ((i : Nat) : Int)
theorem ixN_nn (o : Option Nat) : 0 ≤ ixN o ↔ o ≠ none := by
  cases o with
  | none => simp [ixN]
  | some i => simp [ixN]

theorem idx_some {p : En → Bool} {l : List En} {i : Nat} (h : l.findIdx? p = some i) : i < l.length ∧ p (l.getD i En.zero) = true ∧ ∀ j, j < i → p (l.getD j En.zero) = false := by
  obtain ⟨hi, h1, h2⟩ := List.findIdx?_eq_some_iff_getElem.1 h
  refine ⟨hi, by rw [en_get hi]; exact h1, fun j hj => ?_⟩
  rw [en_get (by omega)]
  have := h2 j hj
  simpa using this
theorem idx_none {p : En → Bool} {l : List En} (h : l.findIdx? p = none) : ∀ j, j < l.length → p (l.getD j En.zero) = false := by
  intro j hj
  rw [en_get hj]
  exact List.findIdx?_eq_none_iff.1 h _ (List.getElem_mem hj)
theorem idx_is {p : En → Bool} {l : List En} {i : Nat} (hi : i < l.length) (h1 : p (l.getD i En.zero) = true) (h2 : ∀ j, j < i → p (l.getD j En.zero) = false) : l.findIdx? p = some i := by
  refine List.findIdx?_eq_some_iff_getElem.2 ⟨hi, by rw [en_get hi] at h1; exact h1, fun j hj => ?_⟩
  have := h2 j hj
  rw [en_get (by omega)] at this
  simpa using this
theorem idx_no {p : En → Bool} {l : List En} (h : ∀ j, j < l.length → p (l.getD j En.zero) = false) : l.findIdx? p = none := by
  refine List.findIdx?_eq_none_iff.2 (fun x hx => ?_)
  obtain ⟨j, hj, rfl⟩ := List.getElem_of_mem hx
  have := h j hj
  rw [en_get hj] at this
  exact this

theorem find_some {t : Tb} {tx : Int} {i : Nat} (h : findN t tx = some i) : i < t.es.length ∧ 0 < tx ∧ (t.en i).tx = tx := by
  obtain ⟨h1, h2, _⟩ := idx_some h
  unfold isTx at h2
  simp only [Bool.and_eq_true, decide_eq_true_eq, beq_iff_eq] at h2
  exact ⟨h1, h2.1, h2.2⟩
theorem find_none {t : Tb} {tx : Int} (h : findN t tx = none) (h0 : 0 < tx) (j : Nat) (hj : j < t.es.length) : (t.en j).tx ≠ tx := by
  have := idx_none h j hj
  unfold isTx at this
  simp only [h0, decide_true, Bool.true_and, beq_eq_false_iff_ne] at this
  exact this
theorem free_some {t : Tb} {i : Nat} (h : freeN t = some i) : i < t.es.length ∧ (t.en i).st = 0 := by
  obtain ⟨h1, h2, _⟩ := idx_some h
  unfold isFree at h2
  exact ⟨h1, beq_iff_eq.1 h2⟩

/-! ### What turns -/
def Tb.set (t : Tb) (i : Nat) (e : En) : Tb := { t with es := t.es.set i e }
theorem Tb.set_en {t : Tb} {i : Nat} (hi : i < t.es.length) (e : En) (j : Nat) : (t.set i e).en j = if j = i then e else t.en j := by
  unfold Tb.en Tb.set
  simp only [List.getD]
  by_cases h : j = i
  · subst h
    simp [hi]
  · have h' : i ≠ j := fun e => h e.symm
    simp [h, h']

def enterT (t : Tb) (tx : Int) : Tb × Int × Int :=
  if tx < 1 ∨ 2147483646 < tx then (t, -1, 1)
  else match findN t tx with
    | some _ => (t, -1, 2)
    | none => match freeN t with
      | none => (t, -1, 12)
      | some i => ({ t.set i ⟨tx, 1, 0, 0⟩ with nx := if t.nx ≤ tx then tx + 1 else t.nx }, ((i : Nat) : Int), 0)

def writeT (t : Tb) (tx c : Int) : Tb × Int :=
  match findN t tx with
  | none => (t, 3)
  | some i =>
    if (t.en i).st ≠ 1 ∨ t.no = 2147483647 then (t, 2)
    else if c < 0 ∨ 65535 < c then (t, 1)
    else ({ t.set i { t.en i with last := c } with no := t.no + 1 }, 0)

def commitT (t : Tb) (tx : Int) : Tb × Int × Int :=
  match findN t tx with
  | none => (t, 0, 3)
  | some i =>
    if (t.en i).st ≠ 1 ∨ t.cm = 2147483647 then (t, 0, 2)
    else ({ t.set i { t.en i with st := 2, com := t.cm + 1 } with cm := t.cm + 1 }, t.cm + 1, 0)

def leaveT (t : Tb) (tx : Int) : Tb × Int :=
  match findN t tx with
  | none => (t, 3)
  | some i => (t.set i En.zero, 0)

def liveT (t : Tb) : List Int := (t.es.filter (fun e => e.st == 1)).map En.tx

/-- Which of the first k entries was committed first. -/
def eldN (t : Tb) : Nat → Option Nat
  | 0 => none
  | k + 1 => if (t.en k).st = 2 ∧ (∀ j, eldN t k = some j → (t.en k).com < (t.en j).com) then some k else eldN t k
def eldestT (t : Tb) : Int :=
  match eldN t t.es.length with
  | none => 0
  | some i => (t.en i).tx

theorem eldN_says (t : Tb) : ∀ k, (∀ i, eldN t k = some i → i < k ∧ (t.en i).st = 2 ∧ ∀ j, j < k → (t.en j).st = 2 → (t.en i).com ≤ (t.en j).com) ∧ (eldN t k = none → ∀ j, j < k → (t.en j).st ≠ 2)
  | 0 => ⟨(fun i h => by cases h), fun _ j hj => absurd hj (Nat.not_lt_zero _)⟩
  | k + 1 => by
    obtain ⟨h1, h2⟩ := eldN_says t k
    unfold eldN
    by_cases hc : (t.en k).st = 2 ∧ (∀ j, eldN t k = some j → (t.en k).com < (t.en j).com)
    · rw [if_pos hc]
      refine ⟨fun i hi => ?_, (fun h => by cases h)⟩
      cases hi
      refine ⟨Nat.lt_succ_self _, hc.1, fun j hj hs => ?_⟩
      by_cases e : j = k
      · rw [e]; exact Int.le_refl _
      · cases he : eldN t k with
        | none => exact absurd hs (h2 he j (by omega))
        | some m =>
          have := hc.2 m he
          have := (h1 m he).2.2 j (by omega) hs
          omega
    · rw [if_neg hc]
      refine ⟨fun i hi => ?_, fun hn j hj hs => ?_⟩
      · obtain ⟨a, b, c⟩ := h1 i hi
        refine ⟨by omega, b, fun j hj hs => ?_⟩
        by_cases e : j = k
        · subst e
          by_cases hl : (t.en j).com < (t.en i).com
          · exact absurd ⟨hs, fun m hm => by rw [hi] at hm; cases hm; exact hl⟩ hc
          · omega
        · exact c j (by omega) hs
      · by_cases e : j = k
        · subst e
          exact hc ⟨hs, fun m hm => by rw [hn] at hm; cases hm⟩
        · exact h2 hn j (by omega) hs

end Go.Proofs.Ytdbgbldmjgonjaa
