/-
  Layer 8 without memory: leaves, which may be, what is set, dropped and inserted, who joins.
-/
import Derived.Test.YtgieigpbbkeonaaSlB
namespace Go.Proofs.Ytgieigpbbkeonaa

/-- A leaf. -/
structure Lf where
  itl : List Int
  slots : List (List Nat)
def Lf.zero : Lf := ⟨[], []⟩
/-- The slot number i. -/
def sl (s : List (List Nat)) (i : Nat) : List Nat := s.getD i []
theorem sl_get {s : List (List Nat)} {i : Nat} (h : i < s.length) : sl s i = s[i] := by simp [sl, List.getD, h]
theorem sl_out {s : List (List Nat)} {i : Nat} (h : s.length ≤ i) : sl s i = [] := by simp [sl, List.getD, h]
theorem sl_set_same {s : List (List Nat)} {i : Nat} (h : i < s.length) (r : List Nat) : sl (s.set i r) i = r := by simp [sl, List.getD, h]
theorem sl_set_other {s : List (List Nat)} {i j : Nat} (h : i ≠ j) (r : List Nat) : sl (s.set i r) j = sl s j := by simp [sl, List.getD, h]
theorem sl_take {s : List (List Nat)} {n i : Nat} (h : i < n) : sl (s.take n) i = sl s i := by simp [sl, List.getD, h]
theorem sl_snoc_old {s : List (List Nat)} {i : Nat} (h : i < s.length) (r : List Nat) : sl (s ++ [r]) i = sl s i := by
  unfold sl
  rw [List.getD, List.getElem?_append_left h, List.getD]
theorem sl_snoc_new (s : List (List Nat)) (r : List Nat) : sl (s ++ [r]) s.length = r := by simp [sl, List.getD]
theorem sl_mem {s : List (List Nat)} {x : List Nat} (h : x ∈ s) : ∃ i, i < s.length ∧ sl s i = x := by
  obtain ⟨i, hi, e⟩ := List.mem_iff_getElem.1 h
  exact ⟨i, hi, by rw [sl_get hi, e]⟩
theorem sl_pos {s : List (List Nat)} {i : Nat} (h : sl s i ≠ []) : i < s.length := by
  rcases Nat.lt_or_ge i s.length with h1 | h1
  · exact h1
  · exact absurd (sl_out h1) h
theorem sl_ext {s t : List (List Nat)} (hl : s.length = t.length) (h : ∀ i, i < s.length → sl s i = sl t i) : s = t := by
  apply List.ext_getElem hl
  intro i h1 h2
  have := h i h1
  rwa [sl_get h1, sl_get h2] at this

/-- How many bytes slots need. -/
def needS : List (List Nat) → Nat
  | [] => 0
  | x :: r => 1 + x.length + needS r
def need (s : List (List Nat)) : Nat := 18 + needS s
theorem needS_append : ∀ (s t : List (List Nat)), needS (s ++ t) = needS s + needS t
  | [], t => by simp [needS]
  | x :: r, t => by
    have := needS_append r t
    simp only [List.cons_append, needS, this]
    omega
theorem needS_take_le : ∀ (s : List (List Nat)) (n : Nat), needS (s.take n) ≤ needS s
  | [], n => by simp [needS]
  | x :: r, 0 => by simp [needS]
  | x :: r, n + 1 => by
    have := needS_take_le r n
    simp only [List.take_succ_cons, needS]
    omega
theorem needS_set : ∀ (s : List (List Nat)) (i : Nat) (r : List Nat), i < s.length → needS (s.set i r) + (sl s i).length = needS s + r.length
  | x :: t, 0, r, _ => by
    have e : sl (x :: t) 0 = x := rfl
    rw [e]
    simp only [List.set_cons_zero, needS]
    omega
  | x :: t, i + 1, r, h => by
    have e : sl (x :: t) (i + 1) = sl t i := rfl
    have := needS_set t i r (by simpa using h)
    rw [e]
    simp only [List.set_cons_succ, needS]
    omega
theorem needS_snoc (s : List (List Nat)) (r : List Nat) : needS (s ++ [r]) = needS s + 1 + r.length := by
  rw [needS_append]
  simp only [needS]
  omega
theorem needS_take_snoc {s : List (List Nat)} {k : Nat} (h : k < s.length) : needS (s.take (k + 1)) = needS (s.take k) + 1 + (sl s k).length := by
  rw [List.take_succ_eq_append_getElem h, needS_snoc, ← sl_get h]

/-- The parts of writers may be. -/
def ItlOk (t : List Int) : Prop := t.length = 4 ∧ (∀ i, i < 4 → 0 ≤ t.getD i 0 ∧ t.getD i 0 ≤ 2147483647) ∧ ∀ i, i < 4 → ∀ k, k < i → t.getD k 0 ≠ 0 → t.getD k 0 ≠ t.getD i 0
/-- The slots may be. -/
def SlotsOk (s : List (List Nat)) : Prop := s.length ≤ 64 ∧ (∀ i, i < s.length → (sl s i).length ≤ 255) ∧ (s ≠ [] → sl s (s.length - 1) ≠ [])
/-- It may be. -/
structure MayL (l : Lf) : Prop where
  itl : ItlOk l.itl
  slots : SlotsOk l.slots
  need : need l.slots ≤ 508

/-- A leaf, and what is told. -/
structure Ls where
  l : Lf
  e : Int
/-- Does a row stand there? -/
def Stands (s : List (List Nat)) (i : Int) : Prop := 0 ≤ i ∧ i < s.length ∧ sl s i.toNat ≠ []

theorem SlotsOk.set {s : List (List Nat)} (h : SlotsOk s) {i : Nat} (hi : i < s.length) {r : List Nat} (h1 : 1 ≤ r.length) (h2 : r.length ≤ 255) : SlotsOk (s.set i r) := by
  refine ⟨by rw [List.length_set]; exact h.1, fun j hj => ?_, fun _ => ?_⟩
  · rw [List.length_set] at hj
    by_cases e : i = j
    · subst e
      rw [sl_set_same hi]
      exact h2
    · rw [sl_set_other e]
      exact h.2.1 j hj
  · rw [List.length_set]
    by_cases e : i = s.length - 1
    · rw [← e, sl_set_same hi]
      intro x
      rw [x] at h1
      simp at h1
    · rw [sl_set_other e]
      exact h.2.2 (fun x => by rw [x] at hi; simp at hi)
theorem SlotsOk.snoc {s : List (List Nat)} (h : SlotsOk s) (hl : s.length < 64) {r : List Nat} (h1 : 1 ≤ r.length) (h2 : r.length ≤ 255) : SlotsOk (s ++ [r]) := by
  refine ⟨by simp; omega, fun j hj => ?_, fun _ => ?_⟩
  · rw [List.length_append] at hj
    by_cases e : j = s.length
    · rw [e, sl_snoc_new]; exact h2
    · rw [sl_snoc_old (by simp at hj; omega)]
      exact h.2.1 j (by simp at hj; omega)
  · rw [List.length_append]
    show sl _ (s.length + 1 - 1) ≠ _
    rw [Nat.add_sub_cancel, sl_snoc_new]
    intro x
    rw [x] at h1
    simp at h1

/-- How many are left, if those at the end that are empty are none. -/
def cutN (s : List (List Nat)) : Nat → Nat
  | 0 => 0
  | n + 1 => if (sl s n).length = 0 then cutN s n else n + 1
theorem cutN_le (s : List (List Nat)) : ∀ n, cutN s n ≤ n
  | 0 => Nat.le_refl _
  | n + 1 => by
    unfold cutN
    split
    · have := cutN_le s n
      omega
    · exact Nat.le_refl _
theorem cutN_last (s : List (List Nat)) : ∀ n, cutN s n ≠ 0 → (sl s (cutN s n - 1)).length ≠ 0
  | 0, h => absurd rfl h
  | n + 1, h => by
    unfold cutN at h ⊢
    split at h
    · rename_i hc
      rw [if_pos hc]
      exact cutN_last s n h
    · rename_i hc
      rw [if_neg hc]
      exact hc
/-- What is not empty stays. -/
theorem cutN_keeps (s : List (List Nat)) : ∀ n k, k < n → (sl s k).length ≠ 0 → k < cutN s n
  | 0, k, h, _ => absurd h (Nat.not_lt_zero _)
  | n + 1, k, h, hk => by
    unfold cutN
    split
    · rename_i hc
      refine cutN_keeps s n k ?_ hk
      rcases Nat.lt_or_ge k n with h1 | h1
      · exact h1
      · have : k = n := by omega
        rw [this] at hk
        exact absurd hc hk
    · exact h
def trim (s : List (List Nat)) : List (List Nat) := s.take (cutN s s.length)
theorem trim_length (s : List (List Nat)) : (trim s).length = cutN s s.length := by
  unfold trim
  rw [List.length_take]
  have := cutN_le s s.length
  omega
theorem trim_sl (s : List (List Nat)) {i : Nat} (h : i < cutN s s.length) : sl (trim s) i = sl s i := sl_take h
theorem trim_ok {s : List (List Nat)} (h1 : s.length ≤ 64) (h2 : ∀ i, i < s.length → (sl s i).length ≤ 255) : SlotsOk (trim s) := by
  have hc := cutN_le s s.length
  refine ⟨by rw [trim_length]; omega, fun i hi => ?_, fun hne => ?_⟩
  · rw [trim_length] at hi
    rw [trim_sl s hi]
    exact h2 i (by omega)
  · have h0 : cutN s s.length ≠ 0 := by
      intro e
      apply hne
      apply List.eq_nil_of_length_eq_zero
      rw [trim_length, e]
    rw [trim_length, trim_sl s (by omega)]
    intro x
    exact cutN_last s s.length h0 (by rw [x]; rfl)
theorem trim_need (s : List (List Nat)) : needS (trim s) ≤ needS s := needS_take_le s _

/-- The first slot that is empty, or one more. -/
def firstE (s : List (List Nat)) : List (List Nat) → Nat → Nat
  | [], k => k
  | x :: r, k => if x.length = 0 then k else firstE s r (k + 1)
def atE (s : List (List Nat)) : Nat := firstE s s 0
theorem firstE_cases (o : List (List Nat)) : ∀ (s : List (List Nat)) (k : Nat), (firstE o s k = k + s.length ∧ ∀ x ∈ s, x.length ≠ 0) ∨ ∃ i, i < s.length ∧ firstE o s k = k + i ∧ (sl s i).length = 0 ∧ ∀ j, j < i → (sl s j).length ≠ 0
  | [], k => .inl ⟨by simp [firstE], fun _ h => by cases h⟩
  | x :: r, k => by
    by_cases hx : x.length = 0
    · exact .inr ⟨0, by simp, by rw [firstE, if_pos hx]; rfl, hx, fun j hj => absurd hj (Nat.not_lt_zero _)⟩
    · rcases firstE_cases o r (k + 1) with ⟨h1, h2⟩ | ⟨i, hi, h1, h2, h3⟩
      · refine .inl ⟨by rw [firstE, if_neg hx, h1, List.length_cons]; omega, fun t ht => ?_⟩
        rcases List.mem_cons.1 ht with rfl | ht
        · exact hx
        · exact h2 t ht
      · refine .inr ⟨i + 1, by simpa using hi, by rw [firstE, if_neg hx, h1]; omega, h2, fun j hj => ?_⟩
        cases j with
        | zero => exact hx
        | succ j => exact h3 j (by omega)
theorem atE_cases (s : List (List Nat)) : (atE s = s.length ∧ ∀ i, i < s.length → (sl s i).length ≠ 0) ∨ (atE s < s.length ∧ (sl s (atE s)).length = 0 ∧ ∀ j, j < atE s → (sl s j).length ≠ 0) := by
  rcases firstE_cases s s 0 with ⟨h1, h2⟩ | ⟨i, hi, h1, h2, h3⟩
  · refine .inl ⟨by unfold atE; omega, fun i hi => ?_⟩
    rw [sl_get hi]
    exact h2 _ (List.getElem_mem hi)
  · have e : atE s = i := by unfold atE; omega
    rw [e]
    exact .inr ⟨hi, h2, h3⟩
/-- The slots with a row more. -/
def insS (s : List (List Nat)) (r : List Nat) : List (List Nat) := if atE s = s.length then s ++ [r] else s.set (atE s) r
theorem insS_length (s : List (List Nat)) (r : List Nat) : (insS s r).length = if atE s = s.length then s.length + 1 else s.length := by
  unfold insS
  split <;> simp
theorem insS_ok {s : List (List Nat)} (h : SlotsOk s) {r : List Nat} (h1 : 1 ≤ r.length) (h2 : r.length ≤ 255) (hl : (insS s r).length ≤ 64) : SlotsOk (insS s r) := by
  rw [insS_length] at hl
  unfold insS
  rcases atE_cases s with ⟨e, _⟩ | ⟨e, _⟩
  · rw [if_pos e] at hl ⊢
    exact h.snoc (by omega) h1 h2
  · rw [if_neg (by omega)]
    exact h.set e h1 h2
theorem insS_other {s : List (List Nat)} {r : List Nat} {k : Nat} (hk : sl s k ≠ []) (hne : k ≠ atE s) : k < (insS s r).length ∧ sl (insS s r) k = sl s k := by
  have hlt := sl_pos hk
  rw [insS_length]
  unfold insS
  split
  · exact ⟨by omega, sl_snoc_old hlt r⟩
  · exact ⟨hlt, sl_set_other (fun e => hne e.symm) r⟩
theorem set_other {s : List (List Nat)} {r : List Nat} {i k : Nat} (hk : sl s k ≠ []) (hne : k ≠ i) : k < (s.set i r).length ∧ sl (s.set i r) k = sl s k :=
  ⟨by rw [List.length_set]; exact sl_pos hk, sl_set_other (fun e => hne e.symm) r⟩
theorem drop_other {s : List (List Nat)} {i k : Nat} (hk : sl s k ≠ []) (hne : k ≠ i) : k < (trim (s.set i [])).length ∧ sl (trim (s.set i [])) k = sl s k := by
  have e : sl (s.set i []) k = sl s k := sl_set_other (fun e => hne e.symm) []
  have h1 : k < cutN (s.set i []) (s.set i []).length := cutN_keeps _ _ k (by rw [List.length_set]; exact sl_pos hk) (by rw [e]; intro x; exact hk (List.eq_nil_of_length_eq_zero x))
  exact ⟨by rw [trim_length]; exact h1, by rw [trim_sl _ h1]; exact e⟩
theorem drop_ok {s : List (List Nat)} (h : SlotsOk s) (i : Nat) : SlotsOk (trim (s.set i [])) := by
  refine trim_ok (by rw [List.length_set]; exact h.1) (fun j hj => ?_)
  rw [List.length_set] at hj
  by_cases e : i = j
  · subst e
    rw [sl_set_same hj]
    simp
  · rw [sl_set_other e]
    exact h.2.1 j hj
theorem drop_need {s : List (List Nat)} {i : Nat} (hi : i < s.length) : needS (trim (s.set i [])) ≤ needS s := by
  have h1 := trim_need (s.set i [])
  have h2 := needS_set s i [] hi
  simp only [List.length_nil] at h2
  omega

/-! ### Who writes -/
/-- The first part of which something holds; -1: none. -/
def ixI (f : Int → Bool) : List Int → Nat → Int
  | [], _ => -1
  | x :: r, k => if f x = true then ((k : Nat) : Int) else ixI f r (k + 1)
theorem ixI_cases (f : Int → Bool) : ∀ (t : List Int) (k : Nat), (ixI f t k = -1 ∧ ∀ x ∈ t, f x = false) ∨ ∃ i, i < t.length ∧ ixI f t k = ((k + i : Nat) : Int) ∧ f (t.getD i 0) = true ∧ ∀ j, j < i → f (t.getD j 0) = false
  | [], _ => .inl ⟨rfl, fun _ h => by cases h⟩
  | s :: r, k => by
    by_cases hs : f s = true
    · exact .inr ⟨0, by simp, by rw [ixI, if_pos hs]; rfl, hs, fun j hj => absurd hj (Nat.not_lt_zero _)⟩
    · have hs' : f s = false := by simpa using hs
      rcases ixI_cases f r (k + 1) with ⟨h1, h2⟩ | ⟨i, hi, h1, h2, h3⟩
      · refine .inl ⟨by rw [ixI, if_neg hs]; exact h1, fun t ht => ?_⟩
        rcases List.mem_cons.1 ht with rfl | ht
        · exact hs'
        · exact h2 t ht
      · refine .inr ⟨i + 1, by simpa using hi, by rw [ixI, if_neg hs, h1]; congr 1; omega, h2, fun j hj => ?_⟩
        cases j with
        | zero => exact hs'
        | succ j => exact h3 j (by omega)
/-- Where a new writer is put: the first part that is nobody's, else the first one that lives no more. -/
def freeI (t : List Int) (live : List Int) : Int := if 0 ≤ ixI (fun x => x == 0) t 0 then ixI (fun x => x == 0) t 0 else ixI (fun x => !(live.contains x)) t 0
/-- The parts behind a joining, and what is told. -/
structure Js where
  t : List Int
  e : Int
def joinI (t : List Int) (w : Int) (live : List Int) : Js :=
  if w < 1 ∨ 2147483647 < w then ⟨t, 1⟩ else if t.contains w = true then ⟨t, 0⟩ else if freeI t live < 0 then ⟨t, 8⟩ else ⟨t.set (freeI t live).toNat w, 0⟩
theorem getD_set_same {t : List Int} {i : Nat} (h : i < t.length) (w : Int) : (t.set i w).getD i 0 = w := by simp [List.getD, h]
theorem getD_set_other {t : List Int} {i j : Nat} (h : i ≠ j) (w : Int) : (t.set i w).getD j 0 = t.getD j 0 := by simp [List.getD, h]
theorem mem_getD {t : List Int} {i : Nat} (h : i < t.length) : t.getD i 0 ∈ t := by simp [List.getD, h]
theorem ItlOk.set {t : List Int} (h : ItlOk t) {w : Int} (h1 : 1 ≤ w) (h2 : w ≤ 2147483647) (hn : ¬ w ∈ t) {i : Nat} (hi : i < 4) : ItlOk (t.set i w) := by
  have hl := h.1
  refine ⟨by rw [List.length_set]; exact hl, fun j hj => ?_, fun j hj k hk => ?_⟩
  · by_cases e : i = j
    · subst e
      rw [getD_set_same (by omega)]
      omega
    · rw [getD_set_other e]
      exact h.2.1 j hj
  · by_cases e : i = j
    · subst e
      rw [getD_set_same (by omega), getD_set_other (by omega)]
      intro _ x
      exact hn (by rw [← x]; exact mem_getD (by omega))
    · rw [getD_set_other e]
      by_cases e2 : i = k
      · subst e2
        rw [getD_set_same (by omega)]
        intro _ x
        exact hn (by rw [x]; exact mem_getD (by omega))
      · rw [getD_set_other e2]
        exact h.2.2 j hj k hk
theorem freeI_lt {t : List Int} (live : List Int) : freeI t live < t.length ∧ -1 ≤ freeI t live := by
  unfold freeI
  split
  · rcases ixI_cases (fun x => x == 0) t 0 with ⟨h1, _⟩ | ⟨i, hi, h1, _⟩ <;> omega
  · rcases ixI_cases (fun x => !(live.contains x)) t 0 with ⟨h1, _⟩ | ⟨i, hi, h1, _⟩ <;> omega
theorem joinI_ok {t : List Int} (h : ItlOk t) (w : Int) (live : List Int) : ItlOk (joinI t w live).t := by
  have hf := freeI_lt (t := t) live
  have hl := h.1
  unfold joinI
  split
  · exact h
  · split
    · exact h
    · rename_i hc
      split
      · exact h
      · exact h.set (by omega) (by omega) (fun x => hc (by simpa using x)) (by omega)
/-- A part that is nobody's, or lives no more, makes room. -/
theorem freeI_some {t live : List Int} {x : Int} (hx : x ∈ t) (h : x = 0 ∨ ¬ x ∈ live) : 0 ≤ freeI t live := by
  unfold freeI
  split
  · assumption
  · rename_i hc
    rcases ixI_cases (fun x => !(live.contains x)) t 0 with ⟨_, h2⟩ | ⟨i, _, h1, _⟩
    · have hl := h2 x hx
      rcases ixI_cases (fun x => x == 0) t 0 with ⟨_, h4⟩ | ⟨j, _, h3, _⟩
      · have h0 := h4 x hx
        rcases h with h | h
        · simp [h] at h0
        · simp at hl
          exact absurd hl h
      · omega
    · omega
theorem freeI_none {t live : List Int} (h0 : ∀ x ∈ t, x ≠ 0) (h1 : ∀ x ∈ t, x ∈ live) : freeI t live = -1 := by
  unfold freeI
  rcases ixI_cases (fun x => x == 0) t 0 with ⟨h2, _⟩ | ⟨i, hi, _, h3, _⟩
  · rw [if_neg (by omega)]
    rcases ixI_cases (fun x => !(live.contains x)) t 0 with ⟨h4, _⟩ | ⟨i, hi, _, h5, _⟩
    · exact h4
    · have := h1 _ (mem_getD hi)
      simp at h5
      exact absurd this h5
  · have := h0 _ (mem_getD hi)
    simp at h3
    exact absurd h3 this

theorem freeI_is {t live : List Int} {f : Nat} (h : freeI t live = ((f : Nat) : Int)) : f < t.length ∧ (t.getD f 0 = 0 ∨ ¬ t.getD f 0 ∈ live) := by
  unfold freeI at h
  split at h
  · rcases ixI_cases (fun x => x == 0) t 0 with ⟨h1, _⟩ | ⟨i, hi, h1, h2, _⟩
    · omega
    · have e : f = i := by omega
      subst e
      exact ⟨hi, .inl (by simpa using h2)⟩
  · rcases ixI_cases (fun x => !(live.contains x)) t 0 with ⟨h1, _⟩ | ⟨i, hi, h1, h2, _⟩
    · omega
    · have e : f = i := by omega
      subst e
      exact ⟨hi, .inr (by simpa using h2)⟩

/-- Five that live. -/
structure Five (v : Nat → Int) : Prop where
  pos : ∀ j, j < 5 → 1 ≤ v j ∧ v j ≤ 2147483647
  ne : ∀ i j, i < 5 → j < 5 → i ≠ j → v i ≠ v j
def five (v : Nat → Int) : List Int := [v 0, v 1, v 2, v 3, v 4]
theorem mem_five {v : Nat → Int} {x : Int} : x ∈ five v ↔ ∃ j, j < 5 ∧ x = v j := by
  unfold five
  constructor
  · intro h
    simp only [List.mem_cons, List.not_mem_nil, or_false] at h
    rcases h with h | h | h | h | h
    · exact ⟨0, by omega, h⟩
    · exact ⟨1, by omega, h⟩
    · exact ⟨2, by omega, h⟩
    · exact ⟨3, by omega, h⟩
    · exact ⟨4, by omega, h⟩
  · rintro ⟨j, hj, rfl⟩
    have : j = 0 ∨ j = 1 ∨ j = 2 ∨ j = 3 ∨ j = 4 := by omega
    rcases this with rfl | rfl | rfl | rfl | rfl <;> simp
/-- The first i of them have joined. -/
structure Jn (v : Nat → Int) (t0 t : List Int) (i : Nat) : Prop where
  ok : ItlOk t
  put : ∀ j, j < i → v j ∈ t
  old : ∀ x ∈ t, x ∈ t0 ∨ ∃ j, j < i ∧ x = v j
theorem Jn.start {v : Nat → Int} {t0 : List Int} (h : ItlOk t0) : Jn v t0 t0 0 := ⟨h, fun _ h => absurd h (Nat.not_lt_zero _), fun _ h => .inl h⟩
theorem mem_at {t : List Int} {x : Int} (h : x ∈ t) : ∃ i, i < t.length ∧ t.getD i 0 = x := by
  obtain ⟨i, hi, e⟩ := List.mem_iff_getElem.1 h
  exact ⟨i, hi, by simp [List.getD, hi, e]⟩
theorem ItlOk.one {t : List Int} (h : ItlOk t) {i j : Nat} (hi : i < 4) (hj : j < 4) (e : t.getD i 0 = t.getD j 0) (h0 : t.getD i 0 ≠ 0) : i = j := by
  rcases Nat.lt_trichotomy i j with hlt | rfl | hlt
  · exact absurd e (h.2.2 j hj i hlt h0)
  · rfl
  · exact absurd e.symm (h.2.2 i hi j hlt (by rw [← e]; exact h0))
theorem Jn.fresh {v : Nat → Int} {t0 t : List Int} {i k : Nat} (F : Five v) (J : Jn v t0 t i) (hk : k < 5) (hi : i ≤ k) (hn : ¬ v k ∈ t0) : ¬ v k ∈ t := by
  intro h
  rcases J.old _ h with h | ⟨j, hj, e⟩
  · exact hn h
  · exact F.ne k j hk (by omega) (by omega) e
/-- There is room for one more. -/
theorem Jn.room {v : Nat → Int} {t0 t : List Int} {i : Nat} (F : Five v) (J : Jn v t0 t i) (hi : i < 4) (hn : ¬ v i ∈ t0) (h4 : ¬ v 4 ∈ t0) : 0 ≤ freeI t (five v) := by
  rcases Int.lt_or_le (freeI t (five v)) 0 with hneg | h
  · exfalso
    have all : ∀ k, k < 4 → ∃ j, j < 4 ∧ j ≠ i ∧ t.getD k 0 = v j := by
      intro k hk
      have hm : t.getD k 0 ∈ t := mem_getD (by rw [J.ok.1]; exact hk)
      by_cases hx : t.getD k 0 = 0 ∨ ¬ t.getD k 0 ∈ five v
      · have := freeI_some hm hx
        omega
      · have hx2 : t.getD k 0 ∈ five v := Classical.byContradiction fun hh => hx (.inr hh)
        obtain ⟨j, hj, e⟩ := mem_five.1 hx2
        have h1 : j ≠ i := fun x => J.fresh F (by omega) (Nat.le_refl _) hn (by rw [← x, ← e]; exact hm)
        have h2 : j ≠ 4 := fun x => J.fresh F (by omega) (by omega) h4 (by rw [← x, ← e]; exact hm)
        exact ⟨j, by omega, h1, e⟩
    obtain ⟨a, ha, ha2, ea⟩ := all 0 (by omega)
    obtain ⟨b, hb, hb2, eb⟩ := all 1 (by omega)
    obtain ⟨c, hc, hc2, ec⟩ := all 2 (by omega)
    obtain ⟨d, hd, hd2, ed⟩ := all 3 (by omega)
    have nz : ∀ j, j < 4 → v j ≠ 0 := fun j hj => by have := (F.pos j (by omega)).1; omega
    have dis : ∀ {p q x y : Nat}, p < 4 → q < 4 → p ≠ q → x < 4 → t.getD p 0 = v x → t.getD q 0 = v y → x ≠ y := by
      intro p q x y hp hq hpq hx e1 e2 exy
      exact hpq (J.ok.one hp hq (by rw [e1, e2, exy]) (by rw [e1]; exact nz x hx))
    have n1 := dis (p := 0) (q := 1) (by omega) (by omega) (by omega) ha ea eb
    have n2 := dis (p := 0) (q := 2) (by omega) (by omega) (by omega) ha ea ec
    have n3 := dis (p := 0) (q := 3) (by omega) (by omega) (by omega) ha ea ed
    have n4 := dis (p := 1) (q := 2) (by omega) (by omega) (by omega) hb eb ec
    have n5 := dis (p := 1) (q := 3) (by omega) (by omega) (by omega) hb eb ed
    have n6 := dis (p := 2) (q := 3) (by omega) (by omega) (by omega) hc ec ed
    omega
  · exact h
theorem Jn.step {v : Nat → Int} {t0 t : List Int} {i : Nat} (F : Five v) (J : Jn v t0 t i) (hi : i < 4) (hn : ¬ v i ∈ t0) (h4 : ¬ v 4 ∈ t0) : (joinI t (v i) (five v)).e = 0 ∧ Jn v t0 (joinI t (v i) (five v)).t (i + 1) := by
  have hr := J.room F hi hn h4
  obtain ⟨f, hf⟩ := Int.eq_ofNat_of_zero_le hr
  have hf' : freeI t (five v) = ((f : Nat) : Int) := hf
  obtain ⟨hfl, hfx⟩ := freeI_is hf'
  have hp := F.pos i (by omega)
  have hnm := J.fresh F (by omega : i < 5) (Nat.le_refl _) hn
  have e : joinI t (v i) (five v) = ⟨t.set f (v i), 0⟩ := by
    unfold joinI
    rw [if_neg (by omega), if_neg (by simpa using hnm), if_neg (by omega), hf']
    rfl
  rw [e]
  have hl := J.ok.1
  refine ⟨rfl, J.ok.set hp.1 hp.2 hnm (by omega), fun j hj => ?_, fun x hx => ?_⟩
  · show v j ∈ t.set f (v i)
    by_cases ej : j = i
    · subst ej
      have := mem_getD (t := t.set f (v j)) (i := f) (by rw [List.length_set]; exact hfl)
      rwa [getD_set_same hfl] at this
    · obtain ⟨k, hk, ek⟩ := mem_at (J.put j (by omega))
      have hne : f ≠ k := by
        intro x
        rw [← x] at ek
        rcases hfx with h | h
        · have := (F.pos j (by omega)).1
          omega
        · exact h (by rw [ek]; exact mem_five.2 ⟨j, by omega, rfl⟩)
      have := mem_getD (t := t.set f (v i)) (i := k) (by rw [List.length_set]; exact hk)
      rwa [getD_set_other hne, ek] at this
  · obtain ⟨k, hk, ek⟩ := mem_at hx
    rw [List.length_set] at hk
    by_cases hne : f = k
    · subst hne
      rw [getD_set_same hfl] at ek
      exact .inr ⟨i, by omega, ek.symm⟩
    · rw [getD_set_other hne] at ek
      rcases J.old x (by rw [← ek]; exact mem_getD hk) with h | ⟨j, hj, e⟩
      · exact .inl h
      · exact .inr ⟨j, by omega, e⟩
/-- Four have joined: none else may, till one of them lives no more. -/
theorem Jn.four {v : Nat → Int} {t0 t : List Int} (F : Five v) (J : Jn v t0 t 4) (h4 : ¬ v 4 ∈ t0) : (joinI t (v 4) (five v)).e = 8 ∧ (joinI t (v 4) [v 1, v 2, v 3, v 4]).e = 0 := by
  have hl := J.ok.1
  have hnm := J.fresh F (by omega : 4 < 5) (Nat.le_refl _) h4
  have hp := F.pos 4 (by omega)
  have whole : ∀ x ∈ t, ∃ j, j < 4 ∧ x = v j := by
    intro x hx
    obtain ⟨k, hk, ek⟩ := mem_at hx
    obtain ⟨k0, h0, e0⟩ := mem_at (J.put 0 (by omega))
    obtain ⟨k1, h1, e1⟩ := mem_at (J.put 1 (by omega))
    obtain ⟨k2, h2, e2⟩ := mem_at (J.put 2 (by omega))
    obtain ⟨k3, h3, e3⟩ := mem_at (J.put 3 (by omega))
    have n01 : k0 ≠ k1 := fun y => F.ne 0 1 (by omega) (by omega) (by omega) (by rw [← e0, ← e1, y])
    have n02 : k0 ≠ k2 := fun y => F.ne 0 2 (by omega) (by omega) (by omega) (by rw [← e0, ← e2, y])
    have n03 : k0 ≠ k3 := fun y => F.ne 0 3 (by omega) (by omega) (by omega) (by rw [← e0, ← e3, y])
    have n12 : k1 ≠ k2 := fun y => F.ne 1 2 (by omega) (by omega) (by omega) (by rw [← e1, ← e2, y])
    have n13 : k1 ≠ k3 := fun y => F.ne 1 3 (by omega) (by omega) (by omega) (by rw [← e1, ← e3, y])
    have n23 : k2 ≠ k3 := fun y => F.ne 2 3 (by omega) (by omega) (by omega) (by rw [← e2, ← e3, y])
    have hc : k = k0 ∨ k = k1 ∨ k = k2 ∨ k = k3 := by omega
    rcases hc with h | h | h | h
    · exact ⟨0, by omega, by rw [← ek, h, e0]⟩
    · exact ⟨1, by omega, by rw [← ek, h, e1]⟩
    · exact ⟨2, by omega, by rw [← ek, h, e2]⟩
    · exact ⟨3, by omega, by rw [← ek, h, e3]⟩
  constructor
  · have hfree : freeI t (five v) = -1 := freeI_none (fun x hx => by obtain ⟨j, hj, rfl⟩ := whole x hx; have := (F.pos j (by omega)).1; omega) (fun x hx => by obtain ⟨j, hj, rfl⟩ := whole x hx; exact mem_five.2 ⟨j, by omega, rfl⟩)
    unfold joinI
    rw [if_neg (by omega), if_neg (by simpa using hnm), if_pos (by rw [hfree]; decide)]
  · have hfree : 0 ≤ freeI t [v 1, v 2, v 3, v 4] := by
      refine freeI_some (J.put 0 (by omega)) (.inr ?_)
      simp only [List.mem_cons, List.not_mem_nil, or_false, not_or]
      exact ⟨F.ne 0 1 (by omega) (by omega) (by omega), F.ne 0 2 (by omega) (by omega) (by omega), F.ne 0 3 (by omega) (by omega) (by omega), F.ne 0 4 (by omega) (by omega) (by omega)⟩
    unfold joinI
    rw [if_neg (by omega), if_neg (by simpa using hnm), if_neg (by omega)]
end Go.Proofs.Ytgieigpbbkeonaa
