/-
  Cells together, without memory: which may be, what is put, dropped, got, and chains. Nothing of the program.
-/
import Derived.Test.YtpdkeghmpnanpaaCeS
namespace Go.Proofs.Ytpdkeghmpnanpaa
open Go.RowKit

/-- Is a cell empty? -/
def Un.emp (u : Un) : Bool := u.same zeroU
theorem Un.emp_iff (u : Un) : u.emp = true ↔ u = zeroU := Un.same_iff _ _
theorem zeroU_emp : zeroU.emp = true := (Un.emp_iff _).2 rfl
theorem zeroU_may : zeroU.may = false := by decide
theorem Un.may_emp {u : Un} (h : u.may = true) : u.emp = false := by
  cases he : u.emp with
  | false => rfl
  | true => rw [(Un.emp_iff u).1 he, zeroU_may] at h; cases h

def okU (u : Un) : Bool := u.emp || u.may
def nosU (l : List Un) : List Int := (l.filter (fun u => !u.emp)).map Un.no
def lenU (n : Nat) : Bool := decide (6 ≤ n) && decide (n ≤ 378) && decide (n % 6 = 0)
/-- May cells be? -/
def MayU (l : List Un) : Bool := lenU l.length && (l.all okU && decide (nosU l).Nodup)

theorem lenU_iff (n : Nat) : lenU n = true ↔ 6 ≤ n ∧ n ≤ 378 ∧ n % 6 = 0 := by
  simp [lenU]; omega

theorem nosU_nodup (l : List Un) : (nosU l).Nodup ↔ ∀ i j, i < j → j < l.length → (l.getD i zeroU).emp = false → (l.getD j zeroU).emp = false → (l.getD i zeroU).no ≠ (l.getD j zeroU).no := by
  unfold nosU List.Nodup
  rw [List.pairwise_map, List.pairwise_filter, List.pairwise_iff_getElem]
  constructor
  · intro h i j hij hj h1 h2
    have hi : i < l.length := by omega
    have e1 : l.getD i zeroU = l[i] := by simp [List.getD, hi]
    have e2 : l.getD j zeroU = l[j] := by simp [List.getD, hj]
    rw [e1] at h1 ⊢
    rw [e2] at h2 ⊢
    exact h i j hi hj hij (by rw [h1]; rfl) (by rw [h2]; rfl)
  · intro h i j hi hj hij h1 h2
    have e1 : l.getD i zeroU = l[i] := by simp [List.getD, hi]
    have e2 : l.getD j zeroU = l[j] := by simp [List.getD, hj]
    have := h i j hij hj (by rw [e1]; simpa using h1) (by rw [e2]; simpa using h2)
    rwa [e1, e2] at this

theorem unget {l : List Un} {i : Nat} (hi : i < l.length) : l.getD i zeroU = l[i] := by simp [List.getD, hi]

structure MayP (l : List Un) : Prop where
  lo : 6 ≤ l.length
  hi : l.length ≤ 378
  six : l.length % 6 = 0
  ok : ∀ i, i < l.length → okU (l.getD i zeroU) = true
  one : ∀ i j, i < j → j < l.length → (l.getD i zeroU).emp = false → (l.getD j zeroU).emp = false → (l.getD i zeroU).no ≠ (l.getD j zeroU).no

theorem mayU_iff (l : List Un) : MayU l = true ↔ MayP l := by
  unfold MayU
  simp only [Bool.and_eq_true, decide_eq_true_eq, lenU_iff, List.all_eq_true, nosU_nodup]
  constructor
  · rintro ⟨⟨h1, h2, h3⟩, h4, h5⟩
    exact ⟨h1, h2, h3, fun i hi => by rw [unget hi]; exact h4 _ (List.getElem_mem hi), h5⟩
  · intro h
    refine ⟨⟨h.lo, h.hi, h.six⟩, fun u hu => ?_, h.one⟩
    obtain ⟨i, hi, rfl⟩ := List.getElem_of_mem hu
    rw [← unget hi]
    exact h.ok i hi

/-- An undoing that may be has a number above 0. -/
theorem Un.may_no {u : Un} (h : u.may = true) : 1 ≤ u.no := (Un.parts h).no.1
theorem MayP.no {l : List Un} (h : MayP l) {i : Nat} (hi : i < l.length) (he : (l.getD i zeroU).emp = false) : 1 ≤ (l.getD i zeroU).no := by
  have := h.ok i hi
  rw [okU, he, Bool.false_or] at this
  exact Un.may_no this

/-- What the document's May has seen of the first n cells. -/
def SeenU (l : List Un) (n : Nat) : Prop := ∀ i, i < n → (l.getD i zeroU).emp = true ∨ ((l.getD i zeroU).may = true ∧ ∀ k, k < i → (l.getD k zeroU).no ≠ (l.getD i zeroU).no)

theorem emp_no {u : Un} (h : u.emp = true) : u.no = 0 := by rw [(Un.emp_iff u).1 h]; rfl

theorem MayP.seen {l : List Un} (h : MayP l) : SeenU l l.length := by
  intro i hi
  cases he : (l.getD i zeroU).emp with
  | true => exact .inl rfl
  | false =>
    have h1 := h.ok i hi
    rw [okU, he, Bool.false_or] at h1
    refine .inr ⟨h1, fun k hk => ?_⟩
    cases hk' : (l.getD k zeroU).emp with
    | true => rw [emp_no hk']; have := Un.may_no h1; omega
    | false => exact h.one k i hk hi hk' he


theorem seen_may {l : List Un} (h : SeenU l l.length) : MayU l = lenU l.length := by
  cases hl : lenU l.length with
  | false => unfold MayU; rw [hl]; rfl
  | true =>
    rw [mayU_iff]
    obtain ⟨h1, h2, h3⟩ := (lenU_iff _).1 hl
    refine ⟨h1, h2, h3, fun i hi => ?_, fun i j hij hj he he' => ?_⟩
    · rcases h i hi with k | k
      · rw [okU, k]; rfl
      · rw [okU, k.1]; simp
    · rcases h j hj with k | k
      · rw [k] at he'; cases he'
      · exact k.2 i hij

theorem unseen_no {l : List Un} {i : Nat} (hi : i < l.length) (he : (l.getD i zeroU).emp = false) (h : (l.getD i zeroU).may = false ∨ ∃ k, k < i ∧ (l.getD k zeroU).no = (l.getD i zeroU).no) : MayU l = false := by
  cases hm : MayU l with
  | false => rfl
  | true =>
    rcases ((mayU_iff l).1 hm).seen i hi with k | k
    · rw [k] at he; cases he
    · rcases h with h | ⟨j, hj, h⟩
      · rw [k.1] at h; cases h
      · exact absurd h (k.2 j hj)

theorem len_no {l : List Un} (h : lenU l.length = false) : MayU l = false := by unfold MayU; rw [h]; rfl

/-- What the landed Check has met of the first n cells. -/
theorem met_no {l : List Un} {i : Nat} (hi : i < l.length) (h : okU (l.getD i zeroU) = false) : MayU l = false := by
  cases hm : MayU l with
  | false => rfl
  | true => rw [((mayU_iff l).1 hm).ok i hi] at h; cases h

theorem met_end {l : List Un} (hl : lenU l.length = true) (h : ∀ i, i < l.length → okU (l.getD i zeroU) = true) : MayU l = decide (nosU l).Nodup := by
  unfold MayU
  rw [hl, Bool.true_and]
  have : l.all okU = true := List.all_eq_true.2 (fun u hu => by
    obtain ⟨i, hi, rfl⟩ := List.getElem_of_mem hu
    rw [← unget hi]; exact h i hi)
  rw [this, Bool.true_and]

theorem nosU_take {l : List Un} {k : Nat} (hk : k < l.length) : nosU (l.take (k + 1)) = nosU (l.take k) ++ (if (l.getD k zeroU).emp then [] else [(l.getD k zeroU).no]) := by
  rw [List.take_succ_eq_append_getElem hk, unget hk]
  unfold nosU
  rw [List.filter_append, List.map_append]
  congr 1
  cases h : (l[k]).emp <;> simp [h]

theorem nosU_len (l : List Un) : (nosU l).length ≤ l.length := by
  unfold nosU
  rw [List.length_map]
  exact List.length_filter_le _ _

/-- The undoing of a cell; the empty one: there is none. -/
def atU (l : List Un) (c : Int) : Un := if 1 ≤ c ∧ c ≤ l.length then l.getD (c - 1).toNat zeroU else zeroU

theorem atU_in {l : List Un} {c : Int} (h : 1 ≤ c ∧ c ≤ l.length) : atU l c = l.getD (c - 1).toNat zeroU := if_pos h
theorem atU_out {l : List Un} {c : Int} (h : ¬ (1 ≤ c ∧ c ≤ l.length)) : atU l c = zeroU := if_neg h
theorem atU_at (l : List Un) {i : Nat} (hi : i < l.length) : atU l ((i : Int) + 1) = l.getD i zeroU := by
  rw [atU_in (by omega)]
  congr 1
  omega
theorem atU_used {l : List Un} {c : Int} (h : (atU l c).emp = false) : 1 ≤ c ∧ c ≤ l.length := by
  by_cases k : 1 ≤ c ∧ c ≤ l.length
  · exact k
  · rw [atU_out k, zeroU_emp] at h; cases h
theorem atU_nil (l : List Un) : atU l 0 = zeroU := atU_out (by omega)

def freeU (l : List Un) : Int := match l.findIdx? Un.emp with
  | none => 0
  | some i => (i : Int) + 1
def usedN (l : List Un) : Nat := (l.filter (fun u => !u.emp)).length

/-- What is put. -/
def hasNo (l : List Un) (n : Int) : Bool := (l.findIdx? (fun y => y.no == n)).isSome
structure PutS where
  l : List Un
  n : Int
  e : Int
def putU (l : List Un) (u : Un) : PutS :=
  if u.may = false then ⟨l, 0, 1⟩ else if hasNo l u.no = true then ⟨l, 0, 1⟩ else match l.findIdx? Un.emp with
    | none => ⟨l, 0, 9⟩
    | some i => ⟨l.set i u, (i : Int) + 1, 0⟩
def dropU (l : List Un) (c : Int) : List Un × Int := if (atU l c).emp = true then (l, 3) else (l.set (c - 1).toNat zeroU, 0)
def getU (l : List Un) (c n : Int) : Un × Bool := if (atU l c).emp = true ∨ (atU l c).no ≠ n then (zeroU, false) else (atU l c, true)

theorem idxU_some {p : Un → Bool} {l : List Un} {i : Nat} (h : l.findIdx? p = some i) : i < l.length ∧ p (l.getD i zeroU) = true ∧ ∀ j, j < i → p (l.getD j zeroU) = false := by
  obtain ⟨hi, h1, h2⟩ := List.findIdx?_eq_some_iff_getElem.1 h
  refine ⟨hi, by rw [unget hi]; exact h1, fun j hj => ?_⟩
  have := h2 j hj
  rw [unget (by omega)]
  simpa using this
theorem idxU_none {p : Un → Bool} {l : List Un} (h : l.findIdx? p = none) : ∀ j, j < l.length → p (l.getD j zeroU) = false := by
  intro j hj
  rw [unget hj]
  exact List.findIdx?_eq_none_iff.1 h _ (List.getElem_mem hj)
theorem idxU_is {p : Un → Bool} {l : List Un} {i : Nat} (hi : i < l.length) (h1 : p (l.getD i zeroU) = true) (h2 : ∀ j, j < i → p (l.getD j zeroU) = false) : l.findIdx? p = some i := by
  refine List.findIdx?_eq_some_iff_getElem.2 ⟨hi, by rw [unget hi] at h1; exact h1, fun j hj => ?_⟩
  have := h2 j hj
  rw [unget (by omega)] at this
  simpa using this
theorem idxU_no {p : Un → Bool} {l : List Un} (h : ∀ j, j < l.length → p (l.getD j zeroU) = false) : l.findIdx? p = none := by
  refine List.findIdx?_eq_none_iff.2 (fun x hx => ?_)
  obtain ⟨j, hj, rfl⟩ := List.getElem_of_mem hx
  have := h j hj
  rw [unget hj] at this
  exact this

theorem freeU_range (l : List Un) : 0 ≤ freeU l ∧ freeU l ≤ l.length := by
  unfold freeU
  split
  · omega
  · rename_i i h
    have := (idxU_some h).1
    omega

theorem set_get (l : List Un) (i j : Nat) (u : Un) : (l.set i u).getD j zeroU = if i = j ∧ j < l.length then u else l.getD j zeroU := by
  by_cases h : i = j
  · subst h
    by_cases k : i < l.length
    · simp [List.getD, k]
    · simp [List.getD, k]
  · simp [List.getD, h]

theorem hasNo_no {l : List Un} {n : Int} (h : hasNo l n = false) {j : Nat} (hj : j < l.length) : (l.getD j zeroU).no ≠ n := by
  unfold hasNo at h
  cases hf : l.findIdx? (fun y => y.no == n) with
  | none => have := idxU_none hf j hj; simpa using this
  | some i => rw [hf] at h; cases h

/-- An undoing in an empty cell, of a number that is not there: cells still may be. -/
theorem put_may {l : List Un} (h : MayP l) {u : Un} (hu : u.may = true) (hn : ∀ j, j < l.length → (l.getD j zeroU).no ≠ u.no) {i : Nat} : MayP (l.set i u) := by
  refine ⟨by rw [List.length_set]; exact h.lo, by rw [List.length_set]; exact h.hi, by rw [List.length_set]; exact h.six, fun j hj => ?_, fun j k hjk hk h1 h2 => ?_⟩
  · rw [List.length_set] at hj
    rw [set_get]
    split
    · rw [okU, hu]; simp
    · exact h.ok j hj
  · rw [List.length_set] at hk
    rw [set_get] at h1 h2 ⊢
    rw [set_get]
    by_cases e1 : i = j ∧ j < l.length
    · rw [if_pos e1]
      by_cases e2 : i = k ∧ k < l.length
      · omega
      · rw [if_neg e2]
        exact fun e => hn k hk e.symm
    · rw [if_neg e1] at h1 ⊢
      by_cases e2 : i = k ∧ k < l.length
      · rw [if_pos e2]
        exact hn j (by omega)
      · rw [if_neg e2] at h2 ⊢
        exact h.one j k hjk hk h1 h2

theorem drop_may {l : List Un} (h : MayP l) (i : Nat) : MayP (l.set i zeroU) := by
  refine ⟨by rw [List.length_set]; exact h.lo, by rw [List.length_set]; exact h.hi, by rw [List.length_set]; exact h.six, fun j hj => ?_, fun j k hjk hk h1 h2 => ?_⟩
  · rw [List.length_set] at hj
    rw [set_get]
    split
    · rw [okU, zeroU_emp]; rfl
    · exact h.ok j hj
  · rw [List.length_set] at hk
    rw [set_get] at h1 h2 ⊢
    rw [set_get]
    by_cases e1 : i = j ∧ j < l.length
    · rw [if_pos e1, zeroU_emp] at h1; cases h1
    · rw [if_neg e1] at h1 ⊢
      by_cases e2 : i = k ∧ k < l.length
      · rw [if_pos e2, zeroU_emp] at h2; cases h2
      · rw [if_neg e2] at h2 ⊢
        exact h.one j k hjk hk h1 h2

theorem putU_may {l : List Un} (h : MayP l) (u : Un) : MayP (putU l u).l := by
  unfold putU
  split
  · exact h
  · rename_i hu
    split
    · exact h
    · rename_i hn
      split
      · exact h
      · exact put_may h (by simpa using hu) (fun j hj => hasNo_no (by simpa using hn) hj)

theorem dropU_may {l : List Un} (h : MayP l) (c : Int) : MayP (dropU l c).1 := by
  unfold dropU
  split
  · exact h
  · exact drop_may h _

theorem putU_ok {l : List Un} {u : Un} (h : (putU l u).e = 0) : ∃ i, i < l.length ∧ l.findIdx? Un.emp = some i ∧ u.may = true ∧ hasNo l u.no = false ∧ putU l u = ⟨l.set i u, (i : Int) + 1, 0⟩ := by
  unfold putU at h
  split at h
  · cases h
  · rename_i hu
    split at h
    · cases h
    · rename_i hn
      cases hf : l.findIdx? Un.emp with
      | none => rw [hf] at h; cases h
      | some i =>
        refine ⟨i, (idxU_some hf).1, rfl, by simpa using hu, by simpa using hn, ?_⟩
        unfold putU
        rw [if_neg hu, if_neg hn, hf]

/-- Got: just what stands. -/
theorem getU_iff (l : List Un) {c n : Int} (hn : 1 ≤ n) : (getU l c n).2 = ((atU l c).no == n) := by
  unfold getU
  cases he : (atU l c).emp with
  | true =>
    rw [if_pos (.inl rfl), emp_no he]
    symm
    exact beq_eq_false_iff_ne.2 (by omega)
  | false =>
    by_cases hc : (atU l c).no = n
    · rw [if_neg (by simp [hc]), hc]; simp
    · rw [if_pos (.inr hc)]; symm; exact beq_eq_false_iff_ne.2 hc

/-! Chains -/
def follow (p : Option Un) (u : Un) : Bool := match p with
  | none => true
  | some x => u.tx == x.tx && decide (u.no < x.no)
/-- The chain from cell c on, behind p. -/
inductive ChainR (l : List Un) : Option Un → Int → List Un → Prop
  | stop (p : Option Un) (c : Int) (h : (atU l c).emp = true ∨ follow p (atU l c) = false) : ChainR l p c []
  | step (p : Option Un) (c : Int) (r : List Un) (h : (atU l c).emp = false) (hf : follow p (atU l c) = true) (hr : ChainR l (some (atU l c)) (atU l c).prev r) : ChainR l p c (atU l c :: r)

theorem ChainR.one {l : List Un} {p : Option Un} {c : Int} {r : List Un} (h : ChainR l p c r) : ∀ {r' : List Un}, ChainR l p c r' → r = r' := by
  induction h with
  | stop p c h =>
    intro r' h'
    cases h' with
    | stop _ _ _ => rfl
    | step _ _ _ h1 h2 _ =>
      rcases h with h | h
      · rw [h] at h1; cases h1
      · rw [h] at h2; cases h2
  | step p c r h hf hr ih =>
    intro r' h'
    cases h' with
    | stop _ _ h1 =>
      rcases h1 with h1 | h1
      · rw [h] at h1; cases h1
      · rw [hf] at h1; cases h1
    | step _ _ _ _ _ hr' => rw [ih hr']

theorem count_below (l : List Un) (n m : Int) (h : n < m) (u : Un) (hu : u ∈ l) (hn : u.no = n) : l.countP (fun x => decide (x.no < n)) + 1 ≤ l.countP (fun x => decide (x.no < m)) := by
  induction l with
  | nil => cases hu
  | cons x l ih =>
    have hmono : l.countP (fun x => decide (x.no < n)) ≤ l.countP (fun x => decide (x.no < m)) := List.countP_mono_left (fun y _ hy => by simp only [decide_eq_true_eq] at hy ⊢; omega)
    rw [List.countP_cons, List.countP_cons]
    rcases List.mem_cons.1 hu with e | e
    · subst e
      have e1 : decide (u.no < n) = false := decide_eq_false (by omega)
      have e2 : decide (u.no < m) = true := decide_eq_true (by omega)
      simp only [e1, e2]
      simp
      exact hmono
    · have := ih e
      by_cases h1 : x.no < n
      · have e1 : decide (x.no < n) = true := decide_eq_true h1
        have e2 : decide (x.no < m) = true := decide_eq_true (by omega)
        simp only [e1, e2]
        simp
        omega
      · have e1 : decide (x.no < n) = false := decide_eq_false h1
        by_cases h2 : x.no < m
        · have e2 : decide (x.no < m) = true := decide_eq_true h2
          simp only [e1, e2]
          simp
          omega
        · have e2 : decide (x.no < m) = false := decide_eq_false h2
          simp only [e1, e2]
          simp
          omega

theorem count_first (l : List Un) (n : Int) (u : Un) (hu : u ∈ l) (hn : u.no = n) : l.countP (fun x => decide (x.no < n)) + 1 ≤ l.length := by
  have h1 := count_below l n (n + 1) (by omega) u hu hn
  have h2 : l.countP (fun x => decide (x.no < n + 1)) ≤ l.length := List.countP_le_length
  omega

theorem atU_mem {l : List Un} {c : Int} (h : (atU l c).emp = false) : atU l c ∈ l := by
  have hc := atU_used h
  rw [atU_in hc]
  have : (c - 1).toNat < l.length := by omega
  rw [unget this]
  exact List.getElem_mem this

/-- What stands between two rounds of a chain. -/
structure PreR (l : List Un) (c0 : Int) (pre : List Un) (c : Int) : Prop where
  rest : ∀ r, ChainR l pre.getLast? c r → ChainR l none c0 (pre ++ r)
  few : ∀ u, pre.getLast? = some u → pre.length + l.countP (fun x => decide (x.no < u.no)) ≤ l.length
  nil : pre = [] → c = c0
  tx : ∀ x ∈ pre, ∀ y ∈ pre, x.tx = y.tx

theorem PreR.start (l : List Un) (c0 : Int) : PreR l c0 [] c0 := ⟨(fun r h => by simpa using h), (fun u h => by cases h), fun _ => rfl, fun x hx => by cases hx⟩

theorem PreR.len {l : List Un} {c0 : Int} {pre : List Un} {c : Int} (h : PreR l c0 pre c) : pre.length ≤ l.length := by
  cases e : pre.getLast? with
  | none => rw [List.getLast?_eq_none_iff] at e; subst e; simp
  | some u => have := h.few u e; omega

theorem PreR.stop {l : List Un} {c0 : Int} {pre : List Un} {c : Int} (h : PreR l c0 pre c) (hs : (atU l c).emp = true ∨ follow pre.getLast? (atU l c) = false) : ChainR l none c0 pre := by
  have := h.rest [] (.stop _ _ hs)
  simpa using this

theorem PreR.step {l : List Un} {c0 : Int} {pre : List Un} {c : Int} (h : PreR l c0 pre c) (he : (atU l c).emp = false) (hf : follow pre.getLast? (atU l c) = true) : PreR l c0 (pre ++ [atU l c]) (atU l c).prev := by
  have hm := atU_mem he
  refine ⟨fun r hr => ?_, fun u hu => ?_, fun e => by simp at e, fun x hx y hy => ?_⟩
  · rw [List.getLast?_concat] at hr
    have := h.rest _ (.step _ _ r he hf hr)
    simpa using this
  · rw [List.getLast?_concat] at hu
    simp only [Option.some.injEq] at hu
    subst hu
    rw [List.length_append, List.length_singleton]
    cases e : pre.getLast? with
    | none =>
      rw [List.getLast?_eq_none_iff] at e
      subst e
      have := count_first l (atU l c).no _ hm rfl
      simp
      omega
    | some x =>
      rw [e] at hf
      simp only [follow, Bool.and_eq_true, decide_eq_true_eq] at hf
      have h1 := h.few x e
      have h2 := count_below l (atU l c).no x.no hf.2 _ hm rfl
      omega
  · have key : ∀ z ∈ pre, z.tx = (atU l c).tx := by
      intro z hz
      cases e : pre.getLast? with
      | none => rw [List.getLast?_eq_none_iff] at e; rw [e] at hz; cases hz
      | some x =>
        rw [e] at hf
        simp only [follow, Bool.and_eq_true, beq_iff_eq] at hf
        rw [hf.1]
        exact h.tx z hz x (List.mem_of_getLast? e)
    simp only [List.mem_append, List.mem_singleton] at hx hy
    rcases hx with hx | rfl <;> rcases hy with hy | rfl
    · exact h.tx x hx y hy
    · exact key x hx
    · exact (key y hy).symm
    · rfl

/-- A chain that ends at cell 0. -/
inductive ChainZ (l : List Un) : Int → List Un → Prop
  | nil : ChainZ l 0 []
  | cons (c : Int) (r : List Un) (h : (atU l c).emp = false) (hf : ∀ x, r.head? = some x → x.tx = (atU l c).tx ∧ x.no < (atU l c).no) (hr : ChainZ l (atU l c).prev r) : ChainZ l c (atU l c :: r)

theorem ChainZ.head {l : List Un} {c : Int} {r : List Un} (h : ChainZ l c r) : (c = 0 ∧ r = []) ∨ ∃ r', r = atU l c :: r' ∧ (atU l c).emp = false := by
  cases h with
  | nil => exact .inl ⟨rfl, rfl⟩
  | cons _ r h _ _ => exact .inr ⟨r, rfl, h⟩

theorem ChainZ.r {l : List Un} {c : Int} {r : List Un} (h : ChainZ l c r) : ∀ p, (∀ x, r.head? = some x → follow p x = true) → ChainR l p c r := by
  induction h with
  | nil => intro p _; exact .stop _ _ (.inl (by rw [atU_nil]; exact zeroU_emp))
  | cons c r h hf hr ih =>
    intro p hp
    refine .step _ _ _ h (hp _ rfl) (ih _ fun x hx => ?_)
    obtain ⟨h1, h2⟩ := hf x hx
    simp [follow, h1, h2]

theorem ChainZ.turn {l : List Un} {c : Int} {r : List Un} (h : ChainZ l c r) {i : Nat} (hi : (l.getD i zeroU).emp = true) (u : Un) : ChainZ (l.set i u) c r := by
  induction h with
  | nil => exact .nil
  | cons c r h hf hr ih =>
    have hc := atU_used h
    have e : atU (l.set i u) c = atU l c := by
      rw [atU_in hc, atU_in (by rw [List.length_set]; exact hc), set_get]
      rw [if_neg]
      rintro ⟨rfl, _⟩
      rw [atU_in hc] at h
      rw [h] at hi
      cases hi
    rw [← e] at h hf ih ⊢
    exact .cons c r h hf ih

end Go.Proofs.Ytpdkeghmpnanpaa
