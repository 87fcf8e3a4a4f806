/-
  Tables without memory: what turns keeps them tables; commits are counted; twelve have room. Nothing of the program.
-/
import Derived.Test.YtdbgbldmjgonjaaTbA
namespace Go.Proofs.Ytdbgbldmjgonjaa

/-! ### What turns keeps a table a table -/
structure TurnOk (t : Tb) (i : Nat) (e : En) (u : Tb) : Prop where
  lt : i < 12
  len : u.es.length = 12
  at' : ∀ j, u.en j = if j = i then e else t.en j
  nx : t.nx ≤ u.nx ∧ u.nx ≤ 2147483647
  no : 1 ≤ u.no ∧ u.no ≤ 2147483647
  cm : t.cm ≤ u.cm ∧ u.cm ≤ 2147483647
  st : 0 ≤ e.st ∧ e.st ≤ 2
  free : e.st = 0 → e = En.zero
  tx : e.st ≠ 0 → 1 ≤ e.tx ∧ e.tx < u.nx
  last : e.st ≠ 0 → 0 ≤ e.last ∧ e.last ≤ 65535
  act : e.st = 1 → e.com = 0
  done : e.st = 2 → 1 ≤ e.com ∧ e.com ≤ u.cm
  txs : e.st ≠ 0 → ∀ j, j < 12 → j ≠ i → (t.en j).tx ≠ e.tx
  coms : e.st = 2 → ∀ j, j < 12 → j ≠ i → (t.en j).com ≠ e.com

theorem TurnOk.ok {t : Tb} {i : Nat} {e : En} {u : Tb} (h : t.Ok) (k : TurnOk t i e u) : u.Ok := by
  have hi : u.en i = e := by rw [k.at' i, if_pos rfl]
  have hj : ∀ j, j ≠ i → u.en j = t.en j := fun j hj => by rw [k.at' j, if_neg hj]
  have hnx := k.nx
  have hcm := k.cm
  have h1 := h.nx
  have h3 := h.cm
  have hez : e.st = 0 → e.tx = 0 ∧ e.com = 0 := fun h0 => by rw [k.free h0]; exact ⟨rfl, rfl⟩
  refine ⟨by omega, k.no, by omega, k.len, fun j hl => ?_, fun j hl => ?_, fun j hl => ?_, fun j hl => ?_, fun j hl => ?_, fun j hl => ?_, fun a b ha hb hab h0 => ?_, fun a b ha hb hab h2 => ?_⟩
  · by_cases ej : j = i
    · rw [ej, hi]; exact k.st
    · rw [hj j ej]; exact h.st j hl
  · by_cases ej : j = i
    · rw [ej, hi]; exact k.free
    · rw [hj j ej]; exact h.free j hl
  · by_cases ej : j = i
    · rw [ej, hi]; exact k.tx
    · rw [hj j ej]; exact fun h0 => by have := h.tx j hl h0; omega
  · by_cases ej : j = i
    · rw [ej, hi]; exact k.last
    · rw [hj j ej]; exact h.last j hl
  · by_cases ej : j = i
    · rw [ej, hi]; exact k.act
    · rw [hj j ej]; exact h.act j hl
  · by_cases ej : j = i
    · rw [ej, hi]; exact k.done
    · rw [hj j ej]; exact fun h0 => by have := h.done j hl h0; omega
  · by_cases ea : a = i
    · have eb : b ≠ i := fun e => hab (by rw [ea, e])
      rw [ea, hi] at h0 ⊢
      rw [hj b eb]
      exact fun e => k.txs h0 b hb eb e.symm
    · rw [hj a ea] at h0 ⊢
      by_cases eb : b = i
      · rw [eb, hi]
        by_cases he : e.st = 0
        · rw [(hez he).1]; have := h.tx a ha h0; omega
        · exact k.txs he a ha ea
      · rw [hj b eb]
        exact h.txs a b ha hb hab h0
  · by_cases ea : a = i
    · have eb : b ≠ i := fun e => hab (by rw [ea, e])
      rw [ea, hi] at h2 ⊢
      rw [hj b eb]
      exact fun e => k.coms h2 b hb eb e.symm
    · rw [hj a ea] at h2 ⊢
      by_cases eb : b = i
      · rw [eb, hi]
        have hd := h.done a ha h2
        by_cases he : e.st = 2
        · exact k.coms he a ha ea
        · have hs := k.st
          by_cases h0 : e.st = 0
          · rw [(hez h0).2]; omega
          · rw [k.act (by omega)]; omega
      · rw [hj b eb]
        exact h.coms a b ha hb hab h2

theorem Tb.set_len (t : Tb) (i : Nat) (e : En) : (t.set i e).es.length = t.es.length := List.length_set ..

theorem enter_turn {t : Tb} (h : t.May) {tx : Int} {i : Nat} (h1 : ¬ (tx < 1 ∨ 2147483646 < tx)) (hf : findN t tx = none) (hr : freeN t = some i) : TurnOk t i ⟨tx, 1, 0, 0⟩ { t.set i ⟨tx, 1, 0, 0⟩ with nx := if t.nx ≤ tx then tx + 1 else t.nx } := by
  have hl := h.len
  obtain ⟨hi, h0⟩ := free_some hr
  have hnx := h.nx
  refine ⟨by omega, (Tb.set_len t i _).trans hl, fun j => Tb.set_en hi _ j, ?_, h.no, ⟨Int.le_refl _, h.cm.2⟩, (by show (0 : Int) ≤ 1 ∧ (1 : Int) ≤ 2; decide), (fun h => by cases h), fun _ => ?_, fun _ => (by show (0 : Int) ≤ 0 ∧ (0 : Int) ≤ 65535; decide), fun _ => rfl, (fun h => by cases h), fun _ j hj _ => find_none hf (by omega) j (by omega), (fun h => by cases h)⟩
  · show t.nx ≤ (if t.nx ≤ tx then tx + 1 else t.nx) ∧ (if t.nx ≤ tx then tx + 1 else t.nx) ≤ 2147483647
    split <;> omega
  · show 1 ≤ tx ∧ tx < (if t.nx ≤ tx then tx + 1 else t.nx)
    split <;> omega

theorem enter_may {t : Tb} (h : t.May) (tx : Int) : (enterT t tx).1.May := by
  unfold enterT
  by_cases h1 : tx < 1 ∨ 2147483646 < tx
  · rw [if_pos h1]; exact h
  · rw [if_neg h1]
    cases hf : findN t tx with
    | some _ => exact h
    | none =>
      cases hr : freeN t with
      | none => exact h
      | some i => exact (enter_turn h h1 hf hr).ok h.ok' |>.may

theorem write_turn {t : Tb} (h : t.May) {tx c : Int} {i : Nat} (hf : findN t tx = some i) (h1 : ¬ ((t.en i).st ≠ 1 ∨ t.no = 2147483647)) (h2 : ¬ (c < 0 ∨ 65535 < c)) : TurnOk t i { t.en i with last := c } { t.set i { t.en i with last := c } with no := t.no + 1 } := by
  have hl := h.len
  obtain ⟨hi, h0, he⟩ := find_some hf
  have hok := h.ok'
  have hs : (t.en i).st = 1 := by omega
  have hno := h.no
  refine ⟨by omega, (Tb.set_len t i _).trans hl, fun j => Tb.set_en hi _ j, ⟨Int.le_refl _, h.nx.2⟩, ?_, ⟨Int.le_refl _, h.cm.2⟩, hok.st i (by omega), ?_, fun k => hok.tx i (by omega) k, fun _ => ?_, fun k => hok.act i (by omega) k, fun k => hok.done i (by omega) k, fun k j hj hji => fun e => hok.txs i j (by omega) hj (fun e => hji e.symm) k e.symm, fun k j hj hji => fun e => hok.coms i j (by omega) hj (fun e => hji e.symm) k e.symm⟩
  · show 1 ≤ t.no + 1 ∧ t.no + 1 ≤ 2147483647
    omega
  · intro k
    have k' : (t.en i).st = 0 := k
    omega
  · show 0 ≤ c ∧ c ≤ 65535
    omega

theorem write_may {t : Tb} (h : t.May) (tx c : Int) : (writeT t tx c).1.May := by
  unfold writeT
  cases hf : findN t tx with
  | none => exact h
  | some i =>
    simp only
    by_cases h1 : (t.en i).st ≠ 1 ∨ t.no = 2147483647
    · rw [if_pos h1]; exact h
    · rw [if_neg h1]
      by_cases h2 : c < 0 ∨ 65535 < c
      · rw [if_pos h2]; exact h
      · rw [if_neg h2]
        exact (write_turn h hf h1 h2).ok h.ok' |>.may

theorem Tb.Ok.com_le {t : Tb} (h : t.Ok) {i : Nat} (hi : i < 12) : (t.en i).com ≤ t.cm := by
  have hs := h.st i hi
  have hc := h.cm
  by_cases h0 : (t.en i).st = 0
  · rw [h.free i hi h0]; exact hc.1
  · by_cases h1 : (t.en i).st = 1
    · rw [h.act i hi h1]; exact hc.1
    · exact (h.done i hi (by omega)).2

theorem commit_turn {t : Tb} (h : t.May) {tx : Int} {i : Nat} (hf : findN t tx = some i) (h1 : ¬ ((t.en i).st ≠ 1 ∨ t.cm = 2147483647)) : TurnOk t i { t.en i with st := 2, com := t.cm + 1 } { t.set i { t.en i with st := 2, com := t.cm + 1 } with cm := t.cm + 1 } := by
  have hl := h.len
  obtain ⟨hi, h0, he⟩ := find_some hf
  have hok := h.ok'
  have hs : (t.en i).st = 1 := by omega
  have hcm := h.cm
  refine ⟨by omega, (Tb.set_len t i _).trans hl, fun j => Tb.set_en hi _ j, ⟨Int.le_refl _, h.nx.2⟩, h.no, ?_, (by show (0 : Int) ≤ 2 ∧ (2 : Int) ≤ 2; decide), (fun k => by cases k), fun _ => hok.tx i (by omega) (by omega), fun _ => hok.last i (by omega) (by omega), (fun k => by cases k), fun _ => ?_, fun _ j hj hji => fun e => hok.txs i j (by omega) hj (fun e => hji e.symm) (by omega) e.symm, fun _ j hj hji => ?_⟩
  · show t.cm ≤ t.cm + 1 ∧ t.cm + 1 ≤ 2147483647
    omega
  · show 1 ≤ t.cm + 1 ∧ t.cm + 1 ≤ t.cm + 1
    omega
  · show (t.en j).com ≠ t.cm + 1
    have := hok.com_le hj
    omega

theorem commit_may {t : Tb} (h : t.May) (tx : Int) : (commitT t tx).1.May := by
  unfold commitT
  cases hf : findN t tx with
  | none => exact h
  | some i =>
    simp only
    by_cases h1 : (t.en i).st ≠ 1 ∨ t.cm = 2147483647
    · rw [if_pos h1]; exact h
    · rw [if_neg h1]
      exact (commit_turn h hf h1).ok h.ok' |>.may

theorem leave_turn {t : Tb} (h : t.May) {tx : Int} {i : Nat} (hf : findN t tx = some i) : TurnOk t i En.zero (t.set i En.zero) := by
  have hl := h.len
  obtain ⟨hi, h0, he⟩ := find_some hf
  exact ⟨by omega, (Tb.set_len t i _).trans hl, fun j => Tb.set_en hi _ j, ⟨Int.le_refl _, h.nx.2⟩, h.no, ⟨Int.le_refl _, h.cm.2⟩, by decide, fun _ => rfl, fun k => absurd rfl k, fun k => absurd rfl k, fun _ => rfl, (fun k => by cases k), fun k => absurd rfl k, fun k => by cases k⟩

theorem leave_may {t : Tb} (h : t.May) (tx : Int) : (leaveT t tx).1.May := by
  unfold leaveT
  cases hf : findN t tx with
  | none => exact h
  | some i => exact (leave_turn h hf).ok h.ok' |>.may

/-! ### Commits are counted -/
/-- Those that are done, in the order in which they were committed. -/
structure Counted (t : Tb) (D : List (Int × Int)) : Prop where
  may : t.May
  rise : D.Pairwise (fun a b => a.2 < b.2)
  mem : ∀ x c, (x, c) ∈ D ↔ ∃ i, i < 12 ∧ (t.en i).st = 2 ∧ (t.en i).tx = x ∧ (t.en i).com = c

theorem Counted.first : Counted firstT [] := by
  refine ⟨first_may, List.Pairwise.nil, fun x c => ⟨(fun h => by cases h), ?_⟩⟩
  rintro ⟨i, hi, hs, _⟩
  have hz : firstT.en i = En.zero := by
    show (List.replicate 12 En.zero).getD i En.zero = En.zero
    rw [List.getD_eq_getElem?_getD, List.getElem?_replicate]
    split <;> rfl
  rw [hz] at hs
  cases hs

/-- An entry that was not done, and is not. -/
theorem Counted.still {t : Tb} {D : List (Int × Int)} (h : Counted t D) {i : Nat} {e : En} {u : Tb} (k : TurnOk t i e u) (h1 : (t.en i).st ≠ 2) (h2 : e.st ≠ 2) : Counted u D := by
  refine ⟨(k.ok h.may.ok').may, h.rise, fun x c => (h.mem x c).trans ⟨?_, ?_⟩⟩
  · rintro ⟨j, hj, a, b, d⟩
    have ej : j ≠ i := fun e => h1 (by rw [← e]; exact a)
    exact ⟨j, hj, by rw [k.at' j, if_neg ej]; exact ⟨a, b, d⟩⟩
  · rintro ⟨j, hj, a⟩
    rw [k.at' j] at a
    by_cases ej : j = i
    · rw [if_pos ej] at a; exact absurd a.1 h2
    · rw [if_neg ej] at a; exact ⟨j, hj, a⟩

theorem Counted.enter {t : Tb} {D : List (Int × Int)} (h : Counted t D) (tx : Int) : Counted (enterT t tx).1 D := by
  unfold enterT
  by_cases h1 : tx < 1 ∨ 2147483646 < tx
  · rw [if_pos h1]; exact h
  · rw [if_neg h1]
    cases hf : findN t tx with
    | some _ => exact h
    | none =>
      cases hr : freeN t with
      | none => exact h
      | some i => exact h.still (enter_turn h.may h1 hf hr) (by rw [(free_some hr).2]; decide) (by show ¬ (1 : Int) = 2; decide)

theorem Counted.write {t : Tb} {D : List (Int × Int)} (h : Counted t D) (tx c : Int) : Counted (writeT t tx c).1 D := by
  unfold writeT
  cases hf : findN t tx with
  | none => exact h
  | some i =>
    simp only
    by_cases h1 : (t.en i).st ≠ 1 ∨ t.no = 2147483647
    · rw [if_pos h1]; exact h
    · rw [if_neg h1]
      by_cases h2 : c < 0 ∨ 65535 < c
      · rw [if_pos h2]; exact h
      · rw [if_neg h2]
        exact h.still (write_turn h.may hf h1 h2) (by omega) (by show ¬ (t.en i).st = 2; omega)

/-- Who is committed is the last of them. -/
theorem Counted.commit {t : Tb} {D : List (Int × Int)} (h : Counted t D) (tx : Int) (he : (commitT t tx).2.2 = 0) : Counted (commitT t tx).1 (D ++ [(tx, t.cm + 1)]) ∧ (commitT t tx).2.1 = t.cm + 1 := by
  unfold commitT at he ⊢
  cases hf : findN t tx with
  | none => rw [hf] at he; cases he
  | some i =>
    rw [hf] at he
    simp only at he ⊢
    by_cases h1 : (t.en i).st ≠ 1 ∨ t.cm = 2147483647
    · rw [if_pos h1] at he; cases he
    · rw [if_neg h1]
      refine ⟨?_, rfl⟩
      have k := commit_turn h.may hf h1
      obtain ⟨hi, h0, htx⟩ := find_some hf
      have hi12 : i < 12 := k.lt
      have hok := h.may.ok'
      refine ⟨(k.ok hok).may, ?_, fun x c => ?_⟩
      · refine List.pairwise_append.2 ⟨h.rise, List.pairwise_singleton _ _, fun a ha b hb => ?_⟩
        rw [List.mem_singleton.1 hb]
        obtain ⟨j, hj, _, _, hc⟩ := (h.mem a.1 a.2).1 ha
        have := hok.com_le hj
        show a.2 < t.cm + 1
        omega
      · rw [List.mem_append, h.mem x c]
        constructor
        · rintro (⟨j, hj, a, b, d⟩ | hx)
          · have ej : j ≠ i := fun e => by rw [e] at a; omega
            exact ⟨j, hj, by rw [k.at' j, if_neg ej]; exact ⟨a, b, d⟩⟩
          · have e := List.mem_singleton.1 hx
            simp only [Prod.mk.injEq] at e
            refine ⟨i, hi12, ?_⟩
            rw [k.at' i, if_pos rfl, e.1, e.2]
            exact ⟨rfl, htx, rfl⟩
        · rintro ⟨j, hj, a⟩
          rw [k.at' j] at a
          by_cases ej : j = i
          · rw [if_pos ej] at a
            right
            rw [List.mem_singleton, ← a.2.1, ← a.2.2, ← htx]
          · rw [if_neg ej] at a
            exact .inl ⟨j, hj, a⟩

theorem Counted.leave {t : Tb} {D : List (Int × Int)} (h : Counted t D) (tx : Int) (he : (leaveT t tx).2 = 0) : Counted (leaveT t tx).1 (D.filter (fun a => a.1 != tx)) := by
  unfold leaveT at he ⊢
  cases hf : findN t tx with
  | none => rw [hf] at he; cases he
  | some i =>
    simp only
    have k := leave_turn h.may hf
    obtain ⟨hi, h0, htx⟩ := find_some hf
    have hok := h.may.ok'
    refine ⟨(k.ok hok).may, List.Pairwise.filter _ h.rise, fun x c => ?_⟩
    rw [List.mem_filter, h.mem x c]
    constructor
    · rintro ⟨⟨j, hj, a, b, d⟩, hx⟩
      have ej : j ≠ i := fun e => by
        rw [e, htx] at b
        simp [b] at hx
      exact ⟨j, hj, by rw [k.at' j, if_neg ej]; exact ⟨a, b, d⟩⟩
    · rintro ⟨j, hj, a⟩
      rw [k.at' j] at a
      by_cases ej : j = i
      · rw [if_pos ej] at a; cases a.1
      · rw [if_neg ej] at a
        refine ⟨⟨j, hj, a⟩, ?_⟩
        have hne := hok.txs j i hj k.lt ej (by omega)
        rw [htx, a.2.1] at hne
        simp [hne]

/-- The eldest is the first of them. -/
theorem Counted.eldest {t : Tb} {D : List (Int × Int)} (h : Counted t D) : eldestT t = match D.map Prod.fst with | [] => 0 | x :: _ => x := by
  have hl := h.may.len
  obtain ⟨e1, e2⟩ := eldN_says t t.es.length
  unfold eldestT
  cases hD : D with
  | nil =>
    cases he : eldN t t.es.length with
    | none => rfl
    | some i =>
      obtain ⟨a, b, _⟩ := e1 i he
      have := (h.mem (t.en i).tx (t.en i).com).2 ⟨i, by omega, b, rfl, rfl⟩
      rw [hD] at this
      cases this
  | cons p r =>
    obtain ⟨x, c⟩ := p
    obtain ⟨j, hj, a, b, d⟩ := (h.mem x c).1 (by rw [hD]; exact List.mem_cons_self ..)
    cases he : eldN t t.es.length with
    | none => exact absurd a (e2 he j (by omega))
    | some i =>
      obtain ⟨a', b', d'⟩ := e1 i he
      have hle := d' j (by omega) a
      have hm := (h.mem (t.en i).tx (t.en i).com).2 ⟨i, by omega, b', rfl, rfl⟩
      have hr := h.rise
      rw [hD] at hm hr
      have hij : i = j := by
        rcases Nat.decEq i j with hne | heq
        · exfalso
          have hne' := h.may.ok'.coms i j (by omega) hj hne b'
          rcases List.mem_cons.1 hm with hm | hm
          · simp only [Prod.mk.injEq] at hm
            exact hne' (hm.2.trans d.symm)
          · have := (List.pairwise_cons.1 hr).1 _ hm
            simp only at this
            omega
        · exact heq
      show (t.en i).tx = x
      rw [hij]
      exact b

/-! ### Twelve have room -/
def actE (x : Int) : En := ⟨x, 1, 0, 0⟩
structure Filled (t : Tb) (xs : List Int) : Prop where
  may : t.May
  es : t.es = xs.map actE ++ List.replicate (12 - xs.length) En.zero
  le : xs.length ≤ 12
  pos : ∀ x ∈ xs, 0 < x

theorem Filled.first : Filled firstT [] := ⟨first_may, by simp [firstT], by simp, fun x hx => by cases hx⟩

theorem Filled.at_lt {t : Tb} {xs : List Int} (h : Filled t xs) {j : Nat} (hj : j < xs.length) : t.en j = actE xs[j] := by
  unfold Tb.en
  rw [h.es, List.getD_eq_getElem?_getD, List.getElem?_append_left (by simpa using hj)]
  simp [hj]
theorem Filled.at_ge {t : Tb} {xs : List Int} (h : Filled t xs) {j : Nat} (hj : xs.length ≤ j) : t.en j = En.zero := by
  unfold Tb.en
  rw [h.es, List.getD_eq_getElem?_getD, List.getElem?_append_right (by simpa using hj), List.getElem?_replicate]
  split <;> rfl

theorem Filled.find_no {t : Tb} {xs : List Int} (h : Filled t xs) {x : Int} (hx : 0 < x) (hn : x ∉ xs) : findN t x = none := by
  refine idx_no (fun j hj => ?_)
  show isTx x (t.en j) = false
  unfold isTx
  rcases Nat.lt_or_ge j xs.length with hlt | hge
  · rw [h.at_lt hlt]
    have : xs[j] ≠ x := fun e => hn (by rw [← e]; exact List.getElem_mem hlt)
    simp [actE, this]
  · rw [h.at_ge hge]
    have : (0 : Int) ≠ x := by omega
    simp [En.zero, this]

theorem Filled.free {t : Tb} {xs : List Int} (h : Filled t xs) : freeN t = if xs.length < 12 then some xs.length else none := by
  have hl := h.may.len
  have hf : ∀ j, j < xs.length → isFree (t.es.getD j En.zero) = false := fun j hj => by
    show isFree (t.en j) = false
    rw [h.at_lt hj]
    rfl
  by_cases hc : xs.length < 12
  · rw [if_pos hc]
    refine idx_is (by omega) ?_ hf
    show isFree (t.en xs.length) = true
    rw [h.at_ge (Nat.le_refl _)]
    rfl
  · rw [if_neg hc]
    exact idx_no (fun j hj => hf j (by omega))

/-- One more. -/
theorem Filled.more {t : Tb} {xs : List Int} (h : Filled t xs) {x : Int} (hx : 0 < x) (hb : x ≤ 2147483646) (hn : x ∉ xs) (hl : xs.length < 12) : (enterT t x).2 = (((xs.length : Nat) : Int), 0) ∧ Filled (enterT t x).1 (xs ++ [x]) := by
  have hm := enter_may h.may x
  have hfr := h.free
  rw [if_pos hl] at hfr
  have e : enterT t x = ({ t.set xs.length ⟨x, 1, 0, 0⟩ with nx := if t.nx ≤ x then x + 1 else t.nx }, ((xs.length : Nat) : Int), 0) := by
    unfold enterT
    rw [if_neg (by omega), h.find_no hx hn, hfr]
  rw [e] at hm ⊢
  refine ⟨rfl, hm, ?_, by simp; omega, ?_⟩
  · show t.es.set xs.length ⟨x, 1, 0, 0⟩ = _
    rw [h.es, List.set_append_right _ _ (by simp)]
    obtain ⟨n, hn⟩ : ∃ n, 12 - xs.length = n + 1 := ⟨12 - xs.length - 1, by omega⟩
    rw [hn, show 12 - (xs ++ [x]).length = n by simp; omega]
    simp [List.replicate_succ, actE]
  · intro y hy
    rcases List.mem_append.1 hy with hy | hy
    · exact h.pos y hy
    · rw [List.mem_singleton.1 hy]; exact hx

theorem Filled.full {t : Tb} {xs : List Int} (h : Filled t xs) {x : Int} (hx : 0 < x) (hb : x ≤ 2147483646) (hn : x ∉ xs) (hl : xs.length = 12) : enterT t x = (t, -1, 12) := by
  have hfr := h.free
  rw [if_neg (by omega)] at hfr
  unfold enterT
  rw [if_neg (by omega), h.find_no hx hn, hfr]

/-- One leaves, and another one comes in. -/
theorem Filled.swap {t : Tb} {xs : List Int} (h : Filled t xs) (hd : xs.Nodup) (hl : xs.length = 12) {k : Nat} (hk : k < 12) {x : Int} (hx : 0 < x) (hb : x ≤ 2147483646) (hn : x ∉ xs) :
    (leaveT t (xs.getD k 0)).2 = 0 ∧ (enterT (leaveT t (xs.getD k 0)).1 x).2 = (((k : Nat) : Int), 0) := by
  have hk' : k < xs.length := by omega
  have hte : t.es.length = 12 := h.may.len
  have hgk : xs.getD k 0 = xs[k] := by simp [List.getD, hk']
  have hpk : 0 < xs[k] := h.pos _ (List.getElem_mem hk')
  have hf : findN t (xs.getD k 0) = some k := by
    rw [hgk]
    refine idx_is (by omega) ?_ (fun j hj => ?_)
    · show isTx xs[k] (t.en k) = true
      rw [h.at_lt hk']
      simp [isTx, actE, hpk]
    · show isTx xs[k] (t.en j) = false
      rw [h.at_lt (by omega)]
      have : xs[j] ≠ xs[k] := fun e => by
        have := (List.getElem_inj hd).1 e
        omega
      simp [isTx, actE, this]
  have el : leaveT t (xs.getD k 0) = (t.set k En.zero, 0) := by unfold leaveT; rw [hf]
  rw [el]
  refine ⟨rfl, ?_⟩
  have hat : ∀ j, (t.set k En.zero).en j = if j = k then En.zero else t.en j := fun j => Tb.set_en (by omega) _ j
  have hlen : (t.set k En.zero).es.length = 12 := (Tb.set_len ..).trans hte
  have hfn : findN (t.set k En.zero) x = none := by
    refine idx_no (fun j hj => ?_)
    show isTx x ((t.set k En.zero).en j) = false
    rw [hat j]
    have hz : isTx x En.zero = false := by
      have : (0 : Int) ≠ x := by omega
      simp [isTx, En.zero, this]
    by_cases ej : j = k
    · rw [if_pos ej]; exact hz
    · rw [if_neg ej]
      have hj' : j < xs.length := by omega
      rw [h.at_lt hj']
      have : xs[j] ≠ x := fun e => hn (by rw [← e]; exact List.getElem_mem hj')
      simp [isTx, actE, this]
  have hfr : freeN (t.set k En.zero) = some k := by
    refine idx_is (by omega) ?_ (fun j hj => ?_)
    · show isFree ((t.set k En.zero).en k) = true
      rw [hat k, if_pos rfl]
      rfl
    · show isFree ((t.set k En.zero).en j) = false
      rw [hat j, if_neg (by omega), h.at_lt (by omega)]
      rfl
  unfold enterT
  rw [if_neg (by omega), hfn, hfr]

end Go.Proofs.Ytdbgbldmjgonjaa
