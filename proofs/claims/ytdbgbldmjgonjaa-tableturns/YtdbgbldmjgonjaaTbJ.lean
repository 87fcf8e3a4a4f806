/-
  Pages of tables, without memory: their items, their bytes, and which table bytes are. Nothing of the program.
-/
import Derived.Test.YtdbgbldmjgonjaaTbA
import Derived.Test.YtdbgbldmjgonjaaPackJ
import Derived.Test.YtdbgbldmjgonjaaTalA
namespace Go.Proofs.Ytdbgbldmjgonjaa
open Go.RowKit
set_option linter.unusedVariables false

/-- A count. -/
def tbI (k n : Int) : It := ⟨k, n, 0, noS⟩
def headT (t : Tb) : List It := [tbI 1 84, tbI 3 t.nx, tbI 3 t.no, tbI 3 t.cm]
def entI (e : En) : List It := [tbI 1 e.st, tbI 3 e.tx, tbI 2 e.last, tbI 3 e.com]
def itemsT (t : Tb) : List It := headT t ++ t.es.flatMap entI
def tbK : List Int := [1, 3, 3, 3] ++ (List.replicate 12 [1, 3, 2, 3]).flatten

/-- What is sealed, and a page. -/
def bodyT (t : Tb) : List Nat := putB (itemsT t) ++ List.replicate (508 - (putB (itemsT t)).length) 0
def sealT (xs : List Nat) : List Nat := fourB (Ta.sum xs) ++ xs
def pageT (t : Tb) : List Nat := sealT (bodyT t)

/-- An entry whose parts have room. -/
structure En.May (e : En) : Prop where
  st : 0 ≤ e.st ∧ e.st ≤ 2
  tx : 0 ≤ e.tx ∧ e.tx ≤ 2147483647
  last : 0 ≤ e.last ∧ e.last ≤ 65535
  com : 0 ≤ e.com ∧ e.com ≤ 2147483647

theorem Tb.May.ent {t : Tb} (h : t.May) : ∀ e ∈ t.es, e.May := by
  intro e he
  obtain ⟨i, hi, rfl⟩ := List.mem_iff_getElem.1 he
  have hl := h.len
  have k := h.ok i (by omega)
  have en : t.en i = t.es[i] := en_get hi
  have hnx := h.nx
  have hcm := h.cm
  have hst := k.st
  by_cases h0 : (t.en i).st = 0
  · rw [← en, k.free h0]
    exact ⟨by decide, by decide, by decide, by decide⟩
  · have h1 := k.tx h0
    have h2 := k.last h0
    have h3 : 0 ≤ (t.en i).com ∧ (t.en i).com ≤ 2147483647 := by
      by_cases h4 : (t.en i).st = 1
      · rw [k.act h4]; decide
      · have := k.done (by omega)
        omega
    rw [← en]
    exact ⟨hst, by omega, h2, h3⟩

theorem tbI_may1 {n : Int} (h0 : 0 ≤ n) (h1 : n ≤ 255) : (tbI 1 n).may = true := by rw [tbI, may123 (.inl rfl)]; simp [maxN, noS_list, h0, h1]
theorem tbI_may2 {n : Int} (h0 : 0 ≤ n) (h1 : n ≤ 65535) : (tbI 2 n).may = true := by rw [tbI, may123 (.inr (.inl rfl))]; simp [maxN, noS_list, h0, h1]
theorem tbI_may3 {n : Int} (h0 : 0 ≤ n) (h1 : n ≤ 2147483647) : (tbI 3 n).may = true := by rw [tbI, may123 (.inr (.inr rfl))]; simp [maxN, noS_list, h0, h1]

theorem entI_may {e : En} (h : e.May) : ∀ i ∈ entI e, i.may = true := by
  have := h.st
  intro i hi
  simp only [entI, List.mem_cons, List.not_mem_nil, or_false] at hi
  rcases hi with rfl | rfl | rfl | rfl
  · exact tbI_may1 h.st.1 (by omega)
  · exact tbI_may3 h.tx.1 h.tx.2
  · exact tbI_may2 h.last.1 h.last.2
  · exact tbI_may3 h.com.1 h.com.2

theorem itemsT_may {t : Tb} (h : t.May) : ∀ i ∈ itemsT t, i.may = true := by
  have h1 := h.nx
  have h2 := h.no
  have h3 := h.cm
  intro i hi
  rcases List.mem_append.1 hi with hi | hi
  · simp only [headT, List.mem_cons, List.not_mem_nil, or_false] at hi
    rcases hi with rfl | rfl | rfl | rfl
    · exact tbI_may1 (by decide) (by decide)
    · exact tbI_may3 (by omega) (by omega)
    · exact tbI_may3 (by omega) (by omega)
    · exact tbI_may3 (by omega) (by omega)
  · obtain ⟨e, he, hi⟩ := List.mem_flatMap.1 hi
    exact entI_may (h.ent e he) i hi

theorem itemsT_all {t : Tb} (h : t.May) : (itemsT t).all It.may = true := List.all_eq_true.2 (itemsT_may h)

theorem itemsT_plain {t : Tb} : ∀ i ∈ itemsT t, ∃ k n, i = tbI k n ∧ 1 ≤ k ∧ k ≤ 3 := by
  intro i hi
  rcases List.mem_append.1 hi with hi | hi
  · simp only [headT, List.mem_cons, List.not_mem_nil, or_false] at hi
    rcases hi with rfl | rfl | rfl | rfl <;> exact ⟨_, _, rfl, by decide, by decide⟩
  · obtain ⟨e, he, hi⟩ := List.mem_flatMap.1 hi
    simp only [entI, List.mem_cons, List.not_mem_nil, or_false] at hi
    rcases hi with rfl | rfl | rfl | rfl <;> exact ⟨_, _, rfl, by decide, by decide⟩

theorem tbI_fits {k n : Int} (h1 : 1 ≤ k) (h2 : k ≤ 3) (hn : (Lit.int .i64 n).wf = true) : (tbI k n).fits := ⟨fits_i64 (by show _ ≤ k; omega) (by show k ≤ _; omega), hn, by show (0 : Nat) < _; decide, Nat.zero_le _⟩

theorem itemsT_fits {t : Tb} (h : t.May) : ∀ i ∈ itemsT t, i.fits := by
  intro i hi
  have hm := itemsT_may h i hi
  obtain ⟨k, n, rfl, h1, h2⟩ := itemsT_plain i hi
  have hk : k = 1 ∨ k = 2 ∨ k = 3 := by omega
  refine tbI_fits h1 h2 ?_
  rw [tbI, may123 hk] at hm
  simp only [Bool.and_eq_true, decide_eq_true_eq] at hm
  have : maxN k ≤ 2147483647 := by rcases hk with rfl | rfl | rfl <;> decide
  exact fits_i64 (by omega) (by omega)

theorem entI_len (l : List En) : (l.flatMap entI).length = 4 * l.length := by
  induction l with
  | nil => rfl
  | cons e l ih => rw [List.flatMap_cons, List.length_append, ih]; simp [entI]; omega

theorem itemsT_len {t : Tb} (h : t.es.length = 12) : (itemsT t).length = 52 := by
  unfold itemsT
  rw [List.length_append, entI_len, h]
  rfl

theorem entI_bytes (e : En) : (putB (entI e)).length = 11 := by simp [putB, entI, tbI, It.bytes, bigB_length]

theorem putB_app (l m : List It) : putB (l ++ m) = putB l ++ putB m := by simp [putB]

theorem entIs_bytes (l : List En) : (putB (l.flatMap entI)).length = 11 * l.length := by
  induction l with
  | nil => rfl
  | cons e l ih => rw [List.flatMap_cons, putB_app, List.length_append, ih, entI_bytes]; simp; omega

theorem itemsT_bytes {t : Tb} (h : t.es.length = 12) : (putB (itemsT t)).length = 145 := by
  unfold itemsT
  rw [putB_app, List.length_append, entIs_bytes, h]
  simp [putB, headT, tbI, It.bytes, bigB_length]

theorem bodyT_len {t : Tb} (h : t.es.length = 12) : (bodyT t).length = 508 := by
  unfold bodyT
  rw [List.length_append, itemsT_bytes h, List.length_replicate]

theorem pageT_len {t : Tb} (h : t.es.length = 12) : (pageT t).length = 512 := by
  unfold pageT sealT
  rw [List.length_append, bodyT_len h]
  rfl

theorem pageT_body (t : Tb) : (pageT t).drop 4 = bodyT t := rfl

theorem bodyT_bytes {t : Tb} (h : t.May) : Bytes (bodyT t) := by
  intro x hx
  rcases List.mem_append.1 hx with hx | hx
  · exact (putB_len (itemsT_may h)).2 x hx
  · rw [List.eq_of_mem_replicate hx]; decide

theorem itemsT_kinds {t : Tb} (h : t.es.length = 12) : (itemsT t).map It.kind = tbK := by
  have k : ∀ l : List En, (l.flatMap entI).map It.kind = (List.replicate l.length [1, 3, 2, 3]).flatten := by
    intro l
    induction l with
    | nil => rfl
    | cons e l ih => rw [List.flatMap_cons, List.map_append, ih]; rfl
  unfold itemsT tbK
  rw [List.map_append, k, h]
  rfl

theorem itemsT_took {t : Tb} (h : t.May) : tks (bodyT t) tbK [] 0 = some (itemsT t, 145) := by
  have hx : ∀ i ∈ itemsT t, i.x = 0 := fun i hi => by
    obtain ⟨k, n, rfl, _, _⟩ := itemsT_plain i hi
    rfl
  have q := tks_put (itemsT t) (bodyT t) (List.replicate (508 - (putB (itemsT t)).length) 0) [] 0 (fun i hi => ⟨itemsT_may h i hi, by rw [hx i hi]; decide⟩) (by simp [bodyT])
  rw [itemsT_kinds h.len, List.nil_append, Nat.zero_add, itemsT_bytes h.len] at q
  have hv : (itemsT t).map It.valued = itemsT t := by
    have : (itemsT t).map It.valued = (itemsT t).map id := List.map_congr_left (fun i hi => by
      obtain ⟨k, n, x, s⟩ := i
      have := hx _ hi
      simp only at this
      subst this
      simp [It.valued, val_zero])
    rw [this, List.map_id]
  rw [hv] at q
  exact q

theorem getI_left (l m : List It) {j : Nat} (h : j < l.length) : (l ++ m).getD j itD = l.getD j itD := by
  rw [List.getD_eq_getElem?_getD, List.getElem?_append_left h, ← List.getD_eq_getElem?_getD]
theorem getI_right (l m : List It) {j : Nat} (h : l.length ≤ j) : (l ++ m).getD j itD = m.getD (j - l.length) itD := by
  rw [List.getD_eq_getElem?_getD, List.getElem?_append_right h, ← List.getD_eq_getElem?_getD]

/-- The table of items. -/
def enOf (l : List It) (i : Nat) : En := ⟨(l.getD (5 + 4 * i) itD).n, (l.getD (4 + 4 * i) itD).n, (l.getD (6 + 4 * i) itD).n, (l.getD (7 + 4 * i) itD).n⟩
def esOf (l : List It) (k : Nat) : List En := (List.range k).map (enOf l)
def tbOf (l : List It) : Tb := ⟨(l.getD 1 itD).n, (l.getD 2 itD).n, (l.getD 3 itD).n, esOf l 12⟩

theorem esOf_len (l : List It) (k : Nat) : (esOf l k).length = k := by simp [esOf]
theorem esOf_succ (l : List It) (k : Nat) : esOf l (k + 1) = esOf l k ++ [enOf l k] := by simp [esOf, List.range_succ]

theorem entI_at : ∀ (l : List En) (i k : Nat), i < l.length → k < 4 → (l.flatMap entI).getD (4 * i + k) itD = (entI (l.getD i En.zero)).getD k itD
  | [], i, k, h, _ => absurd h (Nat.not_lt_zero _)
  | e :: l, 0, k, _, hk => by
    rw [List.flatMap_cons, getI_left _ _ (by show 4 * 0 + k < 4; omega)]
    simp
  | e :: l, i + 1, k, h, hk => by
    have h' : i < l.length := by simpa using h
    rw [List.flatMap_cons, getI_right _ _ (by show 4 ≤ 4 * (i + 1) + k; omega)]
    rw [show 4 * (i + 1) + k - (entI e).length = 4 * i + k by show 4 * (i + 1) + k - 4 = _; omega, entI_at l i k h' hk]
    simp

theorem enOf_items {t : Tb} {i : Nat} (h : i < t.es.length) : enOf (itemsT t) i = t.en i := by
  have g : ∀ k, k < 4 → (itemsT t).getD (4 + 4 * i + k) itD = (entI (t.en i)).getD k itD := fun k hk => by
    unfold itemsT
    rw [getI_right _ _ (by show 4 ≤ 4 + 4 * i + k; omega), show 4 + 4 * i + k - (headT t).length = 4 * i + k by show 4 + 4 * i + k - 4 = _; omega]
    exact entI_at t.es i k h hk
  have g0 := g 0 (by decide)
  have g1 := g 1 (by decide)
  have g2 := g 2 (by decide)
  have g3 := g 3 (by decide)
  unfold enOf
  rw [show 5 + 4 * i = 4 + 4 * i + 1 by omega, show 6 + 4 * i = 4 + 4 * i + 2 by omega, show 7 + 4 * i = 4 + 4 * i + 3 by omega, g1, g2, g3, show (4 + 4 * i) = 4 + 4 * i + 0 by omega, g0]
  rfl

theorem tbOf_items {t : Tb} (h : t.es.length = 12) : tbOf (itemsT t) = t := by
  have e : esOf (itemsT t) 12 = t.es := by
    refine List.ext_getElem (by rw [esOf_len, h]) (fun i h1 h2 => ?_)
    have : (esOf (itemsT t) 12)[i] = enOf (itemsT t) i := by simp [esOf]
    rw [this, enOf_items h2]
    exact en_get h2
  unfold tbOf
  rw [e]
  rfl

/-- Which table bytes are: and why none. -/
noncomputable def decT (xs : List Nat) : Tb × Int :=
  open Classical in
  if xs.length ≠ 512 then (Tb.zero, 1)
  else if xs = List.replicate 512 0 then (firstT, 0)
  else if sealT (xs.drop 4) ≠ xs then (Tb.zero, 5)
  else match tks (xs.drop 4) tbK [] 0 with
    | none => (Tb.zero, 4)
    | some (l, _) => if (tbOf l).May ∧ pageT (tbOf l) = xs then (tbOf l, 0) else (Tb.zero, 4)

theorem decT_len {xs : List Nat} (h : xs.length ≠ 512) : decT xs = (Tb.zero, 1) := by unfold decT; rw [if_pos h]
theorem decT_nul {xs : List Nat} (h : xs = List.replicate 512 0) : decT xs = (firstT, 0) := by unfold decT; rw [if_neg (by rw [h, List.length_replicate]; exact fun k => k rfl), if_pos h]
theorem decT_sum {xs : List Nat} (hl : xs.length = 512) (hz : xs ≠ List.replicate 512 0) (h : sealT (xs.drop 4) ≠ xs) : decT xs = (Tb.zero, 5) := by
  unfold decT
  rw [if_neg (fun k => k hl), if_neg hz, if_pos h]
theorem decT_none {xs : List Nat} (hl : xs.length = 512) (hz : xs ≠ List.replicate 512 0) (h : sealT (xs.drop 4) = xs) (hk : tks (xs.drop 4) tbK [] 0 = none) : decT xs = (Tb.zero, 4) := by
  unfold decT
  rw [if_neg (fun k => k hl), if_neg hz, if_neg (fun k => k h), hk]
theorem decT_bad {xs : List Nat} (hl : xs.length = 512) (hz : xs ≠ List.replicate 512 0) (h : sealT (xs.drop 4) = xs) {l : List It} {q : Nat} (hk : tks (xs.drop 4) tbK [] 0 = some (l, q)) (hn : ¬ ((tbOf l).May ∧ pageT (tbOf l) = xs)) : decT xs = (Tb.zero, 4) := by
  unfold decT
  rw [if_neg (fun k => k hl), if_neg hz, if_neg (fun k => k h), hk]
  simp only
  rw [if_neg hn]
theorem decT_good {xs : List Nat} (hl : xs.length = 512) (hz : xs ≠ List.replicate 512 0) (h : sealT (xs.drop 4) = xs) {l : List It} {q : Nat} (hk : tks (xs.drop 4) tbK [] 0 = some (l, q)) (hn : (tbOf l).May ∧ pageT (tbOf l) = xs) : decT xs = (tbOf l, 0) := by
  unfold decT
  rw [if_neg (fun k => k hl), if_neg hz, if_neg (fun k => k h), hk]
  simp only
  rw [if_pos hn]

theorem pageT_some {t : Tb} : pageT t ≠ List.replicate 512 0 := by
  intro h
  have h4 : (pageT t).drop 4 = (List.replicate 512 0).drop 4 := by rw [h]
  rw [pageT_body] at h4
  have hb : bodyT t = 84 :: ((putB [tbI 3 t.nx, tbI 3 t.no, tbI 3 t.cm] ++ putB (t.es.flatMap entI)) ++ List.replicate (508 - (putB (itemsT t)).length) 0) := by
    unfold bodyT
    rw [show putB (itemsT t) = 84 :: (putB [tbI 3 t.nx, tbI 3 t.no, tbI 3 t.cm] ++ putB (t.es.flatMap entI)) by rw [itemsT, putB_app]; rfl]
    rfl
  rw [hb, List.drop_replicate] at h4
  have := (List.cons.inj (h4.trans (by rfl : List.replicate (512 - 4) 0 = 0 :: List.replicate 507 0))).1
  cases this

/-- What is laid is read. -/
theorem decT_page {t : Tb} (h : t.May) : decT (pageT t) = (t, 0) := by
  have hk : tks ((pageT t).drop 4) tbK [] 0 = some (itemsT t, 145) := by rw [pageT_body]; exact itemsT_took h
  rw [decT_good (pageT_len h.len) pageT_some (by rw [pageT_body]; rfl) hk (by rw [tbOf_items h.len]; exact ⟨h, rfl⟩), tbOf_items h.len]

theorem pageT_inj {t u : Tb} (h : t.May) (k : u.May) (e : pageT t = pageT u) : t = u := by
  have := decT_page h
  rw [e, decT_page k] at this
  exact (Prod.mk.inj this).1.symm

/-- Bytes that are sealed are a table's page, or no table's. -/
theorem decT_seal {xs : List Nat} (hl : xs.length = 512) (hz : xs ≠ List.replicate 512 0) (hs : sealT (xs.drop 4) = xs) (h : ¬ ∃ t : Tb, t.May ∧ pageT t = xs) : decT xs = (Tb.zero, 4) := by
  cases hk : tks (xs.drop 4) tbK [] 0 with
  | none => exact decT_none hl hz hs hk
  | some p =>
    obtain ⟨l, q⟩ := p
    exact decT_bad hl hz hs hk (fun c => h ⟨_, c⟩)

end Go.Proofs.Ytdbgbldmjgonjaa
