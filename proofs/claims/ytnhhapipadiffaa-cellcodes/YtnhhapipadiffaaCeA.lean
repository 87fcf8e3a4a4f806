/-
  Cells of a page, without memory: their bytes, and which cells a page's text is. Nothing of the program.
-/
import Derived.Test.YtnhhapipadiffaaUrB
namespace Go.Proofs.Ytnhhapipadiffaa
open Go.RowKit

theorem zeroU_may : zeroU.may = false := by decide

/-- A row that bytes are fits its kinds. -/
theorem dec_fits {xs : List Nat} (hx : Bytes xs) (hl : xs.length ≤ 1000000) {r : Rw} (h : decB xs = some r) : r.fits := by
  unfold decB at h
  split at h
  · cases h
  · rename_i l q h1
    split at h
    · cases h
    · rename_i m q2 h2
      split at h
      · cases h
      · simp only [Option.some.injEq] at h
        subst h
        have hb : Bytes (xs.drop q) := fun x hh => hx x (List.mem_of_mem_drop hh)
        refine rowOf_fits ?_ ?_ ?_
        · exact tks_fits hx hl _ _ _ _ headK_mem (Nat.zero_le _) (fun i hi => by cases hi) h1
        · have := tks_len _ _ _ _ _ h1
          simpa [headK] using this
        · exact tks_fits hb (by rw [List.length_drop]; omega) _ _ _ _ (fun k hk => by rw [(List.mem_replicate.1 hk).2]; decide) (Nat.zero_le _) (fun i hi => by cases hi) h2

theorem rowD_fits (s : ByteArray) (hs : s.size ≤ 1000000) : (rowD s).fits := by
  unfold rowD
  cases hd : decB (strB s) with
  | none => exact zeroR_fits
  | some r => exact dec_fits (strB_bytes s) (by rw [strB_length]; exact hs) hd

theorem undoOf_fits' {l : List It} (hl : ∀ i ∈ l, i.fits) (h7 : l.length = 7) {r : Rw} (hr : r.fits) : (undoOf l r).fits := by
  have g : ∀ j, j < 7 → (l.getD j itD).fits := fun j hj => by
    have hj' : j < l.length := by omega
    have := hl _ (List.getElem_mem hj')
    simpa [List.getD, hj'] using this
  exact ⟨(g 1 (by omega)).2.1, (g 2 (by omega)).2.1, (g 3 (by omega)).2.1, (g 0 (by omega)).2.1, (g 4 (by omega)).2.1, (g 5 (by omega)).2.1, hr⟩

/-- An undoing that bytes are may be, has these bytes, and fits its kinds. -/
theorem decU_canon {xs : List Nat} (hx : Bytes xs) (hl : xs.length ≤ 1000000) {u : Un} (h : decU xs = some u) : u.may = true ∧ u.bytes = xs ∧ u.fits := by
  cases hT : tks xs undoK [] 0 with
  | none => unfold decU at h; rw [hT] at h; cases h
  | some lq =>
    obtain ⟨l, q⟩ := lq
    have hlf := tks_fits hx hl _ _ _ _ undoK_mem (Nat.zero_le _) (fun i hi => by cases hi) hT
    have h7 : l.length = 7 := by have := tks_len _ _ _ _ _ hT; simpa [undoK] using this
    have hs : (l.getD 6 itD).s.size ≤ 1000000 := by
      have hc := tks_canon5 hx undoK [] 0 _ undoK_mem (Nat.zero_le _) (by simp [putB]) hT
      obtain ⟨n0, n1, n2, n3, n4, n5, s, rfl⟩ := undo_form hT
      have e := congrArg List.length hc.1
      simp only [putB, List.flatMap_cons, List.flatMap_nil, List.append_nil, List.length_append, List.length_take] at e
      have h5 : (It.bytes ⟨5, 0, 0, s⟩).length = 1 + s.size := by simp [It.bytes, strB_length]; omega
      rw [h5] at e
      show s.size ≤ _
      omega
    have hf := undoOf_fits' hlf h7 (rowD_fits _ hs)
    have hd := dec_ref hx hT hf
    rw [h] at hd
    split at hd
    · rename_i hy
      simp only [Option.some.injEq] at hd
      rw [hd]
      exact ⟨hy.1, hy.2, hf⟩
    · cases hd

/-- An undoing's bytes in a cell: none, where it is empty. -/
def Un.cellX (u : Un) : List Nat := if u.same zeroU = true then [] else u.bytes
/-- A cell. -/
def cellB (u : Un) : List Nat := u.cellX.length :: (u.cellX ++ List.replicate (71 - u.cellX.length) 0)
/-- May an undoing lie in a cell? -/
def Un.inC (u : Un) : Bool := u.same zeroU || u.may
def MayC (l : List Un) : Bool := l.all Un.inC && l.length == 6
/-- A page's text. -/
def textC (l : List Un) : List Nat := 85 :: (l.flatMap cellB ++ List.replicate 75 0)

theorem Un.cellX_zero {u : Un} (h : u.same zeroU = true) : u.cellX = [] := if_pos h
theorem Un.cellX_some {u : Un} (h : u.same zeroU = false) : u.cellX = u.bytes := if_neg (by rw [h]; decide)

theorem Un.inC_may {u : Un} (h : u.inC = true) (hz : u.same zeroU = false) : u.may = true := by
  unfold Un.inC at h
  rw [hz] at h
  exact h

theorem Un.may_ne {u : Un} (h : u.may = true) : u.same zeroU = false := by
  cases hs : u.same zeroU
  · rfl
  · rw [Un.same_eq hs, zeroU_may] at h
    cases h

theorem Un.may_inC {u : Un} (h : u.may = true) : u.inC = true := by unfold Un.inC; rw [h, Bool.or_true]
theorem zeroU_inC : zeroU.inC = true := by unfold Un.inC; rw [Un.same_self]; rfl

theorem cellX_len {u : Un} (h : u.inC = true) : u.cellX.length ≤ 66 := by
  cases hz : u.same zeroU
  · rw [Un.cellX_some hz]; exact Un.bytes_66 (Un.inC_may h hz)
  · rw [Un.cellX_zero hz]; exact Nat.zero_le _

theorem cellX_bytes {u : Un} (h : u.inC = true) : Bytes u.cellX := by
  cases hz : u.same zeroU
  · rw [Un.cellX_some hz]; exact Un.bytes_bytes (Un.inC_may h hz)
  · rw [Un.cellX_zero hz]; intro x hx; cases hx

theorem cellB_len {u : Un} (h : u.inC = true) : (cellB u).length = 72 := by
  have := cellX_len h
  simp [cellB]
  omega

theorem cellB_bytes {u : Un} (h : u.inC = true) : Bytes (cellB u) := by
  intro x hx
  simp only [cellB, List.mem_cons, List.mem_append, List.mem_replicate] at hx
  rcases hx with rfl | hx | ⟨_, rfl⟩
  · have := cellX_len h; omega
  · exact cellX_bytes h x hx
  · decide

def zerosB (xs : List Nat) : Bool := xs.all (fun x => x == 0)
theorem zerosB_iff {xs : List Nat} : zerosB xs = true ↔ ∀ x ∈ xs, x = 0 := by simp [zerosB]

/-- Which undoing a cell is. -/
def cellR (c : List Nat) : Option Un :=
  if c.getD 0 0 = 0 then (if zerosB (c.drop 1) = true then some zeroU else none)
  else if 71 < c.getD 0 0 then none
  else match decU ((c.drop 1).take (c.getD 0 0)) with
    | none => none
    | some u => if zerosB (c.drop (1 + c.getD 0 0)) = true then some u else none

theorem cellR_cellB {u : Un} (h : u.inC = true) (hf : u.fits) : cellR (cellB u) = some u := by
  have hl := cellX_len h
  unfold cellR
  have e0 : (cellB u).getD 0 0 = u.cellX.length := rfl
  have e1 : (cellB u).drop 1 = u.cellX ++ List.replicate (71 - u.cellX.length) 0 := rfl
  rw [e0]
  cases hz : u.same zeroU
  · have hm := Un.inC_may h hz
    have hx := Un.cellX_some hz
    have hb := Un.bytes_len u
    have hn : ¬ u.cellX.length = 0 := by rw [hx, hb]; omega
    rw [if_neg hn, if_neg (by omega)]
    have e2 : ((cellB u).drop 1).take u.cellX.length = u.bytes := by
      rw [e1, List.take_append_of_le_length (Nat.le_refl _), List.take_of_length_le (Nat.le_refl _), hx]
    rw [e2, dec_undo hm hf]
    simp only
    rw [if_pos]
    refine zerosB_iff.2 fun x hxm => ?_
    rw [← List.drop_drop, e1, List.drop_append_of_le_length (Nat.le_refl _), List.drop_of_length_le (Nat.le_refl _), List.nil_append] at hxm
    exact (List.mem_replicate.1 hxm).2
  · have hx := Un.cellX_zero hz
    rw [if_pos (by rw [hx]; rfl), if_pos, Un.same_eq hz]
    refine zerosB_iff.2 fun x hxm => ?_
    rw [e1, hx, List.nil_append] at hxm
    exact (List.mem_replicate.1 hxm).2

theorem all_zero {xs : List Nat} (h : ∀ x ∈ xs, x = 0) : xs = List.replicate xs.length 0 := List.eq_replicate_iff.2 ⟨rfl, h⟩

theorem cellB_cellR {c : List Nat} (hc : Bytes c) (hl : c.length = 72) {u : Un} (h : cellR c = some u) : cellB u = c ∧ u.inC = true ∧ u.fits := by
  match c, hl with
  | n :: r, hl =>
    have hr : r.length = 71 := by simpa using hl
    have hb : Bytes r := fun x hx => hc x (by simp [hx])
    unfold cellR at h
    simp only [List.getD_cons_zero, List.drop_succ_cons, List.drop_zero] at h
    split at h
    · rename_i h0
      split at h
      · rename_i hz
        simp only [Option.some.injEq] at h
        subst h
        refine ⟨?_, zeroU_inC, zeroU_fits⟩
        have e := all_zero (zerosB_iff.1 hz)
        rw [hr] at e
        rw [e, h0]
        have hx : zeroU.cellX = [] := Un.cellX_zero (Un.same_self _)
        simp only [cellB, hx]
        rfl
      · cases h
    · split at h
      · cases h
      · rename_i h0 h71
        split at h
        · cases h
        · rename_i u' hd
          split at h
          · rename_i hz
            simp only [Option.some.injEq] at h
            subst h
            have hbt : Bytes (r.take n) := fun x hx => hb x (List.mem_of_mem_take hx)
            obtain ⟨hm, hby, hfit⟩ := decU_canon hbt (by rw [List.length_take]; omega) hd
            refine ⟨?_, Un.may_inC hm, hfit⟩
            have hx : u'.cellX = r.take n := by rw [Un.cellX_some (Un.may_ne hm), hby]
            have hxl : (r.take n).length = n := by rw [List.length_take]; omega
            have hz' : ∀ x ∈ r.drop n, x = 0 := by
              rw [Nat.add_comm, List.drop_succ_cons] at hz
              exact zerosB_iff.1 hz
            have e := all_zero hz'
            rw [List.length_drop, hr] at e
            simp only [cellB, hx, hxl]
            rw [← e, List.take_append_drop]
          · cases h

/-- The bytes of cell i. -/
def pieceC (t : List Nat) (i : Nat) : List Nat := (t.drop (1 + 72 * i)).take 72

theorem flat_len : ∀ {l : List Un}, (∀ u ∈ l, u.inC = true) → (l.flatMap cellB).length = 72 * l.length
  | [], _ => rfl
  | u :: l, h => by
    simp only [List.flatMap_cons, List.length_append, List.length_cons]
    rw [cellB_len (h u (by simp)), flat_len (fun v hv => h v (by simp [hv]))]
    omega

theorem flat_piece : ∀ {l : List Un}, (∀ u ∈ l, u.inC = true) → ∀ (r : List Nat) (i : Nat), i < l.length → ((l.flatMap cellB ++ r).drop (72 * i)).take 72 = cellB (l.getD i zeroU)
  | [], _, r, i, hi => by simp at hi
  | u :: l, h, r, 0, _ => by
    have hu := cellB_len (h u (by simp))
    simp only [List.flatMap_cons, Nat.mul_zero, List.drop_zero, List.append_assoc, List.getD_cons_zero]
    rw [List.take_append_of_le_length (by omega), List.take_of_length_le (by omega)]
  | u :: l, h, r, i + 1, hi => by
    have hu := cellB_len (h u (by simp))
    simp only [List.flatMap_cons, List.append_assoc, List.getD_cons_succ]
    rw [show 72 * (i + 1) = (cellB u).length + 72 * i by omega, ← List.drop_drop, List.drop_left]
    exact flat_piece (fun v hv => h v (by simp [hv])) r i (by simpa using hi)

theorem MayC.parts {l : List Un} (h : MayC l = true) : (∀ u ∈ l, u.inC = true) ∧ l.length = 6 := by
  simp only [MayC, Bool.and_eq_true, List.all_eq_true, beq_iff_eq] at h
  exact h

theorem textC_len {l : List Un} (h : MayC l = true) : (textC l).length = 508 := by
  obtain ⟨h1, h2⟩ := MayC.parts h
  simp only [textC, List.length_cons, List.length_append, List.length_replicate]
  rw [flat_len h1, h2]

theorem textC_bytes {l : List Un} (h : MayC l = true) : Bytes (textC l) := by
  obtain ⟨h1, h2⟩ := MayC.parts h
  intro x hx
  simp only [textC, List.mem_cons, List.mem_append, List.mem_replicate, List.mem_flatMap] at hx
  rcases hx with rfl | ⟨u, hu, hx⟩ | ⟨_, rfl⟩
  · decide
  · exact cellB_bytes (h1 u hu) x hx
  · decide

theorem textC_piece {l : List Un} (h : MayC l = true) (i : Nat) (hi : i < 6) : pieceC (textC l) i = cellB (l.getD i zeroU) := by
  obtain ⟨h1, h2⟩ := MayC.parts h
  unfold pieceC textC
  rw [Nat.add_comm 1, List.drop_succ_cons]
  exact flat_piece h1 _ i (by omega)

theorem textC_tail {l : List Un} (h : MayC l = true) : (textC l).drop 433 = List.replicate 75 0 := by
  obtain ⟨h1, h2⟩ := MayC.parts h
  have e := flat_len h1
  rw [h2] at e
  unfold textC
  rw [show (433 : Nat) = 432 + 1 from rfl, List.drop_succ_cons, show (432 : Nat) = (l.flatMap cellB).length by omega, List.drop_left]

/-- The text t is the cells l. -/
structure ReadC (t : List Nat) (l : List Un) : Prop where
  six : l.length = 6
  mark : t.getD 0 0 = 85
  cell : ∀ i, i < 6 → cellR (pieceC t i) = some (l.getD i zeroU)
  tail : ∀ x ∈ t.drop 433, x = 0

theorem text_read {l : List Un} (h : MayC l = true) (hf : ∀ u ∈ l, u.fits) : ReadC (textC l) l := by
  obtain ⟨h1, h2⟩ := MayC.parts h
  refine ⟨h2, rfl, fun i hi => ?_, fun x hx => ?_⟩
  · have hm : l.getD i zeroU ∈ l := by
      have : i < l.length := by omega
      simp [List.getD, this]
    rw [textC_piece h i hi, cellR_cellB (h1 _ hm) (hf _ hm)]
  · rw [textC_tail h] at hx
    exact (List.mem_replicate.1 hx).2

theorem six_form {l : List Un} (h : l.length = 6) : l = [l.getD 0 zeroU, l.getD 1 zeroU, l.getD 2 zeroU, l.getD 3 zeroU, l.getD 4 zeroU, l.getD 5 zeroU] := by
  match l, h with
  | [a, b, c, d, e, f], _ => rfl

theorem piece_len {t : List Nat} (hl : t.length = 508) (i : Nat) (hi : i < 6) : (pieceC t i).length = 72 := by
  unfold pieceC
  rw [List.length_take, List.length_drop]
  omega

theorem piece_bytes {t : List Nat} (hb : Bytes t) (i : Nat) : Bytes (pieceC t i) := fun x hx => hb x (List.mem_of_mem_drop (List.mem_of_mem_take hx))

theorem pieces {t : List Nat} (hl : t.length = 508) : t = t.getD 0 0 :: (pieceC t 0 ++ pieceC t 1 ++ pieceC t 2 ++ pieceC t 3 ++ pieceC t 4 ++ pieceC t 5 ++ t.drop 433) := by
  have step : ∀ k : Nat, (t.drop k) = (t.drop k).take 72 ++ t.drop (k + 72) := fun k => by
    have := (List.take_append_drop 72 (t.drop k)).symm
    rw [List.drop_drop] at this
    exact this
  have h0 : t = t.getD 0 0 :: t.drop 1 := by
    match t, hl with
    | x :: r, _ => rfl
  unfold pieceC
  simp only [Nat.mul_zero, Nat.add_zero, Nat.reduceMul, Nat.reduceAdd, List.append_assoc]
  rw [← step 361, ← step 289, ← step 217, ← step 145, ← step 73, ← step 1]
  exact h0

theorem ReadC.text {t : List Nat} {l : List Un} (h : ReadC t l) (hb : Bytes t) (hl : t.length = 508) : textC l = t ∧ MayC l = true ∧ ∀ u ∈ l, u.fits := by
  have hc := fun i hi => cellB_cellR (piece_bytes hb i) (piece_len hl i hi) (h.cell i hi)
  have e6 := six_form h.six
  have hall : ∀ u ∈ l, u.inC = true ∧ u.fits := by
    intro u hu
    rw [e6] at hu
    simp only [List.mem_cons, List.not_mem_nil, or_false] at hu
    rcases hu with rfl | rfl | rfl | rfl | rfl | rfl
    · exact (hc 0 (by omega)).2
    · exact (hc 1 (by omega)).2
    · exact (hc 2 (by omega)).2
    · exact (hc 3 (by omega)).2
    · exact (hc 4 (by omega)).2
    · exact (hc 5 (by omega)).2
  refine ⟨?_, ?_, fun u hu => (hall u hu).2⟩
  · have ez := all_zero h.tail
    rw [List.length_drop, hl] at ez
    have ep := pieces hl
    rw [h.mark, ez, ← (hc 0 (by omega)).1, ← (hc 1 (by omega)).1, ← (hc 2 (by omega)).1, ← (hc 3 (by omega)).1, ← (hc 4 (by omega)).1, ← (hc 5 (by omega)).1] at ep
    rw [ep]
    unfold textC
    have ef : l.flatMap cellB = cellB (l.getD 0 zeroU) ++ cellB (l.getD 1 zeroU) ++ cellB (l.getD 2 zeroU) ++ cellB (l.getD 3 zeroU) ++ cellB (l.getD 4 zeroU) ++ cellB (l.getD 5 zeroU) := by
      conv => lhs; rw [e6]
      simp only [List.flatMap_cons, List.flatMap_nil, List.append_nil, List.append_assoc]
    rw [ef]
  · simp only [MayC, Bool.and_eq_true, List.all_eq_true, beq_iff_eq]
    exact ⟨fun u hu => (hall u hu).1, h.six⟩

theorem ReadC.one {t : List Nat} {l m : List Un} (h : ReadC t l) (k : ReadC t m) : l = m := by
  rw [six_form h.six, six_form k.six]
  have e : ∀ i, i < 6 → l.getD i zeroU = m.getD i zeroU := fun i hi => by
    have := (h.cell i hi).symm.trans (k.cell i hi)
    simpa using this
  rw [e 0 (by omega), e 1 (by omega), e 2 (by omega), e 3 (by omega), e 4 (by omega), e 5 (by omega)]

/-- A cell as the document reads it: what is none is the empty one. -/
def cellD (c : List Nat) : Un := (decU ((c.drop 1).take (c.getD 0 0))).getD zeroU

theorem decU_nil : decU [] = none := by decide

theorem cellR_D {c : List Nat} {u : Un} (h : cellR c = some u) : u = cellD c ∧ c.getD 0 0 ≤ 71 := by
  unfold cellR at h
  unfold cellD
  split at h
  · rename_i h0
    split at h
    · simp only [Option.some.injEq] at h
      rw [h0, List.take_zero, decU_nil]
      exact ⟨h.symm, by omega⟩
    · cases h
  · split at h
    · cases h
    · split at h
      · cases h
      · rename_i hd
        split at h
        · simp only [Option.some.injEq] at h
          rw [hd]
          exact ⟨h.symm, by omega⟩
        · cases h

/-- What the document takes for a page's text is one. -/
theorem read_iff {t : List Nat} (hb : Bytes t) (hl : t.length = 508) (l : List Un) (hf : ∀ u ∈ l, u.fits) : ReadC t l ↔ (MayC l = true ∧ textC l = t) := by
  constructor
  · intro h
    have := h.text hb hl
    exact ⟨this.2.1, this.1⟩
  · rintro ⟨h1, rfl⟩
    exact text_read h1 hf

theorem cellD_fits {c : List Nat} (hb : Bytes c) (hl : c.length ≤ 1000) : (cellD c).fits := by
  unfold cellD
  cases hd : decU ((c.drop 1).take (c.getD 0 0)) with
  | none => exact zeroU_fits
  | some u => exact (decU_canon (fun x hx => hb x (List.mem_of_mem_drop (List.mem_of_mem_take hx))) (by rw [List.length_take, List.length_drop]; omega) hd).2.2

end Go.Proofs.Ytnhhapipadiffaa
