/-
  Undoings, without memory: which may be, their items and bytes, and which undoing bytes are. Nothing of the program.
-/
import Derived.Test.YtnhhapipadiffaaRowR1
namespace Go.Proofs.Ytnhhapipadiffaa
open Go.RowKit

/-- An undoing, as its parts. -/
structure Un where
  tx : Int
  no : Int
  prev : Int
  kind : Int
  page : Int
  slot : Int
  row : Rw

/-- An undoing as a value; c is its row's list. -/
def Un.val (u : Un) (c : Value) : Value := .agg #[.int .i64 u.tx, .int .i64 u.no, .int .i64 u.prev, .int .i64 u.kind, .int .i64 u.page, .int .i64 u.slot, .float .f64 u.row.key, .bool u.row.dead, c, .int .i64 u.row.wr, .int .i64 u.row.cell, .int .i64 u.row.no]

/-- An undoing's parts fit their kinds. -/
structure Un.fits (u : Un) : Prop where
  tx : (Lit.int .i64 u.tx).wf = true
  no : (Lit.int .i64 u.no).wf = true
  prev : (Lit.int .i64 u.prev).wf = true
  kind : (Lit.int .i64 u.kind).wf = true
  page : (Lit.int .i64 u.page).wf = true
  slot : (Lit.int .i64 u.slot).wf = true
  row : u.row.fits

def witB (n lo hi : Int) : Bool := decide (lo ≤ n) && decide (n ≤ hi)

/-- Which row an undoing of a kind may have. -/
def undoB (k : Int) (r : Rw) : Bool := if k = 1 then r.same zeroR else if k = 2 then r.may else false

/-- May an undoing be? -/
def Un.may (u : Un) : Bool := witB u.tx 1 2147483647 && witB u.no 1 2147483647 && witB u.prev 0 65535 && witB u.page 0 255 && witB u.slot 0 255 && undoB u.kind u.row

def Un.same (a b : Un) : Bool := a.tx == b.tx && a.no == b.no && a.prev == b.prev && a.kind == b.kind && a.page == b.page && a.slot == b.slot && a.row.same b.row

theorem Un.same_self (a : Un) : a.same a = true := by simp [Un.same, Rw.same_self]

theorem Rw.same_eq {r s : Rw} (h : r.same s = true) : r = s := by
  obtain ⟨k, d, xs, t, c, n⟩ := r
  obtain ⟨k', d', xs', t', c', n'⟩ := s
  simp only [Rw.same, Bool.and_eq_true, beq_iff_eq] at h
  obtain ⟨⟨⟨⟨⟨rfl, rfl⟩, rfl⟩, rfl⟩, rfl⟩, rfl⟩ := h
  rfl

theorem Un.same_eq {a b : Un} (h : a.same b = true) : a = b := by
  obtain ⟨t, n, p, k, g, s, r⟩ := a
  obtain ⟨t', n', p', k', g', s', r'⟩ := b
  simp only [Un.same, Bool.and_eq_true, beq_iff_eq] at h
  obtain ⟨⟨⟨⟨⟨⟨rfl, rfl⟩, rfl⟩, rfl⟩, rfl⟩, rfl⟩, hr⟩ := h
  rw [Rw.same_eq hr]

theorem Un.same_iff (a b : Un) : a.same b = true ↔ a = b := ⟨Un.same_eq, fun h => by rw [h]; exact Un.same_self b⟩

/-- How the row was, as a text. -/
def Un.text (u : Un) : ByteArray := if u.kind = 1 then noS else bstr u.row.bytes
def undoK : List Int := [1, 3, 3, 2, 1, 1, 5]
/-- An undoing's items, and its bytes. -/
def Un.items (u : Un) : List It := [⟨1, u.kind, 0, noS⟩, ⟨3, u.tx, 0, noS⟩, ⟨3, u.no, 0, noS⟩, ⟨2, u.prev, 0, noS⟩, ⟨1, u.page, 0, noS⟩, ⟨1, u.slot, 0, noS⟩, ⟨5, 0, 0, u.text⟩]
def Un.bytes (u : Un) : List Nat := putB u.items

theorem undo_kinds (u : Un) : u.items.map It.kind = undoK := rfl
theorem undoK_good : ∀ t, t < undoK.length → 1 ≤ undoK.getD t 0 ∧ undoK.getD t 0 ≤ 5 := by decide
theorem undoK_mem : ∀ k ∈ undoK, 1 ≤ k ∧ k ≤ 5 := by decide

theorem zeroR_may : zeroR.may = true := by decide
theorem zeroR_fits : zeroR.fits := ⟨by decide, by decide, by decide, by decide, by decide⟩

structure Un.Parts (u : Un) : Prop where
  tx : 1 ≤ u.tx ∧ u.tx ≤ 2147483647
  no : 1 ≤ u.no ∧ u.no ≤ 2147483647
  prev : 0 ≤ u.prev ∧ u.prev ≤ 65535
  page : 0 ≤ u.page ∧ u.page ≤ 255
  slot : 0 ≤ u.slot ∧ u.slot ≤ 255
  kind : (u.kind = 1 ∧ u.row = zeroR) ∨ (u.kind = 2 ∧ u.row.may = true)

theorem Un.parts {u : Un} (h : u.may = true) : u.Parts := by
  simp only [Un.may, witB, Bool.and_eq_true, decide_eq_true_eq] at h
  obtain ⟨⟨⟨⟨⟨h1, h2⟩, h3⟩, h4⟩, h5⟩, h6⟩ := h
  refine ⟨h1, h2, h3, h4, h5, ?_⟩
  unfold undoB at h6
  by_cases k1 : u.kind = 1
  · rw [if_pos k1] at h6
    exact .inl ⟨k1, Rw.same_eq h6⟩
  · rw [if_neg k1] at h6
    by_cases k2 : u.kind = 2
    · rw [if_pos k2] at h6
      exact .inr ⟨k2, h6⟩
    · rw [if_neg k2] at h6
      cases h6

theorem Un.row_may {u : Un} (h : u.may = true) : u.row.may = true := by
  rcases (Un.parts h).kind with ⟨_, e⟩ | ⟨_, e⟩
  · rw [e]; exact zeroR_may
  · exact e

theorem strB_noS : strB noS = [] := rfl

theorem Un.text_size {u : Un} (h : u.may = true) : u.text.size ≤ 52 := by
  unfold Un.text
  split
  · decide
  · rw [bstr_size, bytes_len]
    have := (Rw.may_parts (Un.row_may h)).2.1
    omega

theorem Un.items_may {u : Un} (h : u.may = true) : u.items.all It.may = true := by
  have p := Un.parts h
  have hs := Un.text_size h
  have k : 0 ≤ u.kind ∧ u.kind ≤ 255 := by rcases p.kind with ⟨e, _⟩ | ⟨e, _⟩ <;> omega
  have c1 : ∀ n : Int, 0 ≤ n → n ≤ 255 → It.may ⟨1, n, 0, noS⟩ = true := fun n h0 h1 => by rw [may123 (.inl rfl)]; simp [maxN, noS_list, h0, h1]
  have c2 : ∀ n : Int, 0 ≤ n → n ≤ 65535 → It.may ⟨2, n, 0, noS⟩ = true := fun n h0 h1 => by rw [may123 (.inr (.inl rfl))]; simp [maxN, noS_list, h0, h1]
  have c3 : ∀ n : Int, 0 ≤ n → n ≤ 2147483647 → It.may ⟨3, n, 0, noS⟩ = true := fun n h0 h1 => by rw [may123 (.inr (.inr rfl))]; simp [maxN, noS_list, h0, h1]
  have c5 : It.may ⟨5, 0, 0, u.text⟩ = true := by simp [It.may]; omega
  simp only [Un.items, List.all_cons, List.all_nil, Bool.and_true, c5, c1 _ k.1 k.2, c3 u.tx (by have := p.tx; omega) p.tx.2, c3 u.no (by have := p.no; omega) p.no.2, c2 _ p.prev.1 p.prev.2, c1 _ p.page.1 p.page.2, c1 _ p.slot.1 p.slot.2]

theorem Un.items_fits {u : Un} (hf : u.fits) (hr : u.text.size ≤ 100000) : ∀ i ∈ u.items, i.fits := by
  have k : ∀ (n : Int), 1 ≤ n → n ≤ 5 → (Lit.int .i64 n).wf = true := fun n h1 h2 => fits_i64 (by omega) (by omega)
  have z : (0 : Nat) < 18446744073709551616 := by decide
  have s0 : noS.size ≤ maxLen := Nat.zero_le _
  intro i hi
  simp only [Un.items, List.mem_cons, List.not_mem_nil, or_false] at hi
  rcases hi with rfl | rfl | rfl | rfl | rfl | rfl | rfl
  · exact ⟨k 1 (by decide) (by decide), hf.kind, z, s0⟩
  · exact ⟨k 3 (by decide) (by decide), hf.tx, z, s0⟩
  · exact ⟨k 3 (by decide) (by decide), hf.no, z, s0⟩
  · exact ⟨k 2 (by decide) (by decide), hf.prev, z, s0⟩
  · exact ⟨k 1 (by decide) (by decide), hf.page, z, s0⟩
  · exact ⟨k 1 (by decide) (by decide), hf.slot, z, s0⟩
  · exact ⟨k 5 (by decide) (by decide), fits_i64 (n := 0) (by decide) (by decide), z, (by unfold maxLen; exact Nat.le_trans hr (by decide))⟩

theorem Un.bytes_len (u : Un) : u.bytes.length = 14 + u.text.size := by
  simp [Un.bytes, Un.items, putB, It.bytes, bigB_length, strB_length]
  omega

theorem Un.bytes_bytes {u : Un} (h : u.may = true) : Bytes u.bytes := (putB_len (List.all_eq_true.1 (Un.items_may h))).2

theorem Un.bytes_66 {u : Un} (h : u.may = true) : u.bytes.length ≤ 66 := by
  rw [Un.bytes_len]
  have := Un.text_size h
  omega

/-- The row that a text tells, beside a kind. -/
def rowT (k : Int) (s : ByteArray) : Option Rw := if k = 1 then (if s.toList = [] then some zeroR else none) else decB (strB s)

/-- The undoing of items and a row. -/
def undoOf (l : List It) (r : Rw) : Un := ⟨(l.getD 1 itD).n, (l.getD 2 itD).n, (l.getD 3 itD).n, (l.getD 0 itD).n, (l.getD 4 itD).n, (l.getD 5 itD).n, r⟩

/-- The undoing of bytes. -/
def decU (xs : List Nat) : Option Un := match tks xs undoK [] 0 with
  | none => none
  | some (l, q) => match rowT (l.getD 0 itD).n (l.getD 6 itD).s with
    | none => none
    | some r => if q < xs.length ∨ (undoOf l r).may = false then none else some (undoOf l r)

theorem Un.took {u : Un} (h : u.may = true) : tks u.bytes undoK [] 0 = some (u.items, u.bytes.length) := by
  have hall := List.all_eq_true.1 (Un.items_may h)
  have hx : ∀ i ∈ u.items, i.x = 0 := fun i hi => by
    simp only [Un.items, List.mem_cons, List.not_mem_nil, or_false] at hi
    rcases hi with rfl | rfl | rfl | rfl | rfl | rfl | rfl <;> rfl
  have t := tks_put u.items u.bytes [] [] 0 (fun i hi => ⟨hall i hi, by rw [hx i hi]; decide⟩) (by simp [Un.bytes])
  rw [undo_kinds, List.nil_append, Nat.zero_add] at t
  have hv : u.items.map It.valued = u.items := by
    have : u.items.map It.valued = u.items.map id := List.map_congr_left (fun i hi => by
      obtain ⟨k, n, x, s⟩ := i
      have := hx _ hi
      simp only at this
      subst this
      simp [It.valued, val_zero])
    rw [this, List.map_id]
  rw [hv] at t
  exact t

theorem Un.rowT_text {u : Un} (h : u.may = true) (hf : u.fits) : rowT u.kind u.text = some u.row := by
  unfold rowT Un.text
  rcases (Un.parts h).kind with ⟨k, e⟩ | ⟨k, e⟩
  · rw [if_pos k, if_pos k, if_pos noS_list, e]
  · have k1 : ¬ u.kind = 1 := by omega
    rw [if_neg k1, if_neg k1, strB_bstr (Go.Proofs.Ytnhhapipadiffaa.bytes_bytes e), dec_bytes e hf.row]

/-- What is encoded is decoded. -/
theorem dec_undo {u : Un} (h : u.may = true) (hf : u.fits) : decU u.bytes = some u := by
  have e : undoOf u.items u.row = u := rfl
  unfold decU
  rw [Un.took h]
  simp only
  rw [show (u.items.getD 0 itD).n = u.kind from rfl, show (u.items.getD 6 itD).s = u.text from rfl, Un.rowT_text h hf]
  simp only
  rw [e, if_neg]
  rintro (q | q)
  · omega
  · rw [h] at q
    cases q

theorem Un.bytes_inj {a b : Un} (ha : a.may = true) (hb : b.may = true) (fa : a.fits) (fb : b.fits) (h : a.bytes = b.bytes) : a = b := by
  have h1 := dec_undo ha fa
  have h2 := dec_undo hb fb
  rw [h, h2] at h1
  simp only [Option.some.injEq] at h1
  exact h1.symm

theorem tk_textE {xs : List Nat} {i : It} {n : Nat} (h : tk xs 5 = some (i, n)) : 1 ≤ xs.length ∧ n = 1 + numB (xs.take 1) ∧ n ≤ xs.length ∧ i = ⟨5, 0, 0, bstr ((xs.drop 1).take (numB (xs.take 1)))⟩ := by
  simp only [tk, show ¬ (5 : Int) = 4 by decide, if_false, if_true] at h
  split at h
  · split at h
    · simp only [Option.some.injEq, Prod.mk.injEq] at h
      obtain ⟨rfl, rfl⟩ := h
      exact ⟨by assumption, rfl, by assumption, rfl⟩
    · cases h
  · cases h

theorem tk_canon5 {xs : List Nat} (hx : Bytes xs) {i : It} {n : Nat} (h : tk xs 5 = some (i, n)) : i.bytes = xs.take n ∧ n ≤ xs.length := by
  obtain ⟨h1, hn, hl, rfl⟩ := tk_textE h
  refine ⟨?_, hl⟩
  have hb : Bytes ((xs.drop 1).take (numB (xs.take 1))) := fun x hh => hx x (List.mem_of_mem_drop (List.mem_of_mem_take hh))
  cases xs with
  | nil => simp at h1
  | cons x r =>
    have e1 : numB ((x :: r).take 1) = x := by simp [numB]
    rw [e1] at hn hb ⊢
    have hb' : Bytes (r.take x) := hb
    have hlen : (r.take x).length = x := by rw [List.length_take]; simp at hl; omega
    show It.bytes ⟨5, 0, 0, bstr (r.take x)⟩ = _
    have : It.bytes ⟨5, 0, 0, bstr (r.take x)⟩ = (bstr (r.take x)).size :: strB (bstr (r.take x)) := by simp [It.bytes]
    rw [this, bstr_size, strB_bstr hb', hlen, hn, Nat.add_comm, List.take_succ_cons]

theorem tks_canon5 {xs : List Nat} (hx : Bytes xs) : ∀ (ks : List Int) (l : List It) (q : Nat) (r : List It × Nat), (∀ k ∈ ks, 1 ≤ k ∧ k ≤ 5) → q ≤ xs.length → putB l = xs.take q → tks xs ks l q = some r → putB r.1 = xs.take r.2 ∧ r.2 ≤ xs.length
  | [], l, q, r, _, hq, hl, h => by
    simp only [tks, Option.some.injEq] at h
    rw [← h]
    exact ⟨hl, hq⟩
  | k :: ks, l, q, r, hk, hq, hl, h => by
    simp only [tks] at h
    split at h
    · cases h
    · rename_i i n hi
      have hb : Bytes (xs.drop q) := fun x hh => hx x (List.mem_of_mem_drop hh)
      have hc : i.bytes = (xs.drop q).take n ∧ n ≤ (xs.drop q).length := by
        by_cases h5 : k = 5
        · rw [h5] at hi
          exact tk_canon5 hb hi
        · exact tk_canon hb (by have := hk k (by simp); omega) hi
      rw [List.length_drop] at hc
      refine tks_canon5 hx ks _ _ r (fun k' h' => hk k' (by simp [h'])) (by omega) ?_ h
      have e : putB (l ++ [i]) = putB l ++ i.bytes := by simp [putB]
      rw [e, hl, hc.1, List.take_add]

/-- The items of an undoing's bytes, one by one. -/
theorem undo_form {xs : List Nat} {l : List It} {q : Nat} (h : tks xs undoK [] 0 = some (l, q)) :
    ∃ (n0 n1 n2 n3 n4 n5 : Nat) (s : ByteArray), l = [⟨1, n0, 0, noS⟩, ⟨3, n1, 0, noS⟩, ⟨3, n2, 0, noS⟩, ⟨2, n3, 0, noS⟩, ⟨1, n4, 0, noS⟩, ⟨1, n5, 0, noS⟩, ⟨5, 0, 0, s⟩] := by
  unfold undoK at h
  simp only [tks, List.nil_append] at h
  cases h0 : tk (xs.drop 0) 1 with
  | none => rw [h0] at h; cases h
  | some r0 =>
  obtain ⟨i0, m0⟩ := r0
  rw [h0] at h
  simp only at h
  obtain ⟨_, _, rfl, _⟩ := tk_cntE (.inl rfl) h0
  cases h1 : tk (xs.drop (0 + m0)) 3 with
  | none => rw [h1] at h; cases h
  | some r1 =>
  obtain ⟨i1, m1⟩ := r1
  rw [h1] at h
  simp only at h
  obtain ⟨_, _, rfl, _⟩ := tk_cntE (.inr (.inr rfl)) h1
  cases h2 : tk (xs.drop (0 + m0 + m1)) 3 with
  | none => rw [h2] at h; cases h
  | some r2 =>
  obtain ⟨i2, m2⟩ := r2
  rw [h2] at h
  simp only at h
  obtain ⟨_, _, rfl, _⟩ := tk_cntE (.inr (.inr rfl)) h2
  cases h3 : tk (xs.drop (0 + m0 + m1 + m2)) 2 with
  | none => rw [h3] at h; cases h
  | some r3 =>
  obtain ⟨i3, m3⟩ := r3
  rw [h3] at h
  simp only at h
  obtain ⟨_, _, rfl, _⟩ := tk_cntE (.inr (.inl rfl)) h3
  cases h4 : tk (xs.drop (0 + m0 + m1 + m2 + m3)) 1 with
  | none => rw [h4] at h; cases h
  | some r4 =>
  obtain ⟨i4, m4⟩ := r4
  rw [h4] at h
  simp only at h
  obtain ⟨_, _, rfl, _⟩ := tk_cntE (.inl rfl) h4
  cases h5 : tk (xs.drop (0 + m0 + m1 + m2 + m3 + m4)) 1 with
  | none => rw [h5] at h; cases h
  | some r5 =>
  obtain ⟨i5, m5⟩ := r5
  rw [h5] at h
  simp only at h
  obtain ⟨_, _, rfl, _⟩ := tk_cntE (.inl rfl) h5
  cases h6 : tk (xs.drop (0 + m0 + m1 + m2 + m3 + m4 + m5)) 5 with
  | none => rw [h6] at h; cases h
  | some r6 =>
  obtain ⟨i6, m6⟩ := r6
  rw [h6] at h
  simp only at h
  obtain ⟨_, _, _, rfl⟩ := tk_textE h6
  simp only [Option.some.injEq, Prod.mk.injEq] at h
  obtain ⟨rfl, _⟩ := h
  exact ⟨_, _, _, _, _, _, _, rfl⟩

/-- The row as the document reads it: none is the zero row. -/
def rowD (s : ByteArray) : Rw := (decB (strB s)).getD zeroR

/-- What the document reads is what is decoded. -/
theorem dec_ref {xs : List Nat} (hx : Bytes xs) {l : List It} {q : Nat} (h : tks xs undoK [] 0 = some (l, q)) (hf : (undoOf l (rowD (l.getD 6 itD).s)).fits) :
    decU xs = if (undoOf l (rowD (l.getD 6 itD).s)).may = true ∧ (undoOf l (rowD (l.getD 6 itD).s)).bytes = xs then some (undoOf l (rowD (l.getD 6 itD).s)) else none := by
  have hc := tks_canon5 hx undoK [] 0 _ undoK_mem (Nat.zero_le _) (by simp [putB]) h
  obtain ⟨n0, n1, n2, n3, n4, n5, s, rfl⟩ := undo_form h
  simp only at hc
  simp only [List.getD_cons_succ, List.getD_cons_zero] at hf ⊢
  -- an undoing with these numbers whose text is s has these bytes, up to what is behind
  have key : ∀ r : Rw, (undoOf [⟨1, n0, 0, noS⟩, ⟨3, n1, 0, noS⟩, ⟨3, n2, 0, noS⟩, ⟨2, n3, 0, noS⟩, ⟨1, n4, 0, noS⟩, ⟨1, n5, 0, noS⟩, ⟨5, 0, 0, s⟩] r).text = s → (undoOf [⟨1, n0, 0, noS⟩, ⟨3, n1, 0, noS⟩, ⟨3, n2, 0, noS⟩, ⟨2, n3, 0, noS⟩, ⟨1, n4, 0, noS⟩, ⟨1, n5, 0, noS⟩, ⟨5, 0, 0, s⟩] r).bytes = xs.take q := by
    intro r hr
    rw [← hc.1]
    unfold Un.bytes Un.items
    rw [hr]
    rfl
  -- one whose bytes these are has the text s
  have back : ∀ r : Rw, (undoOf [⟨1, n0, 0, noS⟩, ⟨3, n1, 0, noS⟩, ⟨3, n2, 0, noS⟩, ⟨2, n3, 0, noS⟩, ⟨1, n4, 0, noS⟩, ⟨1, n5, 0, noS⟩, ⟨5, 0, 0, s⟩] r).may = true → (undoOf [⟨1, n0, 0, noS⟩, ⟨3, n1, 0, noS⟩, ⟨3, n2, 0, noS⟩, ⟨2, n3, 0, noS⟩, ⟨1, n4, 0, noS⟩, ⟨1, n5, 0, noS⟩, ⟨5, 0, 0, s⟩] r).bytes = xs → (undoOf [⟨1, n0, 0, noS⟩, ⟨3, n1, 0, noS⟩, ⟨3, n2, 0, noS⟩, ⟨2, n3, 0, noS⟩, ⟨1, n4, 0, noS⟩, ⟨1, n5, 0, noS⟩, ⟨5, 0, 0, s⟩] r).text = s := by
    intro r hm he
    have t := Un.took hm
    rw [he, h] at t
    simp only [Option.some.injEq, Prod.mk.injEq] at t
    have := congrArg (fun l : List It => (l.getD 6 itD).s) t.1
    exact this.symm
  unfold decU
  rw [h]
  simp only [List.getD_cons_succ, List.getD_cons_zero]
  by_cases k1 : (n0 : Int) = 1
  · -- to insert
    have tx : ∀ r : Rw, (undoOf [⟨1, n0, 0, noS⟩, ⟨3, n1, 0, noS⟩, ⟨3, n2, 0, noS⟩, ⟨2, n3, 0, noS⟩, ⟨1, n4, 0, noS⟩, ⟨1, n5, 0, noS⟩, ⟨5, 0, 0, s⟩] r).text = noS := fun r => if_pos k1
    by_cases hs : s.toList = []
    · have hsn := strB_nil hs
      subst hsn
      have hd : rowD noS = zeroR := by
        unfold rowD
        rw [strB_noS, dec_short (fun x hx => by cases hx) (by decide)]
        rfl
      rw [hd]
      have hr : rowT n0 noS = some zeroR := by unfold rowT; rw [if_pos k1, if_pos hs]
      rw [hr]
      simp only
      have hk := key zeroR (tx _)
      by_cases hq : q < xs.length
      · rw [if_pos (.inl hq), if_neg]
        rintro ⟨_, he⟩
        rw [hk] at he
        have := congrArg List.length he
        rw [List.length_take] at this
        omega
      · have hkx : (undoOf [⟨1, n0, 0, noS⟩, ⟨3, n1, 0, noS⟩, ⟨3, n2, 0, noS⟩, ⟨2, n3, 0, noS⟩, ⟨1, n4, 0, noS⟩, ⟨1, n5, 0, noS⟩, ⟨5, 0, 0, noS⟩] zeroR).bytes = xs := by rw [hk, List.take_of_length_le (by omega)]
        cases hm : (undoOf [⟨1, n0, 0, noS⟩, ⟨3, n1, 0, noS⟩, ⟨3, n2, 0, noS⟩, ⟨2, n3, 0, noS⟩, ⟨1, n4, 0, noS⟩, ⟨1, n5, 0, noS⟩, ⟨5, 0, 0, noS⟩] zeroR).may
        · rw [if_pos (.inr rfl), if_neg (fun h => by cases h.1)]
        · rw [if_neg (by rintro (h | h); exact hq h; cases h), if_pos ⟨rfl, hkx⟩]
    · have hr : rowT n0 s = none := by unfold rowT; rw [if_pos k1, if_neg hs]
      rw [hr]
      simp only
      rw [if_neg]
      rintro ⟨hm, he⟩
      have := back _ hm he
      rw [tx] at this
      rw [← this] at hs
      exact hs noS_list
  · have hr : rowT n0 s = decB (strB s) := by unfold rowT; rw [if_neg k1]
    rw [hr]
    have tx : ∀ r : Rw, (undoOf [⟨1, n0, 0, noS⟩, ⟨3, n1, 0, noS⟩, ⟨3, n2, 0, noS⟩, ⟨2, n3, 0, noS⟩, ⟨1, n4, 0, noS⟩, ⟨1, n5, 0, noS⟩, ⟨5, 0, 0, s⟩] r).text = bstr r.bytes := fun r => if_neg k1
    cases hd : decB (strB s) with
    | none =>
      simp only
      have hD : rowD s = zeroR := by unfold rowD; rw [hd]; rfl
      rw [hD]
      rw [if_neg]
      rintro ⟨hm, he⟩
      have := back _ hm he
      rw [tx] at this
      rw [← this, strB_bstr (Go.Proofs.Ytnhhapipadiffaa.bytes_bytes zeroR_may), dec_bytes zeroR_may zeroR_fits] at hd
      cases hd
    | some r =>
      simp only
      have hD : rowD s = r := by unfold rowD; rw [hd]; rfl
      rw [hD]
      have hb := dec_canon (strB_bytes s) hd
      have hk := key r (by rw [tx, hb, bstr_strB])
      by_cases hq : q < xs.length
      · rw [if_pos (.inl hq), if_neg]
        rintro ⟨_, he⟩
        rw [hk] at he
        have := congrArg List.length he
        rw [List.length_take] at this
        omega
      · have hkx : (undoOf [⟨1, n0, 0, noS⟩, ⟨3, n1, 0, noS⟩, ⟨3, n2, 0, noS⟩, ⟨2, n3, 0, noS⟩, ⟨1, n4, 0, noS⟩, ⟨1, n5, 0, noS⟩, ⟨5, 0, 0, s⟩] r).bytes = xs := by rw [hk, List.take_of_length_le (by omega)]
        cases hm : (undoOf [⟨1, n0, 0, noS⟩, ⟨3, n1, 0, noS⟩, ⟨3, n2, 0, noS⟩, ⟨2, n3, 0, noS⟩, ⟨1, n4, 0, noS⟩, ⟨1, n5, 0, noS⟩, ⟨5, 0, 0, s⟩] r).may
        · rw [if_pos (.inr rfl), if_neg (fun h => by cases h.1)]
        · rw [if_neg (by rintro (h | h); exact hq h; cases h), if_pos ⟨rfl, hkx⟩]

/-- The undoing of awake: of no row. -/
def oneUn : Un := ⟨1, 2, 0, 1, 3, 0, zeroR⟩
theorem oneUn_may : oneUn.may = true := by decide
theorem oneUn_fits : oneUn.fits := ⟨by decide, by decide, by decide, by decide, by decide, by decide, zeroR_fits⟩
theorem oneUn_len : oneUn.bytes.length = 14 := by rw [Un.bytes_len]; rfl

end Go.Proofs.Ytnhhapipadiffaa
