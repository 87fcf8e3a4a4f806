/-
  Undoings, without memory.
-/
import Derived.Test.YtpdkeghmpnanpaaRowX
namespace Go.Proofs.Ytpdkeghmpnanpaa
open Go.RowKit

/-- An undoing, as its parts. -/
structure Un where
  tx : Int
  no : Int
  prev : Int
  kind : Int
  page : Int
  slot : Int
  row : Rw

/-- An undoing as a value; c is its row's list. -/
def Un.val (u : Un) (c : Value) : Value := .agg #[.int .i64 u.tx, .int .i64 u.no, .int .i64 u.prev, .int .i64 u.kind, .int .i64 u.page, .int .i64 u.slot, .float .f64 u.row.key, .bool u.row.dead, c, .int .i64 u.row.wr, .int .i64 u.row.cell, .int .i64 u.row.no]

/-- An undoing's parts fit their kinds. -/
structure Un.fits (u : Un) : Prop where
  tx : (Lit.int .i64 u.tx).wf = true
  no : (Lit.int .i64 u.no).wf = true
  prev : (Lit.int .i64 u.prev).wf = true
  kind : (Lit.int .i64 u.kind).wf = true
  page : (Lit.int .i64 u.page).wf = true
  slot : (Lit.int .i64 u.slot).wf = true
  row : u.row.fits

def witB (n lo hi : Int) : Bool := decide (lo ≤ n) && decide (n ≤ hi)

/-- Which row an undoing of a kind may have. -/
def undoB (k : Int) (r : Rw) : Bool := if k = 1 then r.same zeroR else if k = 2 then r.may else false

/-- May an undoing be? -/
def Un.may (u : Un) : Bool := witB u.tx 1 2147483647 && witB u.no 1 2147483647 && witB u.prev 0 65535 && witB u.page 0 255 && witB u.slot 0 255 && undoB u.kind u.row

def Un.same (a b : Un) : Bool := a.tx == b.tx && a.no == b.no && a.prev == b.prev && a.kind == b.kind && a.page == b.page && a.slot == b.slot && a.row.same b.row

theorem Un.same_self (a : Un) : a.same a = true := by simp [Un.same, Rw.same_self]

theorem Rw.same_eq {r s : Rw} (h : r.same s = true) : r = s := by
  obtain ⟨k, d, xs, t, c, n⟩ := r
  obtain ⟨k', d', xs', t', c', n'⟩ := s
  simp only [Rw.same, Bool.and_eq_true, beq_iff_eq] at h
  obtain ⟨⟨⟨⟨⟨rfl, rfl⟩, rfl⟩, rfl⟩, rfl⟩, rfl⟩ := h
  rfl

theorem Un.same_eq {a b : Un} (h : a.same b = true) : a = b := by
  obtain ⟨t, n, p, k, g, s, r⟩ := a
  obtain ⟨t', n', p', k', g', s', r'⟩ := b
  simp only [Un.same, Bool.and_eq_true, beq_iff_eq] at h
  obtain ⟨⟨⟨⟨⟨⟨rfl, rfl⟩, rfl⟩, rfl⟩, rfl⟩, rfl⟩, hr⟩ := h
  rw [Rw.same_eq hr]

theorem Un.same_iff (a b : Un) : a.same b = true ↔ a = b := ⟨Un.same_eq, fun h => by rw [h]; exact Un.same_self b⟩



structure Un.Parts (u : Un) : Prop where
  tx : 1 ≤ u.tx ∧ u.tx ≤ 2147483647
  no : 1 ≤ u.no ∧ u.no ≤ 2147483647
  prev : 0 ≤ u.prev ∧ u.prev ≤ 65535
  page : 0 ≤ u.page ∧ u.page ≤ 255
  slot : 0 ≤ u.slot ∧ u.slot ≤ 255
  kind : (u.kind = 1 ∧ u.row = zeroR) ∨ (u.kind = 2 ∧ u.row.may = true)

theorem Un.parts {u : Un} (h : u.may = true) : u.Parts := by
  simp only [Un.may, witB, Bool.and_eq_true, decide_eq_true_eq] at h
  obtain ⟨⟨⟨⟨⟨h1, h2⟩, h3⟩, h4⟩, h5⟩, h6⟩ := h
  refine ⟨h1, h2, h3, h4, h5, ?_⟩
  unfold undoB at h6
  by_cases k1 : u.kind = 1
  · rw [if_pos k1] at h6
    exact .inl ⟨k1, Rw.same_eq h6⟩
  · rw [if_neg k1] at h6
    by_cases k2 : u.kind = 2
    · rw [if_pos k2] at h6
      exact .inr ⟨k2, h6⟩
    · rw [if_neg k2] at h6
      cases h6

end Go.Proofs.Ytpdkeghmpnanpaa
