/-
  Rows of undoings in memory, read; which undoings are a page's cells, by the document.
-/
import Derived.Test.YtpdkeghmpnanpaaUrB
namespace Go.Proofs.Ytpdkeghmpnanpaa
open Go.RowKit

/-- An undoing, with where its columns lie. -/
structure Ux where
  u : Un
  a : Option Addr
  n : Nat
  c : Nat

def Ux.val (x : Ux) : Value := x.u.val (.slice x.a x.n x.c)
def Ux.zero : Ux := ⟨zeroU, none, 0, 0⟩
def Ux.cells (x : Ux) : List Value := [.int .i64 x.u.tx, .int .i64 x.u.no, .int .i64 x.u.prev, .int .i64 x.u.kind, .int .i64 x.u.page, .int .i64 x.u.slot, .float .f64 x.u.row.key, .bool x.u.row.dead, .slice x.a x.n x.c, .int .i64 x.u.row.wr, .int .i64 x.u.row.cell, .int .i64 x.u.row.no]

/-- The twelve cells of an undoing, wherever they lie. -/
structure UnAt (w : World) (b o : Nat) (x : Ux) : Prop where
  c0 : w.cell? ⟨b, o, none⟩ = some (.int .i64 x.u.tx)
  c1 : w.cell? ⟨b, o + 1, none⟩ = some (.int .i64 x.u.no)
  c2 : w.cell? ⟨b, o + 2, none⟩ = some (.int .i64 x.u.prev)
  c3 : w.cell? ⟨b, o + 3, none⟩ = some (.int .i64 x.u.kind)
  c4 : w.cell? ⟨b, o + 4, none⟩ = some (.int .i64 x.u.page)
  c5 : w.cell? ⟨b, o + 5, none⟩ = some (.int .i64 x.u.slot)
  c6 : w.cell? ⟨b, o + 6, none⟩ = some (.float .f64 x.u.row.key)
  c7 : w.cell? ⟨b, o + 7, none⟩ = some (.bool x.u.row.dead)
  c8 : w.cell? ⟨b, o + 8, none⟩ = some (.slice x.a x.n x.c)
  c9 : w.cell? ⟨b, o + 9, none⟩ = some (.int .i64 x.u.row.wr)
  c10 : w.cell? ⟨b, o + 10, none⟩ = some (.int .i64 x.u.row.cell)
  c11 : w.cell? ⟨b, o + 11, none⟩ = some (.int .i64 x.u.row.no)

theorem UnAt.keep {w w' : World} {B b o : Nat} {x : Ux} (h : UnAt w b o x) (hb : Below B w w') (hB : w.heap.size ≤ B) : UnAt w' b o x := by
  have k : ∀ {p : Addr} {v : Value}, w.cell? p = some v → w'.cell? p = some v := fun {p v} hc => (hb.cell (Nat.lt_of_lt_of_le (World.block_lt_of_cell? w _ hc) hB)).trans hc
  exact ⟨k h.c0, k h.c1, k h.c2, k h.c3, k h.c4, k h.c5, k h.c6, k h.c7, k h.c8, k h.c9, k h.c10, k h.c11⟩

theorem UnAt.of {w : World} {b o : Nat} {x : Ux} (h : ∀ t, t < 12 → w.cell? ⟨b, o + t, none⟩ = x.cells[t]?) : UnAt w b o x :=
  ⟨h 0 (by decide), h 1 (by decide), h 2 (by decide), h 3 (by decide), h 4 (by decide), h 5 (by decide), h 6 (by decide), h 7 (by decide), h 8 (by decide), h 9 (by decide), h 10 (by decide), h 11 (by decide)⟩

theorem load_unAt (b o : Nat) (x : Ux) (w : World) (h : UnAt w b o x) : (Instr.loadAt 30 (.pointer (some ⟨b, o, none⟩))).run Try.prog w = .ok x.val w := by
  have c0 := h.c0
  have c1 := h.c1
  have c2 := h.c2
  have c3 := h.c3
  have c4 := h.c4
  have c5 := h.c5
  have c6 := h.c6
  have c7 := h.c7
  have c8 := h.c8
  have c9 := h.c9
  have c10 := h.c10
  have c11 := h.c11
  simp [go_sem, c0, c1, c2, c3, c4, c5, c6, c7, c8, c9, c10, c11, Un.val, Ux.val]

theorem index_un (b o len cap k : Nat) (hk : k < len) (w : World) : (Instr.indexAt 22 (.slice (some ⟨b, o, none⟩) len cap) (.int .i64 (k : Nat))).run Try.prog w = .ok (.pointer (some ⟨b, o + k * 12, none⟩)) w := by
  have h22 : Try.prog.underlying 22 = some (.slice (Try.prog.elem 22)) := by kernel_rfl
  have h1 : (0 : Int) ≤ (k : Int) := by omega
  simp [go_sem, Instr.indexAt, run_underlying h22, h1, Addr.add_lit]
  omega

/-- The undoings l lie behind a slice of that length. -/
structure Us (w : World) (a : Option Addr) (m : Nat) (l : List Ux) : Prop where
  len : l.length = m
  at' : ∀ j, j < m → ∃ b off, a = some ⟨b, off, none⟩ ∧ UnAt w b (off + j * 12) (l.getD j Ux.zero)
  cols : ∀ x ∈ l, Fs w x.a x.n x.c x.u.row.xs
  fits : ∀ x ∈ l, x.u.fits

theorem Us.keep {w w' : World} {B : Nat} {a : Option Addr} {len : Nat} {l : List Ux} (h : Us w a len l) (hb : Below B w w') (hB : w.heap.size ≤ B) : Us w' a len l := by
  refine ⟨h.len, fun j hj => ?_, fun x hx => (h.cols x hx).keep hb hB, h.fits⟩
  obtain ⟨b, off, ha, hu⟩ := h.at' j hj
  exact ⟨b, off, ha, hu.keep hb hB⟩

theorem Us.mem {w : World} {a : Option Addr} {len : Nat} {l : List Ux} (h : Us w a len l) {j : Nat} (hj : j < len) : l.getD j Ux.zero ∈ l := by
  have : j < l.length := by rw [h.len]; exact hj
  simp [List.getD, this]

/-- The undoings alone. -/
def uns (l : List Ux) : List Un := l.map Ux.u
theorem uns_len (l : List Ux) : (uns l).length = l.length := by simp [uns]
theorem uns_get (l : List Ux) (j : Nat) : (uns l).getD j zeroU = (l.getD j Ux.zero).u := by
  unfold uns
  by_cases h : j < l.length
  · simp [List.getD, h]
  · have h' : l.length ≤ j := Nat.le_of_not_lt h
    simp [List.getD, h', Ux.zero]

set_option maxHeartbeats 1000000 in
theorem refEmpty_any (u : Un) (a : Option Addr) (len cap : Nat) (w : World) (h : Fs w a len cap u.row.xs) :
    Calls Try.prog 33 #[u.val (.slice a len cap)] w fun e w' => e = .returned (.bool (u.same zeroU)) ∧ Below w.heap.size w w' := by
  have HS : Hid (∀ w', Below w.heap.size w w' → Calls Try.prog 22 #[u.val (.slice a len cap), .agg #[.int .i64 0, .int .i64 0, .int .i64 0, .int .i64 0, .int .i64 0, .int .i64 0, .float .f64 0, .bool false, .slice none 0 0, .int .i64 0, .int .i64 0, .int .i64 0]] w' fun e w'' => e = .returned (.bool (u.same zeroU)) ∧ Below w'.heap.size w' w'') := fun w' hb => refUnSame_any u zeroU a len cap none 0 0 w' (h.keep hb (Nat.le_refl _)) (fs_nil w')
  have HX := hide (unBlk_new w u (.slice a len cap))
  have HW : Hid (∀ o, Below w.heap.size w (w.alloc o)) := below_alloc w
  clear h
  generalize u.same zeroU = m at *
  unfold Un.val at HS ⊢
  go_enter Try.func33, Try.ntmps33
  go_wp2_with fail
  refine (HS.out _ (HW.out _)).mono ?_
  rintro e w1 ⟨rfl, hb1⟩
  have HW1 := hide (rBelow (HW.out _) hb1)
  clear hb1
  go_wp2_with fail
  go_ret
  exact ⟨rfl, HW1.out⟩





end Go.Proofs.Ytpdkeghmpnanpaa
