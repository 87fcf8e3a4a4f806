/-
  How undoings that came in are told.
-/
import Derived.Test.YtpdkeghmpnanpaaUrB
import Derived.Test.YtpdkeghmpnanpaaRowM
namespace Go.Proofs.Ytpdkeghmpnanpaa
open Go.ChangeShapes Go.WideShapes Go.ChangeAt Go.RowKit

section
variable {H : Type} {enc : TypeId × Value → H} {w : World} {base : Nat} {spare : Nat → Bool} {held : Bool}

set_option maxRecDepth 100000 in
theorem row_cells {k : Nat} {c0 c1 c2 c3 c4 c5 : Value} {y : DataW H × List MemPlace} (hf : DataW.trod enc Try.prog w base spare held k 28 [c0, c1, c2, c3, c4, c5] = some y) :
    ∃ (R : Rw) (a : Option Addr) (len cap : Nat), [c0, c1, c2, c3, c4, c5] = [.float .f64 R.key, .bool R.dead, .slice a len cap, .int .i64 R.wr, .int .i64 R.cell, .int .i64 R.no] ∧ Fs w a len cap R.xs ∧ R.fits := by
  have hR : Try.prog.cellsOf 26 = 2 := by kernel_rfl
  have h1 : Try.prog.cellsOf 23 = 1 := by kernel_rfl
  have h2 : Try.prog.cellsOf 4 = 1 := by kernel_rfl
  have h3 : Try.prog.cellsOf 24 = 1 := by kernel_rfl
  have h4 : Try.prog.cellsOf 3 = 1 := by kernel_rfl
  obtain ⟨xs, n, _, _, _, hlen, hfd⟩ := DataW.trod_struct Try.underlying28 hf
  match xs, hlen with
  | [y0, y1, y2, y3, y4], _ =>
    have t0 : DataW.trod enc Try.prog w base spare held n 23 [c0] = some y0 := by simpa [Value.cells, h1] using hfd 0 _ rfl
    have t1 : DataW.trod enc Try.prog w base spare held n 4 [c1] = some y1 := by simpa [Value.cells, h2] using hfd 1 _ rfl
    have t2 : DataW.trod enc Try.prog w base spare held n 24 [c2] = some y2 := by simpa [Value.cells, h3] using hfd 2 _ rfl
    have t3 : DataW.trod enc Try.prog w base spare held n 3 [c3] = some y3 := by simpa [Value.cells, h4] using hfd 3 _ rfl
    have t4 : DataW.trod enc Try.prog w base spare held n 26 [c4, c5] = some y4 := by simpa [Value.cells, hR] using hfd 4 _ rfl
    obtain ⟨b, e0, l0⟩ := cell_float t0
    obtain ⟨bb, e1, _⟩ := DataW.trod_bool (by kernel_rfl : Try.prog.underlying 4 = some .bool) t1
    obtain ⟨k3, e3, _, w3⟩ := DataW.trod_int Try.underlying3 t3
    obtain ⟨z0, z1, n', _, _, u0, u1⟩ := trod_struct2 Try.underlying26 t4
    replace u0 : DataW.trod enc Try.prog w base spare held n' 3 [c4] = some z0 := by simpa [h4] using u0
    replace u1 : DataW.trod enc Try.prog w base spare held n' 3 [c5] = some z1 := by simpa [h4] using u1
    obtain ⟨k4, e4, _, w4⟩ := DataW.trod_int Try.underlying3 u0
    obtain ⟨k5, e5, _, w5⟩ := DataW.trod_int Try.underlying3 u1
    obtain ⟨a, len, cap, e2⟩ := Go.Joins.slice_form Try.underlying24 t2
    simp only [List.cons.injEq, and_true] at e1 e2 e3 e4 e5
    subst e0 e1 e2 e3 e4 e5
    obtain ⟨fl, hfs⟩ := open_fls t2
    exact ⟨⟨b, bb, fl, k3, k4, k5⟩, a, len, cap, rfl, hfs, ⟨l0, hfs.fit, w3, w4, w5⟩⟩

set_option maxRecDepth 100000 in
theorem open_undo {r : Reach} {b0 : Nat} {v : Value} {d : DataW H} {p : List MemPlace} (hv : Value.okWide Try.prog w r b0 30 v) (h : DataW.Trod enc Try.prog w base spare held 30 v d p) :
    ∃ (U : Un) (a : Option Addr) (len cap : Nat), v = U.val (.slice a len cap) ∧ Fs w a len cap U.row.xs ∧ U.fits := by
  have hC : Try.prog.cellsOf 30 = 12 := by kernel_rfl
  have hR : Try.prog.cellsOf 28 = 6 := by kernel_rfl
  have h4 : Try.prog.cellsOf 3 = 1 := by kernel_rfl
  obtain ⟨cs, rfl, hsz⟩ := okWide_struct Try.underlying30 hv
  rw [hC] at hsz
  obtain ⟨l⟩ := cs
  match l, hsz with
  | [c0, c1, c2, c3, c4, c5, c6, c7, c8, c9, c10, c11], _ =>
    obtain ⟨fuel, hf⟩ := h
    obtain ⟨xs, n, _, _, _, hlen, hfd⟩ := DataW.trod_struct Try.underlying30 hf
    match xs, hlen with
    | [y0, y1, y2, y3, y4, y5, y6], _ =>
      have t0 : DataW.trod enc Try.prog w base spare held n 3 [c0] = some y0 := by simpa [Value.cells, h4] using hfd 0 _ rfl
      have t1 : DataW.trod enc Try.prog w base spare held n 3 [c1] = some y1 := by simpa [Value.cells, h4] using hfd 1 _ rfl
      have t2 : DataW.trod enc Try.prog w base spare held n 3 [c2] = some y2 := by simpa [Value.cells, h4] using hfd 2 _ rfl
      have t3 : DataW.trod enc Try.prog w base spare held n 3 [c3] = some y3 := by simpa [Value.cells, h4] using hfd 3 _ rfl
      have t4 : DataW.trod enc Try.prog w base spare held n 3 [c4] = some y4 := by simpa [Value.cells, h4] using hfd 4 _ rfl
      have t5 : DataW.trod enc Try.prog w base spare held n 3 [c5] = some y5 := by simpa [Value.cells, h4] using hfd 5 _ rfl
      have t6 : DataW.trod enc Try.prog w base spare held n 28 [c6, c7, c8, c9, c10, c11] = some y6 := by simpa [Value.cells, hR] using hfd 6 _ rfl
      obtain ⟨k0, e0, _, w0⟩ := DataW.trod_int Try.underlying3 t0
      obtain ⟨k1, e1, _, w1⟩ := DataW.trod_int Try.underlying3 t1
      obtain ⟨k2, e2, _, w2⟩ := DataW.trod_int Try.underlying3 t2
      obtain ⟨k3, e3, _, w3⟩ := DataW.trod_int Try.underlying3 t3
      obtain ⟨k4, e4, _, w4⟩ := DataW.trod_int Try.underlying3 t4
      obtain ⟨k5, e5, _, w5⟩ := DataW.trod_int Try.underlying3 t5
      obtain ⟨R, a, len, cap, e6, hfs, hfit⟩ := row_cells t6
      simp only [List.cons.injEq, and_true] at e0 e1 e2 e3 e4 e5 e6
      obtain ⟨rfl, rfl, rfl, rfl, rfl, rfl⟩ := e6
      subst e0 e1 e2 e3 e4 e5
      exact ⟨⟨k0, k1, k2, k3, k4, k5, R⟩, a, len, cap, rfl, hfs, ⟨w0, w1, w2, w3, w4, w5, hfit⟩⟩
end

end Go.Proofs.Ytpdkeghmpnanpaa
