/-
  How items that came in are told: one by value, and a row of them.
-/
import Derived.Test.YtkgdnmffponnjaaPackE
import Derived.Lib.SmallJoins
import Derived.Laws.Cover2
namespace Go.Proofs.Ytkgdnmffponnjaa
open Go.ChangeShapes Go.WideShapes Go.ChangeAt Go.RowKit

section
variable {H : Type} {enc : TypeId × Value → H} {w : World} {base : Nat} {spare : Nat → Bool} {held : Bool}

theorem cell_float {n : Nat} {v : Value} {y : DataW H × List MemPlace} (h : DataW.trod enc Try.prog w base spare held n 33 [v] = some y) : ∃ b, v = .float .f64 b ∧ b < 18446744073709551616 := by
  have ht : Try.prog.underlying 33 = some (.float .f64) := by kernel_rfl
  cases n with
  | zero => simp [DataW.trod] at h
  | succ n =>
    cases v <;> simp [DataW.trod, ht] at h
    rename_i k b
    obtain ⟨⟨rfl, hw⟩, _⟩ := h
    exact ⟨b, rfl, by simpa [Lit.wf] using hw⟩

theorem open_fields {n0 n1 n2 n3 : Nat} {v0 v1 v2 v3 : Value} {y0 y1 y2 y3 : DataW H × List MemPlace}
    (h0 : DataW.trod enc Try.prog w base spare held n0 3 [v0] = some y0) (h1 : DataW.trod enc Try.prog w base spare held n1 3 [v1] = some y1) (h2 : DataW.trod enc Try.prog w base spare held n2 33 [v2] = some y2) (h3 : DataW.trod enc Try.prog w base spare held n3 9 [v3] = some y3) :
    ∃ x : It, v0 = .int .i64 x.kind ∧ v1 = .int .i64 x.n ∧ v2 = .float .f64 x.x ∧ v3 = .string x.s ∧ x.fits := by
  obtain ⟨k, e0, _, w0⟩ := DataW.trod_int Try.underlying3 h0
  obtain ⟨m, e1, _, w1⟩ := DataW.trod_int Try.underlying3 h1
  obtain ⟨b, e2, w2⟩ := cell_float h2
  obtain ⟨s, e3, _, w3⟩ := DataW.trod_string Try.underlying9 h3
  simp only [List.cons.injEq, and_true] at e0 e1 e3
  exact ⟨⟨k, m, b, s⟩, e0, e1, e2, e3, w0, w1, w2, w3⟩

theorem open_item {r : Reach} {b0 : Nat} {v : Value} {d : DataW H} {p : List MemPlace} (hv : Value.okWide Try.prog w r b0 35 v) (h : DataW.Trod enc Try.prog w base spare held 35 v d p) : ∃ x : It, v = x.val ∧ x.fits := by
  obtain ⟨v0, v1, v2, v3, y0, y1, y2, y3, n, rfl, _, _, h0, h1, h2, h3⟩ := Go.Joins.open_agg4 Try.underlying35 (by kernel_rfl) (by kernel_rfl) hv h
  obtain ⟨x, rfl, rfl, rfl, rfl, hf⟩ := open_fields h0 h1 h2 h3
  exact ⟨x, rfl, hf⟩
end

end Go.Proofs.Ytkgdnmffponnjaa
