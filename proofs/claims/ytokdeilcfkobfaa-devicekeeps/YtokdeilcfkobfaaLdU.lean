/-
  How two bytes that came in are told.
-/
import Derived.Test.YtokdeilcfkobfaaLdT1
namespace Go.Proofs.Ytokdeilcfkobfaa
open Go.ChangeShapes Go.WideShapes Go.ChangeAt Go.RowKit

section
variable {H : Type} {enc : TypeId × Value → H} {w : World} {base : Nat} {spare : Nat → Bool} {held : Bool}
theorem open_arr2 {r : Reach} {b0 : Nat} {v : Value} {d : DataW H} {p : List MemPlace} (hv : Value.okWide Try.prog w r b0 59 v) (h : DataW.Trod enc Try.prog w base spare held 59 v d p) :
    ∃ x y : Nat, v = .agg #[.int .u8 ((x : Nat) : Int), .int .u8 ((y : Nat) : Int)] ∧ x < 256 ∧ y < 256 := by
  have hu : Try.prog.underlying 59 = some (.array 2 5) := by kernel_rfl
  have hC : Try.prog.cellsOf 59 = 2 := by kernel_rfl
  have h1 : Try.prog.cellsOf 5 = 1 := by kernel_rfl
  simp only [Value.okWide, hu] at hv
  obtain ⟨cs, rfl, hsz, _⟩ := hv
  rw [hC] at hsz
  obtain ⟨l⟩ := cs
  match l, hsz with
  | [c0, c1], _ =>
    obtain ⟨fuel, hf⟩ := h
    obtain ⟨xs, m, _, _, _, hlen, hfd⟩ := DataW.trod_array hu hf
    match xs, hlen with
    | [y0, y1], _ =>
      have t0 : DataW.trod enc Try.prog w base spare held m 5 [c0] = some y0 := by simpa [Value.cells, h1] using hfd 0 (by omega)
      have t1 : DataW.trod enc Try.prog w base spare held m 5 [c1] = some y1 := by simpa [Value.cells, h1] using hfd 1 (by omega)
      obtain ⟨k0, e0, _, w0⟩ := DataW.trod_int Try.underlying5 t0
      obtain ⟨k1, e1, _, w1⟩ := DataW.trod_int Try.underlying5 t1
      simp only [List.cons.injEq, and_true] at e0 e1
      subst e0 e1
      have b0 := bounds_u8 w0
      have b1 := bounds_u8 w1
      refine ⟨k0.toNat, k1.toNat, ?_, by omega, by omega⟩
      rw [Int.toNat_of_nonneg b0.1, Int.toNat_of_nonneg b1.1]
end

end Go.Proofs.Ytokdeilcfkobfaa
