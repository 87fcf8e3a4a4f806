/-
  How rows and columns that came in are told.
-/
import Derived.Test.YtpdkeghmpnanpaaRowX
import Derived.Lib.SmallJoins
import Derived.Laws.Cover2
import Derived.Deep.Slices
namespace Go.Proofs.Ytpdkeghmpnanpaa
open Go.ChangeShapes Go.WideShapes Go.ChangeAt Go.RowKit

section
variable {H : Type} {enc : TypeId × Value → H} {w : World} {base : Nat} {spare : Nat → Bool} {held : Bool}

theorem cell_float {n : Nat} {v : Value} {y : DataW H × List MemPlace} (h : DataW.trod enc Try.prog w base spare held n 23 [v] = some y) : ∃ b, v = .float .f64 b ∧ b < 18446744073709551616 := by
  have ht : Try.prog.underlying 23 = some (.float .f64) := by kernel_rfl
  cases n with
  | zero => simp [DataW.trod] at h
  | succ n =>
    cases v <;> simp [DataW.trod, ht] at h
    rename_i k b
    obtain ⟨⟨rfl, hw⟩, _⟩ := h
    exact ⟨b, rfl, by simpa [Lit.wf] using hw⟩

theorem open_fls {n : Nat} {a : Option Addr} {len cap : Nat} {y : DataW H × List MemPlace} (h : DataW.trod enc Try.prog w base spare held n 24 [.slice a len cap] = some y) :
    ∃ xs, Fs w a len cap xs := by
  have hC : Try.prog.cellsOf 23 = 1 := by kernel_rfl
  rcases Go.Deep.open_slice1 Try.underlying24 hC h with ⟨hcs, _⟩ | ⟨x, l, c, m, k, V, D, Pl, hcs, hb, hl, hm, hmm, _, hx⟩
  · simp only [List.cons.injEq, Value.slice.injEq, and_true] at hcs
    obtain ⟨rfl, rfl, rfl⟩ := hcs
    exact ⟨[], ⟨⟨rfl, (fun u hu => by cases hu), fun j hj => by omega⟩, (fun x hx => by cases hx), fun _ => rfl, Nat.le_refl _, by omega⟩⟩
  · simp only [List.cons.injEq, Value.slice.injEq, and_true] at hcs
    obtain ⟨rfl, rfl, rfl⟩ := hcs
    have hle : len ≤ m := by rw [hmm]; split <;> omega
    have hsp : 0 < len → x.spot = none := by
      intro h0
      have := World.cell?_spot (hx 0 (by omega)).1
      simpa [Addr.add] using this
    have each : ∀ i, i < len → ∃ b, V i = .float .f64 b ∧ b < 18446744073709551616 := by
      intro i hi
      exact cell_float (hx i (by omega)).2
    obtain ⟨f, hf⟩ := @Go.Deep.choose_lt Nat ⟨0⟩ len _ each
    refine ⟨(List.range len).map f, ⟨⟨by simp [fVals], fVals_one _, ?_⟩, ?_, (fun e => by cases e), hl, by unfold maxLen at hm; omega⟩⟩
    · intro j hj
      have hc := (hx j (by omega)).1
      obtain ⟨b, off, spot⟩ := x
      have hspot : spot = none := hsp (by omega)
      subst hspot
      refine ⟨b, off, rfl, ?_⟩
      rw [Addr.add_lit] at hc
      rw [hc, (hf j hj).1]
      simp [fVals, hj]
    · intro z hz
      obtain ⟨j, hj, rfl⟩ := List.mem_map.1 hz
      exact (hf j (by simpa using hj)).2

set_option maxRecDepth 100000 in
theorem open_row {r : Reach} {b0 : Nat} {v : Value} {d : DataW H} {p : List MemPlace} (hv : Value.okWide Try.prog w r b0 28 v) (h : DataW.Trod enc Try.prog w base spare held 28 v d p) :
    ∃ (R : Rw) (a : Option Addr) (len cap : Nat), v = R.val (.slice a len cap) ∧ Fs w a len cap R.xs ∧ R.fits := by
  have hC : Try.prog.cellsOf 28 = 6 := by kernel_rfl
  have hR : Try.prog.cellsOf 26 = 2 := by kernel_rfl
  have h1 : Try.prog.cellsOf 23 = 1 := by kernel_rfl
  have h2 : Try.prog.cellsOf 4 = 1 := by kernel_rfl
  have h3 : Try.prog.cellsOf 24 = 1 := by kernel_rfl
  have h4 : Try.prog.cellsOf 3 = 1 := by kernel_rfl
  obtain ⟨cs, rfl, hsz⟩ := okWide_struct Try.underlying28 hv
  rw [hC] at hsz
  obtain ⟨l⟩ := cs
  match l, hsz with
  | [c0, c1, c2, c3, c4, c5], _ =>
    obtain ⟨fuel, hf⟩ := h
    obtain ⟨xs, n, _, _, _, hlen, hfd⟩ := DataW.trod_struct Try.underlying28 hf
    match xs, hlen with
    | [y0, y1, y2, y3, y4], _ =>
      have t0 : DataW.trod enc Try.prog w base spare held n 23 [c0] = some y0 := by simpa [Value.cells, h1] using hfd 0 _ rfl
      have t1 : DataW.trod enc Try.prog w base spare held n 4 [c1] = some y1 := by simpa [Value.cells, h2] using hfd 1 _ rfl
      have t2 : DataW.trod enc Try.prog w base spare held n 24 [c2] = some y2 := by simpa [Value.cells, h3] using hfd 2 _ rfl
      have t3 : DataW.trod enc Try.prog w base spare held n 3 [c3] = some y3 := by simpa [Value.cells, h4] using hfd 3 _ rfl
      have t4 : DataW.trod enc Try.prog w base spare held n 26 [c4, c5] = some y4 := by simpa [Value.cells, hR] using hfd 4 _ rfl
      obtain ⟨b, e0, l0⟩ := cell_float t0
      obtain ⟨bb, e1, _⟩ := DataW.trod_bool (by kernel_rfl : Try.prog.underlying 4 = some .bool) t1
      obtain ⟨k3, e3, _, w3⟩ := DataW.trod_int Try.underlying3 t3
      obtain ⟨z0, z1, n', _, _, u0, u1⟩ := trod_struct2 Try.underlying26 t4
      replace u0 : DataW.trod enc Try.prog w base spare held n' 3 [c4] = some z0 := by simpa [h4] using u0
      replace u1 : DataW.trod enc Try.prog w base spare held n' 3 [c5] = some z1 := by simpa [h4] using u1
      obtain ⟨k4, e4, _, w4⟩ := DataW.trod_int Try.underlying3 u0
      obtain ⟨k5, e5, _, w5⟩ := DataW.trod_int Try.underlying3 u1
      obtain ⟨a, len, cap, e2⟩ := Go.Joins.slice_form Try.underlying24 t2
      simp only [List.cons.injEq, and_true] at e1 e2 e3 e4 e5
      subst e0 e1 e2 e3 e4 e5
      obtain ⟨fl, hfs⟩ := open_fls t2
      exact ⟨⟨b, bb, fl, k3, k4, k5⟩, a, len, cap, rfl, hfs, ⟨l0, hfs.fit, w3, w4, w5⟩⟩
end

end Go.Proofs.Ytpdkeghmpnanpaa
