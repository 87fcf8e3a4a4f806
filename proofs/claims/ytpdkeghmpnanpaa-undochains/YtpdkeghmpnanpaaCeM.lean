/-
  How rows of undoings that came in are told.
-/
import Derived.Test.YtpdkeghmpnanpaaCeB
import Derived.Test.YtpdkeghmpnanpaaUrM
namespace Go.Proofs.Ytpdkeghmpnanpaa
open Go.ChangeShapes Go.WideShapes Go.ChangeAt Go.RowKit

section
variable {H : Type} {enc : TypeId × Value → H} {w : World} {base : Nat} {spare : Nat → Bool} {held : Bool}

set_option maxRecDepth 100000 in
theorem undo_cells {k : Nat} {c0 c1 c2 c3 c4 c5 c6 c7 c8 c9 c10 c11 : Value} {y : DataW H × List MemPlace} (hf : DataW.trod enc Try.prog w base spare held k 30 [c0, c1, c2, c3, c4, c5, c6, c7, c8, c9, c10, c11] = some y) :
    ∃ x : Ux, [c0, c1, c2, c3, c4, c5, c6, c7, c8, c9, c10, c11] = x.cells ∧ Fs w x.a x.n x.c x.u.row.xs ∧ x.u.fits := by
  have hR : Try.prog.cellsOf 28 = 6 := by kernel_rfl
  have h4 : Try.prog.cellsOf 3 = 1 := by kernel_rfl
  obtain ⟨xs, n, _, _, _, hlen, hfd⟩ := DataW.trod_struct Try.underlying30 hf
  match xs, hlen with
  | [y0, y1, y2, y3, y4, y5, y6], _ =>
    have t0 : DataW.trod enc Try.prog w base spare held n 3 [c0] = some y0 := by simpa [Value.cells, h4] using hfd 0 _ rfl
    have t1 : DataW.trod enc Try.prog w base spare held n 3 [c1] = some y1 := by simpa [Value.cells, h4] using hfd 1 _ rfl
    have t2 : DataW.trod enc Try.prog w base spare held n 3 [c2] = some y2 := by simpa [Value.cells, h4] using hfd 2 _ rfl
    have t3 : DataW.trod enc Try.prog w base spare held n 3 [c3] = some y3 := by simpa [Value.cells, h4] using hfd 3 _ rfl
    have t4 : DataW.trod enc Try.prog w base spare held n 3 [c4] = some y4 := by simpa [Value.cells, h4] using hfd 4 _ rfl
    have t5 : DataW.trod enc Try.prog w base spare held n 3 [c5] = some y5 := by simpa [Value.cells, h4] using hfd 5 _ rfl
    have t6 : DataW.trod enc Try.prog w base spare held n 28 [c6, c7, c8, c9, c10, c11] = some y6 := by simpa [Value.cells, hR] using hfd 6 _ rfl
    obtain ⟨k0, e0, _, w0⟩ := DataW.trod_int Try.underlying3 t0
    obtain ⟨k1, e1, _, w1⟩ := DataW.trod_int Try.underlying3 t1
    obtain ⟨k2, e2, _, w2⟩ := DataW.trod_int Try.underlying3 t2
    obtain ⟨k3, e3, _, w3⟩ := DataW.trod_int Try.underlying3 t3
    obtain ⟨k4, e4, _, w4⟩ := DataW.trod_int Try.underlying3 t4
    obtain ⟨k5, e5, _, w5⟩ := DataW.trod_int Try.underlying3 t5
    obtain ⟨R, a, len, cap, e6, hfs, hfit⟩ := row_cells t6
    simp only [List.cons.injEq, and_true] at e0 e1 e2 e3 e4 e5 e6
    obtain ⟨rfl, rfl, rfl, rfl, rfl, rfl⟩ := e6
    subst e0 e1 e2 e3 e4 e5
    exact ⟨⟨⟨k0, k1, k2, k3, k4, k5, R⟩, a, len, cap⟩, rfl, hfs, ⟨w0, w1, w2, w3, w4, w5, hfit⟩⟩

set_option maxHeartbeats 1000000 in
set_option maxRecDepth 100000 in
theorem open_undos {n : Nat} {a : Option Addr} {len cap : Nat} {y : DataW H × List MemPlace} (h : DataW.trod enc Try.prog w base spare held n 22 [.slice a len cap] = some y) :
    ∃ l, Us w a len l ∧ len ≤ 9223372036854775807 := by
  have hC : Try.prog.cellsOf 30 = 12 := by kernel_rfl
  rcases Go.Deep.open_slice Try.underlying22 h with ⟨hcs, _⟩ | ⟨x, l, c, m, k, D, Pl, hcs, hb, hl, hm, hmm, _, hx⟩
  · simp only [List.cons.injEq, Value.slice.injEq, and_true] at hcs
    obtain ⟨rfl, rfl, rfl⟩ := hcs
    exact ⟨[], ⟨rfl, (fun j hj => absurd hj (Nat.not_lt_zero _)), (fun x hx => by cases hx), fun x hx => by cases hx⟩, by omega⟩
  · simp only [List.cons.injEq, Value.slice.injEq, and_true] at hcs
    obtain ⟨rfl, rfl, rfl⟩ := hcs
    have hle : len ≤ m := by rw [hmm]; split <;> omega
    have hsp : 0 < len → x.spot = none := by
      intro h0
      obtain ⟨cs, h1, _⟩ := hx 0 (by omega)
      rw [hC] at h1
      obtain ⟨_, hlen, hc⟩ := World.cells?_some h1
      match cs, hlen with
      | [c0, c1, c2, c3, c4, c5, c6, c7, c8, c9, c10, c11], _ =>
        have e0 := hc 0 (by omega)
        have := World.cell?_spot (by simpa using e0)
        simpa [Addr.add] using this
    have each : ∀ i, i < len → ∃ t : Ux, ∃ b off, x = ⟨b, off, none⟩ ∧ UnAt w b (off + i * 12) t ∧ Fs w t.a t.n t.c t.u.row.xs ∧ t.u.fits := by
      intro i hi
      obtain ⟨cs, g1, g2⟩ := hx i (by omega)
      rw [hC] at g1
      obtain ⟨_, hlen, hc⟩ := World.cells?_some g1
      match cs, hlen with
      | [c0, c1, c2, c3, c4, c5, c6, c7, c8, c9, c10, c11], _ =>
        obtain ⟨t, ht, hfs, hfit⟩ := undo_cells g2
        have hspot : x.spot = none := hsp (by omega)
        obtain ⟨b, off, spot⟩ := x
        simp only at hspot
        subst hspot
        refine ⟨t, b, off, rfl, UnAt.of fun q hq => ?_, hfs, hfit⟩
        have e := hc q (by omega)
        simp only [Addr.add_lit] at e
        rw [← ht]
        simpa using e
    obtain ⟨f, hf⟩ := @Go.Deep.choose_lt Ux ⟨Ux.zero⟩ len _ each
    have hget : ∀ j, j < len → ((List.range len).map f).getD j Ux.zero = f j := fun j hj => by simp [List.getD, hj]
    refine ⟨(List.range len).map f, ⟨by simp, fun j hj => ?_, fun t ht => ?_, fun t ht => ?_⟩, by unfold maxLen at hm; omega⟩
    · obtain ⟨b, off, rfl, hat, _⟩ := hf j hj
      refine ⟨b, off, rfl, ?_⟩
      rw [hget j hj]
      exact hat
    · obtain ⟨j, hj, rfl⟩ := List.mem_map.1 ht
      obtain ⟨_, _, _, _, hfs, _⟩ := hf j (by simpa using hj)
      exact hfs
    · obtain ⟨j, hj, rfl⟩ := List.mem_map.1 ht
      obtain ⟨_, _, _, _, _, hfit⟩ := hf j (by simpa using hj)
      exact hfit
end

end Go.Proofs.Ytpdkeghmpnanpaa
