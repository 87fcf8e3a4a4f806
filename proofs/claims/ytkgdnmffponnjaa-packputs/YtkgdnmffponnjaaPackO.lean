/-
  How a row of items that came in is told.
-/
import Derived.Test.YtkgdnmffponnjaaPackL
import Derived.Deep.Slices
namespace Go.Proofs.Ytkgdnmffponnjaa
open Go.ChangeShapes Go.WideShapes Go.ChangeAt Go.RowKit

section
variable {H : Type} {enc : TypeId × Value → H} {w : World} {base : Nat} {spare : Nat → Bool} {held : Bool}

theorem open_items {n : Nat} {a : Option Addr} {len cap : Nat} {y : DataW H × List MemPlace} (h : DataW.trod enc Try.prog w base spare held n 22 [.slice a len cap] = some y) :
    ∃ l, Is w a len l ∧ (a = none → cap = 0) ∧ len ≤ 9223372036854775807 := by
  have hC : Try.prog.cellsOf 35 = 4 := by kernel_rfl
  rcases Go.Deep.open_slice Try.underlying22 h with ⟨hcs, _⟩ | ⟨x, l, c, m, k, D, Pl, hcs, hb, hl, hm, hmm, _, hx⟩
  · simp only [List.cons.injEq, Value.slice.injEq, and_true] at hcs
    obtain ⟨rfl, rfl, rfl⟩ := hcs
    exact ⟨[], ⟨rfl, (fun i hi => by cases hi), fun j hj => by omega⟩, fun _ => rfl, by omega⟩
  · simp only [List.cons.injEq, Value.slice.injEq, and_true] at hcs
    obtain ⟨rfl, rfl, rfl⟩ := hcs
    have hle : len ≤ m := by rw [hmm]; split <;> omega
    have hsp : 0 < len → x.spot = none := by
      intro h0
      obtain ⟨cs, h1, _⟩ := hx 0 (by omega)
      rw [hC] at h1
      obtain ⟨_, hlen, hc⟩ := World.cells?_some h1
      match cs, hlen with
      | [c0, c1, c2, c3], _ =>
        have e0 := hc 0 (by omega)
        have := World.cell?_spot (by simpa using e0)
        simpa [Addr.add] using this
    have each : ∀ i, i < len → ∃ t : It, (∃ b off, x = ⟨b, off, none⟩ ∧ ItAt w b (off + i * 4) t) ∧ t.fits := by
      intro i hi
      obtain ⟨cs, h1, h2⟩ := hx i (by omega)
      rw [hC] at h1
      obtain ⟨_, hlen, hc⟩ := World.cells?_some h1
      obtain ⟨y0, y1, y2, y3, n', _, _, t0, t1, t2, t3⟩ := Go.Joins.trod_struct4 Try.underlying35 h2
      match cs, hlen with
      | [c0, c1, c2, c3], _ =>
        obtain ⟨t, rfl, rfl, rfl, rfl, hf⟩ := open_fields t0 t1 t2 t3
        refine ⟨t, ?_, hf⟩
        have e0 := hc 0 (by omega)
        have e1 := hc 1 (by omega)
        have e2 := hc 2 (by omega)
        have e3 := hc 3 (by omega)
        obtain ⟨b, off, spot⟩ := x
        have hspot : spot = none := hsp (by omega)
        subst hspot
        refine ⟨b, off, rfl, ?_⟩
        simp only [Addr.add_lit] at e0 e1 e2 e3
        exact ⟨by simpa using e0, by simpa using e1, by simpa using e2, by simpa using e3⟩
    obtain ⟨f, hf⟩ := @Go.Deep.choose_lt It ⟨itD⟩ len _ each
    refine ⟨(List.range len).map f, ⟨by simp, ?_, ?_⟩, (fun e => by cases e), by unfold maxLen at hm; omega⟩
    · intro i hi
      obtain ⟨j, hj, rfl⟩ := List.mem_map.1 hi
      exact (hf j (by simpa using hj)).2
    · intro j hj
      obtain ⟨⟨b, off, rfl, hit⟩, _⟩ := hf j hj
      refine ⟨b, off, rfl, ?_⟩
      have : ((List.range len).map f).getD j itD = f j := by simp [List.getD, hj]
      rw [this]
      exact hit
end

end Go.Proofs.Ytkgdnmffponnjaa
