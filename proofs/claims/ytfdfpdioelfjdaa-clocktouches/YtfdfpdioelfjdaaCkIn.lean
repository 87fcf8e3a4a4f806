/-
  How a clock that came in is told.
-/
import Derived.Test.YtfdfpdioelfjdaaCkB
import Derived.Lib.SmallJoins
import Derived.Laws.Cover2
import Derived.Deep.Slices
namespace Go.Proofs.Ytfdfpdioelfjdaa
open Go.ChangeShapes Go.WideShapes Go.ChangeAt Go.RowKit

/-- Frames that came in. -/
structure InC (w : World) (s : Sl) (l : List Sp) : Prop where
  len : l.length = s.len
  nil : s.a = none → s.cap = 0
  le : s.len ≤ s.cap
  big : s.len ≤ 9223372036854775807
  cell : ∀ i, i < s.len → ∃ b off, s.a = some ⟨b, off, none⟩ ∧ w.cell? ⟨b, off + i * 3, none⟩ = some (.int .i64 (fr l i).page) ∧ w.cell? ⟨b, off + i * 3 + 1, none⟩ = some (.bool (fr l i).used) ∧ w.cell? ⟨b, off + i * 3 + 2, none⟩ = some (.bool (fr l i).pin)
theorem InC.gs {w : World} {s : Sl} {l : List Sp} (h : InC w s l) (hl : s.len ≤ 1000000) : Gs (fun _ => True) w s l := ⟨h.len, h.nil, h.le, hl, fun _ _ _ => trivial, h.cell⟩

section
variable {H : Type} {enc : TypeId × Value → H} {w : World} {base : Nat} {spare : Nat → Bool} {held : Bool}

theorem open_spots {n : Nat} {a : Option Addr} {len cap : Nat} {y : DataW H × List MemPlace} (h : DataW.trod enc Try.prog w base spare held n 22 [.slice a len cap] = some y) :
    ∃ l, InC w ⟨a, len, cap⟩ l := by
  have hC : Try.prog.cellsOf 38 = 3 := by kernel_rfl
  have h1 : Try.prog.cellsOf 3 = 1 := by kernel_rfl
  have h2 : Try.prog.cellsOf 4 = 1 := by kernel_rfl
  rcases Go.Deep.open_slice Try.underlying22 h with ⟨hcs, _⟩ | ⟨x, l, c, m, k, D, Pl, hcs, hb, hl, hm, hmm, _, hx⟩
  · simp only [List.cons.injEq, Value.slice.injEq, and_true] at hcs
    obtain ⟨rfl, rfl, rfl⟩ := hcs
    exact ⟨[], ⟨rfl, fun _ => rfl, Nat.le_refl _, by show 0 ≤ _; omega, fun j hj => absurd hj (Nat.not_lt_zero _)⟩⟩
  · simp only [List.cons.injEq, Value.slice.injEq, and_true] at hcs
    obtain ⟨rfl, rfl, rfl⟩ := hcs
    have hle : len ≤ m := by rw [hmm]; split <;> omega
    have hsp : 0 < len → x.spot = none := by
      intro h0
      obtain ⟨cs, h1, _⟩ := hx 0 (by omega)
      rw [hC] at h1
      obtain ⟨_, hlen, hc⟩ := World.cells?_some h1
      match cs, hlen with
      | [c0, c1, c2], _ =>
        have e0 := hc 0 (by omega)
        have := World.cell?_spot (by simpa using e0)
        simpa [Addr.add] using this
    have each : ∀ i, i < len → ∃ t : Sp, ∃ b off, x = ⟨b, off, none⟩ ∧ w.cell? ⟨b, off + i * 3, none⟩ = some (.int .i64 t.page) ∧ w.cell? ⟨b, off + i * 3 + 1, none⟩ = some (.bool t.used) ∧ w.cell? ⟨b, off + i * 3 + 2, none⟩ = some (.bool t.pin) := by
      intro i hi
      obtain ⟨cs, g1, g2⟩ := hx i (by omega)
      rw [hC] at g1
      obtain ⟨_, hlen, hc⟩ := World.cells?_some g1
      obtain ⟨xs, n', _, _, _, hxl, hfd⟩ := DataW.trod_struct Try.underlying38 g2
      match cs, hlen, xs, hxl with
      | [c0, c1, c2], _, [y0, y1, y2], _ =>
        have t0 : DataW.trod enc Try.prog w base spare held n' 3 [c0] = some y0 := by simpa [h1] using hfd 0 _ rfl
        have t1 : DataW.trod enc Try.prog w base spare held n' 4 [c1] = some y1 := by simpa [h2] using hfd 1 _ rfl
        have t2 : DataW.trod enc Try.prog w base spare held n' 4 [c2] = some y2 := by simpa [h2] using hfd 2 _ rfl
        obtain ⟨q, e0, _, _⟩ := DataW.trod_int Try.underlying3 t0
        obtain ⟨u, e1, _⟩ := DataW.trod_bool Try.underlying4 t1
        obtain ⟨v, e2, _⟩ := DataW.trod_bool Try.underlying4 t2
        simp only [List.cons.injEq, and_true] at e0 e1 e2
        subst e0 e1 e2
        have k0 := hc 0 (by omega)
        have k1 := hc 1 (by omega)
        have k2 := hc 2 (by omega)
        obtain ⟨b, off, spot⟩ := x
        have hspot : spot = none := hsp (by omega)
        subst hspot
        refine ⟨⟨q, u, v⟩, b, off, rfl, ?_⟩
        simp only [Addr.add_lit] at k0 k1 k2
        exact ⟨by simpa using k0, by simpa using k1, by simpa using k2⟩
    obtain ⟨f, hf⟩ := @Go.Deep.choose_lt Sp ⟨Sp.zero⟩ len _ each
    refine ⟨(List.range len).map f, ⟨by simp, (fun e => by cases e), hl, by show len ≤ _; unfold maxLen at hm; omega, ?_⟩⟩
    intro j hj
    obtain ⟨b, off, rfl, hit⟩ := hf j hj
    refine ⟨b, off, rfl, ?_⟩
    have : fr ((List.range len).map f) j = f j := by
      have hj' : j < len := hj
      simp [fr, List.getD, hj']
    rw [this]
    exact hit

theorem open_clock {r : Reach} {b0 : Nat} {v : Value} {d : DataW H} {p : List MemPlace} (hv : Value.okWide Try.prog w r b0 24 v) (h : DataW.Trod enc Try.prog w base spare held 24 v d p) : ∃ (s : Sl) (x : Int) (l : List Sp), v = ckV s x ∧ InC w s l := by
  obtain ⟨v0, v1, y0, y1, n, rfl, _, _, h0, h1⟩ := Go.Joins.open_agg2 Try.underlying24 (by kernel_rfl) (by kernel_rfl) hv h
  obtain ⟨a, len, cap, e2⟩ := Go.Joins.slice_form Try.underlying22 h0
  obtain ⟨q, e0, _, _⟩ := DataW.trod_int Try.underlying3 h1
  simp only [List.cons.injEq, and_true] at e0 e2
  subst e0 e2
  obtain ⟨l, hl⟩ := open_spots h0
  exact ⟨⟨a, len, cap⟩, q, l, rfl, hl⟩
end

end Go.Proofs.Ytfdfpdioelfjdaa
