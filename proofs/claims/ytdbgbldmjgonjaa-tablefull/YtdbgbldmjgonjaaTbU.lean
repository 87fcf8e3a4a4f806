/-
  How tables and pairs of bytes that came in are told.
-/
import Derived.Test.YtdbgbldmjgonjaaTbT
import Derived.Lib.SmallJoins
import Derived.Laws.Cover2
import Derived.Deep.Slices
namespace Go.Proofs.Ytdbgbldmjgonjaa
open Go.ChangeShapes Go.WideShapes Go.ChangeAt Go.RowKit

/-- Numbers that fit their kind. -/
structure En.fits (e : En) : Prop where
  tx : (Lit.int .i64 e.tx).wf = true
  st : (Lit.int .i64 e.st).wf = true
  last : (Lit.int .i64 e.last).wf = true
  com : (Lit.int .i64 e.com).wf = true
structure Tb.fits (t : Tb) : Prop where
  nx : (Lit.int .i64 t.nx).wf = true
  no : (Lit.int .i64 t.no).wf = true
  cm : (Lit.int .i64 t.cm).wf = true
  es : ∀ e ∈ t.es, e.fits

section
variable {H : Type} {enc : TypeId × Value → H} {w : World} {base : Nat} {spare : Nat → Bool} {held : Bool}

set_option maxRecDepth 100000 in
theorem en_cells {k : Nat} {c0 c1 c2 c3 : Value} {y : DataW H × List MemPlace} (hf : DataW.trod enc Try.prog w base spare held k 58 [c0, c1, c2, c3] = some y) :
    ∃ e : En, [c0, c1, c2, c3] = e.cells ∧ e.fits := by
  have h4 : Try.prog.cellsOf 3 = 1 := by kernel_rfl
  obtain ⟨xs, n, _, _, _, hlen, hfd⟩ := DataW.trod_struct Try.underlying58 hf
  match xs, hlen with
  | [y0, y1, y2, y3], _ =>
    have t0 : DataW.trod enc Try.prog w base spare held n 3 [c0] = some y0 := by simpa [Value.cells, h4] using hfd 0 _ rfl
    have t1 : DataW.trod enc Try.prog w base spare held n 3 [c1] = some y1 := by simpa [Value.cells, h4] using hfd 1 _ rfl
    have t2 : DataW.trod enc Try.prog w base spare held n 3 [c2] = some y2 := by simpa [Value.cells, h4] using hfd 2 _ rfl
    have t3 : DataW.trod enc Try.prog w base spare held n 3 [c3] = some y3 := by simpa [Value.cells, h4] using hfd 3 _ rfl
    obtain ⟨k0, e0, _, w0⟩ := DataW.trod_int Try.underlying3 t0
    obtain ⟨k1, e1, _, w1⟩ := DataW.trod_int Try.underlying3 t1
    obtain ⟨k2, e2, _, w2⟩ := DataW.trod_int Try.underlying3 t2
    obtain ⟨k3, e3, _, w3⟩ := DataW.trod_int Try.underlying3 t3
    simp only [List.cons.injEq, and_true] at e0 e1 e2 e3
    subst e0 e1 e2 e3
    exact ⟨⟨k0, k1, k2, k3⟩, rfl, ⟨w0, w1, w2, w3⟩⟩

set_option maxHeartbeats 1000000 in
set_option maxRecDepth 100000 in
theorem open_ens {n : Nat} {a : Option Addr} {len cap : Nat} {y : DataW H × List MemPlace} (h : DataW.trod enc Try.prog w base spare held n 22 [.slice a len cap] = some y) :
    ∃ l, Es w ⟨a, len, cap⟩ l ∧ ∀ e ∈ l, e.fits := by
  have hC : Try.prog.cellsOf 58 = 4 := by kernel_rfl
  rcases Go.Deep.open_slice Try.underlying22 h with ⟨hcs, _⟩ | ⟨x, l, c, m, k, D, Pl, hcs, hb, hl, hm, hmm, _, hx⟩
  · simp only [List.cons.injEq, Value.slice.injEq, and_true] at hcs
    obtain ⟨rfl, rfl, rfl⟩ := hcs
    exact ⟨[], Es.none w, fun x hx => by cases hx⟩
  · simp only [List.cons.injEq, Value.slice.injEq, and_true] at hcs
    obtain ⟨rfl, rfl, rfl⟩ := hcs
    have hle : len ≤ m := by rw [hmm]; split <;> omega
    have hsp : 0 < len → x.spot = none := by
      intro h0
      obtain ⟨cs, h1, _⟩ := hx 0 (by omega)
      rw [hC] at h1
      obtain ⟨_, hlen, hc⟩ := World.cells?_some h1
      match cs, hlen with
      | [c0, c1, c2, c3], _ =>
        have e0 := hc 0 (by omega)
        have := World.cell?_spot (by simpa using e0)
        simpa [Addr.add] using this
    have each : ∀ i, i < len → ∃ t : En, ∃ b off, x = ⟨b, off, none⟩ ∧ EnAt w b (off + i * 4) t ∧ t.fits := by
      intro i hi
      obtain ⟨cs, g1, g2⟩ := hx i (by omega)
      rw [hC] at g1
      obtain ⟨_, hlen, hc⟩ := World.cells?_some g1
      match cs, hlen with
      | [c0, c1, c2, c3], _ =>
        obtain ⟨t, ht, hfit⟩ := en_cells g2
        have hspot : x.spot = none := hsp (by omega)
        obtain ⟨b, off, spot⟩ := x
        simp only at hspot
        subst hspot
        refine ⟨t, b, off, rfl, EnAt.of fun q hq => ?_, hfit⟩
        have e := hc q (by omega)
        simp only [Addr.add_lit] at e
        rw [← ht]
        simpa using e
    obtain ⟨f, hf⟩ := @Go.Deep.choose_lt En ⟨En.zero⟩ len _ each
    have hget : ∀ j, j < len → ((List.range len).map f).getD j En.zero = f j := fun j hj => by simp [List.getD, hj]
    refine ⟨(List.range len).map f, ⟨by simp, (fun e => by cases e), by show len ≤ cap; omega, by show len ≤ _; unfold maxLen at hm; omega, fun j hj => ?_⟩, fun t ht => ?_⟩
    · obtain ⟨b, off, rfl, hat, _⟩ := hf j hj
      refine ⟨b, off, rfl, ?_⟩
      rw [hget j hj]
      exact hat
    · obtain ⟨j, hj, rfl⟩ := List.mem_map.1 ht
      obtain ⟨_, _, _, _, hfit⟩ := hf j (by simpa using hj)
      exact hfit

set_option maxRecDepth 100000 in
theorem open_tab {r : Reach} {b0 : Nat} {v : Value} {d : DataW H} {p : List MemPlace} (hv : Value.okWide Try.prog w r b0 24 v) (h : DataW.Trod enc Try.prog w base spare held 24 v d p) :
    ∃ (t : Tb) (s : Sl), v = t.val s ∧ Es w s t.es ∧ t.fits := by
  have hC : Try.prog.cellsOf 24 = 4 := by kernel_rfl
  have hS : Try.prog.cellsOf 22 = 1 := by kernel_rfl
  have h4 : Try.prog.cellsOf 3 = 1 := by kernel_rfl
  obtain ⟨cs, rfl, hsz⟩ := okWide_struct Try.underlying24 hv
  rw [hC] at hsz
  obtain ⟨l⟩ := cs
  match l, hsz with
  | [c0, c1, c2, c3], _ =>
    obtain ⟨fuel, hf⟩ := h
    obtain ⟨xs, n, _, _, _, hlen, hfd⟩ := DataW.trod_struct Try.underlying24 hf
    match xs, hlen with
    | [y0, y1, y2, y3], _ =>
      have t0 : DataW.trod enc Try.prog w base spare held n 3 [c0] = some y0 := by simpa [Value.cells, h4] using hfd 0 _ rfl
      have t1 : DataW.trod enc Try.prog w base spare held n 3 [c1] = some y1 := by simpa [Value.cells, h4] using hfd 1 _ rfl
      have t2 : DataW.trod enc Try.prog w base spare held n 3 [c2] = some y2 := by simpa [Value.cells, h4] using hfd 2 _ rfl
      have t3 : DataW.trod enc Try.prog w base spare held n 22 [c3] = some y3 := by simpa [Value.cells, hS] using hfd 3 _ rfl
      obtain ⟨k0, e0, _, w0⟩ := DataW.trod_int Try.underlying3 t0
      obtain ⟨k1, e1, _, w1⟩ := DataW.trod_int Try.underlying3 t1
      obtain ⟨k2, e2, _, w2⟩ := DataW.trod_int Try.underlying3 t2
      simp only [List.cons.injEq, and_true] at e0 e1 e2
      subst e0 e1 e2
      have hsl : ∃ a len cap, c3 = .slice a len cap := by
        rcases Go.Deep.open_slice Try.underlying22 t3 with ⟨hcs, _⟩ | ⟨x, l, c, m, k, D, Pl, hcs, _⟩
        · simp only [List.cons.injEq, and_true] at hcs
          exact ⟨_, _, _, hcs⟩
        · simp only [List.cons.injEq, and_true] at hcs
          exact ⟨_, _, _, hcs⟩
      obtain ⟨a, len, cap, rfl⟩ := hsl
      obtain ⟨es, hE, hfit⟩ := open_ens t3
      exact ⟨⟨k0, k1, k2, es⟩, ⟨a, len, cap⟩, rfl, hE, ⟨w0, w1, w2, hfit⟩⟩

set_option maxHeartbeats 1000000 in
set_option maxRecDepth 100000 in
theorem open_pairs {n : Nat} {a : Option Addr} {len cap : Nat} {y : DataW H × List MemPlace} (h : DataW.trod enc Try.prog w base spare held n 49 [.slice a len cap] = some y) : Prs w a len := by
  have hu : Try.prog.underlying 50 = some (.array 2 5) := by kernel_rfl
  have hC : Try.prog.cellsOf 50 = 2 := by kernel_rfl
  have h1 : Try.prog.cellsOf 5 = 1 := by kernel_rfl
  rcases Go.Deep.open_slice Try.underlying49 h with ⟨hcs, _⟩ | ⟨x, l, c, m, k, D, Pl, hcs, hb, hl, hm, hmm, _, hx⟩
  · simp only [List.cons.injEq, Value.slice.injEq, and_true] at hcs
    obtain ⟨rfl, rfl, rfl⟩ := hcs
    exact ⟨by omega, fun j hj => absurd hj (Nat.not_lt_zero _)⟩
  · simp only [List.cons.injEq, Value.slice.injEq, and_true] at hcs
    obtain ⟨rfl, rfl, rfl⟩ := hcs
    have hle : len ≤ m := by rw [hmm]; split <;> omega
    have hsp : 0 < len → x.spot = none := by
      intro h0
      obtain ⟨cs, h1, _⟩ := hx 0 (by omega)
      rw [hC] at h1
      obtain ⟨_, hlen, hc⟩ := World.cells?_some h1
      match cs, hlen with
      | [c0, c1], _ =>
        have e0 := hc 0 (by omega)
        have := World.cell?_spot (by simpa using e0)
        simpa [Addr.add] using this
    refine ⟨by unfold maxLen at hm; omega, fun i hi => ?_⟩
    obtain ⟨cs, g1, g2⟩ := hx i (by omega)
    rw [hC] at g1
    obtain ⟨_, hlen, hc⟩ := World.cells?_some g1
    match cs, hlen with
    | [c0, c1], _ =>
      have e0 := hc 0 (by omega)
      have e1 := hc 1 (by omega)
      have hspot : x.spot = none := hsp (by omega)
      obtain ⟨b, off, spot⟩ := x
      simp only at hspot
      subst hspot
      obtain ⟨xs, m', _, _, _, hlen', hfd⟩ := DataW.trod_array hu g2
      match xs, hlen' with
      | [y0, y1], _ =>
        have t0 : DataW.trod enc Try.prog w base spare held m' 5 [c0] = some y0 := by simpa [Value.cells, h1] using hfd 0 (by omega)
        have t1 : DataW.trod enc Try.prog w base spare held m' 5 [c1] = some y1 := by simpa [Value.cells, h1] using hfd 1 (by omega)
        obtain ⟨k0, f0, _, w0⟩ := DataW.trod_int Try.underlying5 t0
        obtain ⟨k1, f1, _, w1⟩ := DataW.trod_int Try.underlying5 t1
        simp only [List.cons.injEq, and_true] at f0 f1
        subst f0 f1
        have b0 := bounds_u8 w0
        have b1 := bounds_u8 w1
        refine ⟨b, off, rfl, k0.toNat, k1.toNat, by omega, by omega, ?_, ?_⟩
        · rw [Int.toNat_of_nonneg b0.1]
          simpa [Addr.add_lit] using e0
        · rw [Int.toNat_of_nonneg b1.1]
          simpa [Addr.add_lit] using e1
end

end Go.Proofs.Ytdbgbldmjgonjaa
