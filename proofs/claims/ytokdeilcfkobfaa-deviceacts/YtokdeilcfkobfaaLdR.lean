/-
  How patterns, bytes and acts that came in are told.
-/
import Derived.Test.YtokdeilcfkobfaaLdQ
import Derived.Lib.SmallJoins
import Derived.Laws.Cover2
import Derived.Deep.Slices
namespace Go.Proofs.Ytokdeilcfkobfaa
open Go.ChangeShapes Go.WideShapes Go.ChangeAt Go.RowKit

section
variable {H : Type} {enc : TypeId × Value → H} {w : World} {base : Nat} {spare : Nat → Bool} {held : Bool}

theorem open_pat {n : Nat} {a : Option Addr} {len cap : Nat} {y : DataW H × List MemPlace} (h : DataW.trod enc Try.prog w base spare held n 37 [.slice a len cap] = some y) :
    ∃ bs, Pat w a len bs ∧ len ≤ 9223372036854775807 := by
  have hC : Try.prog.cellsOf 4 = 1 := by kernel_rfl
  rcases Go.Deep.open_slice1 Try.underlying37 hC h with ⟨hcs, _⟩ | ⟨x, l, c, m, k, V, D, Pl, hcs, hb, hl, hm, hmm, _, hx⟩
  · simp only [List.cons.injEq, Value.slice.injEq, and_true] at hcs
    obtain ⟨rfl, rfl, rfl⟩ := hcs
    exact ⟨[], ⟨rfl, fun j hj => by omega⟩, by omega⟩
  · simp only [List.cons.injEq, Value.slice.injEq, and_true] at hcs
    obtain ⟨rfl, rfl, rfl⟩ := hcs
    have hle : len ≤ m := by rw [hmm]; split <;> omega
    have hsp : 0 < len → x.spot = none := by
      intro h0
      have := World.cell?_spot (hx 0 (by omega)).1
      simpa [Addr.add] using this
    have each : ∀ i, i < len → ∃ b : Bool, V i = .bool b := by
      intro i hi
      obtain ⟨bb, e1, _⟩ := DataW.trod_bool (by kernel_rfl : Try.prog.underlying 4 = some .bool) (hx i (by omega)).2
      exact ⟨bb, by simpa using e1⟩
    obtain ⟨f, hf⟩ := @Go.Deep.choose_lt Bool ⟨false⟩ len _ each
    refine ⟨(List.range len).map f, ⟨by simp, ?_⟩, by unfold maxLen at hm; omega⟩
    intro j hj
    have hc := (hx j (by omega)).1
    obtain ⟨b, off, spot⟩ := x
    have hspot : spot = none := hsp (by omega)
    subst hspot
    refine ⟨b, off, rfl, ?_⟩
    rw [Addr.add_lit] at hc
    rw [hc, hf j hj]
    simp [List.getD, hj]

theorem open_bts {n : Nat} {a : Option Addr} {len cap : Nat} {y : DataW H × List MemPlace} (h : DataW.trod enc Try.prog w base spare held n 30 [.slice a len cap] = some y) :
    ∃ xs, Came w a len cap xs := by
  have hC : Try.prog.cellsOf 5 = 1 := by kernel_rfl
  rcases Go.Deep.open_slice1 Try.underlying30 hC h with ⟨hcs, _⟩ | ⟨x, l, c, m, k, V, D, Pl, hcs, hb, hl, hm, hmm, _, hx⟩
  · simp only [List.cons.injEq, Value.slice.injEq, and_true] at hcs
    obtain ⟨rfl, rfl, rfl⟩ := hcs
    exact ⟨[], ⟨⟨rfl, (fun u hu => by cases hu), fun j hj => by omega⟩, fun _ => rfl, Nat.le_refl _, by omega⟩⟩
  · simp only [List.cons.injEq, Value.slice.injEq, and_true] at hcs
    obtain ⟨rfl, rfl, rfl⟩ := hcs
    have hle : len ≤ m := by rw [hmm]; split <;> omega
    have hsp : 0 < len → x.spot = none := by
      intro h0
      have := World.cell?_spot (hx 0 (by omega)).1
      simpa [Addr.add] using this
    have each : ∀ i, i < len → ∃ b : Nat, V i = .int .u8 ((b : Nat) : Int) ∧ b < 256 := by
      intro i hi
      obtain ⟨k3, e3, _, w3⟩ := DataW.trod_int Try.underlying5 (hx i (by omega)).2
      have hb := bounds_u8 w3
      refine ⟨k3.toNat, ?_, by omega⟩
      rw [Int.toNat_of_nonneg hb.1]
      simpa using e3
    obtain ⟨f, hf⟩ := @Go.Deep.choose_lt Nat ⟨0⟩ len _ each
    refine ⟨(List.range len).map f, ⟨⟨by simp, ?_, ?_⟩, (fun e => by cases e), hl, by unfold maxLen at hm; omega⟩⟩
    · intro z hz
      obtain ⟨j, hj, rfl⟩ := List.mem_map.1 hz
      exact (hf j (by simpa using hj)).2
    · intro j hj
      have hc := (hx j (by omega)).1
      obtain ⟨b, off, spot⟩ := x
      have hspot : spot = none := hsp (by omega)
      subst hspot
      refine ⟨b, off, rfl, ?_⟩
      rw [Addr.add_lit] at hc
      rw [hc, (hf j hj).1]
      simp [List.getD, hj]

/-- An act that came in: its cells, its bytes, its pattern. -/
structure AcIn (w : World) (x : Ac) (b q : Sl) (bs : List Nat) (ps : List Bool) : Prop where
  b : Came w b.a b.len b.cap bs
  p : Pat w q.a q.len ps
  pl : q.len ≤ 9223372036854775807
  wd : (Lit.int .i64 x.do_).wf = true
  wp : (Lit.int .i64 x.pg).wf = true
  wn : (Lit.int .i64 x.n).wf = true

theorem act_cells {n : Nat} {cs : List Value} {y : DataW H × List MemPlace} (hf : DataW.trod enc Try.prog w base spare held n 39 cs = some y) :
    ∃ (x : Ac) (b q : Sl) (bs : List Nat) (ps : List Bool), cs = (x.cells b q).toList ∧ AcIn w x b q bs ps := by
  have hC : Try.prog.cellsOf 39 = 5 := by kernel_rfl
  have h1 : Try.prog.cellsOf 3 = 1 := by kernel_rfl
  have h2 : Try.prog.cellsOf 30 = 1 := by kernel_rfl
  have h3 : Try.prog.cellsOf 37 = 1 := by kernel_rfl
  obtain ⟨xs, m, _, _, hsz, hlen, hfd⟩ := DataW.trod_struct Try.underlying39 hf
  rw [hC] at hsz
  match cs, hsz with
  | [c0, c1, c2, c3, c4], _ =>
    match xs, hlen with
    | [y0, y1, y2, y3, y4], _ =>
      have t0 : DataW.trod enc Try.prog w base spare held m 3 [c0] = some y0 := by simpa [h1] using hfd 0 _ rfl
      have t1 : DataW.trod enc Try.prog w base spare held m 3 [c1] = some y1 := by simpa [h1] using hfd 1 _ rfl
      have t2 : DataW.trod enc Try.prog w base spare held m 30 [c2] = some y2 := by simpa [h2] using hfd 2 _ rfl
      have t3 : DataW.trod enc Try.prog w base spare held m 3 [c3] = some y3 := by simpa [h1] using hfd 3 _ rfl
      have t4 : DataW.trod enc Try.prog w base spare held m 37 [c4] = some y4 := by simpa [h3] using hfd 4 _ rfl
      obtain ⟨k0, e0, _, w0⟩ := DataW.trod_int Try.underlying3 t0
      obtain ⟨k1, e1, _, w1⟩ := DataW.trod_int Try.underlying3 t1
      obtain ⟨k3, e3, _, w3⟩ := DataW.trod_int Try.underlying3 t3
      obtain ⟨a, len, cap, e2⟩ := Go.Joins.slice_form Try.underlying30 t2
      obtain ⟨a', len', cap', e4⟩ := Go.Joins.slice_form Try.underlying37 t4
      simp only [List.cons.injEq, and_true] at e0 e1 e2 e3 e4
      subst e0 e1 e2 e3 e4
      obtain ⟨bs, hb⟩ := open_bts t2
      obtain ⟨ps, hp, hpl⟩ := open_pat t4
      exact ⟨⟨k0, k1, k3⟩, ⟨a, len, cap⟩, ⟨a', len', cap'⟩, bs, ps, rfl, ⟨hb, hp, hpl, w0, w1, w3⟩⟩

theorem open_act {r : Reach} {b0 : Nat} {v : Value} {d : DataW H} {p : List MemPlace} (hv : Value.okWide Try.prog w r b0 39 v) (h : DataW.Trod enc Try.prog w base spare held 39 v d p) :
    ∃ (x : Ac) (b q : Sl) (bs : List Nat) (ps : List Bool), v = .agg (x.cells b q) ∧ AcIn w x b q bs ps := by
  obtain ⟨cs, rfl, hsz⟩ := okWide_struct Try.underlying39 hv
  obtain ⟨fuel, hf⟩ := h
  obtain ⟨x, b, q, bs, ps, e, hin⟩ := act_cells hf
  refine ⟨x, b, q, bs, ps, ?_, hin⟩
  have : cs = x.cells b q := Array.toList_inj.1 (by simpa [Value.cells] using e)
  rw [this]
end

end Go.Proofs.Ytokdeilcfkobfaa
