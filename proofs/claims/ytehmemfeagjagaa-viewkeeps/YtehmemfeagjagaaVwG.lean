/-
  What comes in; all that the landed view must be shown to say; awake of layer 16's laws.
-/
import Derived.Test.YtehmemfeagjagaaVwF
import Derived.ProofKit
import Derived.OpenShut
import Derived.Lib.SmallJoins
namespace Go.Proofs.Ytehmemfeagjagaa
open Go.ChangeShapes Go.WideShapes Go.ChangeAt Go.RowKit
set_option linter.unusedVariables false

/-- Numbers that came in. -/
structure InI (w : World) (s : Sl) (t : List Int) : Prop where
  len : t.length = s.len
  nil : s.a = none → s.cap = 0
  le : s.len ≤ s.cap
  big : s.len ≤ 9223372036854775807
  cell : ∀ i, i < s.len → ∃ b off, s.a = some ⟨b, off, none⟩ ∧ w.cell? ⟨b, off + i, none⟩ = some (.int .i64 (t.getD i 0))
theorem InI.gi {w : World} {s : Sl} {t : List Int} (h : InI w s t) (hl : s.len ≤ 1000000) : Gi (fun _ => True) w s t := ⟨h.len, h.nil, h.le, hl, fun _ _ _ => trivial, h.cell⟩
theorem InI.keep {w w' : World} {s : Sl} {t : List Int} (h : InI w s t) (hb : Below w.heap.size w w') : InI w' s t := by
  refine ⟨h.len, h.nil, h.le, h.big, fun i hi => ?_⟩
  obtain ⟨b, off, ha, c0⟩ := h.cell i hi
  exact ⟨b, off, ha, (hb.cell (World.block_lt_of_cell? w _ c0)).trans c0⟩
/-- Views that came in. -/
structure InV (w : World) (s : Sl) (L : List Vx) : Prop where
  len : L.length = s.len
  nil : s.a = none → s.cap = 0
  le : s.len ≤ s.cap
  big : s.len ≤ 9223372036854775807
  cell : ∀ i, i < s.len → ∃ b off, s.a = some ⟨b, off, none⟩ ∧ w.cell? ⟨b, off + i * 3, none⟩ = some (.int .i64 (L.getD i Vx.zero).v.self) ∧ w.cell? ⟨b, off + i * 3 + 1, none⟩ = some (.int .i64 (L.getD i Vx.zero).v.next) ∧ w.cell? ⟨b, off + i * 3 + 2, none⟩ = some (L.getD i Vx.zero).s.val
  it : ∀ x ∈ L, InI w x.s x.v.act
theorem InV.gv {w : World} {s : Sl} {L : List Vx} (h : InV w s L) (hl : s.len ≤ 1000000) (hp : ∀ x ∈ L, x.s.len ≤ 200) : Gv w s L :=
  ⟨h.len, h.nil, h.le, hl, h.cell, fun x hx => (h.it x hx).gi (by have := hp x hx; omega)⟩
theorem InV.keep {w w' : World} {s : Sl} {L : List Vx} (h : InV w s L) (hb : Below w.heap.size w w') : InV w' s L := by
  refine ⟨h.len, h.nil, h.le, h.big, fun i hi => ?_, fun x hx => (h.it x hx).keep hb⟩
  obtain ⟨b, off, ha, c0, c1, c2⟩ := h.cell i hi
  have k : ∀ {p : Addr} {u : Value}, w.cell? p = some u → w'.cell? p = some u := fun {p u} hp => (hb.cell (World.block_lt_of_cell? w _ hp)).trans hp
  exact ⟨b, off, ha, k c0, k c1, k c2⟩

section
variable {H : Type} {enc : TypeId × Value → H} {w : World} {base : Nat} {spare : Nat → Bool} {held : Bool}

theorem open_intsV {n : Nat} {a : Option Addr} {len cap : Nat} {y : DataW H × List MemPlace} (h : DataW.trod enc Try.prog w base spare held n 22 [.slice a len cap] = some y) : ∃ t, InI w ⟨a, len, cap⟩ t := by
  have hC : Try.prog.cellsOf 3 = 1 := by kernel_rfl
  rcases Go.Deep.open_slice1 Try.underlying22 hC h with ⟨hcs, _⟩ | ⟨x, l, c, m, k, V, D, Pl, hcs, hb, hl, hm, hmm, _, hx⟩
  · simp only [List.cons.injEq, Value.slice.injEq, and_true] at hcs
    obtain ⟨rfl, rfl, rfl⟩ := hcs
    exact ⟨[], ⟨rfl, fun _ => rfl, Nat.le_refl _, Nat.zero_le _, fun j hj => absurd hj (Nat.not_lt_zero _)⟩⟩
  · simp only [List.cons.injEq, Value.slice.injEq, and_true] at hcs
    obtain ⟨rfl, rfl, rfl⟩ := hcs
    have hle : len ≤ m := by rw [hmm]; split <;> omega
    have hsp : 0 < len → x.spot = none := by
      intro h0
      have := World.cell?_spot (hx 0 (by omega)).1
      simpa [Addr.add] using this
    have each : ∀ i, i < len → ∃ b : Int, V i = .int .i64 b := by
      intro i hi
      obtain ⟨k3, e3, _, w3⟩ := DataW.trod_int Try.underlying3 (hx i (by omega)).2
      exact ⟨k3, by simpa using e3⟩
    obtain ⟨f, hf⟩ := @Go.Deep.choose_lt Int ⟨0⟩ len _ each
    refine ⟨(List.range len).map f, ⟨by simp, (fun e => by cases e), hl, by show len ≤ _; unfold maxLen at hm; omega, ?_⟩⟩
    intro j hj
    replace hj : j < len := hj
    have hc := (hx j (by omega)).1
    obtain ⟨b, off, spot⟩ := x
    have hspot : spot = none := hsp (by omega)
    subst hspot
    refine ⟨b, off, rfl, ?_⟩
    rw [Addr.add_lit] at hc
    rw [hc, hf j hj]
    simp [List.getD, hj]

set_option maxRecDepth 100000 in
theorem view_cells {k : Nat} {c0 c1 c2 : Value} {y : DataW H × List MemPlace} (hf : DataW.trod enc Try.prog w base spare held k 25 [c0, c1, c2] = some y) :
    ∃ x : Vx, [c0, c1, c2] = [.int .i64 x.v.self, .int .i64 x.v.next, x.s.val] ∧ InI w x.s x.v.act := by
  have h1 : Try.prog.cellsOf 3 = 1 := by kernel_rfl
  have h2 : Try.prog.cellsOf 22 = 1 := by kernel_rfl
  obtain ⟨xs, n, _, _, _, hlen, hfd⟩ := DataW.trod_struct Try.underlying25 hf
  match xs, hlen with
  | [y0, y1, y2], _ =>
    have t0 : DataW.trod enc Try.prog w base spare held n 3 [c0] = some y0 := by simpa [Value.cells, h1] using hfd 0 _ rfl
    have t1 : DataW.trod enc Try.prog w base spare held n 3 [c1] = some y1 := by simpa [Value.cells, h1] using hfd 1 _ rfl
    have t2 : DataW.trod enc Try.prog w base spare held n 22 [c2] = some y2 := by simpa [Value.cells, h2] using hfd 2 _ rfl
    obtain ⟨k0, e0, _, _⟩ := DataW.trod_int Try.underlying3 t0
    obtain ⟨k1, e1, _, _⟩ := DataW.trod_int Try.underlying3 t1
    obtain ⟨a, len, cap, e2⟩ := Go.Joins.slice_form Try.underlying22 t2
    simp only [List.cons.injEq, and_true] at e0 e1 e2
    subst e0 e1 e2
    obtain ⟨t, ht⟩ := open_intsV t2
    exact ⟨⟨⟨k0, k1, t⟩, ⟨a, len, cap⟩⟩, rfl, ht⟩
theorem open_view {r : Reach} {b0 : Nat} {v : Value} {d : DataW H} {p : List MemPlace} (hv : Value.okWide Try.prog w r b0 25 v) (h : DataW.Trod enc Try.prog w base spare held 25 v d p) : ∃ (x : Vw) (s : Sl), v = vwV x s ∧ InI w s x.act := by
  obtain ⟨v0, v1, v2, y0, y1, y2, n, rfl, _, _, h0, h1, h2⟩ := Go.Joins.open_agg3 Try.underlying25 (by kernel_rfl) (by kernel_rfl) hv h
  obtain ⟨k0, e0, _, _⟩ := DataW.trod_int Try.underlying3 h0
  obtain ⟨k1, e1, _, _⟩ := DataW.trod_int Try.underlying3 h1
  obtain ⟨a, len, cap, e2⟩ := Go.Joins.slice_form Try.underlying22 h2
  simp only [List.cons.injEq, and_true] at e0 e1 e2
  subst e0 e1 e2
  obtain ⟨t, ht⟩ := open_intsV h2
  exact ⟨⟨k0, k1, t⟩, ⟨a, len, cap⟩, rfl, ht⟩

set_option maxHeartbeats 1000000 in
set_option maxRecDepth 100000 in
theorem open_views {n : Nat} {a : Option Addr} {len cap : Nat} {y : DataW H × List MemPlace} (h : DataW.trod enc Try.prog w base spare held n 36 [.slice a len cap] = some y) :
    ∃ L, InV w ⟨a, len, cap⟩ L := by
  have hC : Try.prog.cellsOf 25 = 3 := by kernel_rfl
  rcases Go.Deep.open_slice Try.underlying36 h with ⟨hcs, _⟩ | ⟨x, l, c, m, k, D, Pl, hcs, hb, hl, hm, hmm, _, hx⟩
  · simp only [List.cons.injEq, Value.slice.injEq, and_true] at hcs
    obtain ⟨rfl, rfl, rfl⟩ := hcs
    exact ⟨[], ⟨rfl, fun _ => rfl, Nat.le_refl _, Nat.zero_le _, (fun j hj => absurd hj (Nat.not_lt_zero _)), fun x hx => by cases hx⟩⟩
  · simp only [List.cons.injEq, Value.slice.injEq, and_true] at hcs
    obtain ⟨rfl, rfl, rfl⟩ := hcs
    have hle : len ≤ m := by rw [hmm]; split <;> omega
    have hsp : 0 < len → x.spot = none := by
      intro h0
      obtain ⟨cs, h1, _⟩ := hx 0 (by omega)
      rw [hC] at h1
      obtain ⟨_, hlen, hc⟩ := World.cells?_some h1
      match cs, hlen with
      | [c0, c1, c2], _ =>
        have e0 := hc 0 (by omega)
        have := World.cell?_spot (by simpa using e0)
        simpa [Addr.add] using this
    have each : ∀ i, i < len → ∃ t : Vx, ∃ b off, x = ⟨b, off, none⟩ ∧ w.cell? ⟨b, off + i * 3, none⟩ = some (.int .i64 t.v.self) ∧ w.cell? ⟨b, off + i * 3 + 1, none⟩ = some (.int .i64 t.v.next) ∧ w.cell? ⟨b, off + i * 3 + 2, none⟩ = some t.s.val ∧ InI w t.s t.v.act := by
      intro i hi
      obtain ⟨cs, g1, g2⟩ := hx i (by omega)
      rw [hC] at g1
      obtain ⟨_, hlen, hc⟩ := World.cells?_some g1
      match cs, hlen with
      | [c0, c1, c2], _ =>
        obtain ⟨t, ht, hi1⟩ := view_cells g2
        have hspot : x.spot = none := hsp (by omega)
        obtain ⟨b, off, spot⟩ := x
        simp only at hspot
        subst hspot
        simp only [List.cons.injEq, and_true] at ht
        have e0 := hc 0 (by omega)
        have e1 := hc 1 (by omega)
        have e2 := hc 2 (by omega)
        simp only [Addr.add_lit] at e0 e1 e2
        refine ⟨t, b, off, rfl, ?_, ?_, ?_, hi1⟩
        · rw [← ht.1]; simpa using e0
        · rw [← ht.2.1]; simpa using e1
        · rw [← ht.2.2]; simpa using e2
    obtain ⟨f, hf⟩ := @Go.Deep.choose_lt Vx ⟨Vx.zero⟩ len _ each
    have hget : ∀ j, j < len → ((List.range len).map f).getD j Vx.zero = f j := fun j hj => by simp [List.getD, hj]
    refine ⟨(List.range len).map f, ⟨by simp, (fun e => by cases e), hl, by show len ≤ _; unfold maxLen at hm; omega, fun j hj => ?_, fun t ht => ?_⟩⟩
    · replace hj : j < len := hj
      obtain ⟨b, off, rfl, e0, e1, e2, _⟩ := hf j hj
      refine ⟨b, off, rfl, ?_, ?_, ?_⟩
      · rw [hget j hj]; exact e0
      · rw [hget j hj]; exact e1
      · rw [hget j hj]; exact e2
    · obtain ⟨j, hj, rfl⟩ := List.mem_map.1 ht
      obtain ⟨_, _, _, _, _, _, h1⟩ := hf j (by simpa using hj)
      exact h1
end

/-! ### The landed view -/
def errV (ok : Bool) : Int := if ok then 0 else 1
/-- All that the landed view must be shown to say. -/
structure ViewS : Prop where
  check : ∀ (w : World) (s : Sl) (v : Vw), Gi (fun _ => True) w s v.act → s.len ≤ 200 → Calls Try.prog 11 #[vwV v s] w fun e w' => e = .returned (.int .i64 (errV (decide (MayV v)))) ∧ Below w.heap.size w w'
  of : ∀ (w : World) (s : Sl) (live : List Int), Gi (fun _ => True) w s live → s.len ≤ 200 → ∀ me next : Int, Calls Try.prog 8 #[.int .i64 me, .int .i64 next, s.val] w (OfTold w (ofV me next live) (fun x ok => .tuple #[x, .int .i64 (errV ok)]))
  sees : ∀ (w : World) (s : Sl) (v : Vw), Gi (fun _ => True) w s v.act → s.len ≤ 200 → ∀ x : Int, Calls Try.prog 14 #[vwV v s, .int .i64 x] w fun e w' => e = .returned (.bool (seesA v x)) ∧ Below w.heap.size w w'
  all : ∀ (w : World) (s : Sl) (L : List Vx), Gv w s L → s.len ≤ 200 → (∀ x ∈ L, x.s.len ≤ 200) → ∀ x : Int, Calls Try.prog 16 #[s.val, .int .i64 x] w fun e w' => e = .returned (.bool (allV (vws L) x)) ∧ Below w.heap.size w w'
  same : ∀ (w : World) (s t : Sl) (v u : Vw), Gi (fun _ => True) w s v.act → Gi (fun _ => True) w t u.act → s.len ≤ 200 → t.len ≤ 200 → Calls Try.prog 17 #[vwV v s, vwV u t] w fun e w' => e = .returned (.bool (sameV v u)) ∧ Below w.heap.size w w'

theorem aw_of : ofV 7 8 [5] = some ⟨7, 8, [5]⟩ := by
  have e : actsV 7 8 [5] = [5] := by decide
  have h := ofV_some (self := 7) (next := 8) (live := [5]) (by decide) (by decide)
  rwa [e] at h
theorem aw_sees : seesA ⟨7, 8, [5]⟩ 6 = true ∧ seesA ⟨7, 8, [5]⟩ 7 = true ∧ seesA ⟨7, 8, [5]⟩ 5 = false ∧ seesA ⟨7, 8, [5]⟩ 8 = false := by decide
theorem gi_lit1 (w : World) (x : Int) : Gi (fun _ => True) (w.alloc (.cells #[.int .i64 x] 3)) ⟨some ⟨w.heap.size, 0, none⟩, 1, 1⟩ [x] :=
  ((Nq.lit1 (w0 := w) (Below.refl _ w) x).gi (by show 1 ≤ 1000000; omega)).wide (fun _ _ => trivial)
/-- What Of told is kept in a new box. -/
theorem box_vw (w : World) (v : Vw) (s : Sl) : ∃ W, (Instr.storeAt 25 (.pointer (some ⟨w.heap.size, 0, none⟩)) (vwV v s)).run Try.prog (w.alloc (.cells #[.int .i64 0, .int .i64 0, .slice none 0 0] 25)) = .ok () W ∧ VwBlk W w.heap.size v s ∧ Below w.heap.size w W := by
  have hA := below_alloc w (.cells #[.int .i64 0, .int .i64 0, .slice none 0 0] 25)
  obtain ⟨W, h1, h2, h3, _⟩ := stVw (vwBlk_new w Vw.zero Sl.nil) v s
  exact ⟨W, h1, h2, hA.trans (h3.below hA.size (fun k hk => by rw [hk]; exact Nat.le_refl _))⟩

set_option maxHeartbeats 8000000 in
set_option maxRecDepth 100000 in
theorem awakeV_any (HS : ViewS) (w : World) : Calls Try.prog 7 #[] w fun e w' => e = .returned (.bool true) ∧ Below w.heap.size w w' := by
  have HA := hide (below_alloc w (.cells #[.int .i64 5] 3))
  have HF := hide (HS.of _ _ _ (gi_lit1 w 5) (by show 1 ≤ 200; omega) 7 8)
  have HC := hide HS
  unfold Sl.val at HF
  simp only at HF
  go_enter Try.func7, Try.ntmps7
  go_wp2_with fail
  refine HF.out.mono ?_
  rintro e w1 ⟨hb1, v, s, ok, rfl, hg, ho⟩
  rw [aw_of] at ho
  have hv : v = ⟨7, 8, [5]⟩ ∧ ok = true := by
    rcases ho with ⟨h1, h2⟩ | ⟨h1, _⟩
    · cases h1; exact ⟨rfl, h2⟩
    · cases h1
  obtain ⟨rfl, rfl⟩ := hv
  obtain ⟨W, hst, hk, hbW⟩ := box_vw w1 ⟨7, 8, [5]⟩ s
  have HST := hide hst
  have HB := hide (rBelow HA.out (rBelow hb1 hbW))
  have HG := hide ((hg.wide (E := fun _ => True) (fun _ _ => trivial)).below hbW (Nat.le_refl _))
  have HK := hide hk
  have HL : Hid (s.len ≤ 200) := by show _ ≤ _; rw [← hg.len]; decide
  have HSE := hide (fun (W' : World) (hb : Below W.heap.size W W') (x : Int) => HC.out.sees W' s ⟨7, 8, [5]⟩ (HG.out.below hb (Nat.le_refl _)) HL.out x)
  have HKB := hide (fun (W' : World) (hb : Below W.heap.size W W') => (HK.out.keep hb))
  obtain ⟨sa, sn, sc⟩ := s
  have k0 := HK.out.c0
  have k1 := HK.out.c1
  have k2 := HK.out.c2
  unfold vwV Sl.val at HST HSE
  unfold Sl.val at k2
  simp only at HST HSE k0 k1 k2
  clear hb1 hg ho hst hk hbW HF HS HC
  unfold vwV errV Sl.val
  simp only [if_true]
  go_wp2_with (first | refine wpList_store _ rfl rfl 25 (.tmp 1) (.tmp 6) rfl (.pointer (some ⟨w1.heap.size, 0, none⟩)) _ rfl rfl W HST.out ?_)
  have H6 := hide (HSE.out W (Below.refl _ _) 6)
  rw [aw_sees.1] at H6
  refine H6.out.mono ?_
  rintro e w2 ⟨rfl, hb2⟩
  have HB2 := hide hb2
  have k0 := (HKB.out w2 hb2).c0
  have k1 := (HKB.out w2 hb2).c1
  have k2 := (HKB.out w2 hb2).c2
  unfold Sl.val at k2
  simp only at k0 k1 k2
  clear hb2 H6
  go_wp2_with fail
  have H7 := hide (HSE.out w2 HB2.out 7)
  rw [aw_sees.2.1] at H7
  refine H7.out.mono ?_
  rintro e w3 ⟨rfl, hb3⟩
  have HB3 := hide (rBelow HB2.out hb3)
  have k0 := (HKB.out w3 HB3.out).c0
  have k1 := (HKB.out w3 HB3.out).c1
  have k2 := (HKB.out w3 HB3.out).c2
  unfold Sl.val at k2
  simp only at k0 k1 k2
  clear hb3 H7
  go_wp2_with fail
  have H5 := hide (HSE.out w3 HB3.out 5)
  rw [aw_sees.2.2.1] at H5
  refine H5.out.mono ?_
  rintro e w4 ⟨rfl, hb4⟩
  have HB4 := hide (rBelow HB3.out hb4)
  have k0 := (HKB.out w4 HB4.out).c0
  have k1 := (HKB.out w4 HB4.out).c1
  have k2 := (HKB.out w4 HB4.out).c2
  unfold Sl.val at k2
  simp only at k0 k1 k2
  clear hb4 H5
  go_wp2_with fail
  have H8 := hide (HSE.out w4 HB4.out 8)
  rw [aw_sees.2.2.2] at H8
  refine H8.out.mono ?_
  rintro e w5 ⟨rfl, hb5⟩
  have HB5 := hide (rBelow HB.out (rBelow HB4.out hb5))
  clear hb5 H8
  go_wp2_with fail
  go_ret
  exact ⟨rfl, HB5.out⟩

end Go.Proofs.Ytehmemfeagjagaa
