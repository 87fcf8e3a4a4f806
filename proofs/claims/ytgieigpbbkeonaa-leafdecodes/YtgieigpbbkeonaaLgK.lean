/-
  Layer 8: how a leaf, numbers, rows and bytes that came in are told; Light.
-/
import Derived.Test.YtgieigpbbkeonaaLgJ
import Derived.Lib.SmallJoins
import Derived.Laws.Cover2
import Derived.Deep.Slices
namespace Go.Proofs.Ytgieigpbbkeonaa
open Go.ChangeShapes Go.WideShapes Go.ChangeAt Go.RowKit

/-- Numbers that came in. -/
structure InI (w : World) (s : Sl) (t : List Int) : Prop where
  len : t.length = s.len
  nil : s.a = none → s.cap = 0
  le : s.len ≤ s.cap
  big : s.len ≤ 9223372036854775807
  cell : ∀ i, i < s.len → ∃ b off, s.a = some ⟨b, off, none⟩ ∧ w.cell? ⟨b, off + i, none⟩ = some (.int .i64 (t.getD i 0))
theorem InI.gi {w : World} {s : Sl} {t : List Int} (h : InI w s t) (hl : s.len ≤ 1000000) : Gi (fun _ => True) w s t := ⟨h.len, h.nil, h.le, hl, fun _ _ _ => trivial, h.cell⟩
/-- Rows of bytes that came in. -/
structure InS (w : World) (s : Sl) (l : List Sb) : Prop where
  len : l.length = s.len
  nil : s.a = none → s.cap = 0
  le : s.len ≤ s.cap
  big : s.len ≤ 9223372036854775807
  cell : ∀ i, i < s.len → ∃ b off, s.a = some ⟨b, off, none⟩ ∧ w.cell? ⟨b, off + i, none⟩ = some (l.getD i Sb.zero).s.val
  bs : ∀ x ∈ l, Came w x.s.a x.s.len x.s.cap x.bs
theorem InS.gb {w : World} {s : Sl} {l : List Sb} (h : InS w s l) (hl : s.len ≤ 1000) (hb : ∀ x ∈ l, x.s.len ≤ 1000) : Gb (fun _ => True) w s l :=
  ⟨h.len, h.nil, h.le, hl, fun _ _ _ => trivial, h.cell, fun x hx => ⟨⟨h.bs x hx, fun _ _ _ => trivial⟩, by have := (h.bs x hx).bs.1; have := hb x hx; omega⟩⟩

section
variable {H : Type} {enc : TypeId × Value → H} {w : World} {base : Nat} {spare : Nat → Bool} {held : Bool}

theorem open_ints8 {n : Nat} {a : Option Addr} {len cap : Nat} {y : DataW H × List MemPlace} (h : DataW.trod enc Try.prog w base spare held n 22 [.slice a len cap] = some y) : ∃ t, InI w ⟨a, len, cap⟩ t := by
  have hC : Try.prog.cellsOf 3 = 1 := by kernel_rfl
  rcases Go.Deep.open_slice1 Try.underlying22 hC h with ⟨hcs, _⟩ | ⟨x, l, c, m, k, V, D, Pl, hcs, hb, hl, hm, hmm, _, hx⟩
  · simp only [List.cons.injEq, Value.slice.injEq, and_true] at hcs
    obtain ⟨rfl, rfl, rfl⟩ := hcs
    exact ⟨[], ⟨rfl, fun _ => rfl, Nat.le_refl _, Nat.zero_le _, fun j hj => absurd hj (Nat.not_lt_zero _)⟩⟩
  · simp only [List.cons.injEq, Value.slice.injEq, and_true] at hcs
    obtain ⟨rfl, rfl, rfl⟩ := hcs
    have hle : len ≤ m := by rw [hmm]; split <;> omega
    have hsp : 0 < len → x.spot = none := by
      intro h0
      have := World.cell?_spot (hx 0 (by omega)).1
      simpa [Addr.add] using this
    have each : ∀ i, i < len → ∃ b : Int, V i = .int .i64 b := by
      intro i hi
      obtain ⟨k3, e3, _, w3⟩ := DataW.trod_int Try.underlying3 (hx i (by omega)).2
      exact ⟨k3, by simpa using e3⟩
    obtain ⟨f, hf⟩ := @Go.Deep.choose_lt Int ⟨0⟩ len _ each
    refine ⟨(List.range len).map f, ⟨by simp, (fun e => by cases e), hl, by show len ≤ _; unfold maxLen at hm; omega, ?_⟩⟩
    intro j hj
    replace hj : j < len := hj
    have hc := (hx j (by omega)).1
    obtain ⟨b, off, spot⟩ := x
    have hspot : spot = none := hsp (by omega)
    subst hspot
    refine ⟨b, off, rfl, ?_⟩
    rw [Addr.add_lit] at hc
    rw [hc, hf j hj]
    simp [List.getD, hj]

theorem open_bts {n : Nat} {a : Option Addr} {len cap : Nat} {y : DataW H × List MemPlace} (h : DataW.trod enc Try.prog w base spare held n 28 [.slice a len cap] = some y) :
    ∃ xs, Came w a len cap xs := by
  have hC : Try.prog.cellsOf 5 = 1 := by kernel_rfl
  rcases Go.Deep.open_slice1 Try.underlying28 hC h with ⟨hcs, _⟩ | ⟨x, l, c, m, k, V, D, Pl, hcs, hb, hl, hm, hmm, _, hx⟩
  · simp only [List.cons.injEq, Value.slice.injEq, and_true] at hcs
    obtain ⟨rfl, rfl, rfl⟩ := hcs
    exact ⟨[], ⟨⟨rfl, (fun u hu => by cases hu), fun j hj => by omega⟩, fun _ => rfl, Nat.le_refl _, by omega⟩⟩
  · simp only [List.cons.injEq, Value.slice.injEq, and_true] at hcs
    obtain ⟨rfl, rfl, rfl⟩ := hcs
    have hle : len ≤ m := by rw [hmm]; split <;> omega
    have hsp : 0 < len → x.spot = none := by
      intro h0
      have := World.cell?_spot (hx 0 (by omega)).1
      simpa [Addr.add] using this
    have each : ∀ i, i < len → ∃ b : Nat, V i = .int .u8 ((b : Nat) : Int) ∧ b < 256 := by
      intro i hi
      obtain ⟨k3, e3, _, w3⟩ := DataW.trod_int Try.underlying5 (hx i (by omega)).2
      have hb := bounds_u8 w3
      refine ⟨k3.toNat, ?_, by omega⟩
      rw [Int.toNat_of_nonneg hb.1]
      simpa using e3
    obtain ⟨f, hf⟩ := @Go.Deep.choose_lt Nat ⟨0⟩ len _ each
    refine ⟨(List.range len).map f, ⟨⟨by simp, ?_, ?_⟩, (fun e => by cases e), hl, by unfold maxLen at hm; omega⟩⟩
    · intro z hz
      obtain ⟨j, hj, rfl⟩ := List.mem_map.1 hz
      exact (hf j (by simpa using hj)).2
    · intro j hj
      have hc := (hx j (by omega)).1
      obtain ⟨b, off, spot⟩ := x
      have hspot : spot = none := hsp (by omega)
      subst hspot
      refine ⟨b, off, rfl, ?_⟩
      rw [Addr.add_lit] at hc
      rw [hc, (hf j hj).1]
      simp [List.getD, hj]

theorem open_rows8 {n : Nat} {a : Option Addr} {len cap : Nat} {y : DataW H × List MemPlace} (h : DataW.trod enc Try.prog w base spare held n 23 [.slice a len cap] = some y) : ∃ l, InS w ⟨a, len, cap⟩ l := by
  have hC : Try.prog.cellsOf 28 = 1 := by kernel_rfl
  rcases Go.Deep.open_slice1 Try.underlying23 hC h with ⟨hcs, _⟩ | ⟨x, l, c, m, k, V, D, Pl, hcs, hb, hl, hm, hmm, _, hx⟩
  · simp only [List.cons.injEq, Value.slice.injEq, and_true] at hcs
    obtain ⟨rfl, rfl, rfl⟩ := hcs
    exact ⟨[], ⟨rfl, fun _ => rfl, Nat.le_refl _, Nat.zero_le _, fun j hj => absurd hj (Nat.not_lt_zero _), fun x hx => (by cases hx)⟩⟩
  · simp only [List.cons.injEq, Value.slice.injEq, and_true] at hcs
    obtain ⟨rfl, rfl, rfl⟩ := hcs
    have hle : len ≤ m := by rw [hmm]; split <;> omega
    have hsp : 0 < len → x.spot = none := by
      intro h0
      have := World.cell?_spot (hx 0 (by omega)).1
      simpa [Addr.add] using this
    have each : ∀ i, i < len → ∃ t : Sb, V i = t.s.val ∧ Came w t.s.a t.s.len t.s.cap t.bs := by
      intro i hi
      have t2 := (hx i (by omega)).2
      obtain ⟨a', len', cap', e4⟩ := Go.Joins.slice_form Try.underlying28 t2
      simp only [List.cons.injEq, and_true] at e4
      rw [e4] at t2
      obtain ⟨bs, hbs⟩ := open_bts t2
      exact ⟨⟨⟨a', len', cap'⟩, bs⟩, e4, hbs⟩
    obtain ⟨f, hf⟩ := @Go.Deep.choose_lt Sb ⟨Sb.zero⟩ len _ each
    refine ⟨(List.range len).map f, ⟨by simp, (fun e => by cases e), hl, by show len ≤ _; unfold maxLen at hm; omega, ?_, ?_⟩⟩
    · intro j hj
      replace hj : j < len := hj
      have hc := (hx j (by omega)).1
      obtain ⟨b, off, spot⟩ := x
      have hspot : spot = none := hsp (by omega)
      subst hspot
      refine ⟨b, off, rfl, ?_⟩
      rw [Addr.add_lit] at hc
      rw [hc, (hf j hj).1]
      simp [List.getD, hj]
    · intro t ht
      obtain ⟨j, hj, rfl⟩ := List.mem_map.1 ht
      exact (hf j (by simpa using hj)).2

set_option maxRecDepth 100000 in
theorem open_leaf {r : Reach} {b0 : Nat} {v : Value} {d : DataW H} {p : List MemPlace} (hv : Value.okWide Try.prog w r b0 25 v) (h : DataW.Trod enc Try.prog w base spare held 25 v d p) : ∃ (s q : Sl) (t : List Int) (l : List Sb), v = lfV s q ∧ InI w s t ∧ InS w q l := by
  obtain ⟨v0, v1, y0, y1, n, rfl, _, _, h0, h1⟩ := Go.Joins.open_agg2 Try.underlying25 (by kernel_rfl) (by kernel_rfl) hv h
  obtain ⟨a, len, cap, e2⟩ := Go.Joins.slice_form Try.underlying22 h0
  obtain ⟨a', len', cap', e3⟩ := Go.Joins.slice_form Try.underlying23 h1
  simp only [List.cons.injEq, and_true] at e2 e3
  subst e2 e3
  obtain ⟨t, ht⟩ := open_ints8 h0
  obtain ⟨l, hl⟩ := open_rows8 h1
  exact ⟨⟨a, len, cap⟩, ⟨a', len', cap'⟩, t, l, rfl, ht, hl⟩
end

/-- It is not too great. -/
def LightP (u v : Sl) (l : List Sb) : Prop := v.len ≤ 80 ∧ u.len ≤ 20 ∧ ∀ x ∈ l, x.s.len ≤ 600
def LightSays (u v : Sl) (l : List Sb) (e : Ending) : Prop := e = .returned (.bool false) ∨ (LightP u v l ∧ e = .returned (.bool true))

set_option maxHeartbeats 4000000 in
set_option maxRecDepth 100000 in
theorem light_any (w : World) (u v : Sl) (l : List Sb) (hg : InS w v l) (hu : u.len ≤ 9223372036854775807) :
    Calls Try.prog 8 #[lfV u v] w fun e w' => LightSays u v l e ∧ Below w.heap.size w w' := by
  obtain ⟨a, len, cap⟩ := v
  obtain ⟨ua, ul, uc⟩ := u
  have hl : l.length = len := hg.len
  have hbig : len ≤ 9223372036854775807 := hg.big
  have hA := below_alloc w (.cells #[.slice ua ul uc, .slice a len cap] 25)
  have HG : Hid (∀ i, i < len → ∃ b off, a = some ⟨b, off, none⟩ ∧ (w.alloc (.cells #[.slice ua ul uc, .slice a len cap] 25)).cell? ⟨b, off + i, none⟩ = some (l.getD i Sb.zero).s.val) := by
    intro i hi
    obtain ⟨b, off, ha, hc⟩ := hg.cell i hi
    exact ⟨b, off, ha, cell_below hc hA⟩
  have HM : Hid (∀ i, i < len → (l.getD i Sb.zero).s.len ≤ 9223372036854775807) := fun i hi => (hg.bs _ (getD_memB (by omega))).big
  have HA := hide hA
  have HL := hide hl
  clear hg hl hA
  unfold lfV Sl.val
  simp only at *
  go_enter Try.func8, Try.ntmps8
  go_wp2_with fail
  go_loopw [3] (fun iv wr => wr = w.alloc (.cells #[.slice ua ul uc, .slice a len cap] 25) ∧ ∃ i : Nat, i ≤ len ∧ i ≤ 80 ∧ iv = .int .i64 (i : Nat) ∧ Hid (∀ j, j < i → (l.getD j Sb.zero).s.len ≤ 600)) (fun iv _ => 80 - (intOf iv).toNat)
  case atStart => exact ⟨rfl, 0, Nat.zero_le _, Nat.zero_le _, rfl, fun _ h => absurd h (Nat.not_lt_zero _)⟩
  case round =>
    obtain ⟨rfl, i, hi, hi8, rfl, hsm⟩ := hrel
    have HEND : Hid (len ≤ 80 → i = len → ul ≤ 20 → LightP ⟨ua, ul, uc⟩ ⟨a, len, cap⟩ l) := by
      intro h1 h2 h3
      refine ⟨h1, h3, fun x hx => ?_⟩
      obtain ⟨j, hj, rfl⟩ := mem_atB hx
      exact hsm.out j (by rw [HL.out] at hj; omega)
    rcases Nat.lt_or_ge i len with hlt | hge
    · have i1 : ((i : Nat) : Int) < ((len : Nat) : Int) := by omega
      rcases Nat.lt_or_ge i 80 with h8 | h8
      · have i8 : ((i : Nat) : Int) < 80 := by omega
        obtain ⟨bb, oo, ha, c0⟩ := HG.out i hlt
        subst ha
        have hms := HM.out i hlt
        obtain ⟨⟨sa, sn, sc⟩, hsb⟩ : ∃ s, s = (l.getD i Sb.zero).s := ⟨_, rfl⟩
        rw [← hsb] at c0 hms
        have HSB : Hid ((l.getD i Sb.zero).s.len = sn) := by show _ = _; rw [← hsb]
        unfold Sl.val at c0
        simp only at c0 hms
        clear hsb
        by_cases h6 : 600 < sn
        · have i6 : (600 : Int) < ((sn : Nat) : Int) := by omega
          clear hsm HEND HSB
          go_wp2_with fail
          go_ret
          exact ⟨.inl rfl, HA.out⟩
        · have i6 : ¬ (600 : Int) < ((sn : Nat) : Int) := by omega
          have HS : Hid (∀ j, j < i + 1 → (l.getD j Sb.zero).s.len ≤ 600) := by
            intro j hj
            by_cases e : j = i
            · rw [e, HSB.out]; omega
            · exact hsm.out j (by omega)
          clear hsm HEND HSB
          go_wp2_with fail
          go_roundw
          case rel => exact ⟨trivial, i + 1, by omega, by omega, by go_num, HS⟩
          case measure => simp only [intOf]; omega
      · have i8 : ¬ ((i : Nat) : Int) < 80 := by omega
        have i9 : ¬ ((len : Nat) : Int) ≤ 80 := by omega
        clear hsm HEND
        go_wp2_with fail
        go_ret
        exact ⟨.inl rfl, HA.out⟩
    · have i1 : ¬ ((i : Nat) : Int) < ((len : Nat) : Int) := by omega
      have i9 : ((len : Nat) : Int) ≤ 80 := by omega
      by_cases h2 : ul ≤ 20
      · have i2 : ((ul : Nat) : Int) ≤ 20 := by omega
        have HP := hide (HEND.out (by omega) (by omega) h2)
        clear hsm HEND
        go_wp2_with fail
        go_ret
        exact ⟨.inr ⟨HP.out, rfl⟩, HA.out⟩
      · have i2 : ¬ ((ul : Nat) : Int) ≤ 20 := by omega
        clear hsm HEND
        go_wp2_with fail
        go_ret
        exact ⟨.inl rfl, HA.out⟩

set_option maxHeartbeats 4000000 in
set_option maxRecDepth 100000 in
theorem none_yes {D : Nat → Prop} (w : World) (u v : Sl) (hi : Gi D w u []) (hg : Gb D w v []) :
    Calls Try.prog 20 #[lfV u v, .int .i64 1] w fun e w' => e = .returned (.bool true) ∧ Below w.heap.size w w' := by
  have hA := below_alloc w (.cells #[u.val, v.val] 25)
  have HS := hide (rlsame_any _ u v [] [] (hi.below hA (Nat.le_refl _)) (hg.below hA (Nat.le_refl _)) Sl.nil Sl.nil [] [] (Gi.none (D := D) _) (Gb.none _))
  have HE : Hid (sameLB [] (bss []) [] (bss []) = true) := rfl
  rw [HE.out] at HS
  have HA := hide hA
  clear hi hg hA
  obtain ⟨a, len, cap⟩ := v
  obtain ⟨ua, ul, uc⟩ := u
  unfold lfV Sl.val Sl.nil at *
  simp only at *
  go_enter Try.func20, Try.ntmps20
  go_wp2_with fail
  refine HS.out.mono ?_
  rintro e w1 ⟨rfl, hb⟩
  have HB := hide (rBelow HA.out hb)
  clear hb
  go_wp2_with fail
  go_ret
  exact ⟨rfl, HB.out⟩
end Go.Proofs.Ytgieigpbbkeonaa
