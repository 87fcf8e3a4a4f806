/-
  Acts that came in, one behind the other; how they are told; are they light.
-/
import Derived.Test.YtokdeilcfkobfaaActE
namespace Go.Proofs.Ytokdeilcfkobfaa
open Go.ChangeShapes Go.WideShapes Go.ChangeAt Go.RowKit

/-- An act, with its slices. -/
structure Ao where
  x : Ac
  b : Sl
  q : Sl
  bs : List Nat
  ps : List Bool
def aoD : Ao := ⟨⟨0, 0, 0⟩, Sl.nil, Sl.nil, [], []⟩
structure AoAt (w : World) (b off : Nat) (t : Ao) : Prop where
  c0 : w.cell? ⟨b, off, none⟩ = some (.int .i64 t.x.do_)
  c1 : w.cell? ⟨b, off + 1, none⟩ = some (.int .i64 t.x.pg)
  c2 : w.cell? ⟨b, off + 2, none⟩ = some (.slice t.b.a t.b.len t.b.cap)
  c3 : w.cell? ⟨b, off + 3, none⟩ = some (.int .i64 t.x.n)
  c4 : w.cell? ⟨b, off + 4, none⟩ = some (.slice t.q.a t.q.len t.q.cap)
  inn : AcIn w t.x t.b t.q t.bs t.ps
structure Acs (w : World) (a : Option Addr) (len : Nat) (l : List Ao) : Prop where
  len_ : l.length = len
  big : len ≤ 9223372036854775807
  at_ : ∀ j, j < len → ∃ b off, a = some ⟨b, off, none⟩ ∧ AoAt w b (off + j * 5) (l.getD j aoD)

theorem Pat.keep {w w' : World} {a : Option Addr} {len : Nat} {bs : List Bool} (h : Pat w a len bs) (hb : Below w.heap.size w w') : Pat w' a len bs := by
  refine ⟨h.len_, fun i hi => ?_⟩
  obtain ⟨b, off, ha, hc⟩ := h.at_ i hi
  exact ⟨b, off, ha, (hb.cell (World.block_lt_of_cell? w _ hc)).trans hc⟩
theorem AcIn.keep {w w' : World} {x : Ac} {b q : Sl} {bs : List Nat} {ps : List Bool} (h : AcIn w x b q bs ps) (hb : Below w.heap.size w w') : AcIn w' x b q bs ps :=
  ⟨⟨h.b.bs.keep hb (Nat.le_refl _), h.b.nil, h.b.le, h.b.big⟩, h.p.keep hb, h.pl, h.wd, h.wp, h.wn⟩
theorem Acs.keep {w w' : World} {a : Option Addr} {len : Nat} {l : List Ao} (h : Acs w a len l) (hb : Below w.heap.size w w') : Acs w' a len l := by
  refine ⟨h.len_, h.big, fun j hj => ?_⟩
  obtain ⟨b, off, ha, hat⟩ := h.at_ j hj
  have k := fun (i : Nat) (v : Value) (hc : w.cell? ⟨b, i, none⟩ = some v) => (hb.cell (World.block_lt_of_cell? w _ hc)).trans hc
  exact ⟨b, off, ha, ⟨k _ _ hat.c0, k _ _ hat.c1, k _ _ hat.c2, k _ _ hat.c3, k _ _ hat.c4, hat.inn.keep hb⟩⟩

section
variable {H : Type} {enc : TypeId × Value → H} {w : World} {base : Nat} {spare : Nat → Bool} {held : Bool}

theorem open_acts {n : Nat} {a : Option Addr} {len cap : Nat} {y : DataW H × List MemPlace} (h : DataW.trod enc Try.prog w base spare held n 22 [.slice a len cap] = some y) :
    ∃ l, Acs w a len l := by
  have hC : Try.prog.cellsOf 39 = 5 := by kernel_rfl
  rcases Go.Deep.open_slice Try.underlying22 h with ⟨hcs, _⟩ | ⟨x, l, c, m, k, D, Pl, hcs, hb, hl, hm, hmm, _, hx⟩
  · simp only [List.cons.injEq, Value.slice.injEq, and_true] at hcs
    obtain ⟨rfl, rfl, rfl⟩ := hcs
    exact ⟨[], ⟨rfl, by omega, fun j hj => by omega⟩⟩
  · simp only [List.cons.injEq, Value.slice.injEq, and_true] at hcs
    obtain ⟨rfl, rfl, rfl⟩ := hcs
    have hle : len ≤ m := by rw [hmm]; split <;> omega
    have hsp : 0 < len → x.spot = none := by
      intro h0
      obtain ⟨cs, h1, _⟩ := hx 0 (by omega)
      rw [hC] at h1
      obtain ⟨_, hlen, hc⟩ := World.cells?_some h1
      match cs, hlen with
      | [c0, c1, c2, c3, c4], _ =>
        have e0 := hc 0 (by omega)
        have := World.cell?_spot (by simpa using e0)
        simpa [Addr.add] using this
    have each : ∀ i, i < len → ∃ t : Ao, (∃ b off, x = ⟨b, off, none⟩ ∧ AoAt w b (off + i * 5) t) := by
      intro i hi
      obtain ⟨cs, h1, h2⟩ := hx i (by omega)
      rw [hC] at h1
      obtain ⟨_, hlen, hc⟩ := World.cells?_some h1
      obtain ⟨t, tb, tq, bs, ps, rfl, hin⟩ := act_cells h2
      have e0 := hc 0 (by omega)
      have e1 := hc 1 (by omega)
      have e2 := hc 2 (by omega)
      have e3 := hc 3 (by omega)
      have e4 := hc 4 (by omega)
      obtain ⟨b, off, spot⟩ := x
      have hspot : spot = none := hsp (by omega)
      subst hspot
      refine ⟨⟨t, tb, tq, bs, ps⟩, b, off, rfl, ?_⟩
      simp only [Addr.add_lit] at e0 e1 e2 e3 e4
      exact ⟨by simpa [Ac.cells, Sl.val] using e0, by simpa [Ac.cells, Sl.val] using e1, by simpa [Ac.cells, Sl.val] using e2, by simpa [Ac.cells, Sl.val] using e3, by simpa [Ac.cells, Sl.val] using e4, hin⟩
    obtain ⟨f, hf⟩ := @Go.Deep.choose_lt Ao ⟨aoD⟩ len _ each
    refine ⟨(List.range len).map f, ⟨by simp, by unfold maxLen at hm; omega, ?_⟩⟩
    intro j hj
    obtain ⟨b, off, rfl, hit⟩ := hf j hj
    refine ⟨b, off, rfl, ?_⟩
    have : ((List.range len).map f).getD j aoD = f j := by simp [List.getD, hj]
    rw [this]
    exact hit
end

/-- How many bytes the first so many acts append; are acts light. -/
def apd (l : List Ao) : Nat → Nat
  | 0 => 0
  | j + 1 => apd l j + if (l.getD j aoD).x.do_ = 1 then (l.getD j aoD).b.len else 0
def LightTo (l : List Ao) (len : Nat) : Prop := ∀ j, j < len → j < 40 → apd l (j + 1) ≤ 400 ∧ (l.getD j aoD).q.len ≤ 40

def LightSays (l : List Ao) (len : Nat) (e : Ending) : Prop := ∃ r : Bool, e = .returned (.bool r) ∧ (r = true → LightTo l len)
theorem light_step {l : List Ao} {j : Nat} (h : ∀ t, t < j → apd l (t + 1) ≤ 400 ∧ (l.getD t aoD).q.len ≤ 40) (h1 : apd l (j + 1) ≤ 400) (h2 : (l.getD j aoD).q.len ≤ 40) : Hid (apd l (j + 1) ≤ 400 ∧ ∀ t, t < j + 1 → apd l (t + 1) ≤ 400 ∧ (l.getD t aoD).q.len ≤ 40) := by
  refine hide ⟨h1, fun t ht => ?_⟩
  by_cases e : t = j
  · rw [e]; exact ⟨h1, h2⟩
  · exact h t (by omega)

set_option maxHeartbeats 4000000 in
theorem light_any (w : World) (a : Option Addr) (len cap : Nat) (l : List Ao) (h : Acs w a len l) : Calls Try.prog 10 #[.slice a len cap] w fun e w' => w' = w ∧ LightSays l len e := by
  have H := hide h
  have hbig := h.big
  clear h
  go_enter Try.func10, Try.ntmps10
  go_wp2_with fail
  go_loopw [3, 4] (fun m i wr => wr = w ∧ ∃ j : Nat, j ≤ len ∧ j ≤ 40 ∧ i = .int .i64 j ∧ m = .int .i64 ((apd l j : Nat) : Int) ∧ Hid (apd l j ≤ 400) ∧ Hid (∀ t, t < j → apd l (t + 1) ≤ 400 ∧ (l.getD t aoD).q.len ≤ 40)) (fun _ i _ => len - (intOf i).toNat)
  case atStart => exact ⟨rfl, 0, by omega, by omega, rfl, rfl, hide (by show (0 : Nat) ≤ 400; decide), hide (fun t ht => by omega)⟩
  case round =>
    obtain ⟨rfl, j, hj, hj4, rfl, rfl, hA, hL⟩ := hrel
    by_cases hgo : j < len ∧ j < 40
    · obtain ⟨hlt, hlt4⟩ := hgo
      have i1 : ((j : Nat) : Int) < ((len : Nat) : Int) := by omega
      have i2 : ((j : Nat) : Int) < 40 := by omega
      obtain ⟨b, off, ha, hat⟩ := H.out.at_ j hlt
      subst ha
      have d0 := hat.c0
      have d2 := hat.c2
      have d4 := hat.c4
      have hbb := hat.inn.b.big
      have hpp := hat.inn.pl
      have hA4 := hA.out
      have hsucc : Hid (apd l (j + 1) = apd l j + if (l.getD j aoD).x.do_ = 1 then (l.getD j aoD).b.len else 0) := hide rfl
      obtain ⟨q, hq⟩ : ∃ q, q = apd l j := ⟨_, rfl⟩
      have HQ := hide hq
      rw [← hq] at hA4
      obtain ⟨dd, hdd⟩ : ∃ dd, dd = (l.getD j aoD).x.do_ := ⟨_, rfl⟩
      obtain ⟨bl, hbl⟩ : ∃ bl, bl = (l.getD j aoD).b.len := ⟨_, rfl⟩
      obtain ⟨pl, hpl⟩ : ∃ pl, pl = (l.getD j aoD).q.len := ⟨_, rfl⟩
      rw [← hdd] at d0
      rw [← hbl] at d2 hbb
      rw [← hpl] at d4 hpp
      rw [← hq, ← hdd, ← hbl] at hsucc
      have HPL := hide hpl
      rw [← hq]
      clear hq hdd hbl hpl
      have w1 : IntKind.i64.wrap (400 - ((q : Nat) : Int)) = 400 - ((q : Nat) : Int) := by rw [IntKind.wrap_i64]; omega
      by_cases c1 : 400 - ((q : Nat) : Int) < ((bl : Nat) : Int)
      · by_cases c2 : dd = 1
        · go_wp2_with fail
          go_ret
          exact ⟨by first | rfl | trivial, false, rfl, fun z => by cases z⟩
        · by_cases c3 : 40 < ((pl : Nat) : Int)
          · go_wp2_with fail
            go_ret
            exact ⟨by first | rfl | trivial, false, rfl, fun z => by cases z⟩
          · have hn : Hid (apd l (j + 1) = q) := by have := hsucc.out; rw [if_neg c2] at this; exact this
            have HE : Hid (apd l (j + 1) ≤ 400 ∧ ∀ t, t < j + 1 → apd l (t + 1) ≤ 400 ∧ (l.getD t aoD).q.len ≤ 40) := light_step hL.out (by rw [hn.out]; exact hA4) (by rw [← HPL.out]; omega)
            have HN : Hid (((q : Nat) : Int) = ((apd l (j + 1) : Nat) : Int)) := by rw [hn.out]; exact hide rfl
            clear hn hsucc
            go_wp2_with fail
            go_roundw
            case rel => exact ⟨by first | rfl | trivial, j + 1, by omega, by omega, by go_num, by rw [HN.out], hide HE.out.1, hide HE.out.2⟩
            case measure => simp only [intOf]; omega
      · by_cases c3 : 40 < ((pl : Nat) : Int)
        · go_wp2_with fail
          go_ret
          exact ⟨by first | rfl | trivial, false, rfl, fun z => by cases z⟩
        · by_cases c2 : dd = 1
          · have hn : Hid (apd l (j + 1) = q + bl) := by have := hsucc.out; rw [if_pos c2] at this; exact this
            have HE : Hid (apd l (j + 1) ≤ 400 ∧ ∀ t, t < j + 1 → apd l (t + 1) ≤ 400 ∧ (l.getD t aoD).q.len ≤ 40) := light_step hL.out (by rw [hn.out]; omega) (by rw [← HPL.out]; omega)
            have HN : Hid (((q : Nat) : Int) + ((bl : Nat) : Int) = ((apd l (j + 1) : Nat) : Int)) := by rw [hn.out]; exact hide (by omega)
            have w2 : IntKind.i64.wrap (((q : Nat) : Int) + ((bl : Nat) : Int)) = ((q : Nat) : Int) + ((bl : Nat) : Int) := by rw [IntKind.wrap_i64]; omega
            clear hn hsucc
            go_wp2_with fail
            go_roundw
            case rel => exact ⟨by first | rfl | trivial, j + 1, by omega, by omega, by go_num, by rw [HN.out], hide HE.out.1, hide HE.out.2⟩
            case measure => simp only [intOf]; omega
          · have hn : Hid (apd l (j + 1) = q) := by have := hsucc.out; rw [if_neg c2] at this; exact this
            have HE : Hid (apd l (j + 1) ≤ 400 ∧ ∀ t, t < j + 1 → apd l (t + 1) ≤ 400 ∧ (l.getD t aoD).q.len ≤ 40) := light_step hL.out (by rw [hn.out]; exact hA4) (by rw [← HPL.out]; omega)
            have HN : Hid (((q : Nat) : Int) = ((apd l (j + 1) : Nat) : Int)) := by rw [hn.out]; exact hide rfl
            clear hn hsucc
            go_wp2_with fail
            go_roundw
            case rel => exact ⟨by first | rfl | trivial, j + 1, by omega, by omega, by go_num, by rw [HN.out], hide HE.out.1, hide HE.out.2⟩
            case measure => simp only [intOf]; omega
    · have hend : Hid (LightTo l len) := by
        show LightTo l len
        intro t h1 h2
        exact hL.out t (by omega)
      by_cases h5 : j < len
      · have i1 : ((j : Nat) : Int) < ((len : Nat) : Int) := by omega
        obtain rfl : j = 40 := by omega
        go_wp2_with fail
        go_ret
        exact ⟨by first | rfl | trivial, true, rfl, fun _ => hend.out⟩
      · obtain rfl : j = len := by omega
        go_wp2_with fail
        go_ret
        exact ⟨by first | rfl | trivial, true, rfl, fun _ => hend.out⟩

end Go.Proofs.Ytokdeilcfkobfaa
