/-
  Acts of layer 12 that came in, one behind the other; how they are told; are they light.
  The law's pages; what the landed pool must be shown to say; a pool of a call's own.
  Layer 12: awake.
  Layer 12: drawn regions of the law on how few pages are in.
  Layer 12: a pool of a call's own, and blocks that are apart from it; drawn regions of the law of reading.
-/
import Derived.Test.YtcaaiihjolnkgaaGreatBg
import Derived.Test.YtcaaiihjolnkgaaGreatBd
import Derived.Lib.SmallJoins
import Derived.Laws.Cover2
import Derived.Deep.Slices
import Derived.Laws.MakeOwn
import Derived.Test.YtcaaiihjolnkgaaGreatBa
import Derived.Test.YtcaaiihjolnkgaaGreatBe
namespace Go.Proofs.YtcaaiihjolnkgaaGreat
open Go.ChangeShapes Go.WideShapes Go.ChangeAt Go.RowKit
set_option maxRecDepth 100000

/-- An act. -/
structure Ac where
  do_ : Int
  pg : Int
  n : Int
def Ac.cells (x : Ac) (b q : Sl) : Array Value := #[.int .i64 x.do_, .int .i64 x.pg, b.val, .int .i64 x.n, q.val]
def AcBlk (w : World) (p : Nat) (x : Ac) (b q : Sl) : Prop := w.heap[p]? = some (.cells (x.cells b q) 48 (0, 0))
theorem AcBlk.keep {w w' : World} {p : Nat} {x : Ac} {b q : Sl} (h : AcBlk w p x b q) (hb : Below w.heap.size w w') : AcBlk w' p x b q := (hb.block p (Array.getElem?_eq_some_iff.1 h).1).trans h
theorem AcBlk.c2 {w : World} {p : Nat} {x : Ac} {b q : Sl} (h : AcBlk w p x b q) : w.cell? ⟨p, 2, none⟩ = some (.slice b.a b.len b.cap) := (Addr.cell0 h).trans rfl
theorem AcBlk.c3 {w : World} {p : Nat} {x : Ac} {b q : Sl} (h : AcBlk w p x b q) : w.cell? ⟨p, 3, none⟩ = some (.int .i64 x.n) := (Addr.cell0 h).trans rfl
theorem AcBlk.c4 {w : World} {p : Nat} {x : Ac} {b q : Sl} (h : AcBlk w p x b q) : w.cell? ⟨p, 4, none⟩ = some (.slice q.a q.len q.cap) := (Addr.cell0 h).trans rfl

section
variable {H : Type} {enc : TypeId × Value → H} {w : World} {base : Nat} {spare : Nat → Bool} {held : Bool}

theorem open_pat {n : Nat} {a : Option Addr} {len cap : Nat} {y : DataW H × List MemPlace} (h : DataW.trod enc Tryz.prog w base spare held n 46 [.slice a len cap] = some y) :
    ∃ bs, Pat w a len bs ∧ len ≤ 9223372036854775807 := by
  have hC : Tryz.prog.cellsOf 4 = 1 := by kernel_rfl
  rcases Go.Deep.open_slice1 Tryz.underlying46 hC h with ⟨hcs, _⟩ | ⟨x, l, c, m, k, V, D, Pl, hcs, hb, hl, hm, hmm, _, hx⟩
  · simp only [List.cons.injEq, Value.slice.injEq, and_true] at hcs
    obtain ⟨rfl, rfl, rfl⟩ := hcs
    exact ⟨[], ⟨rfl, fun j hj => by omega⟩, by omega⟩
  · simp only [List.cons.injEq, Value.slice.injEq, and_true] at hcs
    obtain ⟨rfl, rfl, rfl⟩ := hcs
    have hle : len ≤ m := by rw [hmm]; split <;> omega
    have hsp : 0 < len → x.spot = none := by
      intro h0
      have := World.cell?_spot (hx 0 (by omega)).1
      simpa [Addr.add] using this
    have each : ∀ i, i < len → ∃ b : Bool, V i = .bool b := by
      intro i hi
      obtain ⟨bb, e1, _⟩ := DataW.trod_bool (by kernel_rfl : Tryz.prog.underlying 4 = some .bool) (hx i (by omega)).2
      exact ⟨bb, by simpa using e1⟩
    obtain ⟨f, hf⟩ := @Go.Deep.choose_lt Bool ⟨false⟩ len _ each
    refine ⟨(List.range len).map f, ⟨by simp, ?_⟩, by unfold maxLen at hm; omega⟩
    intro j hj
    have hc := (hx j (by omega)).1
    obtain ⟨b, off, spot⟩ := x
    have hspot : spot = none := hsp (by omega)
    subst hspot
    refine ⟨b, off, rfl, ?_⟩
    rw [Addr.add_lit] at hc
    rw [hc, hf j hj]
    simp [List.getD, hj]

theorem open_bts {n : Nat} {a : Option Addr} {len cap : Nat} {y : DataW H × List MemPlace} (h : DataW.trod enc Tryz.prog w base spare held n 32 [.slice a len cap] = some y) :
    ∃ xs, Came w a len cap xs := by
  have hC : Tryz.prog.cellsOf 5 = 1 := by kernel_rfl
  rcases Go.Deep.open_slice1 Tryz.underlying32 hC h with ⟨hcs, _⟩ | ⟨x, l, c, m, k, V, D, Pl, hcs, hb, hl, hm, hmm, _, hx⟩
  · simp only [List.cons.injEq, Value.slice.injEq, and_true] at hcs
    obtain ⟨rfl, rfl, rfl⟩ := hcs
    exact ⟨[], ⟨⟨rfl, (fun u hu => by cases hu), fun j hj => by omega⟩, fun _ => rfl, Nat.le_refl _, by omega⟩⟩
  · simp only [List.cons.injEq, Value.slice.injEq, and_true] at hcs
    obtain ⟨rfl, rfl, rfl⟩ := hcs
    have hle : len ≤ m := by rw [hmm]; split <;> omega
    have hsp : 0 < len → x.spot = none := by
      intro h0
      have := World.cell?_spot (hx 0 (by omega)).1
      simpa [Addr.add] using this
    have each : ∀ i, i < len → ∃ b : Nat, V i = .int .u8 ((b : Nat) : Int) ∧ b < 256 := by
      intro i hi
      obtain ⟨k3, e3, _, w3⟩ := DataW.trod_int Tryz.underlying5 (hx i (by omega)).2
      have hb := bounds_u8 w3
      refine ⟨k3.toNat, ?_, by omega⟩
      rw [Int.toNat_of_nonneg hb.1]
      simpa using e3
    obtain ⟨f, hf⟩ := @Go.Deep.choose_lt Nat ⟨0⟩ len _ each
    refine ⟨(List.range len).map f, ⟨⟨by simp, ?_, ?_⟩, (fun e => by cases e), hl, by unfold maxLen at hm; omega⟩⟩
    · intro z hz
      obtain ⟨j, hj, rfl⟩ := List.mem_map.1 hz
      exact (hf j (by simpa using hj)).2
    · intro j hj
      have hc := (hx j (by omega)).1
      obtain ⟨b, off, spot⟩ := x
      have hspot : spot = none := hsp (by omega)
      subst hspot
      refine ⟨b, off, rfl, ?_⟩
      rw [Addr.add_lit] at hc
      rw [hc, (hf j hj).1]
      simp [List.getD, hj]

/-- An act that came in: its cells, its bytes, its pattern. -/
structure AcIn (w : World) (x : Ac) (b q : Sl) (bs : List Nat) (ps : List Bool) : Prop where
  b : Came w b.a b.len b.cap bs
  p : Pat w q.a q.len ps
  pl : q.len ≤ 9223372036854775807
  wd : (Lit.int .i64 x.do_).wf = true
  wp : (Lit.int .i64 x.pg).wf = true
  wn : (Lit.int .i64 x.n).wf = true

theorem act_cells {n : Nat} {cs : List Value} {y : DataW H × List MemPlace} (hf : DataW.trod enc Tryz.prog w base spare held n 48 cs = some y) :
    ∃ (x : Ac) (b q : Sl) (bs : List Nat) (ps : List Bool), cs = (x.cells b q).toList ∧ AcIn w x b q bs ps := by
  have hC : Tryz.prog.cellsOf 48 = 5 := by kernel_rfl
  have h1 : Tryz.prog.cellsOf 3 = 1 := by kernel_rfl
  have h2 : Tryz.prog.cellsOf 32 = 1 := by kernel_rfl
  have h3 : Tryz.prog.cellsOf 46 = 1 := by kernel_rfl
  obtain ⟨xs, m, _, _, hsz, hlen, hfd⟩ := DataW.trod_struct Tryz.underlying48 hf
  rw [hC] at hsz
  match cs, hsz with
  | [c0, c1, c2, c3, c4], _ =>
    match xs, hlen with
    | [y0, y1, y2, y3, y4], _ =>
      have t0 : DataW.trod enc Tryz.prog w base spare held m 3 [c0] = some y0 := by simpa [h1] using hfd 0 _ rfl
      have t1 : DataW.trod enc Tryz.prog w base spare held m 3 [c1] = some y1 := by simpa [h1] using hfd 1 _ rfl
      have t2 : DataW.trod enc Tryz.prog w base spare held m 32 [c2] = some y2 := by simpa [h2] using hfd 2 _ rfl
      have t3 : DataW.trod enc Tryz.prog w base spare held m 3 [c3] = some y3 := by simpa [h1] using hfd 3 _ rfl
      have t4 : DataW.trod enc Tryz.prog w base spare held m 46 [c4] = some y4 := by simpa [h3] using hfd 4 _ rfl
      obtain ⟨k0, e0, _, w0⟩ := DataW.trod_int Tryz.underlying3 t0
      obtain ⟨k1, e1, _, w1⟩ := DataW.trod_int Tryz.underlying3 t1
      obtain ⟨k3, e3, _, w3⟩ := DataW.trod_int Tryz.underlying3 t3
      obtain ⟨a, len, cap, e2⟩ := Go.Joins.slice_form Tryz.underlying32 t2
      obtain ⟨a', len', cap', e4⟩ := Go.Joins.slice_form Tryz.underlying46 t4
      simp only [List.cons.injEq, and_true] at e0 e1 e2 e3 e4
      subst e0 e1 e2 e3 e4
      obtain ⟨bs, hb⟩ := open_bts t2
      obtain ⟨ps, hp, hpl⟩ := open_pat t4
      exact ⟨⟨k0, k1, k3⟩, ⟨a, len, cap⟩, ⟨a', len', cap'⟩, bs, ps, rfl, ⟨hb, hp, hpl, w0, w1, w3⟩⟩

end

/-- An act, with its slices. -/
structure Ao where
  x : Ac
  b : Sl
  q : Sl
  bs : List Nat
  ps : List Bool
def aoD : Ao := ⟨⟨0, 0, 0⟩, Sl.nil, Sl.nil, [], []⟩
structure AoAt (w : World) (b off : Nat) (t : Ao) : Prop where
  c0 : w.cell? ⟨b, off, none⟩ = some (.int .i64 t.x.do_)
  c1 : w.cell? ⟨b, off + 1, none⟩ = some (.int .i64 t.x.pg)
  c2 : w.cell? ⟨b, off + 2, none⟩ = some (.slice t.b.a t.b.len t.b.cap)
  c3 : w.cell? ⟨b, off + 3, none⟩ = some (.int .i64 t.x.n)
  c4 : w.cell? ⟨b, off + 4, none⟩ = some (.slice t.q.a t.q.len t.q.cap)
  inn : AcIn w t.x t.b t.q t.bs t.ps
structure Acs (w : World) (a : Option Addr) (len : Nat) (l : List Ao) : Prop where
  len_ : l.length = len
  big : len ≤ 9223372036854775807
  at_ : ∀ j, j < len → ∃ b off, a = some ⟨b, off, none⟩ ∧ AoAt w b (off + j * 5) (l.getD j aoD)

theorem Pat.keep {w w' : World} {a : Option Addr} {len : Nat} {bs : List Bool} (h : Pat w a len bs) (hb : Below w.heap.size w w') : Pat w' a len bs := by
  refine ⟨h.len_, fun i hi => ?_⟩
  obtain ⟨b, off, ha, hc⟩ := h.at_ i hi
  exact ⟨b, off, ha, (hb.cell (World.block_lt_of_cell? w _ hc)).trans hc⟩
theorem AcIn.keep {w w' : World} {x : Ac} {b q : Sl} {bs : List Nat} {ps : List Bool} (h : AcIn w x b q bs ps) (hb : Below w.heap.size w w') : AcIn w' x b q bs ps :=
  ⟨⟨h.b.bs.keep hb (Nat.le_refl _), h.b.nil, h.b.le, h.b.big⟩, h.p.keep hb, h.pl, h.wd, h.wp, h.wn⟩
theorem Acs.keep {w w' : World} {a : Option Addr} {len : Nat} {l : List Ao} (h : Acs w a len l) (hb : Below w.heap.size w w') : Acs w' a len l := by
  refine ⟨h.len_, h.big, fun j hj => ?_⟩
  obtain ⟨b, off, ha, hat⟩ := h.at_ j hj
  have k := fun (i : Nat) (v : Value) (hc : w.cell? ⟨b, i, none⟩ = some v) => (hb.cell (World.block_lt_of_cell? w _ hc)).trans hc
  exact ⟨b, off, ha, ⟨k _ _ hat.c0, k _ _ hat.c1, k _ _ hat.c2, k _ _ hat.c3, k _ _ hat.c4, hat.inn.keep hb⟩⟩

section
variable {H : Type} {enc : TypeId × Value → H} {w : World} {base : Nat} {spare : Nat → Bool} {held : Bool}

theorem open_acts {n : Nat} {a : Option Addr} {len cap : Nat} {y : DataW H × List MemPlace} (h : DataW.trod enc Tryz.prog w base spare held n 22 [.slice a len cap] = some y) :
    ∃ l, Acs w a len l := by
  have hC : Tryz.prog.cellsOf 48 = 5 := by kernel_rfl
  rcases Go.Deep.open_slice Tryz.underlying22 h with ⟨hcs, _⟩ | ⟨x, l, c, m, k, D, Pl, hcs, hb, hl, hm, hmm, _, hx⟩
  · simp only [List.cons.injEq, Value.slice.injEq, and_true] at hcs
    obtain ⟨rfl, rfl, rfl⟩ := hcs
    exact ⟨[], ⟨rfl, by omega, fun j hj => by omega⟩⟩
  · simp only [List.cons.injEq, Value.slice.injEq, and_true] at hcs
    obtain ⟨rfl, rfl, rfl⟩ := hcs
    have hle : len ≤ m := by rw [hmm]; split <;> omega
    have hsp : 0 < len → x.spot = none := by
      intro h0
      obtain ⟨cs, h1, _⟩ := hx 0 (by omega)
      rw [hC] at h1
      obtain ⟨_, hlen, hc⟩ := World.cells?_some h1
      match cs, hlen with
      | [c0, c1, c2, c3, c4], _ =>
        have e0 := hc 0 (by omega)
        have := World.cell?_spot (by simpa using e0)
        simpa [Addr.add] using this
    have each : ∀ i, i < len → ∃ t : Ao, (∃ b off, x = ⟨b, off, none⟩ ∧ AoAt w b (off + i * 5) t) := by
      intro i hi
      obtain ⟨cs, h1, h2⟩ := hx i (by omega)
      rw [hC] at h1
      obtain ⟨_, hlen, hc⟩ := World.cells?_some h1
      obtain ⟨t, tb, tq, bs, ps, rfl, hin⟩ := act_cells h2
      have e0 := hc 0 (by omega)
      have e1 := hc 1 (by omega)
      have e2 := hc 2 (by omega)
      have e3 := hc 3 (by omega)
      have e4 := hc 4 (by omega)
      obtain ⟨b, off, spot⟩ := x
      have hspot : spot = none := hsp (by omega)
      subst hspot
      refine ⟨⟨t, tb, tq, bs, ps⟩, b, off, rfl, ?_⟩
      simp only [Addr.add_lit] at e0 e1 e2 e3 e4
      exact ⟨by simpa [Ac.cells, Sl.val] using e0, by simpa [Ac.cells, Sl.val] using e1, by simpa [Ac.cells, Sl.val] using e2, by simpa [Ac.cells, Sl.val] using e3, by simpa [Ac.cells, Sl.val] using e4, hin⟩
    obtain ⟨f, hf⟩ := @Go.Deep.choose_lt Ao ⟨aoD⟩ len _ each
    refine ⟨(List.range len).map f, ⟨by simp, by unfold maxLen at hm; omega, ?_⟩⟩
    intro j hj
    obtain ⟨b, off, rfl, hit⟩ := hf j hj
    refine ⟨b, off, rfl, ?_⟩
    have : ((List.range len).map f).getD j aoD = f j := by simp [List.getD, hj]
    rw [this]
    exact hit
end

/-- How many bytes the first so many acts append; are acts light. -/
def apd (l : List Ao) : Nat → Nat
  | 0 => 0
  | j + 1 => apd l j + (l.getD j aoD).b.len
def LightTo (l : List Ao) (len : Nat) : Prop := ∀ j, j < len → j < 40 → apd l (j + 1) ≤ 600 ∧ (l.getD j aoD).q.len ≤ 40

def LightSays (l : List Ao) (len : Nat) (e : Ending) : Prop := ∃ r : Bool, e = .returned (.bool r) ∧ (r = true → LightTo l len)
theorem light_step {l : List Ao} {j : Nat} (h : ∀ t, t < j → apd l (t + 1) ≤ 600 ∧ (l.getD t aoD).q.len ≤ 40) (h1 : apd l (j + 1) ≤ 600) (h2 : (l.getD j aoD).q.len ≤ 40) : Hid (apd l (j + 1) ≤ 600 ∧ ∀ t, t < j + 1 → apd l (t + 1) ≤ 600 ∧ (l.getD t aoD).q.len ≤ 40) := by
  refine hide ⟨h1, fun t ht => ?_⟩
  by_cases e : t = j
  · rw [e]; exact ⟨h1, h2⟩
  · exact h t (by omega)

set_option maxHeartbeats 4000000 in
theorem light_any (w : World) (a : Option Addr) (len cap : Nat) (l : List Ao) (h : Acs w a len l) : Calls Tryz.prog 6 #[.slice a len cap] w fun e w' => w' = w ∧ LightSays l len e := by
  have H := hide h
  have hbig := h.big
  clear h
  go_enter Tryz.func6, Tryz.ntmps6
  go_wp2_with fail
  go_loopw [3, 4] (fun m i wr => wr = w ∧ ∃ j : Nat, j ≤ len ∧ j ≤ 40 ∧ i = .int .i64 j ∧ m = .int .i64 ((apd l j : Nat) : Int) ∧ Hid (apd l j ≤ 600) ∧ Hid (∀ t, t < j → apd l (t + 1) ≤ 600 ∧ (l.getD t aoD).q.len ≤ 40)) (fun _ i _ => len - (intOf i).toNat)
  case atStart => exact ⟨rfl, 0, by omega, by omega, rfl, rfl, hide (by show (0 : Nat) ≤ 600; decide), hide (fun t ht => by omega)⟩
  case round =>
    obtain ⟨rfl, j, hj, hj4, rfl, rfl, hA, hL⟩ := hrel
    by_cases hgo : j < len ∧ j < 40
    · obtain ⟨hlt, hlt4⟩ := hgo
      have i1 : ((j : Nat) : Int) < ((len : Nat) : Int) := by omega
      have i2 : ((j : Nat) : Int) < 40 := by omega
      obtain ⟨b, off, ha, hat⟩ := H.out.at_ j hlt
      subst ha
      have d2 := hat.c2
      have d4 := hat.c4
      have hbb := hat.inn.b.big
      have hpp := hat.inn.pl
      have hA4 := hA.out
      have hsucc : Hid (apd l (j + 1) = apd l j + (l.getD j aoD).b.len) := hide rfl
      obtain ⟨q, hq⟩ : ∃ q, q = apd l j := ⟨_, rfl⟩
      rw [← hq] at hA4
      obtain ⟨bl, hbl⟩ : ∃ bl, bl = (l.getD j aoD).b.len := ⟨_, rfl⟩
      obtain ⟨pl, hpl⟩ : ∃ pl, pl = (l.getD j aoD).q.len := ⟨_, rfl⟩
      rw [← hbl] at d2 hbb
      rw [← hpl] at d4 hpp
      rw [← hq, ← hbl] at hsucc
      have HPL := hide hpl
      rw [← hq]
      clear hq hbl hpl
      have w1 : IntKind.i64.wrap (600 - ((q : Nat) : Int)) = 600 - ((q : Nat) : Int) := by rw [IntKind.wrap_i64]; omega
      by_cases c1 : 600 - ((q : Nat) : Int) < ((bl : Nat) : Int)
      · go_wp2_with fail
        go_ret
        exact ⟨by first | rfl | trivial, false, rfl, fun z => by cases z⟩
      · by_cases c3 : 40 < ((pl : Nat) : Int)
        · go_wp2_with fail
          go_ret
          exact ⟨by first | rfl | trivial, false, rfl, fun z => by cases z⟩
        · have HE : Hid (apd l (j + 1) ≤ 600 ∧ ∀ t, t < j + 1 → apd l (t + 1) ≤ 600 ∧ (l.getD t aoD).q.len ≤ 40) := light_step hL.out (by rw [hsucc.out]; omega) (by rw [← HPL.out]; omega)
          have HN : Hid (((q : Nat) : Int) + ((bl : Nat) : Int) = ((apd l (j + 1) : Nat) : Int)) := by rw [hsucc.out]; exact hide (by omega)
          have w2 : IntKind.i64.wrap (((q : Nat) : Int) + ((bl : Nat) : Int)) = ((q : Nat) : Int) + ((bl : Nat) : Int) := by rw [IntKind.wrap_i64]; omega
          clear hsucc
          go_wp2_with fail
          go_roundw
          case rel => exact ⟨by first | rfl | trivial, j + 1, by omega, by omega, by go_num, by rw [HN.out], hide HE.out.1, hide HE.out.2⟩
          case measure => simp only [intOf]; omega
    · have hend : Hid (LightTo l len) := by
        show LightTo l len
        intro t h1 h2
        exact hL.out t (by omega)
      by_cases h5 : j < len
      · have i1 : ((j : Nat) : Int) < ((len : Nat) : Int) := by omega
        obtain rfl : j = 40 := by omega
        go_wp2_with fail
        go_ret
        exact ⟨by first | rfl | trivial, true, rfl, fun _ => hend.out⟩
      · obtain rfl : j = len := by omega
        go_wp2_with fail
        go_ret
        exact ⟨by first | rfl | trivial, true, rfl, fun _ => hend.out⟩

end Go.Proofs.YtcaaiihjolnkgaaGreat

namespace Go.Proofs.YtcaaiihjolnkgaaGreat
open Go.RowKit
set_option maxRecDepth 100000
set_option maxRecDepth 100000

/-- A page that begins with bytes, again and again. -/
def pageOf (b : List Nat) : List Nat := (List.range 512).map fun i => if b.length = 0 then 0 else b.getD (i % b.length) 0
theorem pageOf_length (b : List Nat) : (pageOf b).length = 512 := by simp [pageOf]
theorem pageOf_get (b : List Nat) (i : Nat) (hi : i < 512) : (pageOf b)[i]? = some (if b.length = 0 then 0 else b.getD (i % b.length) 0) := by
  unfold pageOf
  rw [List.getElem?_map, List.getElem?_range hi]
  rfl
theorem pageOf_bytes (b : List Nat) (h : Bytes b) : Bytes (pageOf b) := by
  intro x hx
  obtain ⟨i, _, rfl⟩ := List.mem_map.1 hx
  split
  · omega
  · exact getD_lt h _
/-- The first so many of them, the rest noughts. -/
def pagePart (b : List Nat) (j : Nat) : List Nat := (pageOf b).take j ++ List.replicate (512 - j) 0
theorem pagePart_set (b : List Nat) (j : Nat) (hj : j < 512) (h0 : b.length ≠ 0) : (pagePart b j).set j (b.getD (j % b.length) 0) = pagePart b (j + 1) := by
  unfold pagePart
  have hl : ((pageOf b).take j).length = j := by rw [List.length_take, pageOf_length]; omega
  have hg := pageOf_get b j hj
  rw [if_neg h0] at hg
  have hlt : j < (pageOf b).length := by rw [pageOf_length]; exact hj
  have e1 : (pageOf b)[j] = b.getD (j % b.length) 0 := by rw [List.getElem?_eq_getElem hlt] at hg; exact Option.some.inj hg
  rw [List.set_append_right _ _ (by omega), hl, Nat.sub_self, show 512 - j = (512 - (j + 1)) + 1 by omega, List.replicate_succ, List.set_cons_zero, List.take_succ_eq_append_getElem hlt, e1, List.append_assoc]
  rfl

set_option maxHeartbeats 4000000 in
set_option maxRecDepth 100000 in
theorem page_any (w : World) (a : Option Addr) (len cap : Nat) (b : List Nat) (hb : Came w a len cap b) : Calls Tryz.prog 13 #[.slice a len cap] w fun e w' => Below w.heap.size w w' ∧ e = .returned (.slice (some ⟨w.heap.size, 0, none⟩) 512 512) ∧ Came w' (some ⟨w.heap.size, 0, none⟩) 512 512 (pageOf b) := by
  have HM := hide (make_bytes 512 (by omega) w)
  obtain ⟨C, hC⟩ : ∃ C, C = (.cells (vals (List.replicate 512 0)).toArray 5 : Obj) := ⟨_, rfl⟩
  rw [← hC] at HM
  have HB := hide (below_alloc w C)
  have HO : Hid (Owns (w.alloc C) w.heap.size (.slice (some ⟨w.heap.size, 0, none⟩) 512 512) (pagePart b 0)) := by
    rw [hC]
    have := Owns.lit w w.heap.size (List.replicate 512 0) (Nat.le_refl _) (by rw [List.length_replicate]; omega)
    rw [List.length_replicate] at this
    exact this
  have HCM := hide hb
  have hbl := hb.bs.1
  have HBL := hide hbl
  have HPB := hide (pageOf_bytes b hb.bs.2.1)
  have HBIG := hide hb.big
  clear hC hb
  go_enter Tryz.func13, Tryz.ntmps13
  go_wp2_with (refine wpList_make _ rfl 32 (.const (.int .i64 512)) (.const (.int .i64 512)) rfl (.int .i64 512) (.int .i64 512) (.slice (some ⟨w.heap.size, 0, none⟩) 512 512) rfl rfl (w.alloc C) HM.out ?_)
  go_loopw [4] (fun i wr => ∃ j : Nat, j ≤ 512 ∧ i = .int .i64 j ∧ Hid (Owns wr w.heap.size (.slice (some ⟨w.heap.size, 0, none⟩) 512 512) (pagePart b j)) ∧ Hid (Below w.heap.size w wr)) (fun i _ => 512 - (intOf i).toNat)
  case atStart => exact ⟨0, by omega, rfl, HO, HB⟩
  case round =>
    obtain ⟨j, hj, rfl, hO, hB⟩ := hrel
    by_cases hgo : j < 512 ∧ 0 < len
    · obtain ⟨hlt, hl0⟩ := hgo
      have i1 : ((j : Nat) : Int) < 512 := by omega
      have i2 : (0 : Int) < ((len : Nat) : Int) := by omega
      have hlen : (pagePart b j).length = 512 := by unfold pagePart; rw [List.length_append, List.length_take, pageOf_length, List.length_replicate]; omega
      have hset := hO.out.set (by rw [hlen]) j (b.getD (j % len) 0)
      have hps := pagePart_set b j hlt (by omega)
      rw [hbl] at hps
      rw [hps] at hset
      have HSET := hide hset
      have hbyt : Bytes (pagePart b j) := by
        intro x hx
        rcases List.mem_append.1 hx with h1 | h1
        · exact HPB.out x (List.mem_of_mem_take h1)
        · rw [(List.mem_replicate.1 h1).2]; omega
      have HBS := hide (hB.out.setCell (p := ⟨w.heap.size, j, none⟩) (Nat.le_refl _) (.int .u8 ((b.getD (j % len) 0 : Nat) : Int)))
      have hbs := (hO.out.row hbyt).2
      have hc0 := hbs.at j (by omega)
      rw [Nat.zero_add] at hc0
      have hfz : wr.frozen? ⟨w.heap.size, j, none⟩ = false := by
        rcases hO.out.2 with ⟨h', _⟩ | ⟨g', cap', cur, h', hbg, hg, hle, hmx, hcs, htk⟩
        · simp at h'
        · simp only [Value.slice.injEq, Option.some.injEq, Addr.mk.injEq, and_true] at h'
          rw [h'.1]
          exact frozen_of_row wr g' _ _ 5 hg
      have hmod : j % len < len := Nat.mod_lt _ hl0
      obtain ⟨bb, oo, ha, hcb⟩ := (HCM.out.bs.keep hB.out (Nat.le_refl _)).2.2 (j % len) hmod
      have hbg2 := HBIG.out
      have i3 : ((j % len : Nat) : Int) < ((len : Nat) : Int) := by omega
      have i4 : ¬ len = 0 := by omega
      subst ha
      obtain ⟨vv, hvv⟩ : ∃ vv, vv = b.getD (j % len) 0 := ⟨_, rfl⟩
      rw [← hvv] at hcb HBS HSET
      clear hset hbs hlen hps hbyt hvv
      go_wp2_with fail
      go_roundw
      case rel => exact ⟨j + 1, by omega, by go_num, HSET, HBS⟩
      case measure => simp only [intOf]; omega
    · have HFIN : Hid (pagePart b j = pageOf b) := by
        show _ = _
        unfold pagePart
        by_cases h5 : j = 512
        · rw [h5, List.take_of_length_le (by rw [pageOf_length]; exact Nat.le_refl _)]; simp
        · have hl0 : len = 0 := by omega
          apply List.ext_getElem?
          intro t
          have hb0 : b.length = 0 := by omega
          by_cases ht : t < 512
          · rw [pageOf_get b t ht, if_pos hb0]
            by_cases htj : t < j
            · rw [List.getElem?_append_left (by rw [List.length_take, pageOf_length]; omega), List.getElem?_take, if_pos htj, pageOf_get b t ht, if_pos hb0]
            · rw [List.getElem?_append_right (by rw [List.length_take, pageOf_length]; omega), List.getElem?_replicate, if_pos (by rw [List.length_take, pageOf_length]; omega)]
          · rw [List.getElem?_eq_none (by rw [List.length_append, List.length_take, pageOf_length, List.length_replicate]; omega), List.getElem?_eq_none (by rw [pageOf_length]; omega)]
      have HEND : Hid (Came wr (some ⟨w.heap.size, 0, none⟩) 512 512 (pageOf b)) := by
        have e1 := hO.out
        rw [HFIN.out] at e1
        have h3 := (e1.row HPB.out).2
        rw [pageOf_length] at h3
        exact ⟨h3, (fun e => by cases e), Nat.le_refl _, by omega⟩
      by_cases h5 : j < 512
      · have hl0 : len = 0 := by omega
        subst hl0
        have i1 : ((j : Nat) : Int) < 512 := by omega
        go_wp2_with fail
        go_ret
        exact ⟨hB.out, rfl, HEND.out⟩
      · obtain rfl : j = 512 := by omega
        go_wp2_with fail
        go_ret
        exact ⟨hB.out, rfl, HEND.out⟩


theorem wf_page (k : Nat) (h : k < 1000000) : (Lit.int .i64 ((k : Nat) : Int)).wf = true := by
  simp only [Lit.wf, show IntKind.i64.min = -9223372036854775808 by decide, show IntKind.i64.max = 9223372036854775807 by decide, Bool.and_eq_true, decide_eq_true_eq]
  omega
/-- How a pool lies in memory: its block, its device's, what it is, the device's slices, and the blocks that are its own. -/
abbrev PoM := World → Nat → Nat → Po → Dl → (Nat → Prop) → Prop
def ivals (l : List Nat) : List Value := l.map fun (k : Nat) => .int .i64 ((k : Nat) : Int)
/-- What an act leaves. -/
structure Acted (M : PoM) (w : World) (p d : Nat) (L : Dl) (X : Nat → Prop) (w' : World) (Q : Po) : Prop where
  ex : ∃ L' X', M w' p d Q L' X' ∧ ∀ k, X' k ∨ L'.F d k → (X k ∨ L.F d k) ∨ w.heap.size ≤ k
  frm : Frm (fun k => X k ∨ L.F d k) w w'
structure Po.Fine (P : Po) (n c : Nat) : Prop where
  ok : P.Ok n
  wet : P.Wet n c
  cap : c ≤ 9000
  ss : P.D.ss.length ≤ 65536
structure PoolS (M : PoM) : Prop where
  dev : ∀ {w p d P L X}, M w p d P L X → DevM w d P.D L
  lt : ∀ {w p d P L X}, M w p d P L X → ∀ k, X k → k < w.heap.size
  apart : ∀ {w p d P L X}, M w p d P L X → ∀ k, X k → ¬ L.F d k
  frm : ∀ {w p d P L X w'} {F : Nat → Prop}, M w p d P L X → Frm F w w' → (∀ k, X k ∨ L.F d k → ¬ F k) → M w' p d P L X
  turn : ∀ {w p d P L X w' D' L'}, M w p d P L X → Turned w d L w' D' L' → M w' p d { P with D := D' } L' X
  new : ∀ (w : World) (d : Nat) (D : Ds) (L : Dl) (n c f : Nat), DevM w d D L → D.Easy n c → D.ss.length ≤ 65536 → 1 ≤ f → f ≤ 64 → Calls Tryz.prog 5 #[at0 d, .int .i64 ((f : Nat) : Int)] w fun e w' => Below w.heap.size w w' ∧ ∃ p X, e = .returned (.tuple #[at0 p, .int .i64 0]) ∧ M w' p d (Po.new D f) L X ∧ ∀ k, X k → w.heap.size ≤ k
  newBad : ∀ (w : World) (d : Nat) (D : Ds) (L : Dl) (n c : Nat) (f : Int), DevM w d D L → D.Easy n c → D.ss.length ≤ 65536 → ¬ (1 ≤ f ∧ f ≤ 64) → Calls Tryz.prog 5 #[at0 d, .int .i64 f] w fun e w' => Below w.heap.size w w' ∧ e = .returned (.tuple #[.pointer none, .int .i64 1])
  newDead : ∀ (w : World) (v : Value), Dead w v → Calls Tryz.prog 5 #[v, .int .i64 1] w fun e w' => Below w.heap.size w w' ∧ e = .returned (.tuple #[.pointer none, .int .i64 1])
  read : ∀ (w : World) (p d : Nat) (P : Po) (L : Dl) (X : Nat → Prop) (n c k : Nat), M w p d P L X → P.Fine n c → k < n → Calls Tryz.prog 10 #[at0 p, .int .i64 ((k : Nat) : Int)] w fun e w' => Acted M w p d L X w' (P.letIn k) ∧ ∃ s : Sl, e = .returned (.tuple #[s.val, .int .i64 0]) ∧ Own 5 1 w' s (vals ((P.letIn k).con k)) ∧ s.len = 512
  readNone : ∀ (w : World) (p d : Nat) (P : Po) (L : Dl) (X : Nat → Prop) (n c : Nat) (k : Int), M w p d P L X → P.Fine n c → ¬ (0 ≤ k ∧ k < ((n : Nat) : Int)) → Calls Tryz.prog 10 #[at0 p, .int .i64 k] w fun e w' => Below w.heap.size w w' ∧ e = .returned (.tuple #[.slice none 0 0, .int .i64 3])
  put : ∀ (w : World) (p d : Nat) (P : Po) (L : Dl) (X : Nat → Prop) (n c k : Nat) (a : Option Addr) (cap : Nat) (ys : List Nat) (z : Int), M w p d P L X → P.Fine n c → k < n → Came w a 512 cap ys → Off (fun i => X i ∨ L.F d i) a 512 → (Lit.int .i64 z).wf = true → Calls Tryz.prog 12 #[at0 p, .int .i64 ((k : Nat) : Int), .slice a 512 cap, .int .i64 z] w fun e w' => Acted M w p d L X w' (P.set k ys z) ∧ e = .returned (.int .i64 0)
  putNone : ∀ (w : World) (p d : Nat) (P : Po) (L : Dl) (X : Nat → Prop) (n c : Nat) (k : Int) (a : Option Addr) (len cap : Nat) (z : Int), M w p d P L X → P.Fine n c → ¬ (0 ≤ k ∧ k < ((n : Nat) : Int)) → Calls Tryz.prog 12 #[at0 p, .int .i64 k, .slice a len cap, .int .i64 z] w fun e w' => Below w.heap.size w w' ∧ e = .returned (.int .i64 3)
  putArg : ∀ (w : World) (p d : Nat) (P : Po) (L : Dl) (X : Nat → Prop) (n c k : Nat) (a : Option Addr) (len cap : Nat) (z : Int), M w p d P L X → P.Fine n c → k < n → len ≠ 512 → len ≤ 9223372036854775807 → Calls Tryz.prog 12 #[at0 p, .int .i64 ((k : Nat) : Int), .slice a len cap, .int .i64 z] w fun e w' => Below w.heap.size w w' ∧ e = .returned (.int .i64 1)
  flush : ∀ (w : World) (p d : Nat) (P : Po) (L : Dl) (X : Nat → Prop) (n c : Nat), M w p d P L X → P.Fine n c → Calls Tryz.prog 16 #[at0 p] w fun e w' => Acted M w p d L X w' (P.flush n) ∧ e = .returned (.int .i64 (((P.dirty n).length : Nat) : Int))
  evict : ∀ (w : World) (p d : Nat) (P : Po) (L : Dl) (X : Nat → Prop) (n c k : Nat), M w p d P L X → P.Fine n c → (P.m k).isSome = true → Calls Tryz.prog 18 #[at0 p, .int .i64 ((k : Nat) : Int)] w fun e w' => Acted M w p d L X w' (P.evict k) ∧ e = .returned (.int .i64 0)
  evictNone : ∀ (w : World) (p d : Nat) (P : Po) (L : Dl) (X : Nat → Prop) (n c : Nat) (k : Int), M w p d P L X → P.Fine n c → ¬ (0 ≤ k ∧ (P.m k.toNat).isSome = true) → (Lit.int .i64 k).wf = true → Calls Tryz.prog 18 #[at0 p, .int .i64 k] w fun e w' => Below w.heap.size w w' ∧ e = .returned (.int .i64 3)
  synced : ∀ (w : World) (p d : Nat) (P : Po) (L : Dl) (X : Nat → Prop) (n c : Nat), M w p d P L X → P.Fine n c → Calls Tryz.prog 23 #[at0 p] w fun e w' => Acted M w p d L X w' P.synced ∧ e = .returned (.tuple #[])
  inn : ∀ (w : World) (p d : Nat) (P : Po) (L : Dl) (X : Nat → Prop) (n c : Nat), M w p d P L X → P.Fine n c → Calls Tryz.prog 54 #[at0 p] w fun e w' => Below w.heap.size w w' ∧ ∃ s : Sl, e = .returned s.val ∧ Own 3 1 w' s (ivals (P.inn n))
  dirty : ∀ (w : World) (p d : Nat) (P : Po) (L : Dl) (X : Nat → Prop) (n c : Nat), M w p d P L X → P.Fine n c → Calls Tryz.prog 39 #[at0 p] w fun e w' => Below w.heap.size w w' ∧ ∃ s : Sl, e = .returned s.val ∧ Own 3 1 w' s (ivals (P.dirty n))

structure Mp (M : PoM) (w0 w : World) (p d : Nat) (P : Po) (L : Dl) (X : Nat → Prop) : Prop where
  m : M w p d P L X
  foot : ∀ k, X k ∨ L.F d k → w0.heap.size ≤ k
  below : Below w0.heap.size w0 w
def Our (M : PoM) (w0 w : World) (p d : Nat) (P : Po) : Prop := ∃ L X, Mp M w0 w p d P L X
theorem Mp.keep {M : PoM} (S : PoolS M) {w0 w w' : World} {p d : Nat} {P : Po} {L : Dl} {X : Nat → Prop} (h : Mp M w0 w p d P L X) (hb : Below w.heap.size w w') : Mp M w0 w' p d P L X :=
  ⟨S.frm h.m (Frm.ofBelow (F := fun _ => False) hb) (fun _ _ e => e), h.foot, h.below.trans (hb.mono h.below.size)⟩
theorem Our.keep {M : PoM} (S : PoolS M) {w0 w w' : World} {p d : Nat} {P : Po} (h : Our M w0 w p d P) (hb : Below w.heap.size w w') : Our M w0 w' p d P := by
  obtain ⟨L, X, h⟩ := h
  exact ⟨L, X, h.keep S hb⟩
theorem Mp.act {M : PoM} {w0 w w' : World} {p d : Nat} {P Q : Po} {L : Dl} {X : Nat → Prop} (h : Mp M w0 w p d P L X) (a : Acted M w p d L X w' Q) : Our M w0 w' p d Q := by
  obtain ⟨L', X', hm, hf⟩ := a.ex
  exact ⟨L', X', hm, fun k hk => (hf k hk).elim (h.foot k) (fun e => Nat.le_trans h.below.size e), h.below.trans (a.frm.below h.below.size h.foot)⟩
theorem Mp.turn {M : PoM} (S : PoolS M) {w0 w w' : World} {p d : Nat} {P : Po} {L L' : Dl} {D' : Ds} {X : Nat → Prop} (h : Mp M w0 w p d P L X) (t : Turned w d L w' D' L') : Our M w0 w' p d { P with D := D' } :=
  ⟨L', X, S.turn h.m t, fun k hk => hk.elim (fun e => h.foot k (.inl e)) (fun e => (t.foot k e).elim (fun g => h.foot k (.inr g)) (fun g => Nat.le_trans h.below.size g)), h.below.trans (t.frm.below h.below.size (fun k hk => h.foot k (.inr hk)))⟩
theorem Our.below {M : PoM} {w0 w : World} {p d : Nat} {P : Po} (h : Our M w0 w p d P) : Below w0.heap.size w0 w := by
  obtain ⟨_, _, h⟩ := h
  exact h.below
/-- What is outside of a call's own blocks is apart from its pool. -/
theorem Mp.off {M : PoM} {w0 w : World} {p d : Nat} {P : Po} {L : Dl} {X : Nat → Prop} (h : Mp M w0 w p d P L X) {a : Option Addr} {len cap : Nat} {xs : List Nat} (hc : Came w0 a len cap xs) : Off (fun i => X i ∨ L.F d i) a len := by
  intro ad e hl hk
  obtain ⟨b, off, ha, hcell⟩ := hc.bs.2.2 0 hl
  rw [ha] at e
  cases e
  have h1 : w0.heap.size ≤ b := h.foot _ hk
  have h2 : b < w0.heap.size := World.block_lt_of_cell? w0 _ hcell
  omega
theorem Mp.offNew {M : PoM} (S : PoolS M) {w0 w : World} {p d : Nat} {P : Po} {L : Dl} {X : Nat → Prop} (h : Mp M w0 w p d P L X) {g o len : Nat} (hg : w.heap.size ≤ g) : Off (fun i => X i ∨ L.F d i) (some ⟨g, o, none⟩) len := by
  intro ad e _ hk
  cases e
  rcases hk with hk | hk
  · have := S.lt h.m _ hk
    simp only at this
    omega
  · have := (S.dev h.m).lt hk
    simp only at this
    omega

section
variable {M : PoM} {w0 w : World} {p d : Nat} {P : Po} {n c : Nat}
theorem our_new (S : PoolS M) (w : World) (f : Nat) (hn1 : 1 ≤ n) (hn2 : n ≤ 64) (h1 : 1 ≤ f) (h2 : f ≤ 64) (d : Nat) (w1 : World) (L : Dl) (hb : Below w.heap.size w w1) (hd : DevM w1 d (Ds.new n) L) (hf : ∀ k, L.F d k → w.heap.size ≤ k) :
    Calls Tryz.prog 5 #[at0 d, .int .i64 ((f : Nat) : Int)] w1 fun e w' => ∃ p, e = .returned (.tuple #[at0 p, .int .i64 0]) ∧ Our M w w' p d (Po.new (Ds.new n) f) := by
  refine (S.new w1 d _ L n 0 f hd (Ds.Easy.new hn1 hn2) (by show (0 : Nat) ≤ _; omega) h1 h2).mono ?_
  rintro e w' ⟨hb', p, X, rfl, hm, hX⟩
  exact ⟨p, rfl, L, X, hm, fun k hk => hk.elim (fun e => Nat.le_trans hb.size (hX k e)) (hf k), hb.trans (hb'.mono hb.size)⟩
/-- What Evict leaves, of any page. -/
def Po.evictAny (P : Po) (k : Int) : Po := if 0 ≤ k ∧ (P.m k.toNat).isSome = true then P.evict k.toNat else P
/-- A page of the device. -/
theorem our_page (S : PoolS M) (h : Our M w0 w p d P) (hP : P.Fine n c) (k : Nat) (hk : k < n) : Calls Tryz.prog 30 #[at0 d, .int .i64 ((k : Nat) : Int)] w fun e w' => Our M w0 w' p d P ∧ Below w.heap.size w w' ∧ ∃ s : Sl, e = .returned (.tuple #[s.val, .int .i64 0]) ∧ Own 5 1 w' s (vals (P.D.page k)) ∧ s.len = 512 := by
  obtain ⟨L, X, h⟩ := h
  refine (read_any w d P.D L (S.dev h.m) n hP.ok.sp hP.ok.n64 k hk).mono ?_
  rintro e w' ⟨hb, s, r1, r2, r3, _⟩
  exact ⟨⟨L, X, h.keep S hb⟩, hb, s, r1, r2, r3⟩
end

theorem ahead_ss (P : Po) (z : Int) : (P.ahead z).D.ss = P.D.ss := by
  unfold Po.ahead
  split
  · exact P.D.sync_sp.2.1
  · rfl
theorem write_ss (P : Po) (k : Nat) : (P.write k).D.ss = P.D.ss := by
  unfold Po.write
  cases P.m k with
  | none => rfl
  | some s =>
    simp only
    split
    · show ((P.ahead s.place).D.write k s.b).ss = _
      rw [((P.ahead s.place).D.write_ss k s.b).1, ahead_ss]
    · rfl
theorem letIn_ss (P : Po) (k : Nat) : (P.letIn k).D.ss = P.D.ss := by
  have h1 : ∀ (Q : Po) (z : Int), (Q.left z).D.ss = Q.D.ss := fun Q z => by
    unfold Po.left
    split
    · exact write_ss Q _
    · rfl
  have h2 : ∀ (Q : Po), (Q.fetch k).D.ss = Q.D.ss := fun Q => by
    unfold Po.fetch
    split <;> rfl
  unfold Po.letIn
  rw [h2, h1]
  rfl
theorem writes_ss : ∀ (L : List Nat) (P : Po), (L.foldl Po.write P).D.ss = P.D.ss
  | [], P => rfl
  | p :: L, P => by rw [List.foldl_cons, writes_ss L, write_ss]
theorem Po.Fine.letIn {P : Po} {n c : Nat} (h : P.Fine n c) (hc : c + 4 ≤ 9000) {k : Nat} (hk : k < n) : (P.letIn k).Fine n (c + 4) := ⟨(h.ok.letIn hk).ok, h.wet.letIn hk, hc, by rw [letIn_ss]; exact h.ss⟩
theorem Po.Fine.set {P : Po} {n c : Nat} (h : P.Fine n c) (hc : c + 4 ≤ 9000) {k : Nat} (hk : k < n) {b : List Nat} (hb : b.length = 512) (hx : Bytes b) (z : Int) : (P.set k b z).Fine n (c + 4) := ⟨(h.ok.set hk hb z).1, h.wet.set hk hb hx z, hc, by show (P.letIn k).D.ss.length ≤ _; rw [letIn_ss]; exact h.ss⟩
theorem Po.Fine.flush {P : Po} {n c : Nat} (h : P.Fine n c) (hc : c + 4 * n ≤ 9000) : (P.flush n).Fine n (c + 4 * n) := ⟨h.ok.flush.1.ok, h.wet.flush, hc, by show ((P.dirty n).foldl Po.write P).D.ss.length ≤ _; rw [writes_ss]; exact h.ss⟩
theorem Po.Fine.more {P : Po} {n c c' : Nat} (h : P.Fine n c) (h1 : c ≤ c') (hc : c' ≤ 9000) : P.Fine n c' := ⟨h.ok, h.wet.more h1, hc, h.ss⟩
theorem Po.Fine.evictAny {P : Po} {n c : Nat} (h : P.Fine n c) (hc : c + 4 ≤ 9000) (k : Int) : (P.evictAny k).Fine n (c + 4) ∧ (∀ i, i < n → (P.evictAny k).con i = P.con i) ∧ (P.evictAny k).l.length = P.l.length := by
  unfold Po.evictAny
  split
  · rename_i hk
    obtain ⟨e1, e2, e3, _⟩ := h.ok.evict hk.2
    exact ⟨⟨e1, h.wet.evict _, hc, by show ((P.write k.toNat).D.ss).length ≤ _; rw [write_ss]; exact h.ss⟩, e2, e3⟩
  · exact ⟨h.more (by omega) hc, fun _ _ => rfl, rfl⟩
theorem Po.Fine.new {n f : Nat} (hn1 : 1 ≤ n) (hn2 : n ≤ 64) (h1 : 1 ≤ f) (h2 : f ≤ 64) : (Po.new (Ds.new n) f).Fine n 0 := ⟨Po.Ok.new List.length_replicate hn2 h1 h2, Po.Wet.new hn1 hn2, by omega, by show (0 : Nat) ≤ _; omega⟩
end Go.Proofs.YtcaaiihjolnkgaaGreat

namespace Go.Proofs.YtcaaiihjolnkgaaGreat
open Go.RowKit
set_option maxRecDepth 100000
set_option maxRecDepth 100000

def awp1 : Po := (Po.new (Ds.new 2) 1).set 0 (pageOf [7]) 0
def awp2 : Po := awp1.set 1 (pageOf [8]) 0
theorem awp_read : (awp2.D.page 0).getD 0 0 = 7 := by kernel_rfl
theorem bytes_one (x : Nat) (h : x < 256) : Bytes [x] := fun y hy => by rw [List.mem_singleton.1 hy]; exact h
theorem awp1_fine : awp1.Fine 2 4 := (Po.Fine.new (n := 2) (f := 1) (by omega) (by omega) (by omega) (by omega)).set (by omega) (by omega) (pageOf_length _) (pageOf_bytes _ (bytes_one 7 (by omega))) 0
theorem awp2_fine : awp2.Fine 2 8 := awp1_fine.set (by omega) (by omega) (pageOf_length _) (pageOf_bytes _ (bytes_one 8 (by omega))) 0
theorem came_one (w : World) (x : Nat) (h : x < 256) : Came (w.alloc (.cells #[.int .u8 ((x : Nat) : Int)] 5)) (some ⟨w.heap.size, 0, none⟩) 1 1 [x] :=
  (own_made w 1 (by omega) [x] rfl).came (bytes_one x h)
/-- A byte that was read of a page. -/
theorem page_cells {w : World} {s : Sl} {xs : List Nat} (h : Own 5 1 w s (vals xs)) (hl : s.len = 512) : xs.length = 512 ∧ ∃ g off cap, s = ⟨some ⟨g, off, none⟩, 512, cap⟩ ∧ ∀ j, j < 512 → w.cell? ⟨g, off + j, none⟩ = some (.int .u8 ((xs.getD j 0 : Nat) : Int)) := by
  have hlen : xs.length = 512 := by have := h.1; rw [vals_length, hl] at this; omega
  refine ⟨hlen, ?_⟩
  rcases h.2 with ⟨h0, _⟩ | ⟨g, off, cur, ha, _⟩
  · rw [h0] at hl; cases hl
  · obtain ⟨a, l, k⟩ := s
    simp only at ha hl
    subst ha; subst hl
    refine ⟨g, off, k, rfl, fun j hj => ?_⟩
    have := h.cell (a := ⟨g, off, none⟩) rfl j (.int .u8 ((xs.getD j 0 : Nat) : Int)) (by simp [vals, List.getD, hlen, hj])
    simpa [Addr.add_lit] using this

set_option maxHeartbeats 8000000 in
theorem awakeP_any {M : PoM} (S : PoolS M) (w : World) : Calls Tryz.prog 7 #[] w fun e w' => e = .returned (.bool true) ∧ Below w.heap.size w w' := by
  have HN := hide (new_any w 2 (by omega) (by omega))
  have HPN : Hid (∀ w1 d L, Below w.heap.size w w1 → DevM w1 d (Ds.new 2) L → (∀ k, L.F d k → w.heap.size ≤ k) → Calls Tryz.prog 5 #[at0 d, .int .i64 1] w1 fun e w' => ∃ p, e = .returned (.tuple #[at0 p, .int .i64 0]) ∧ Our M w w' p d (Po.new (Ds.new 2) 1)) := fun w1 d L hb hd hf => our_new S (n := 2) w 1 (by omega) (by omega) (by omega) (by omega) d w1 L hb hd hf
  have HPG7 : Hid (∀ w', Calls Tryz.prog 13 #[.slice (some ⟨w'.heap.size, 0, none⟩) 1 1] (w'.alloc (.cells #[.int .u8 7] 5)) fun e w2 => Below w'.heap.size w' w2 ∧ ∃ g, e = .returned (.slice (some ⟨g, 0, none⟩) 512 512) ∧ Came w2 (some ⟨g, 0, none⟩) 512 512 (pageOf [7]) ∧ w'.heap.size ≤ g) := fun w' => (page_any _ _ _ _ _ (came_one w' 7 (by omega))).mono (by
    rintro e w2 ⟨x1, x2, x3⟩
    have hA := below_alloc w' (.cells #[.int .u8 7] 5)
    exact ⟨hA.trans (x1.mono hA.size), _, x2, x3, hA.size⟩)
  have HPG8 : Hid (∀ w', Calls Tryz.prog 13 #[.slice (some ⟨w'.heap.size, 0, none⟩) 1 1] (w'.alloc (.cells #[.int .u8 8] 5)) fun e w2 => Below w'.heap.size w' w2 ∧ ∃ g, e = .returned (.slice (some ⟨g, 0, none⟩) 512 512) ∧ Came w2 (some ⟨g, 0, none⟩) 512 512 (pageOf [8]) ∧ w'.heap.size ≤ g) := fun w' => (page_any _ _ _ _ _ (came_one w' 8 (by omega))).mono (by
    rintro e w2 ⟨x1, x2, x3⟩
    have hA := below_alloc w' (.cells #[.int .u8 8] 5)
    exact ⟨hA.trans (x1.mono hA.size), _, x2, x3, hA.size⟩)
  have HP7 : Hid (∀ w2 w' p d g, Our M w w' p d (Po.new (Ds.new 2) 1) → Below w'.heap.size w' w2 → Came w2 (some ⟨g, 0, none⟩) 512 512 (pageOf [7]) → w'.heap.size ≤ g → Calls Tryz.prog 12 #[at0 p, .int .i64 0, .slice (some ⟨g, 0, none⟩) 512 512, .int .i64 0] w2 fun e w3 => Our M w w3 p d awp1 ∧ e = .returned (.int .i64 0)) := fun w2 w' p d g ho hb hc hg => by
    obtain ⟨L, X, ho⟩ := ho
    have o2 := ho.offNew S (o := 0) (len := 512) hg
    have k2 := ho.keep S hb
    refine (S.put w2 p d _ L X 2 0 0 _ 512 _ 0 k2.m (Po.Fine.new (by omega) (by omega) (by omega) (by omega)) (by omega) hc o2 (by decide)).mono ?_
    rintro e w3 ⟨ha, r⟩
    exact ⟨k2.act ha, r⟩
  have HP8 : Hid (∀ w2 w' p d g, Our M w w' p d awp1 → Below w'.heap.size w' w2 → Came w2 (some ⟨g, 0, none⟩) 512 512 (pageOf [8]) → w'.heap.size ≤ g → Calls Tryz.prog 12 #[at0 p, .int .i64 1, .slice (some ⟨g, 0, none⟩) 512 512, .int .i64 0] w2 fun e w3 => Our M w w3 p d awp2 ∧ e = .returned (.int .i64 0)) := fun w2 w' p d g ho hb hc hg => by
    obtain ⟨L, X, ho⟩ := ho
    have o2 := ho.offNew S (o := 0) (len := 512) hg
    have k2 := ho.keep S hb
    refine (S.put w2 p d _ L X 2 4 1 _ 512 _ 0 k2.m awp1_fine (by omega) hc o2 (by decide)).mono ?_
    rintro e w3 ⟨ha, r⟩
    exact ⟨k2.act ha, r⟩
  have HR : Hid (∀ w' p d, Our M w w' p d awp2 → Calls Tryz.prog 30 #[at0 d, .int .i64 0] w' fun e w2 => Our M w w2 p d awp2 ∧ Below w'.heap.size w' w2 ∧ ∃ s : Sl, e = .returned (.tuple #[s.val, .int .i64 0]) ∧ Own 5 1 w2 s (vals (awp2.D.page 0)) ∧ s.len = 512) := fun w' p d ho => our_page S ho awp2_fine 0 (by omega)
  have HRD := hide awp_read
  generalize awp2.D.page 0 = rd at *
  generalize awp2 = q2 at *
  generalize awp1 = q1 at *
  generalize Po.new (Ds.new 2) 1 = q0 at *
  generalize pageOf [7] = pg7 at *
  generalize pageOf [8] = pg8 at *
  unfold at0 at *
  go_enter Tryz.func7, Tryz.ntmps7
  go_wp2_with fail
  refine HN.out.mono ?_
  rintro e w1 ⟨hb1, d, L1, rfl, hd1, hf1⟩
  have HPN1 := hide (HPN.out w1 d L1 hb1 hd1 hf1)
  clear hb1 hd1 hf1 HPN
  unfold at0 at *
  go_wp2_with fail
  refine HPN1.out.mono ?_
  rintro e w2 ⟨p, rfl, ho⟩
  have O2 := hide ho
  clear ho HPN1
  have hnil : ∀ w : World, (binOp .eql 27 (.pointer (some ⟨p, 0, none⟩)) (.pointer none)).run Tryz.prog w = .ok (.bool false) w := fun _ => rfl
  go_wp2_with fail
  refine (HPG7.out w2).mono ?_
  rintro e w3 ⟨hb3, g3, rfl, hc3, hg3⟩
  have H3 := hide (HP7.out w3 w2 p d g3 O2.out hb3 hc3 hg3)
  clear hb3 hc3 hg3 HP7 HPG7
  unfold at0 at H3
  go_wp2_with fail
  refine H3.out.mono ?_
  rintro e w4 ⟨ho, rfl⟩
  have O4 := hide ho
  clear ho H3
  go_wp2_with fail
  refine (HPG8.out w4).mono ?_
  rintro e w5 ⟨hb5, g5, rfl, hc5, hg5⟩
  have H5 := hide (HP8.out w5 w4 p d g5 O4.out hb5 hc5 hg5)
  clear hb5 hc5 hg5 HP8 HPG8
  unfold at0 at H5
  go_wp2_with fail
  refine H5.out.mono ?_
  rintro e w6 ⟨ho, rfl⟩
  have O6 := hide ho
  have H6 := hide (HR.out w6 p d ho)
  clear ho H5 HR
  unfold at0 at H6
  go_wp2_with fail
  refine H6.out.mono ?_
  rintro e w7 ⟨ho, hb7, s, rfl, hown, hl⟩
  have HB7 := hide (Our.below ho)
  obtain ⟨_, g, off, cap, rfl, hcell⟩ := page_cells hown hl
  have h0 := hcell 0 (by omega)
  rw [HRD.out, Nat.add_zero] at h0
  unfold Sl.val
  clear ho hb7 hown hcell hl H6
  go_wp2_with fail
  go_ret
  exact ⟨rfl, HB7.out⟩

end Go.Proofs.YtcaaiihjolnkgaaGreat

namespace Go.Proofs.YtcaaiihjolnkgaaGreat
open Go.RowKit
set_option maxRecDepth 100000
set_option linter.unusedVariables false

theorem fdAoB1 (p : Nat) (w : World) : (Instr.fieldAt 48 (.pointer (some ⟨p, 0, none⟩)) 1).run Tryz.prog w = .ok (.pointer (some ⟨p, 1, none⟩)) w := by simp [go_sem, Instr.fieldAt]
theorem fdAoB2 (p : Nat) (w : World) : (Instr.fieldAt 48 (.pointer (some ⟨p, 0, none⟩)) 2).run Tryz.prog w = .ok (.pointer (some ⟨p, 2, none⟩)) w := by simp [go_sem, Instr.fieldAt]
theorem fdAoB3 (p : Nat) (w : World) : (Instr.fieldAt 48 (.pointer (some ⟨p, 0, none⟩)) 3).run Tryz.prog w = .ok (.pointer (some ⟨p, 3, none⟩)) w := by simp [go_sem, Instr.fieldAt]
theorem ixI1 (b o len cap k : Nat) (hk : k < len) (w : World) : (Instr.indexAt 57 (.slice (some ⟨b, o, none⟩) len cap) (.int .i64 ((k : Nat) : Int))).run Tryz.prog w = .ok (.pointer (some ⟨b, o + k, none⟩)) w := by
  have h1 : ¬ (((k : Nat) : Int) < 0) := by omega
  have h2 : ((k : Nat) : Int).toNat = k := by omega
  simp [go_sem, Instr.indexAt, Int.toNat_natCast, hk]
end Go.Proofs.YtcaaiihjolnkgaaGreat

namespace Go.Proofs.YtcaaiihjolnkgaaGreat
open Go.RowKit
set_option maxRecDepth 100000
set_option linter.unusedVariables false

def Oug (M : PoM) (w0 : World) (G : Nat → Prop) (w : World) (p d : Nat) (P : Po) : Prop := ∃ L X, Mp M w0 w p d P L X ∧ ∀ k, G k → k < w.heap.size ∧ ¬ (X k ∨ L.F d k)
def KeptG (G : Nat → Prop) (w w' : World) : Prop := ∀ k, G k → w'.heap[k]? = w.heap[k]?
theorem KeptG.trans {G : Nat → Prop} {a b c : World} (h : KeptG G a b) (h' : KeptG G b c) : KeptG G a c := fun k hk => (h' k hk).trans (h k hk)
theorem KeptG.cell {G : Nat → Prop} {a b : World} (h : KeptG G a b) {k o : Nat} (hk : G k) : b.cell? ⟨k, o, none⟩ = a.cell? ⟨k, o, none⟩ := by
  unfold World.cell?
  rw [h k hk]
theorem Oug.our {M : PoM} {w0 w : World} {G : Nat → Prop} {p d : Nat} {P : Po} (h : Oug M w0 G w p d P) : Our M w0 w p d P := by
  obtain ⟨L, X, h, _⟩ := h
  exact ⟨L, X, h⟩
theorem Oug.below {M : PoM} {w0 w : World} {G : Nat → Prop} {p d : Nat} {P : Po} (h : Oug M w0 G w p d P) : Below w0.heap.size w0 w := h.our.below
theorem Oug.mono {M : PoM} {w0 w : World} {G G' : Nat → Prop} {p d : Nat} {P : Po} (h : Oug M w0 G w p d P) (hG : ∀ k, G' k → G k) : Oug M w0 G' w p d P := by
  obtain ⟨L, X, h, hg⟩ := h
  exact ⟨L, X, h, fun k hk => hg k (hG k hk)⟩
theorem Oug.keep {M : PoM} (S : PoolS M) {w0 w w' : World} {G : Nat → Prop} {p d : Nat} {P : Po} (h : Oug M w0 G w p d P) (hb : Below w.heap.size w w') : Oug M w0 G w' p d P ∧ KeptG G w w' := by
  obtain ⟨L, X, h, hg⟩ := h
  exact ⟨⟨L, X, h.keep S hb, fun k hk => ⟨Nat.lt_of_lt_of_le (hg k hk).1 hb.size, (hg k hk).2⟩⟩, fun k hk => hb.block k (hg k hk).1⟩
/-- One more, that was just made. -/
theorem Oug.more {M : PoM} (S : PoolS M) {w0 w w' : World} {G : Nat → Prop} {p d : Nat} {P : Po} (h : Oug M w0 G w p d P) (hb : Below w.heap.size w w') {g : Nat} (hg : w.heap.size ≤ g) (hg' : g < w'.heap.size) : Oug M w0 (fun k => G k ∨ k = g) w' p d P := by
  obtain ⟨L, X, h, hG⟩ := h
  refine ⟨L, X, h.keep S hb, fun k hk => ?_⟩
  rcases hk with hk | rfl
  · exact ⟨Nat.lt_of_lt_of_le (hG k hk).1 hb.size, (hG k hk).2⟩
  · refine ⟨hg', fun e => ?_⟩
    rcases e with e | e
    · have := S.lt h.m _ e; omega
    · have := (S.dev h.m).lt e; omega
/-- A cell of a block apart turns. -/
theorem Oug.store {M : PoM} (S : PoolS M) {w0 w : World} {G : Nat → Prop} {p d : Nat} {P : Po} (h : Oug M w0 G w p d P) {g i : Nat} (hg : G g) (hw : w0.heap.size ≤ g) (u : Value) : Oug M w0 G (w.setCell ⟨g, i, none⟩ u) p d P := by
  obtain ⟨L, X, h, hG⟩ := h
  have hf : Frm (fun k => k = g) w (w.setCell ⟨g, i, none⟩ u) := Frm.setCell (F := fun k => k = g) (p := ⟨g, i, none⟩) (Frm.refl _ _) rfl u
  refine ⟨L, X, ⟨S.frm h.m hf (fun k hk e => (hG g hg).2 (by rw [← e]; exact hk)), h.foot, h.below.trans (hf.below h.below.size (fun k hk => by rw [hk]; exact hw))⟩, fun k hk => ⟨Nat.lt_of_lt_of_le (hG k hk).1 hf.size, (hG k hk).2⟩⟩
section
variable {M : PoM} {w0 w : World} {G : Nat → Prop} {p d : Nat} {P : Po} {n c : Nat}
end

theorem AcBlk.c0 {w : World} {p : Nat} {x : Ac} {b q : Sl} (h : AcBlk w p x b q) : w.cell? ⟨p, 0, none⟩ = some (.int .i64 x.do_) := (Addr.cell0 h).trans rfl
theorem AcBlk.c1 {w : World} {p : Nat} {x : Ac} {b q : Sl} (h : AcBlk w p x b q) : w.cell? ⟨p, 1, none⟩ = some (.int .i64 x.pg) := (Addr.cell0 h).trans rfl
theorem AcBlk.keepG {G : Nat → Prop} {w w' : World} {q : Nat} {x : Ac} {b s : Sl} (h : AcBlk w q x b s) (hk : KeptG G w w') (hg : G q) : AcBlk w' q x b s := (hk q hg).trans h
theorem store_acNew (x : Ac) (b q : Sl) (w : World) : (Instr.storeAt 48 (.pointer (some ⟨w.heap.size, 0, none⟩)) (.agg (x.cells b q))).run Tryz.prog (w.alloc (.cells #[.int .i64 0, .int .i64 0, .slice none 0 0, .int .i64 0, .slice none 0 0] 48)) = .ok () (w.alloc (.cells (x.cells b q) 48)) :=
  run_storeAt_new w 48 #[.int .i64 0, .int .i64 0, .slice none 0 0, .int .i64 0, .slice none 0 0] (x.cells b q) (by kernel_rfl) rfl (by simp [Ac.cells, Sl.val, Value.oneCell'])
theorem load_ao (b o : Nat) (t : Ao) (w : World) (h : AoAt w b o t) : (Instr.loadAt 48 (.pointer (some ⟨b, o, none⟩))).run Tryz.prog w = .ok (.agg (t.x.cells t.b t.q)) w := by
  obtain ⟨c0, c1, c2, c3, c4, _⟩ := h
  unfold Ac.cells Sl.val
  simp [go_sem, c0, c1, c2, c3, c4]

end Go.Proofs.YtcaaiihjolnkgaaGreat
