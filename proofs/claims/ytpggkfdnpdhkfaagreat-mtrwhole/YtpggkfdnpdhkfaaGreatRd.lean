/-
  Layer 6: what the document's First tells.
  Layer 6: the law's small call that shows that a group is read back.
  Layer 6: all groups of a row, by the program and by the document.
  Layer 6: how the pages and the rows of bytes that come in to a law are told; the law's images.
-/
import Derived.Test.YtpggkfdnpdhkfaaGreatRc
import Derived.Lib.SmallJoins
import Derived.Laws.Cover2
import Derived.Deep.Slices
namespace Go.Proofs.YtpggkfdnpdhkfaaGreat
open Go.RowKit
set_option maxRecDepth 100000

/-- What the document's First leaves: images whose bytes are the bytes handed in. -/
def FirstPostR (w : World) (bk : Nat → Prop) (b : List Nat) (e : Ending) (w' : World) : Prop := ∃ (v : Sl) (l : List Ix), e = .returned (.tuple #[v.val, .int .i64 ((dec b).n : Nat), .int .i64 ((dec b).e : Nat)]) ∧ Gr (fun k => bk k ∨ w.heap.size ≤ k) w' v l ∧ ims l = (dec b).g ∧ Below w.heap.size w w'
theorem FirstPostR.no {w w' : World} {bk : Nat → Prop} {b : List Nat} {q : Nat} (h : dec b = Told.no q) (hb : Below w.heap.size w w') : FirstPostR w bk b (.returned (.tuple #[.slice none 0 0, .int .i64 0, .int .i64 ((q : Nat) : Int)])) w' := by
  refine ⟨Sl.nil, [], ?_, Gr.none, ?_, hb⟩
  · rw [h]; rfl
  · rw [h]; rfl

end Go.Proofs.YtpggkfdnpdhkfaaGreat

namespace Go.Proofs.YtpggkfdnpdhkfaaGreat
open Go.RowKit
set_option maxRecDepth 100000

/-- One image, laid as a row. -/
theorem gr_one {D : Nat → Prop} (w : World) (x : Ix) (hx : Cm D w x.s x.bs) : Gr (fun k => D k ∨ k = w.heap.size) (w.alloc (.cells #[.int .i64 x.page, x.s.val] 76)) ⟨some ⟨w.heap.size, 0, none⟩, 1, 1⟩ [x] := by
  have hb := imBlk_new w x.page x.s.val
  refine ⟨rfl, fun e => (by cases e), Nat.le_refl _, by show 1 ≤ 1000000; decide, fun ad ha _ => ?_, fun i hi => ?_, fun y hy => ?_⟩
  · cases ha
    exact .inr rfl
  · obtain rfl : i = 0 := by have : i < 1 := hi; omega
    exact ⟨w.heap.size, 0, rfl, hb.c0, hb.c1⟩
  · rw [List.mem_singleton.1 hy]
    exact (hx.below (below_alloc w _) (Nat.le_refl _)).mono (fun k hk _ => .inl hk)

theorem may_one {p : Int} {b : List Nat} (h0 : 0 ≤ p) (h1 : p ≤ 63) (hb : b.length = 512) : May [⟨p, b⟩] := by
  refine ⟨by show 1 ≤ 1; decide, by show 1 ≤ 6; decide, fun i hi => ?_⟩
  obtain rfl : i = 0 := by have : i < 1 := hi; omega
  exact ⟨h0, by show (-1 : Int) < p; omega, h1, hb⟩

end Go.Proofs.YtpggkfdnpdhkfaaGreat

namespace Go.Proofs.YtpggkfdnpdhkfaaGreat
open Go.RowKit
set_option maxRecDepth 100000

/-- Rows of groups that are being built. -/
structure GS (H : Nat → Prop) (base : Nat) (w : World) (v : Sl) (L : List Gp) : Prop where
  own : OwnG w v L
  blk : ∀ k, v.blk = some k → base ≤ k
  gr : ∀ x ∈ L, Gr (fun k => H k ∧ v.blk ≠ some k) w x.v x.l
theorem GS.none (H : Nat → Prop) (base : Nat) (w : World) : GS H base w Sl.nil [] := ⟨Own.nil _ _ _, fun k hk => (by cases hk), fun _ h => (by cases h)⟩
theorem GS.new (H : Nat → Prop) (base : Nat) (w : World) (hb : base ≤ w.heap.size) : GS H base (w.alloc (.cells #[] 52)) ⟨some ⟨w.heap.size, 0, Option.none⟩, 0, 0⟩ [] := ⟨OwnG.new w, fun k hk => (by cases hk; exact hb), fun _ h => (by cases h)⟩
theorem GS.keep {H : Nat → Prop} {base : Nat} {w w' : World} {v : Sl} {L : List Gp} (h : GS H base w v L) (hb : Below w.heap.size w w') : GS H base w' v L :=
  ⟨h.own.frame (fun k hk => hb.block k (h.own.lt hk)), h.blk, fun x hx => (h.gr x hx).below hb (Nat.le_refl _)⟩
theorem GS.add {H : Nat → Prop} {base : Nat} {w w' : World} {v v' : Sl} {L : List Gp} {x : Gp} (h : GS H base w v L) (hx : Gr (fun k => H k ∧ v.blk ≠ some k) w x.v x.l) (ho : OwnG w' v' (L ++ [x])) (hf : Frm (fun k => v.blk = some k) w w') (hb : v'.blk = v.blk ∨ ∃ k, v'.blk = some k ∧ w.heap.size ≤ k) (hbase : base ≤ w.heap.size) : GS H base w' v' (L ++ [x]) ∧ Below base w w' := by
  refine ⟨⟨ho, fun k hk => ?_, fun y hy => ?_⟩, hf.below hbase h.blk⟩
  · rcases hb with e | ⟨j, e, hj⟩
    · exact h.blk k (by rw [← e]; exact hk)
    · rw [e] at hk
      cases hk
      omega
  · have hy' : Gr (fun k => H k ∧ v.blk ≠ some k) w y.v y.l := by
      rcases List.mem_append.1 hy with hy | hy
      · exact h.gr y hy
      · rw [List.mem_singleton.1 hy]
        exact hx
    have h2 : Gr (fun k => (H k ∧ v.blk ≠ some k) ∧ v'.blk ≠ some k) w y.v y.l := hy'.mono (fun k hk hl => ⟨hk, fun e => by
      rcases hb with e' | ⟨j, e', hj⟩
      · exact hk.2 (by rw [← e']; exact e)
      · rw [e'] at e
        cases e
        omega⟩)
    exact (h2.keep (Kept6.frm hf (fun k hk => hk.1.2))).mono (fun k hk _ => ⟨hk.1.1, hk.2⟩)
theorem GS.at {H : Nat → Prop} {base : Nat} {w : World} {v : Sl} {L : List Gp} (h : GS H base w v L) {i : Nat} (hi : i < v.len) : Gr (fun k => H k ∧ v.blk ≠ some k) w (L.getD i Gp.zero).v (L.getD i Gp.zero).l := h.gr _ (getD_mem _ (by rw [h.own.len]; exact hi))

theorem Came.from_ {w : World} {a : Option Addr} {len cap : Nat} {xs : List Nat} (h : Came w a len cap xs) (k : Nat) (hk : k ≤ len) : Came w (fromA a cap k) (len - k) (cap - k) (xs.drop k) := by
  have := Came.mid6 (s := ⟨a, len, cap⟩) h k len hk (Nat.le_refl _)
  rw [List.take_of_length_le (by rw [List.length_drop, h.bs.1]; exact Nat.le_refl _)] at this
  exact this
theorem fromA_block {a : Option Addr} {cap k : Nat} {ad : Addr} (h : fromA a cap k = some ad) : ∃ ad', a = some ad' ∧ ad'.block = ad.block := by
  unfold fromA at h
  split at h
  · exact ⟨ad, h, rfl⟩
  · cases ha : a with
    | none => rw [ha] at h; cases h
    | some x =>
      rw [ha] at h
      refine ⟨x, rfl, ?_⟩
      simp only [Option.map_some, Option.some.injEq] at h
      rw [← h]
      obtain ⟨b, o, sp⟩ := x
      simp only [Addr.add]
      split <;> rfl

end Go.Proofs.YtpggkfdnpdhkfaaGreat

namespace Go.Proofs.YtpggkfdnpdhkfaaGreat
open Go.ChangeShapes Go.WideShapes Go.ChangeAt Go.RowKit

/-- Numbers that came in. -/
structure InsI (w : World) (a : Option Addr) (len cap : Nat) (l : List Int) : Prop where
  len_ : l.length = len
  big : len ≤ 9223372036854775807
  at_ : ∀ i, i < len → ∃ b off, a = some ⟨b, off, none⟩ ∧ w.cell? ⟨b, off + i, none⟩ = some (.int .i64 (l.getD i 0))
theorem InsI.below {w w' : World} {B : Nat} {a : Option Addr} {len cap : Nat} {l : List Int} (h : InsI w a len cap l) (hb : Below B w w') (hB : w.heap.size ≤ B) : InsI w' a len cap l := by
  refine ⟨h.len_, h.big, fun i hi => ?_⟩
  obtain ⟨b, off, ha, hc⟩ := h.at_ i hi
  exact ⟨b, off, ha, (hb.cell (Nat.lt_of_lt_of_le (World.block_lt_of_cell? w _ hc) hB)).trans hc⟩
/-- Bytes behind a slice of slices. -/
structure Bt where
  s : Sl
  bs : List Nat
def Bt.zero : Bt := ⟨Sl.nil, []⟩
structure InsB (w : World) (a : Option Addr) (len cap : Nat) (l : List Bt) : Prop where
  len_ : l.length = len
  big : len ≤ 9223372036854775807
  at_ : ∀ i, i < len → ∃ b off, a = some ⟨b, off, none⟩ ∧ w.cell? ⟨b, off + i, none⟩ = some (l.getD i Bt.zero).s.val ∧ Came w (l.getD i Bt.zero).s.a (l.getD i Bt.zero).s.len (l.getD i Bt.zero).s.cap (l.getD i Bt.zero).bs
theorem Came.below {w w' : World} {B : Nat} {a : Option Addr} {len cap : Nat} {xs : List Nat} (h : Came w a len cap xs) (hb : Below B w w') (hB : w.heap.size ≤ B) : Came w' a len cap xs := ⟨h.bs.keep hb hB, h.nil, h.le, h.big⟩
theorem InsB.below {w w' : World} {B : Nat} {a : Option Addr} {len cap : Nat} {l : List Bt} (h : InsB w a len cap l) (hb : Below B w w') (hB : w.heap.size ≤ B) : InsB w' a len cap l := by
  refine ⟨h.len_, h.big, fun i hi => ?_⟩
  obtain ⟨b, off, ha, hc, hm⟩ := h.at_ i hi
  exact ⟨b, off, ha, (hb.cell (Nat.lt_of_lt_of_le (World.block_lt_of_cell? w _ hc) hB)).trans hc, hm.below hb hB⟩
/-- Numbers behind a slice of slices. -/
structure Nt where
  s : Sl
  is : List Int
def Nt.zero : Nt := ⟨Sl.nil, []⟩
structure InsII (w : World) (a : Option Addr) (len cap : Nat) (l : List Nt) : Prop where
  len_ : l.length = len
  big : len ≤ 9223372036854775807
  at_ : ∀ i, i < len → ∃ b off, a = some ⟨b, off, none⟩ ∧ w.cell? ⟨b, off + i, none⟩ = some (l.getD i Nt.zero).s.val ∧ InsI w (l.getD i Nt.zero).s.a (l.getD i Nt.zero).s.len (l.getD i Nt.zero).s.cap (l.getD i Nt.zero).is
theorem InsII.below {w w' : World} {B : Nat} {a : Option Addr} {len cap : Nat} {l : List Nt} (h : InsII w a len cap l) (hb : Below B w w') (hB : w.heap.size ≤ B) : InsII w' a len cap l := by
  refine ⟨h.len_, h.big, fun i hi => ?_⟩
  obtain ⟨b, off, ha, hc, hm⟩ := h.at_ i hi
  exact ⟨b, off, ha, (hb.cell (Nat.lt_of_lt_of_le (World.block_lt_of_cell? w _ hc) hB)).trans hc, hm.below hb hB⟩

section
variable {H : Type} {enc : TypeId × Value → H} {w : World} {base : Nat} {spare : Nat → Bool} {held : Bool}

theorem open_nums {n : Nat} {a : Option Addr} {len cap : Nat} {y : DataW H × List MemPlace} (h : DataW.trod enc Tryz.prog w base spare held n 46 [.slice a len cap] = some y) : ∃ l, InsI w a len cap l := by
  have hC : Tryz.prog.cellsOf 3 = 1 := by kernel_rfl
  rcases Go.Deep.open_slice1 Tryz.underlying46 hC h with ⟨hcs, _⟩ | ⟨x, l, c, m, k, V, D, Pl, hcs, hb, hl, hm, hmm, _, hx⟩
  · simp only [List.cons.injEq, Value.slice.injEq, and_true] at hcs
    obtain ⟨rfl, rfl, rfl⟩ := hcs
    exact ⟨[], ⟨rfl, by omega, fun j hj => by omega⟩⟩
  · simp only [List.cons.injEq, Value.slice.injEq, and_true] at hcs
    obtain ⟨rfl, rfl, rfl⟩ := hcs
    have hle : len ≤ m := by rw [hmm]; split <;> omega
    have hsp : 0 < len → x.spot = none := by
      intro h0
      have := World.cell?_spot (hx 0 (by omega)).1
      simpa [Addr.add] using this
    have each : ∀ i, i < len → ∃ b : Int, V i = .int .i64 b := by
      intro i hi
      obtain ⟨k3, e3, _, w3⟩ := DataW.trod_int Tryz.underlying3 (hx i (by omega)).2
      exact ⟨k3, by simpa using e3⟩
    obtain ⟨f, hf⟩ := @Go.Deep.choose_lt Int ⟨0⟩ len _ each
    refine ⟨(List.range len).map f, ⟨by simp, by unfold maxLen at hm; omega, ?_⟩⟩
    intro j hj
    have hc := (hx j (by omega)).1
    obtain ⟨b, off, spot⟩ := x
    have hspot : spot = none := hsp (by omega)
    subst hspot
    refine ⟨b, off, rfl, ?_⟩
    rw [Addr.add_lit] at hc
    rw [hc, hf j hj]
    simp [List.getD, hj]

theorem open_bts6 {n : Nat} {a : Option Addr} {len cap : Nat} {y : DataW H × List MemPlace} (h : DataW.trod enc Tryz.prog w base spare held n 32 [.slice a len cap] = some y) :
    ∃ xs, Came w a len cap xs := by
  have hC : Tryz.prog.cellsOf 5 = 1 := by kernel_rfl
  rcases Go.Deep.open_slice1 Tryz.underlying32 hC h with ⟨hcs, _⟩ | ⟨x, l, c, m, k, V, D, Pl, hcs, hb, hl, hm, hmm, _, hx⟩
  · simp only [List.cons.injEq, Value.slice.injEq, and_true] at hcs
    obtain ⟨rfl, rfl, rfl⟩ := hcs
    exact ⟨[], ⟨⟨rfl, (fun u hu => by cases hu), fun j hj => by omega⟩, fun _ => rfl, Nat.le_refl _, by omega⟩⟩
  · simp only [List.cons.injEq, Value.slice.injEq, and_true] at hcs
    obtain ⟨rfl, rfl, rfl⟩ := hcs
    have hle : len ≤ m := by rw [hmm]; split <;> omega
    have hsp : 0 < len → x.spot = none := by
      intro h0
      have := World.cell?_spot (hx 0 (by omega)).1
      simpa [Addr.add] using this
    have each : ∀ i, i < len → ∃ b : Nat, V i = .int .u8 ((b : Nat) : Int) ∧ b < 256 := by
      intro i hi
      obtain ⟨k3, e3, _, w3⟩ := DataW.trod_int Tryz.underlying5 (hx i (by omega)).2
      have hb := bounds_u8 w3
      refine ⟨k3.toNat, ?_, by omega⟩
      rw [Int.toNat_of_nonneg hb.1]
      simpa using e3
    obtain ⟨f, hf⟩ := @Go.Deep.choose_lt Nat ⟨0⟩ len _ each
    refine ⟨(List.range len).map f, ⟨⟨by simp, ?_, ?_⟩, (fun e => by cases e), hl, by unfold maxLen at hm; omega⟩⟩
    · intro z hz
      obtain ⟨j, hj, rfl⟩ := List.mem_map.1 hz
      exact (hf j (by simpa using hj)).2
    · intro j hj
      have hc := (hx j (by omega)).1
      obtain ⟨b, off, spot⟩ := x
      have hspot : spot = none := hsp (by omega)
      subst hspot
      refine ⟨b, off, rfl, ?_⟩
      rw [Addr.add_lit] at hc
      rw [hc, (hf j hj).1]
      simp [List.getD, hj]

theorem open_bss {n : Nat} {a : Option Addr} {len cap : Nat} {y : DataW H × List MemPlace} (h : DataW.trod enc Tryz.prog w base spare held n 47 [.slice a len cap] = some y) : ∃ l, InsB w a len cap l := by
  have hC : Tryz.prog.cellsOf 32 = 1 := by kernel_rfl
  rcases Go.Deep.open_slice1 Tryz.underlying47 hC h with ⟨hcs, _⟩ | ⟨x, l, c, m, k, V, D, Pl, hcs, hb, hl, hm, hmm, _, hx⟩
  · simp only [List.cons.injEq, Value.slice.injEq, and_true] at hcs
    obtain ⟨rfl, rfl, rfl⟩ := hcs
    exact ⟨[], ⟨rfl, by omega, fun j hj => by omega⟩⟩
  · simp only [List.cons.injEq, Value.slice.injEq, and_true] at hcs
    obtain ⟨rfl, rfl, rfl⟩ := hcs
    have hle : len ≤ m := by rw [hmm]; split <;> omega
    have hsp : 0 < len → x.spot = none := by
      intro h0
      have := World.cell?_spot (hx 0 (by omega)).1
      simpa [Addr.add] using this
    have each : ∀ i, i < len → ∃ t : Bt, V i = t.s.val ∧ Came w t.s.a t.s.len t.s.cap t.bs := by
      intro i hi
      have t2 := (hx i (by omega)).2
      obtain ⟨a', len', cap', e4⟩ := Go.Joins.slice_form Tryz.underlying32 t2
      simp only [List.cons.injEq, and_true] at e4
      rw [e4] at t2
      obtain ⟨bs, hbs⟩ := open_bts6 t2
      exact ⟨⟨⟨a', len', cap'⟩, bs⟩, e4, hbs⟩
    obtain ⟨f, hf⟩ := @Go.Deep.choose_lt Bt ⟨Bt.zero⟩ len _ each
    refine ⟨(List.range len).map f, ⟨by simp, by unfold maxLen at hm; omega, ?_⟩⟩
    intro j hj
    have hc := (hx j (by omega)).1
    obtain ⟨b, off, spot⟩ := x
    have hspot : spot = none := hsp (by omega)
    subst hspot
    refine ⟨b, off, rfl, ?_⟩
    rw [Addr.add_lit] at hc
    have e : ((List.range len).map f).getD j Bt.zero = f j := by simp [List.getD, hj]
    rw [hc, e]
    exact ⟨by rw [(hf j hj).1], (hf j hj).2⟩

end


theorem page_cm (w : World) (s : Sl) (xs : List Nat) (h : Came w s.a s.len s.cap xs) : Calls Tryz.prog 40 #[s.val] w fun e w' => ∃ sp : Sl, e = .returned sp.val ∧ Below w.heap.size w w' ∧ Cm (fun k => w.heap.size ≤ k) w' sp (pageOf6 xs) := by
  refine (page_any6 w s.a s.len s.cap xs h).mono ?_
  rintro e w' ⟨hb, rfl, hc⟩
  refine ⟨⟨some ⟨w.heap.size, 0, none⟩, 512, 512⟩, rfl, hb, hc, fun ad ha _ => ?_⟩
  cases ha
  exact Nat.le_refl _
theorem entPage : ∀ args w, (callFunc 40 args).run Tryz.prog w = .ok (.enter 40 args) w := Pl.enters Tryz.func40 (by kernel_rfl) (by kernel_rfl)
/-- A page's number and a row of bytes. -/
def PairS (b o c z k : Nat) (q : Int) (s : Sl) (w : World) : Prop := w.cell? ⟨b, o + k, none⟩ = some (.int .i64 q) ∧ w.cell? ⟨c, z + k, none⟩ = some s.val
theorem PairS.low {w w' : World} {B b o c z k : Nat} {q : Int} {s : Sl} (h : PairS b o c z k q s w) (h1 : b < B) (h2 : c < B) (hb : Below B w w') : PairS b o c z k q s w' :=
  ⟨(hb.cell (p := ⟨b, o + k, none⟩) h1).trans h.1, (hb.cell (p := ⟨c, z + k, none⟩) h2).trans h.2⟩

set_option maxHeartbeats 2000000 in
set_option maxRecDepth 100000 in
theorem images5 (w : World) (base b o c z len cap len2 cap2 k : Nat) (q : Int) (s : Sl) (ys : List Nat) (v : Sl) (l : List Ix) (hg : GI (fun k => base ≤ k) base w.drew v l) (hbase : base ≤ w.drew.heap.size) (hS0 : PairS b o c z k q s w.drew) (hbl : b < base) (hcl : c < base) (hk : k < len) (hk2 : k < len2) (hvl : v.len ≤ 100000) (hpg : Calls Tryz.prog 40 #[s.val] w.drew fun e w' => ∃ sp : Sl, e = .returned sp.val ∧ Below w.drew.heap.size w.drew w' ∧ Cm (fun k => w.drew.heap.size ≤ k) w' sp ys)
    {Q : Exit → Act → World → Prop} {A : Act} (hsz : A.tmps.size = 38) (hdf : A.defers = []) (s0 : A.tmps.getD 0 undef = .slice (some ⟨b, o, none⟩) len cap) (s1 : A.tmps.getD 1 undef = .slice (some ⟨c, z, none⟩) len2 cap2) (s5 : A.tmps.getD 5 undef = Sl.val v) (s6 : A.tmps.getD 6 undef = .int .i64 ((k : Nat) : Int))
    (hend : ∀ (u : Nat → Value) w' v3 s3, GI (fun k => base ≤ k) base w' v3 (l ++ [(⟨q, s3, ys⟩ : Ix)]) → v3.len = v.len + 1 → Below base w.drew w' → Q .normal (((((((((((((((A).put (some 24) (u 24)).put (some 25) (u 25)).put (some 26) (u 26)).put (some 27) (u 27)).put (some 28) (u 28)).put (some 29) (u 29)).put (some 30) (u 30)).put (some 31) (u 31)).put (some 32) (u 32)).put (some 33) (u 33)).put (some 34) (u 34)).put (some 35) (u 35)).put (some 36) (u 36)).put (some 5) (Sl.val v3)) w') :
    (Code.region 5 (Pl.find 5 ((Tryz.f50.body).getD .skip)) true).wp Tryz.prog Q A w := by
  have hA := Pl.At.same (v := .int .i64 ((k : Nat) : Int)) (d := 6) (Pl.At.same (v := Sl.val v) (d := 5) (Pl.At.same (v := .slice (some ⟨c, z, none⟩) len2 cap2) (d := 1) (Pl.At.same (v := .slice (some ⟨b, o, none⟩) len cap) (d := 0) (Pl.At.here hsz hdf) s0) s1) s5) s6
  refine Pl.H.start (S := PairS b o c z k q s) (by kernel_rfl) hA hS0 ?_
  rw [show (Pl.find 5 ((Tryz.f50.body).getD .skip)).size = 14 by kernel_rfl]
  refine Pl.H.take 0 24 (Sl.val v) (by kernel_rfl) (by kernel_rfl) (by kernel_rfl) (Pl.free 0 (by kernel_rfl)) (Pl.move 0 (.tmp 5) (by kernel_rfl) (by decide)) hS0 ?_
  refine Pl.H.take 1 25 (.slice (some ⟨b, o, none⟩) len cap) (by kernel_rfl) (by kernel_rfl) (by kernel_rfl) (Pl.free 1 (by kernel_rfl)) (Pl.move 1 (.tmp 0) (by kernel_rfl) (by decide)) hS0 ?_
  refine Pl.H.take 2 26 (.int .i64 ((k : Nat) : Int)) (by kernel_rfl) (by kernel_rfl) (by kernel_rfl) (Pl.free 2 (by kernel_rfl)) (Pl.move 2 (.tmp 6) (by kernel_rfl) (by decide)) hS0 ?_
  refine Pl.H.take 3 27 (.pointer (some ⟨b, o + k, none⟩)) (by kernel_rfl) (by kernel_rfl) (by kernel_rfl) (Pl.free 3 (by kernel_rfl)) (Pl.index 3 46 (.tmp 25) (.tmp 26) _ (by kernel_rfl) (by decide) (by decide) (ixInt b o len cap k hk)) hS0 ?_
  refine Pl.H.take 4 28 (.int .i64 q) (by kernel_rfl) (by kernel_rfl) (by kernel_rfl) (Pl.free 4 (by kernel_rfl)) (Pl.load 4 3 (.tmp 27) _ (by kernel_rfl) (by decide) (fun w' hS => ldInt6 _ _ _ w' (hS.1))) hS0 ?_
  refine Pl.H.take 5 29 (.slice (some ⟨c, z, none⟩) len2 cap2) (by kernel_rfl) (by kernel_rfl) (by kernel_rfl) (Pl.free 5 (by kernel_rfl)) (Pl.move 5 (.tmp 1) (by kernel_rfl) (by decide)) hS0 ?_
  refine Pl.H.take 6 30 (.int .i64 ((k : Nat) : Int)) (by kernel_rfl) (by kernel_rfl) (by kernel_rfl) (Pl.free 6 (by kernel_rfl)) (Pl.move 6 (.tmp 6) (by kernel_rfl) (by decide)) hS0 ?_
  refine Pl.H.take 7 31 (.pointer (some ⟨c, z + k, none⟩)) (by kernel_rfl) (by kernel_rfl) (by kernel_rfl) (Pl.free 7 (by kernel_rfl)) (Pl.index 7 47 (.tmp 29) (.tmp 30) _ (by kernel_rfl) (by decide) (by decide) (ixBs c z len2 cap2 k hk2)) hS0 ?_
  refine Pl.H.take 8 32 (Sl.val s) (by kernel_rfl) (by kernel_rfl) (by kernel_rfl) (Pl.free 8 (by kernel_rfl)) (Pl.load 8 32 (.tmp 31) _ (by kernel_rfl) (by decide) (fun w' hS => ldBs6 _ _ _ w' (hS.2))) hS0 ?_
  refine Pl.H.call 9 33 40 [(.tmp 32)] #[32] (by kernel_rfl) (by kernel_rfl) (by kernel_rfl) (Pl.free 9 (by kernel_rfl)) (by kernel_rfl) (by decide) entPage (Calls.mono (hpg) ?_)
  rintro e w2 ⟨sp, rfl, hb2, hc2⟩
  have hbb2 := hb2.mono hbase
  refine ⟨Sl.val sp, rfl, (hS0.low hbl hcl hbb2), ?_⟩
  refine Pl.H.take 10 34 (Ix.val (⟨q, sp, ys⟩ : Ix)) (by kernel_rfl) (by kernel_rfl) (by kernel_rfl) (Pl.free 10 (by kernel_rfl)) (Pl.bldI 10 (.tmp 28) (.tmp 33) (⟨q, sp, ys⟩ : Ix) (by kernel_rfl) (by decide) (by decide) (fun w => run_bldI (⟨q, sp, ys⟩ : Ix) w)) (hS0.low hbl hcl hbb2) ?_
  refine Pl.H.make 11 35 (.slice (some ⟨w2.heap.size, 0, none⟩) 1 1) (w2.alloc (.cells #[.int .i64 (⟨q, sp, ys⟩ : Ix).page, (⟨q, sp, ys⟩ : Ix).s.val] 76)) (by kernel_rfl) (by kernel_rfl) (by kernel_rfl) (Pl.free 11 (by kernel_rfl)) (Pl.one 11 52 (.tmp 34) _ _ (by kernel_rfl) (by decide) (build_im (⟨q, sp, ys⟩ : Ix) w2)) (hS0.low hbl hcl (hbb2.alloc (Nat.le_trans hbase hb2.size) _)) ?_
  have hg2 := hg.keep hb2
  obtain ⟨v3, w3, hrun3, ho3, hl3, hf3, hb3⟩ := own_im w2 v l hg2.own (⟨q, sp, ys⟩ : Ix) (by omega) 52
  have hx2 : Cm (fun k => base ≤ k ∧ v.blk ≠ some k) w2 sp ys := hc2.mono (fun k hk _ => ⟨Nat.le_trans hbase hk, fun e => by have := hg.own.lt e; omega⟩)
  obtain ⟨hg3, hbb3⟩ := hg2.add (x := (⟨q, sp, ys⟩ : Ix)) hx2 ho3 hf3 hb3 (Nat.le_trans hbase hb2.size)
  have hbw := hbb2.trans hbb3
  refine Pl.H.make 12 36 (Sl.val v3) w3 (by kernel_rfl) (by kernel_rfl) (by kernel_rfl) (Pl.free 12 (by kernel_rfl)) (Pl.appT 12 52 52 (.tmp 24) (.tmp 35) _ _ (by kernel_rfl) (by kernel_rfl) (by decide) (by decide) hrun3) (hS0.low hbl hcl hbw) ?_
  refine Pl.H.take 13 5 (Sl.val v3) (by kernel_rfl) (by kernel_rfl) (by kernel_rfl) (Pl.free 13 (by kernel_rfl)) (Pl.assign 13 (.tmp 36) (by kernel_rfl) (by decide)) (hS0.low hbl hcl hbw) ?_
  refine Pl.H.done (by kernel_rfl) (fun A' hA' => ?_)
  rw [Pl.At.ext hA' ((((((((((((((hA.put 24 _).put 25 _).put 26 _).put 27 _).put 28 _).put 29 _).put 30 _).put 31 _).put 32 _).put 33 _).put 34 _).put 35 _).put 36 _).put 5 _)]
  exact hend (fun d => if d = 24 then Sl.val v else if d = 25 then .slice (some ⟨b, o, none⟩) len cap else if d = 26 then .int .i64 ((k : Nat) : Int) else if d = 27 then .pointer (some ⟨b, o + k, none⟩) else if d = 28 then .int .i64 q else if d = 29 then .slice (some ⟨c, z, none⟩) len2 cap2 else if d = 30 then .int .i64 ((k : Nat) : Int) else if d = 31 then .pointer (some ⟨c, z + k, none⟩) else if d = 32 then Sl.val s else if d = 33 then Sl.val sp else if d = 34 then Ix.val (⟨q, sp, ys⟩ : Ix) else if d = 35 then .slice (some ⟨w2.heap.size, 0, none⟩) 1 1 else if d = 36 then Sl.val v3 else undef) _ v3 _ hg3 hl3 hbw

/-- The law's images. -/
def imgsOf (ps : List Int) (bb : List (List Nat)) (k : Nat) : List Im := (List.range k).map fun i => ⟨ps.getD i 0, pageOf6 (bb.getD i [])⟩
theorem imgsOf_succ (ps : List Int) (bb : List (List Nat)) (k : Nat) : imgsOf ps bb (k + 1) = imgsOf ps bb k ++ [⟨ps.getD k 0, pageOf6 (bb.getD k [])⟩] := by simp [imgsOf, List.range_succ]
theorem imgsOf_length (ps : List Int) (bb : List (List Nat)) (k : Nat) : (imgsOf ps bb k).length = k := by simp [imgsOf]
def bts (l : List Bt) : List (List Nat) := l.map Bt.bs
theorem bts_getD (l : List Bt) (i : Nat) : (bts l).getD i [] = (l.getD i Bt.zero).bs := by
  unfold bts
  simp only [List.getD, List.getElem?_map]
  cases l[i]? <;> rfl
/-- How many images there are. -/
def cnt (n m : Nat) : Nat := min (min n m) 9

/-- What Images leaves. -/
def ImgPost (w : World) (g : List Im) (e : Ending) (w' : World) : Prop := ∃ (v : Sl) (l : List Ix), e = .returned v.val ∧ GI (fun k => w.heap.size ≤ k) w.heap.size w' v l ∧ ims l = g ∧ Below w.heap.size w w'

set_option maxHeartbeats 8000000 in
set_option maxRecDepth 100000 in
theorem images_any (w : World) (pa : Option Addr) (pl pc : Nat) (ps : List Int) (hp : InsI w pa pl pc ps) (ba : Option Addr) (bl bc : Nat) (bb : List Bt) (hb : InsB w ba bl bc bb) :
    Calls Tryz.prog 50 #[.slice pa pl pc, .slice ba bl bc] w fun e w' => ImgPost w (imgsOf ps (bts bb) (cnt pl bl)) e w' := by
  have HP := hide hp
  have HBB := hide hb
  have hpb := hp.big
  have hbb := hb.big
  have HG0 := hide (GI.new (fun k => w.heap.size ≤ k) w.heap.size w (Nat.le_refl _))
  have HR := hide (below_alloc w (.cells #[] 76))
  obtain ⟨n, hn⟩ : ∃ n, n = cnt pl bl := ⟨_, rfl⟩
  rw [← hn]
  have HN := hide hn
  have hn9 : n ≤ 9 := by rw [hn]; exact Nat.min_le_right _ _
  clear hp hb hn
  go_enter Tryz.func50, Tryz.ntmps50
  go_wp2_with fail
  go_loopw [5, 6] (fun gv iv wr => ∃ (k : Nat) (v : Sl) (l : List Ix), k ≤ n ∧ iv = .int .i64 (k : Nat) ∧ gv = v.val ∧ Hid (v.len = k) ∧ Hid (GI (fun k => w.heap.size ≤ k) w.heap.size wr v l) ∧ Hid (ims l = imgsOf ps (bts bb) k) ∧ Hid (Below w.heap.size w wr)) (fun _ iv _ => 20 - (intOf iv).toNat)
  case atStart => exact ⟨0, ⟨some ⟨w.heap.size, 0, none⟩, 0, 0⟩, [], by omega, rfl, rfl, hide rfl, HG0, hide rfl, HR⟩
  case round =>
    obtain ⟨k, v, l, hk, rfl, rfl, hvl, hg, hi, hW⟩ := hrel
    have hcnt := HN.out
    unfold cnt at hcnt
    rcases Nat.lt_or_ge k n with hlt | hge
    · have k1 : k < pl := by omega
      have k2 : k < bl := by omega
      have i1 : ((k : Nat) : Int) < ((pl : Nat) : Int) := by omega
      have i2 : ((k : Nat) : Int) < ((bl : Nat) : Int) := by omega
      have i3 : ((k : Nat) : Int) < 9 := by omega
      obtain ⟨b, o, ha, c0⟩ := HP.out.at_ k k1
      obtain ⟨c, z, ha2, d0, hcm⟩ := HBB.out.at_ k k2
      subst ha
      subst ha2
      have hlt1 := World.block_lt_of_cell? w _ c0
      have hlt2 := World.block_lt_of_cell? w _ d0
      have hd := below_drew6 wr
      have hwd := rBelow hW.out hd
      have hS : PairS b o c z k (ps.getD k 0) (bb.getD k Bt.zero).s wr.drew := PairS.low (w := w) ⟨c0, d0⟩ hlt1 hlt2 hwd
      have hgd := hg.out.keep hd
      have HRG := hide (fun Q A => @images5 wr w.heap.size b o c z pl pc bl bc k _ _ _ v l hgd (Nat.le_trans hW.out.size hd.size) hS hlt1 hlt2 k1 k2 (by have := hvl.out; omega) (page_cm wr.drew _ _ (hcm.below hwd (Nat.le_refl _))) Q A)
      have HNX : Hid (∀ s : Sl, ims (l ++ [(⟨ps.getD k 0, s, pageOf6 (bb.getD k Bt.zero).bs⟩ : Ix)]) = imgsOf ps (bts bb) (k + 1)) := by
        intro s
        rw [ims_append, hi.out, imgsOf_succ, bts_getD]
        rfl
      clear c0 d0 hcm hlt1 hlt2 hd hwd hS hgd hcnt
      go_wp2_with fail
      refine Pl.region_is (ops := Pl.find 5 ((Tryz.f50.body).getD .skip)) (by kernel_rfl) ?_
      refine HRG.out _ _ (by rfl) rfl (by rfl) (by rfl) (by rfl) (by rfl) ?_
      intro uu w9 v9 s9 hg9 hl9 hb9
      have HG9 := hide hg9
      have HB9 := hide ((rBelow hW.out (below_drew6 wr)).trans hb9)
      have HL9 : Hid (v9.len = k + 1) := by show _ = _; rw [hl9, hvl.out]
      have HN9 := hide (HNX.out s9)
      simp only [Act.put, List.setIfInBounds_toArray, List.set_cons_zero, List.set_cons_succ]
      clear HRG HNX hg9 hb9 hl9
      go_wp2_with fail
      go_roundw
      case rel => exact ⟨k + 1, v9, _, by omega, by go_num, rfl, HL9, HG9, HN9, HB9⟩
      case measure => simp only [intOf]; omega
    · have hkn : k = n := by omega
      have HEND : Hid (ims l = imgsOf ps (bts bb) n) := by rw [← hkn]; exact hi.out
      obtain ⟨va, vl, vc⟩ := v
      unfold Sl.val
      simp only
      clear hkn
      by_cases j1 : k < pl
      · have i1 : ((k : Nat) : Int) < ((pl : Nat) : Int) := by omega
        by_cases j2 : k < bl
        · have i2 : ((k : Nat) : Int) < ((bl : Nat) : Int) := by omega
          have i3 : ¬ ((k : Nat) : Int) < 9 := by omega
          clear hcnt
          go_wp2_with fail
          go_ret
          exact ⟨⟨va, vl, vc⟩, l, rfl, hg.out, HEND.out, hW.out⟩
        · have i2 : ¬ ((k : Nat) : Int) < ((bl : Nat) : Int) := by omega
          clear hcnt
          go_wp2_with fail
          go_ret
          exact ⟨⟨va, vl, vc⟩, l, rfl, hg.out, HEND.out, hW.out⟩
      · have i1 : ¬ ((k : Nat) : Int) < ((pl : Nat) : Int) := by omega
        clear hcnt
        go_wp2_with fail
        go_ret
        exact ⟨⟨va, vl, vc⟩, l, rfl, hg.out, HEND.out, hW.out⟩
end Go.Proofs.YtpggkfdnpdhkfaaGreat
