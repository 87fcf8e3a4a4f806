/-
  The document's device: disks, parts of what is done, and what its small functions hand back.
  The document's device: a disk behind a part.
  Slices that a thing keeps for itself, wherever they begin in their block: appended to, cut and copied over in place. Nothing of the program is named but its types.
  The landed device: how it lies in memory, and its small functions.
  The landed device: fields, loads, and the drawn regions of its readers.
  The landed device: how it turns; its readers.
  The landed device: Stream, Pending, Read.
-/
import Derived.Test.YtpggkfdnpdhkfaaGreatBa
import Derived.Laws.CopyRow
import Derived.Laws.IdiomCopy
namespace Go.Proofs.YtpggkfdnpdhkfaaGreat
open Go.RowKit
set_option maxRecDepth 100000

/-- Where bytes may lie: in blocks of some kind; from one on all are. -/
structure Home where
  G : Nat → Prop
  low : Nat
  all : ∀ k, low ≤ k → G k
variable {K : Home}
/-- The bytes xs lie where the slice leads, in a block where they may. -/
structure BsS (K : Home) (w : World) (s : Sl) (xs : List Nat) : Prop where
  came : Came w s.a s.len s.cap xs
  low : K.low ≤ w.heap.size
  home : 0 < s.len → ∀ ad, s.a = some ad → K.G ad.block
theorem BsS.bs {w : World} {s : Sl} {xs : List Nat} (h : BsS K w s xs) : Bs w s.a s.len xs := h.came.bs
theorem BsS.nil {w : World} {s : Sl} {xs : List Nat} (h : BsS K w s xs) : s.a = none → s.cap = 0 := h.came.nil
theorem BsS.le {w : World} {s : Sl} {xs : List Nat} (h : BsS K w s xs) : s.len ≤ s.cap := h.came.le
theorem BsS.big {w : World} {s : Sl} {xs : List Nat} (h : BsS K w s xs) : s.len ≤ 9223372036854775807 := h.came.big

theorem BsS.keep {w w' : World} {B : Nat} {s : Sl} {xs : List Nat} (h : BsS K w s xs) (hb : Below B w w') (hB : w.heap.size ≤ B) : BsS K w' s xs := ⟨⟨h.bs.keep hb hB, h.nil, h.le, h.big⟩, Nat.le_trans h.low hb.size, h.home⟩
theorem BsS.len {w : World} {s : Sl} {xs : List Nat} (h : BsS K w s xs) : xs.length = s.len := h.bs.1

/-- A disk: its pages, where its stream begins, its stream. -/
structure Dk where
  pg : List Nat
  base : Int
  st : List Nat
def Dk.val (d : Dk) (p s : Sl) : Value := .agg #[p.val, .int .i64 d.base, s.val]
structure DkIn (K : Home) (w : World) (d : Dk) (p s : Sl) : Prop where
  pg : BsS K w p d.pg
  st : BsS K w s d.st

theorem DkIn.keep {w w' : World} {B : Nat} {d : Dk} {p s : Sl} (h : DkIn K w d p s) (hb : Below B w w') (hB : w.heap.size ≤ B) : DkIn K w' d p s := ⟨h.pg.keep hb hB, h.st.keep hb hB⟩

/-- Some of what was done. -/
structure Pt where
  at_ : Int
  b : List Nat
  trim : Bool
  to : Int
def Pt.val (u : Pt) (s : Sl) : Value := .agg #[.int .i64 u.at_, s.val, .bool u.trim, .int .i64 u.to]
/-- How many units a part has. -/
def Pt.size (u : Pt) : Nat := if u.at_ < 0 ∧ u.trim = false then u.b.length else 1

/-- A disk in a block of its own. -/
def DkBlk (w : World) (p : Nat) (x : Value) (b : Int) (y : Value) : Prop := w.heap[p]? = some (Obj.cells #[x, .int .i64 b, y] 34 (0, 0))
theorem DkBlk.keep {w w' : World} {p : Nat} {x y : Value} {b : Int} (h : DkBlk w p x b y) (hb : Below w.heap.size w w') : DkBlk w' p x b y := (hb.block p (Array.getElem?_eq_some_iff.1 h).1).trans h
theorem DkBlk.c0 {w : World} {p : Nat} {x y : Value} {b : Int} (h : DkBlk w p x b y) : w.cell? ⟨p, 0, none⟩ = some x := by unfold DkBlk at h; simp [World.cell?, h]
theorem DkBlk.c1 {w : World} {p : Nat} {x y : Value} {b : Int} (h : DkBlk w p x b y) : w.cell? ⟨p, 1, none⟩ = some (.int .i64 b) := by unfold DkBlk at h; simp [World.cell?, h]
theorem DkBlk.c2 {w : World} {p : Nat} {x y : Value} {b : Int} (h : DkBlk w p x b y) : w.cell? ⟨p, 2, none⟩ = some y := by unfold DkBlk at h; simp [World.cell?, h]
theorem DkBlk.fz {w : World} {p : Nat} {x y : Value} {b : Int} (h : DkBlk w p x b y) (o : Nat) : w.frozen? ⟨p, o, none⟩ = false := frozen_of_row w p _ _ 34 h
theorem Owns.sl {w : World} {base : Nat} {v : Value} {xs : List Nat} (h : Owns w base v xs) (hx : Bytes xs) (hm : xs.length ≤ 1000000) (hK : K.low ≤ base) (hw : K.low ≤ w.heap.size) : ∃ s : Sl, v = s.val ∧ BsS K w s xs := by
  obtain ⟨a, cap, hv, hbs, hn⟩ := h.bs hx
  refine ⟨⟨a, xs.length, cap⟩, hv, ⟨hbs, hn, ?_, by show xs.length ≤ _; omega⟩, hw, fun h0 ad ha => ?_⟩
  rotate_left
  · obtain ⟨g, cp, hv', hg, _⟩ := h.pos h0
    rw [hv] at hv'
    simp only [Value.slice.injEq] at hv'
    have ha' : a = some ad := ha
    rw [hv'.1] at ha'
    obtain rfl := Option.some.inj ha'
    exact K.all _ (Nat.le_trans hK hg)
  rcases h.2 with ⟨hv', h0'⟩ | ⟨g, cp, cur, hv', _, _, hle, _⟩
  · show xs.length ≤ cap
    rw [h0']; exact Nat.zero_le _
  · rw [hv] at hv'
    simp only [Value.slice.injEq] at hv'
    show xs.length ≤ cap
    rw [hv'.2.2]; exact hle

end Go.Proofs.YtpggkfdnpdhkfaaGreat

namespace Go.Proofs.YtpggkfdnpdhkfaaGreat
open Go.RowKit
set_option maxRecDepth 100000
variable {K : Home}

/-- A part of a slice, from a place on. -/
theorem BsS.from_ {w : World} {s : Sl} {xs : List Nat} {k : Nat} (h : BsS K w s xs) (hk : k ≤ s.len) : BsS K w (s.from_ k) (xs.drop k) := by
  refine ⟨⟨h.bs.from hk h.le, ?_, by have := h.le; show s.len - k ≤ s.cap - k; omega, by have := h.big; show s.len - k ≤ _; omega⟩, h.low, fun h0 ad ha => ?_⟩
  rotate_left
  · have h0' : 0 < s.len := by have : 0 < s.len - k := h0; omega
    have ha' : fromA s.a s.cap k = some ad := ha
    unfold fromA at ha'
    split at ha'
    · exact h.home h0' ad ha'
    · cases hs : s.a with
      | none => rw [hs] at ha'; cases ha'
      | some x =>
        rw [hs] at ha'
        have := h.home h0' x hs
        simp only [Option.map_some, Option.some.injEq] at ha'
        rw [← ha']
        unfold Addr.add
        split <;> exact this
  intro e
  show s.cap - k = 0
  have e' : fromA s.a s.cap k = none := e
  unfold fromA at e'
  split at e'
  · omega
  · cases ha : s.a with
    | none => have := h.nil ha; omega
    | some x => rw [ha] at e'; simp at e'

/-- A part in a block of its own. -/
def PtBlk (w : World) (p : Nat) (a : Int) (x : Value) (t : Bool) (o : Int) : Prop := w.heap[p]? = some (Obj.cells #[.int .i64 a, x, .bool t, .int .i64 o] 117 (0, 0))
theorem PtBlk.keep {w w' : World} {p : Nat} {a o : Int} {x : Value} {t : Bool} (h : PtBlk w p a x t o) (hb : Below w.heap.size w w') : PtBlk w' p a x t o := (hb.block p (Array.getElem?_eq_some_iff.1 h).1).trans h
theorem PtBlk.c0 {w : World} {p : Nat} {a o : Int} {x : Value} {t : Bool} (h : PtBlk w p a x t o) : w.cell? ⟨p, 0, none⟩ = some (.int .i64 a) := by unfold PtBlk at h; simp [World.cell?, h]
theorem PtBlk.c1 {w : World} {p : Nat} {a o : Int} {x : Value} {t : Bool} (h : PtBlk w p a x t o) : w.cell? ⟨p, 1, none⟩ = some x := by unfold PtBlk at h; simp [World.cell?, h]
theorem PtBlk.c2 {w : World} {p : Nat} {a o : Int} {x : Value} {t : Bool} (h : PtBlk w p a x t o) : w.cell? ⟨p, 2, none⟩ = some (.bool t) := by unfold PtBlk at h; simp [World.cell?, h]
theorem PtBlk.c3 {w : World} {p : Nat} {a o : Int} {x : Value} {t : Bool} (h : PtBlk w p a x t o) : w.cell? ⟨p, 3, none⟩ = some (.int .i64 o) := by unfold PtBlk at h; simp [World.cell?, h]
theorem PtBlk.fz {w : World} {p : Nat} {a o : Int} {x : Value} {t : Bool} (h : PtBlk w p a x t o) (k : Nat) : w.frozen? ⟨p, k, none⟩ = false := frozen_of_row w p _ _ 117 h
end Go.Proofs.YtpggkfdnpdhkfaaGreat

namespace Go.Proofs.YtpggkfdnpdhkfaaGreat
open Go.RowKit
set_option maxRecDepth 100000

end Go.Proofs.YtpggkfdnpdhkfaaGreat

namespace Go.Proofs.YtpggkfdnpdhkfaaGreat
open Go.RowKit
set_option maxRecDepth 100000

/-- A sector's write; a trimming. -/
structure Sw where
  at_ : Nat
  b : List Nat
structure Tm where
  ahead : Nat
  place : Nat
def Sw.cells (x : Sw) : List Value := .int .i64 ((x.at_ : Nat) : Int) :: vals x.b
def swCells (l : List Sw) : List Value := l.flatMap Sw.cells
def Tm.cells (x : Tm) : List Value := [.int .i64 ((x.ahead : Nat) : Int), .int .i64 ((x.place : Nat) : Int)]
def tmCells (l : List Tm) : List Value := l.flatMap Tm.cells

/-- A device, without a word on memory. -/
structure Ds where
  sp : List Nat
  sb : Nat
  ss : List Nat
  kp : List Nat
  kb : Nat
  ks : List Nat
  wr : List Sw
  ap : List Nat
  tr : List Tm
  armed : Bool
  left : Int
  gone : Bool
/-- Its slices. -/
structure Dl where
  sp : Sl
  ss : Sl
  kp : Sl
  ks : Sl
  wr : Sl
  ap : Sl
  tr : Sl
inductive Fld where | sp | ss | kp | ks | ap
def Ds.b (D : Ds) : Fld → List Nat | .sp => D.sp | .ss => D.ss | .kp => D.kp | .ks => D.ks | .ap => D.ap
def Dl.s (L : Dl) : Fld → Sl | .sp => L.sp | .ss => L.ss | .kp => L.kp | .ks => L.ks | .ap => L.ap

def dvCells (D : Ds) (L : Dl) : Array Value := #[L.sp.val, .int .i64 ((D.sb : Nat) : Int), L.ss.val, L.kp.val, .int .i64 ((D.kb : Nat) : Int), L.ks.val, L.wr.val, L.ap.val, L.tr.val, .bool D.armed, .int .i64 D.left, .bool D.gone]

/-- A device in memory: its block, and what it keeps, each in a block of its own. -/
structure DevM (w : World) (p : Nat) (D : Ds) (L : Dl) : Prop where
  blk : w.heap[p]? = some (.cells (dvCells D L) 91 (0, 0))
  own : ∀ f, Own 5 1 w (L.s f) (vals (D.b f))
  byt : ∀ f, Bytes (D.b f)
  apart : ∀ f g k, (L.s f).blk = some k → (L.s g).blk = some k → f = g
  wr : Own 150 129 w L.wr (swCells D.wr)
  tr : Own 138 2 w L.tr (tmCells D.tr)

/-- The blocks of a device. -/
def Dl.F (L : Dl) (p : Nat) (k : Nat) : Prop := k = p ∨ (∃ f, (L.s f).blk = some k) ∨ L.wr.blk = some k ∨ L.tr.blk = some k

theorem DevM.lt {w : World} {p : Nat} {D : Ds} {L : Dl} (h : DevM w p D L) {k : Nat} (hk : L.F p k) : k < w.heap.size := by
  rcases hk with rfl | ⟨f, hf⟩ | hk | hk
  · exact (Array.getElem?_eq_some_iff.1 h.blk).1
  · exact (h.own f).lt hf
  · exact h.wr.lt hk
  · exact h.tr.lt hk

theorem DevM.frm {w w' : World} {p : Nat} {D : Ds} {L : Dl} {F : Nat → Prop} (h : DevM w p D L) (hf : Frm F w w') (hF : ∀ k, L.F p k → ¬ F k) : DevM w' p D L := by
  have hb : ∀ k, L.F p k → w'.heap[k]? = w.heap[k]? := fun k hk => hf.block k (h.lt hk) (hF k hk)
  exact ⟨(hb p (.inl rfl)).trans h.blk, fun f => (h.own f).frame fun k hk => hb k (.inr (.inl ⟨f, hk⟩)), h.byt, h.apart, h.wr.frame fun k hk => hb k (.inr (.inr (.inl hk))), h.tr.frame fun k hk => hb k (.inr (.inr (.inr hk)))⟩
theorem DevM.keep {w w' : World} {p : Nat} {D : Ds} {L : Dl} (h : DevM w p D L) (hb : Below w.heap.size w w') : DevM w' p D L := h.frm (F := fun _ => False) (Frm.ofBelow hb) (fun _ _ e => e)

theorem Addr.cell0 {w : World} {p i : Nat} {C : Array Value} {t : TypeId} (h : w.heap[p]? = some (.cells C t (0, 0))) : w.cell? ⟨p, i, none⟩ = C[i]? := by simp [World.cell?, h]

theorem DevM.c0 {w : World} {p : Nat} {D : Ds} {L : Dl} (h : DevM w p D L) : w.cell? ⟨p, 0, none⟩ = some (.slice L.sp.a L.sp.len L.sp.cap) := (Addr.cell0 h.blk).trans rfl
theorem DevM.c1 {w : World} {p : Nat} {D : Ds} {L : Dl} (h : DevM w p D L) : w.cell? ⟨p, 1, none⟩ = some (.int .i64 ((D.sb : Nat) : Int)) := (Addr.cell0 h.blk).trans rfl
theorem DevM.c2 {w : World} {p : Nat} {D : Ds} {L : Dl} (h : DevM w p D L) : w.cell? ⟨p, 2, none⟩ = some (.slice L.ss.a L.ss.len L.ss.cap) := (Addr.cell0 h.blk).trans rfl
theorem DevM.c3 {w : World} {p : Nat} {D : Ds} {L : Dl} (h : DevM w p D L) : w.cell? ⟨p, 3, none⟩ = some (.slice L.kp.a L.kp.len L.kp.cap) := (Addr.cell0 h.blk).trans rfl
theorem DevM.c4 {w : World} {p : Nat} {D : Ds} {L : Dl} (h : DevM w p D L) : w.cell? ⟨p, 4, none⟩ = some (.int .i64 ((D.kb : Nat) : Int)) := (Addr.cell0 h.blk).trans rfl
theorem DevM.c5 {w : World} {p : Nat} {D : Ds} {L : Dl} (h : DevM w p D L) : w.cell? ⟨p, 5, none⟩ = some (.slice L.ks.a L.ks.len L.ks.cap) := (Addr.cell0 h.blk).trans rfl
theorem DevM.c6 {w : World} {p : Nat} {D : Ds} {L : Dl} (h : DevM w p D L) : w.cell? ⟨p, 6, none⟩ = some (.slice L.wr.a L.wr.len L.wr.cap) := (Addr.cell0 h.blk).trans rfl
theorem DevM.c7 {w : World} {p : Nat} {D : Ds} {L : Dl} (h : DevM w p D L) : w.cell? ⟨p, 7, none⟩ = some (.slice L.ap.a L.ap.len L.ap.cap) := (Addr.cell0 h.blk).trans rfl
theorem DevM.c8 {w : World} {p : Nat} {D : Ds} {L : Dl} (h : DevM w p D L) : w.cell? ⟨p, 8, none⟩ = some (.slice L.tr.a L.tr.len L.tr.cap) := (Addr.cell0 h.blk).trans rfl
theorem DevM.c9 {w : World} {p : Nat} {D : Ds} {L : Dl} (h : DevM w p D L) : w.cell? ⟨p, 9, none⟩ = some (.bool D.armed) := (Addr.cell0 h.blk).trans rfl
theorem DevM.c10 {w : World} {p : Nat} {D : Ds} {L : Dl} (h : DevM w p D L) : w.cell? ⟨p, 10, none⟩ = some (.int .i64 D.left) := (Addr.cell0 h.blk).trans rfl
theorem DevM.c11 {w : World} {p : Nat} {D : Ds} {L : Dl} (h : DevM w p D L) : w.cell? ⟨p, 11, none⟩ = some (.bool D.gone) := (Addr.cell0 h.blk).trans rfl
theorem DevM.fz {w : World} {p : Nat} {D : Ds} {L : Dl} (h : DevM w p D L) (o : Nat) : w.frozen? ⟨p, o, none⟩ = false := frozen_of_row w p _ _ 91 h.blk

theorem DevM.ne {w : World} {p : Nat} {D : Ds} {L : Dl} (h : DevM w p D L) (f : Fld) : (L.s f).blk ≠ some p := by
  intro e
  obtain ⟨cur, hc⟩ := (h.own f).kind e
  rw [h.blk] at hc
  simp only [Option.some.injEq, Obj.cells.injEq] at hc
  exact absurd hc.2.1 (by decide)
theorem DevM.neW {w : World} {p : Nat} {D : Ds} {L : Dl} (h : DevM w p D L) : L.wr.blk ≠ some p := by
  intro e
  obtain ⟨cur, hc⟩ := h.wr.kind e
  rw [h.blk] at hc
  simp only [Option.some.injEq, Obj.cells.injEq] at hc
  exact absurd hc.2.1 (by decide)
theorem DevM.neT {w : World} {p : Nat} {D : Ds} {L : Dl} (h : DevM w p D L) : L.tr.blk ≠ some p := by
  intro e
  obtain ⟨cur, hc⟩ := h.tr.kind e
  rw [h.blk] at hc
  simp only [Option.some.injEq, Obj.cells.injEq] at hc
  exact absurd hc.2.1 (by decide)
theorem DevM.neWf {w : World} {p : Nat} {D : Ds} {L : Dl} (h : DevM w p D L) (f : Fld) {k : Nat} (hk : L.wr.blk = some k) : (L.s f).blk ≠ some k := by
  intro e
  obtain ⟨cur, hc⟩ := h.wr.kind hk
  obtain ⟨cur', hc'⟩ := (h.own f).kind e
  rw [hc] at hc'
  simp only [Option.some.injEq, Obj.cells.injEq] at hc'
  exact absurd hc'.2.1 (by decide)
theorem DevM.neTf {w : World} {p : Nat} {D : Ds} {L : Dl} (h : DevM w p D L) (f : Fld) {k : Nat} (hk : L.tr.blk = some k) : (L.s f).blk ≠ some k := by
  intro e
  obtain ⟨cur, hc⟩ := h.tr.kind hk
  obtain ⟨cur', hc'⟩ := (h.own f).kind e
  rw [hc] at hc'
  simp only [Option.some.injEq, Obj.cells.injEq] at hc'
  exact absurd hc'.2.1 (by decide)
theorem DevM.neTW {w : World} {p : Nat} {D : Ds} {L : Dl} (h : DevM w p D L) {k : Nat} (hk : L.tr.blk = some k) : L.wr.blk ≠ some k := by
  intro e
  obtain ⟨cur, hc⟩ := h.tr.kind hk
  obtain ⟨cur', hc'⟩ := h.wr.kind e
  rw [hc] at hc'
  simp only [Option.some.injEq, Obj.cells.injEq] at hc'
  exact absurd hc'.2.1 (by decide)

/-- A cell of the device's own block turns. -/
theorem DevM.turn {w : World} {p : Nat} {D : Ds} {L : Dl} (h : DevM w p D L) (D' : Ds) (L' : Dl) (i : Nat) (u : Value) (he : (dvCells D L).setIfInBounds i u = dvCells D' L') (hb : ∀ f, L'.s f = L.s f ∧ D'.b f = D.b f) (hw : L'.wr = L.wr ∧ D'.wr = D.wr) (ht : L'.tr = L.tr ∧ D'.tr = D.tr) :
    DevM (w.setCell ⟨p, i, none⟩ u) p D' L' := by
  have hsame := heap_setCell_same w p i _ 91 u h.blk
  have ho : ∀ k, k ≠ p → (w.setCell ⟨p, i, none⟩ u).heap[k]? = w.heap[k]? := fun k hk => Below.heap_setCell w ⟨p, i, none⟩ u k hk
  refine ⟨by rw [hsame, he], fun f => ?_, fun f => ?_, fun f g k => ?_, ?_, ?_⟩
  · rw [(hb f).1, (hb f).2]
    exact (h.own f).frame fun k hk => ho k (fun e => h.ne f (by rw [← e]; exact hk))
  · rw [(hb f).2]; exact h.byt f
  · rw [(hb f).1, (hb g).1]; exact h.apart f g k
  · rw [hw.1, hw.2]
    exact h.wr.frame fun k hk => ho k (fun e => h.neW (by rw [← e]; exact hk))
  · rw [ht.1, ht.2]
    exact h.tr.frame fun k hk => ho k (fun e => h.neT (by rw [← e]; exact hk))

/-- The device behind a pointer. -/
def at0 (p : Nat) : Value := .pointer (some ⟨p, 0, none⟩)

set_option maxHeartbeats 1000000 in
theorem pages_any (w : World) (p : Nat) (D : Ds) (L : Dl) (h : DevM w p D L) (n : Nat) (hn : D.sp.length = 512 * n) (hn2 : n ≤ 64) : Calls Tryz.prog 77 #[at0 p] w fun e w' => e = .returned (.int .i64 (n : Nat)) ∧ w' = w := by
  have hl : L.sp.len = 512 * n := by have := (h.own .sp).1; rw [vals_length, Nat.mul_one] at this; rw [← hn]; exact this.symm
  have c0 := h.c0
  rw [hl] at c0
  have hd : IntKind.i64.wrap (Int.tdiv ((512 * n : Nat) : Int) 512) = ((n : Nat) : Int) := by
    rw [IntKind.wrap_i64]
    have : Int.tdiv ((512 * n : Nat) : Int) 512 = (n : Int) := by
      rw [Int.tdiv_eq_ediv_of_nonneg (by omega)]; omega
    omega
  clear h
  unfold at0
  go_enter Tryz.func77, Tryz.ntmps77
  go_wp2_with fail
  go_ret
  exact ⟨rfl, rfl⟩

set_option maxHeartbeats 1000000 in
theorem given_any (w : World) (p : Nat) (D : Ds) (L : Dl) (h : DevM w p D L) (n : Nat) (hn : D.sp.length = 512 * n) (hn2 : n ≤ 64) (hn1 : 1 ≤ n) : Calls Tryz.prog 70 #[at0 p] w fun e w' => e = .returned (.bool true) ∧ w' = w := by
  have HP := hide (pages_any w p D L h n hn hn2)
  clear h hn
  unfold at0 at *
  have h0 : decide (0 < n) = true := decide_eq_true (by omega)
  go_enter Tryz.func70, Tryz.ntmps70
  go_wp2_with fail
  refine HP.out.mono ?_
  rintro e w' ⟨rfl, hw⟩
  obtain rfl := hw.symm
  go_wp2_with fail
  go_ret
  exact ⟨rfl, rfl⟩

set_option maxHeartbeats 1000000 in
theorem has_any (w : World) (p : Nat) (D : Ds) (L : Dl) (h : DevM w p D L) (n : Nat) (hn : D.sp.length = 512 * n) (hn2 : n ≤ 64) (k : Int) : Calls Tryz.prog 78 #[at0 p, .int .i64 k] w fun e w' => e = .returned (.bool (decide (0 ≤ k ∧ k < (n : Nat)))) ∧ w' = w := by
  have HP := hide (pages_any w p D L h n hn hn2)
  clear h hn
  unfold at0 at *
  by_cases h0 : 0 ≤ k
  · by_cases h1 : k < ((n : Nat) : Int)
    · have h2 : decide (k < ((n : Nat) : Int)) = true := decide_eq_true h1
      rw [decide_eq_true (show 0 ≤ k ∧ k < ((n : Nat) : Int) from ⟨h0, h1⟩)]
      go_enter Tryz.func78, Tryz.ntmps78
      go_wp2_with fail
      refine HP.out.mono ?_
      rintro e w' ⟨rfl, hw⟩
      obtain rfl := hw.symm
      go_wp2_with fail
      go_ret
      exact ⟨rfl, rfl⟩
    · have h2 : decide (k < ((n : Nat) : Int)) = false := decide_eq_false h1
      rw [decide_eq_false (show ¬ (0 ≤ k ∧ k < ((n : Nat) : Int)) from fun e => h1 e.2)]
      go_enter Tryz.func78, Tryz.ntmps78
      go_wp2_with fail
      refine HP.out.mono ?_
      rintro e w' ⟨rfl, hw⟩
      obtain rfl := hw.symm
      go_wp2_with fail
      go_ret
      exact ⟨rfl, rfl⟩
  · rw [decide_eq_false (show ¬ (0 ≤ k ∧ k < ((n : Nat) : Int)) from fun e => h0 e.1)]
    go_enter Tryz.func78, Tryz.ntmps78
    go_wp2_with fail
    go_ret
    exact ⟨rfl, rfl⟩

/-- How many of the next units are of account, and the device behind that. -/
def Ds.spent (D : Ds) (n : Nat) : Nat := if D.gone = true then 0 else if D.armed = false then n else if D.left < (n : Int) then D.left.toNat else n
def Ds.spend (D : Ds) (n : Nat) : Ds := if D.gone = true then D else if D.armed = false then D else if D.left < (n : Int) then { D with left := 0, gone := true } else { D with left := D.left - (n : Int) }

theorem DevM.setLeft {w : World} {p : Nat} {D : Ds} {L : Dl} (h : DevM w p D L) (x : Int) : DevM (w.setCell ⟨p, 10, none⟩ (.int .i64 x)) p { D with left := x } L :=
  h.turn _ _ 10 _ (by rfl) (fun f => by cases f <;> exact ⟨rfl, rfl⟩) ⟨rfl, rfl⟩ ⟨rfl, rfl⟩
theorem DevM.setGone {w : World} {p : Nat} {D : Ds} {L : Dl} (h : DevM w p D L) (x : Bool) : DevM (w.setCell ⟨p, 11, none⟩ (.bool x)) p { D with gone := x } L :=
  h.turn _ _ 11 _ (by rfl) (fun f => by cases f <;> exact ⟨rfl, rfl⟩) ⟨rfl, rfl⟩ ⟨rfl, rfl⟩
theorem DevM.setArmed {w : World} {p : Nat} {D : Ds} {L : Dl} (h : DevM w p D L) (x : Bool) : DevM (w.setCell ⟨p, 9, none⟩ (.bool x)) p { D with armed := x } L :=
  h.turn _ _ 9 _ (by rfl) (fun f => by cases f <;> exact ⟨rfl, rfl⟩) ⟨rfl, rfl⟩ ⟨rfl, rfl⟩

set_option maxHeartbeats 2000000 in
theorem spend_any (w : World) (p : Nat) (D : Ds) (L : Dl) (h : DevM w p D L) (n : Nat) (hl : D.armed = true → 0 ≤ D.left ∧ D.left ≤ 9223372036854775807) (hn : n ≤ 1000000) : Calls Tryz.prog 86 #[at0 p, .int .i64 (n : Nat)] w fun e w' => e = .returned (.int .i64 ((D.spent n : Nat) : Int)) ∧ DevM w' p (D.spend n) L ∧ Frm (fun k => k = p) w w' ∧ w'.heap.size = w.heap.size := by
  have c9 := h.c9
  have c10 := h.c10
  have c11 := h.c11
  have hf := h.fz
  have H := hide h
  clear h
  unfold at0
  cases hg : D.gone
  · cases ha : D.armed
    · have e1 : D.spent n = n := by simp [Ds.spent, hg, ha]
      have e2 : D.spend n = D := by simp [Ds.spend, hg, ha]
      rw [e1, e2]
      rw [hg] at c11
      rw [ha] at c9
      clear hl hg ha e1 e2
      go_enter Tryz.func86, Tryz.ntmps86
      go_wp2_with fail
      go_ret
      exact ⟨rfl, H.out, Frm.refl _ _, rfl⟩
    · obtain ⟨hl1, hl2⟩ := hl ha
      rw [hg] at c11
      rw [ha] at c9
      by_cases hc : D.left < (n : Int)
      · have e1 : ((D.spent n : Nat) : Int) = D.left := by simp [Ds.spent, hg, ha, hc]; omega
        have e2 : D.spend n = { D with left := 0, gone := true } := by simp [Ds.spend, hg, ha, hc]
        rw [e1, e2]
        have H2 := hide ((H.out.setGone true).setLeft 0)
        have d10 := (H.out.setGone true).c10
        have df := (H.out.setGone true).fz
        simp only at d10
        clear hl hg ha e1 e2
        have hw0 : IntKind.i64.wrap (D.left - D.left) = 0 := by rw [IntKind.wrap_i64]; omega
        go_enter Tryz.func86, Tryz.ntmps86
        go_wp2_with fail
        go_ret
        exact ⟨rfl, H2.out, (((Frm.refl (fun k => k = p) _).setCell (p := ⟨p, 11, none⟩) rfl _).setCell (p := ⟨p, 10, none⟩) rfl _), by simp [World.setCell]⟩
      · have e1 : D.spent n = n := by simp [Ds.spent, hg, ha, hc]
        have e2 : D.spend n = { D with left := D.left - (n : Int) } := by simp [Ds.spend, hg, ha, hc]
        rw [e1, e2]
        have H2 := hide (H.out.setLeft (D.left - (n : Int)))
        clear hl hg ha e1 e2
        have hw0 : IntKind.i64.wrap (D.left - (n : Int)) = D.left - (n : Int) := by rw [IntKind.wrap_i64]; omega
        have hc' : D.left ≥ (n : Int) := by omega
        go_enter Tryz.func86, Tryz.ntmps86
        go_wp2_with fail
        go_ret
        exact ⟨rfl, H2.out, ((Frm.refl (fun k => k = p) _).setCell (p := ⟨p, 10, none⟩) rfl _), by simp [World.setCell]⟩
  · have e1 : D.spent n = 0 := by simp [Ds.spent, hg]
    have e2 : D.spend n = D := by simp [Ds.spend, hg]
    rw [e1, e2]
    rw [hg] at c11
    clear hl hg e1 e2
    go_enter Tryz.func86, Tryz.ntmps86
    go_wp2_with fail
    go_ret
    exact ⟨rfl, H.out, Frm.refl _ _, rfl⟩

set_option maxHeartbeats 1000000 in
theorem gone_any (w : World) (p : Nat) (D : Ds) (L : Dl) (h : DevM w p D L) (n : Nat) (hn : D.sp.length = 512 * n) (hn2 : n ≤ 64) (hn1 : 1 ≤ n) : Calls Tryz.prog 36 #[at0 p] w fun e w' => e = .returned (.bool D.gone) ∧ w' = w := by
  have HP := hide (given_any w p D L h n hn hn2 hn1)
  have c11 := h.c11
  clear h hn
  unfold at0 at *
  go_enter Tryz.func36, Tryz.ntmps36
  go_wp2_with fail
  refine HP.out.mono ?_
  rintro e w' ⟨rfl, hw⟩
  obtain rfl := hw.symm
  go_wp2_with fail
  go_ret
  exact ⟨rfl, rfl⟩

def Ds.arm (D : Ds) (n : Int) : Ds := if D.gone = true then D else { D with armed := decide (0 ≤ n), left := n }

set_option maxHeartbeats 1000000 in
theorem arm_any (w : World) (p : Nat) (D : Ds) (L : Dl) (h : DevM w p D L) (n : Nat) (hn : D.sp.length = 512 * n) (hn2 : n ≤ 64) (hn1 : 1 ≤ n) (k : Int) : Calls Tryz.prog 24 #[at0 p, .int .i64 k] w fun e w' => e = .returned (.tuple #[]) ∧ DevM w' p (D.arm k) L ∧ Frm (fun k => k = p) w w' ∧ w'.heap.size = w.heap.size := by
  have HP := hide (given_any w p D L h n hn hn2 hn1)
  have c9 := h.c9
  have c10 := h.c10
  have c11 := h.c11
  have hf := h.fz
  have H := hide h
  clear h hn
  unfold at0 at *
  cases hg : D.gone
  · have e2 : D.arm k = { D with armed := decide (0 ≤ k), left := k } := by simp [Ds.arm, hg]
    rw [e2]
    rw [hg] at c11
    have H2 := hide ((H.out.setArmed (decide (0 ≤ k))).setLeft k)
    have d10 := (H.out.setArmed (decide (0 ≤ k))).c10
    have df := (H.out.setArmed (decide (0 ≤ k))).fz
    simp only at d10
    clear hg e2
    go_enter Tryz.func24, Tryz.ntmps24
    go_wp2_with fail
    refine HP.out.mono ?_
    rintro e w' ⟨rfl, hw⟩
    obtain rfl := hw.symm
    go_wp2_with fail
    go_end0
    exact ⟨rfl, H2.out, (((Frm.refl (fun k => k = p) _).setCell (p := ⟨p, 9, none⟩) rfl _).setCell (p := ⟨p, 10, none⟩) rfl _), by simp [World.setCell]⟩
  · have e2 : D.arm k = D := by simp [Ds.arm, hg]
    rw [e2]
    rw [hg] at c11
    clear hg e2
    go_enter Tryz.func24, Tryz.ntmps24
    go_wp2_with fail
    refine HP.out.mono ?_
    rintro e w' ⟨rfl, hw⟩
    obtain rfl := hw.symm
    go_wp2_with fail
    refine bodyPost_ret (results_none rfl _ _ _) rfl ?_
    exact ⟨rfl, H.out, Frm.refl _ _, rfl⟩

end Go.Proofs.YtpggkfdnpdhkfaaGreat

namespace Go.Proofs.YtpggkfdnpdhkfaaGreat
open Go.RowKit
set_option maxRecDepth 100000

theorem fdDev0_0 (p : Nat) (w : World) : (Instr.fieldAt 91 (.pointer (some ⟨p, 0, none⟩)) 0).run Tryz.prog w = .ok (.pointer (some ⟨p, 0, none⟩)) w := by simp [go_sem, Instr.fieldAt]
theorem fdDev1_0 (p : Nat) (w : World) : (Instr.fieldAt 91 (.pointer (some ⟨p, 0, none⟩)) 1).run Tryz.prog w = .ok (.pointer (some ⟨p, 3, none⟩)) w := by simp [go_sem, Instr.fieldAt]
theorem fdDev2_0 (p : Nat) (w : World) : (Instr.fieldAt 91 (.pointer (some ⟨p, 0, none⟩)) 2).run Tryz.prog w = .ok (.pointer (some ⟨p, 6, none⟩)) w := by simp [go_sem, Instr.fieldAt]
theorem fdDev3_0 (p : Nat) (w : World) : (Instr.fieldAt 91 (.pointer (some ⟨p, 0, none⟩)) 3).run Tryz.prog w = .ok (.pointer (some ⟨p, 7, none⟩)) w := by simp [go_sem, Instr.fieldAt]
theorem fdDev4_0 (p : Nat) (w : World) : (Instr.fieldAt 91 (.pointer (some ⟨p, 0, none⟩)) 4).run Tryz.prog w = .ok (.pointer (some ⟨p, 8, none⟩)) w := by simp [go_sem, Instr.fieldAt]
theorem fdDk0_0 (p : Nat) (w : World) : (Instr.fieldAt 87 (.pointer (some ⟨p, 0, none⟩)) 0).run Tryz.prog w = .ok (.pointer (some ⟨p, 0, none⟩)) w := by simp [go_sem, Instr.fieldAt]
theorem fdDk1_0 (p : Nat) (w : World) : (Instr.fieldAt 87 (.pointer (some ⟨p, 0, none⟩)) 1).run Tryz.prog w = .ok (.pointer (some ⟨p, 1, none⟩)) w := by simp [go_sem, Instr.fieldAt]
theorem fdDk2_0 (p : Nat) (w : World) : (Instr.fieldAt 87 (.pointer (some ⟨p, 0, none⟩)) 2).run Tryz.prog w = .ok (.pointer (some ⟨p, 2, none⟩)) w := by simp [go_sem, Instr.fieldAt]
theorem fdDk0_3 (p : Nat) (w : World) : (Instr.fieldAt 87 (.pointer (some ⟨p, 3, none⟩)) 0).run Tryz.prog w = .ok (.pointer (some ⟨p, 3, none⟩)) w := by simp [go_sem, Instr.fieldAt]
theorem fdDk1_3 (p : Nat) (w : World) : (Instr.fieldAt 87 (.pointer (some ⟨p, 3, none⟩)) 1).run Tryz.prog w = .ok (.pointer (some ⟨p, 4, none⟩)) w := by simp [go_sem, Instr.fieldAt]
theorem fdDk2_3 (p : Nat) (w : World) : (Instr.fieldAt 87 (.pointer (some ⟨p, 3, none⟩)) 2).run Tryz.prog w = .ok (.pointer (some ⟨p, 5, none⟩)) w := by simp [go_sem, Instr.fieldAt]
theorem fdSw0_0 (p : Nat) (w : World) : (Instr.fieldAt 150 (.pointer (some ⟨p, 0, none⟩)) 0).run Tryz.prog w = .ok (.pointer (some ⟨p, 0, none⟩)) w := by simp [go_sem, Instr.fieldAt]
theorem fdSw1_0 (p : Nat) (w : World) : (Instr.fieldAt 150 (.pointer (some ⟨p, 0, none⟩)) 1).run Tryz.prog w = .ok (.pointer (some ⟨p, 1, none⟩)) w := by simp [go_sem, Instr.fieldAt]
theorem ldInt (b o : Nat) (x : Int) (w : World) (h : w.cell? ⟨b, o, none⟩ = some (.int .i64 x)) : (Instr.loadAt 3 (.pointer (some ⟨b, o, none⟩))).run Tryz.prog w = .ok (.int .i64 x) w := by simp [go_sem, h]
theorem ldBs (b o : Nat) (a : Option Addr) (l c : Nat) (w : World) (h : w.cell? ⟨b, o, none⟩ = some (.slice a l c)) : (Instr.loadAt 32 (.pointer (some ⟨b, o, none⟩))).run Tryz.prog w = .ok (.slice a l c) w := by simp [go_sem, h]
theorem ldWs (b o : Nat) (a : Option Addr) (l c : Nat) (w : World) (h : w.cell? ⟨b, o, none⟩ = some (.slice a l c)) : (Instr.loadAt 88 (.pointer (some ⟨b, o, none⟩))).run Tryz.prog w = .ok (.slice a l c) w := by simp [go_sem, h]
theorem ldTs (b o : Nat) (a : Option Addr) (l c : Nat) (w : World) (h : w.cell? ⟨b, o, none⟩ = some (.slice a l c)) : (Instr.loadAt 89 (.pointer (some ⟨b, o, none⟩))).run Tryz.prog w = .ok (.slice a l c) w := by simp [go_sem, h]
theorem stInt (b o : Nat) (v u : Value) (hv : ∃ x, v = .int .i64 x) (w : World) (h : w.cell? ⟨b, o, none⟩ = some u) (hf : w.frozen? ⟨b, o, none⟩ = false) : (Instr.storeAt 3 (.pointer (some ⟨b, o, none⟩)) v).run Tryz.prog w = .ok () (w.setCell ⟨b, o, none⟩ v) := by
  obtain ⟨x, rfl⟩ := hv
  simp [go_sem, Instr.storeAt, h, hf]
theorem stBs (b o : Nat) (s : Sl) (u : Value) (w : World) (h : w.cell? ⟨b, o, none⟩ = some u) (hf : w.frozen? ⟨b, o, none⟩ = false) : (Instr.storeAt 32 (.pointer (some ⟨b, o, none⟩)) s.val).run Tryz.prog w = .ok () (w.setCell ⟨b, o, none⟩ s.val) := by
  unfold Sl.val
  simp [go_sem, Instr.storeAt, h, hf]
theorem stWs (b o : Nat) (s : Sl) (u : Value) (w : World) (h : w.cell? ⟨b, o, none⟩ = some u) (hf : w.frozen? ⟨b, o, none⟩ = false) : (Instr.storeAt 88 (.pointer (some ⟨b, o, none⟩)) s.val).run Tryz.prog w = .ok () (w.setCell ⟨b, o, none⟩ s.val) := by
  unfold Sl.val
  simp [go_sem, Instr.storeAt, h, hf]
theorem stTs (b o : Nat) (s : Sl) (u : Value) (w : World) (h : w.cell? ⟨b, o, none⟩ = some u) (hf : w.frozen? ⟨b, o, none⟩ = false) : (Instr.storeAt 89 (.pointer (some ⟨b, o, none⟩)) s.val).run Tryz.prog w = .ok () (w.setCell ⟨b, o, none⟩ s.val) := by
  unfold Sl.val
  simp [go_sem, Instr.storeAt, h, hf]
theorem DevM.drew {w : World} {p : Nat} {D : Ds} {L : Dl} (h : DevM w p D L) : DevM w.drew p D L := h.frm (F := fun _ => False) (Frm.refl _ _).drew (fun _ _ e => e)

set_option maxHeartbeats 2000000 in
set_option maxRecDepth 100000 in
theorem units1 (w : World) (p : Nat) (D : Ds) (L : Dl) (h : DevM w p D L) (hu : IntKind.i64.wrap ((L.ap.len : Int) + (L.tr.len : Int)) = (L.ap.len : Int) + (L.tr.len : Int))
    {Q : Exit → Act → World → Prop} {A : Act} (hsz : A.tmps.size = 14) (hdf : A.defers = []) (s0 : A.tmps.getD 0 undef = .pointer (some ⟨p, 0, none⟩))
    (hend : ∀ (u : Nat → Value) w', w' = w.drew → Q .normal (((((((((((((A).put (some 3) (u 3)).put (some 4) (u 4)).put (some 5) (u 5)).put (some 6) (u 6)).put (some 7) (u 7)).put (some 8) (u 8)).put (some 9) (u 9)).put (some 10) (u 10)).put (some 11) (u 11)).put (some 12) (u 12)).put (some 13) (u 13)).put (some 2) (.int .i64 ((L.ap.len + L.tr.len : Nat) : Int))) w') :
    (Code.region 1 (Pl.find 1 ((Tryz.f76.body).getD .skip)) true).wp Tryz.prog Q A w := by
  have hA := Pl.At.same (v := .pointer (some ⟨p, 0, none⟩)) (d := 0) (Pl.At.here hsz hdf) s0
  refine Pl.H.start (S := fun w' => DevM w' p D L) (by kernel_rfl) hA h.drew ?_
  rw [show (Pl.find 1 ((Tryz.f76.body).getD .skip)).size = 12 by kernel_rfl]
  refine Pl.H.take 0 3 (.pointer (some ⟨p, 0, none⟩)) (by kernel_rfl) (by kernel_rfl) (by kernel_rfl) (Pl.free 0 (by kernel_rfl)) (Pl.move 0 (.tmp 0) (by kernel_rfl) (by decide)) h.drew ?_
  refine Pl.H.take 1 4 (.pointer (some ⟨p, 0, none⟩)) (by kernel_rfl) (by kernel_rfl) (by kernel_rfl) (Pl.free 1 (by kernel_rfl)) (Pl.nilc 1 (.tmp 3) _ (by kernel_rfl) (by decide) rfl) h.drew ?_
  refine Pl.H.take 2 5 (.pointer (some ⟨p, 7, none⟩)) (by kernel_rfl) (by kernel_rfl) (by kernel_rfl) (Pl.free 2 (by kernel_rfl)) (Pl.field 2 91 (.tmp 4) 3 _ (by kernel_rfl) (by decide) (fdDev3_0 p)) h.drew ?_
  refine Pl.H.take 3 6 (.slice L.ap.a L.ap.len L.ap.cap) (by kernel_rfl) (by kernel_rfl) (by kernel_rfl) (Pl.free 3 (by kernel_rfl)) (Pl.load 3 32 (.tmp 5) _ (by kernel_rfl) (by decide) (fun w' hS => ldBs p 7 _ _ _ w' hS.c7)) h.drew ?_
  refine Pl.H.take 4 7 (.int .i64 ((L.ap.len : Nat) : Int)) (by kernel_rfl) (by kernel_rfl) (by kernel_rfl) (Pl.free 4 (by kernel_rfl)) (Pl.lenOf 4 32 (.tmp 6) _ (by kernel_rfl) (by decide) (fun _ _ => rfl)) h.drew ?_
  refine Pl.H.take 5 8 (.pointer (some ⟨p, 0, none⟩)) (by kernel_rfl) (by kernel_rfl) (by kernel_rfl) (Pl.free 5 (by kernel_rfl)) (Pl.move 5 (.tmp 0) (by kernel_rfl) (by decide)) h.drew ?_
  refine Pl.H.take 6 9 (.pointer (some ⟨p, 0, none⟩)) (by kernel_rfl) (by kernel_rfl) (by kernel_rfl) (Pl.free 6 (by kernel_rfl)) (Pl.nilc 6 (.tmp 8) _ (by kernel_rfl) (by decide) rfl) h.drew ?_
  refine Pl.H.take 7 10 (.pointer (some ⟨p, 8, none⟩)) (by kernel_rfl) (by kernel_rfl) (by kernel_rfl) (Pl.free 7 (by kernel_rfl)) (Pl.field 7 91 (.tmp 9) 4 _ (by kernel_rfl) (by decide) (fdDev4_0 p)) h.drew ?_
  refine Pl.H.take 8 11 (.slice L.tr.a L.tr.len L.tr.cap) (by kernel_rfl) (by kernel_rfl) (by kernel_rfl) (Pl.free 8 (by kernel_rfl)) (Pl.load 8 89 (.tmp 10) _ (by kernel_rfl) (by decide) (fun w' hS => ldTs p 8 _ _ _ w' hS.c8)) h.drew ?_
  refine Pl.H.take 9 12 (.int .i64 ((L.tr.len : Nat) : Int)) (by kernel_rfl) (by kernel_rfl) (by kernel_rfl) (Pl.free 9 (by kernel_rfl)) (Pl.lenOf 9 89 (.tmp 11) _ (by kernel_rfl) (by decide) (fun _ _ => rfl)) h.drew ?_
  refine Pl.H.take 10 13 (.int .i64 ((L.ap.len + L.tr.len : Nat) : Int)) (by kernel_rfl) (by kernel_rfl) (by kernel_rfl) (Pl.free 10 (by kernel_rfl)) (Pl.binV 10 .add 3 3 (.tmp 7) (.tmp 12) (.int .i64 ((L.ap.len : Nat) : Int)) (.int .i64 ((L.tr.len : Nat) : Int)) _ (by kernel_rfl) (by decide) (by decide) rfl rfl (fun w => by simp [go_sem, eqGuard, hu])) h.drew ?_
  refine Pl.H.take 11 2 (.int .i64 ((L.ap.len + L.tr.len : Nat) : Int)) (by kernel_rfl) (by kernel_rfl) (by kernel_rfl) (Pl.free 11 (by kernel_rfl)) (Pl.assign 11 (.tmp 13) (by kernel_rfl) (by decide)) h.drew ?_
  refine Pl.H.done (by kernel_rfl) (fun A' hA' => ?_)
  rw [Pl.At.ext hA' ((((((((((((hA.put 3 _).put 4 _).put 5 _).put 6 _).put 7 _).put 8 _).put 9 _).put 10 _).put 11 _).put 12 _).put 13 _).put 2 _)]
  exact hend (fun d => if d = 3 then .pointer (some ⟨p, 0, none⟩) else if d = 4 then .pointer (some ⟨p, 0, none⟩) else if d = 5 then .pointer (some ⟨p, 7, none⟩) else if d = 6 then .slice L.ap.a L.ap.len L.ap.cap else if d = 7 then .int .i64 ((L.ap.len : Nat) : Int) else if d = 8 then .pointer (some ⟨p, 0, none⟩) else if d = 9 then .pointer (some ⟨p, 0, none⟩) else if d = 10 then .pointer (some ⟨p, 8, none⟩) else if d = 11 then .slice L.tr.a L.tr.len L.tr.cap else if d = 12 then .int .i64 ((L.tr.len : Nat) : Int) else if d = 13 then .int .i64 ((L.ap.len + L.tr.len : Nat) : Int) else undef) _ rfl

set_option maxHeartbeats 2000000 in
set_option maxRecDepth 100000 in
theorem end1 (w : World) (p : Nat) (D : Ds) (L : Dl) (h : DevM w p D L) (hu : IntKind.i64.wrap ((D.sb : Int) + (L.ss.len : Int)) = (D.sb : Int) + (L.ss.len : Int))
    {Q : Exit → Act → World → Prop} {A : Act} (hsz : A.tmps.size = 13) (hdf : A.defers = []) (s0 : A.tmps.getD 0 undef = .pointer (some ⟨p, 0, none⟩))
    (hend : ∀ (u : Nat → Value) w', w' = w.drew → Q .normal ((((((((((((A).put (some 3) (u 3)).put (some 4) (u 4)).put (some 5) (u 5)).put (some 6) (u 6)).put (some 7) (u 7)).put (some 8) (u 8)).put (some 9) (u 9)).put (some 10) (u 10)).put (some 11) (u 11)).put (some 12) (u 12)).put (some 2) (.int .i64 ((D.sb + L.ss.len : Nat) : Int))) w') :
    (Code.region 1 (Pl.find 1 ((Tryz.f91.body).getD .skip)) true).wp Tryz.prog Q A w := by
  have hA := Pl.At.same (v := .pointer (some ⟨p, 0, none⟩)) (d := 0) (Pl.At.here hsz hdf) s0
  refine Pl.H.start (S := fun w' => DevM w' p D L) (by kernel_rfl) hA h.drew ?_
  rw [show (Pl.find 1 ((Tryz.f91.body).getD .skip)).size = 11 by kernel_rfl]
  refine Pl.H.take 0 3 (.pointer (some ⟨p, 0, none⟩)) (by kernel_rfl) (by kernel_rfl) (by kernel_rfl) (Pl.free 0 (by kernel_rfl)) (Pl.move 0 (.tmp 0) (by kernel_rfl) (by decide)) h.drew ?_
  refine Pl.H.take 1 4 (.pointer (some ⟨p, 0, none⟩)) (by kernel_rfl) (by kernel_rfl) (by kernel_rfl) (Pl.free 1 (by kernel_rfl)) (Pl.nilc 1 (.tmp 3) _ (by kernel_rfl) (by decide) rfl) h.drew ?_
  refine Pl.H.take 2 5 (.pointer (some ⟨p, 1, none⟩)) (by kernel_rfl) (by kernel_rfl) (by kernel_rfl) (Pl.free 2 (by kernel_rfl)) (Pl.field 2 87 (.tmp 4) 1 _ (by kernel_rfl) (by decide) (fdDk1_0 p)) h.drew ?_
  refine Pl.H.take 3 6 (.int .i64 ((D.sb : Nat) : Int)) (by kernel_rfl) (by kernel_rfl) (by kernel_rfl) (Pl.free 3 (by kernel_rfl)) (Pl.load 3 3 (.tmp 5) _ (by kernel_rfl) (by decide) (fun w' hS => ldInt p 1 _ w' hS.c1)) h.drew ?_
  refine Pl.H.take 4 7 (.pointer (some ⟨p, 0, none⟩)) (by kernel_rfl) (by kernel_rfl) (by kernel_rfl) (Pl.free 4 (by kernel_rfl)) (Pl.move 4 (.tmp 0) (by kernel_rfl) (by decide)) h.drew ?_
  refine Pl.H.take 5 8 (.pointer (some ⟨p, 0, none⟩)) (by kernel_rfl) (by kernel_rfl) (by kernel_rfl) (Pl.free 5 (by kernel_rfl)) (Pl.nilc 5 (.tmp 7) _ (by kernel_rfl) (by decide) rfl) h.drew ?_
  refine Pl.H.take 6 9 (.pointer (some ⟨p, 2, none⟩)) (by kernel_rfl) (by kernel_rfl) (by kernel_rfl) (Pl.free 6 (by kernel_rfl)) (Pl.field 6 87 (.tmp 8) 2 _ (by kernel_rfl) (by decide) (fdDk2_0 p)) h.drew ?_
  refine Pl.H.take 7 10 (.slice L.ss.a L.ss.len L.ss.cap) (by kernel_rfl) (by kernel_rfl) (by kernel_rfl) (Pl.free 7 (by kernel_rfl)) (Pl.load 7 32 (.tmp 9) _ (by kernel_rfl) (by decide) (fun w' hS => ldBs p 2 _ _ _ w' hS.c2)) h.drew ?_
  refine Pl.H.take 8 11 (.int .i64 ((L.ss.len : Nat) : Int)) (by kernel_rfl) (by kernel_rfl) (by kernel_rfl) (Pl.free 8 (by kernel_rfl)) (Pl.lenOf 8 32 (.tmp 10) _ (by kernel_rfl) (by decide) (fun _ _ => rfl)) h.drew ?_
  refine Pl.H.take 9 12 (.int .i64 ((D.sb + L.ss.len : Nat) : Int)) (by kernel_rfl) (by kernel_rfl) (by kernel_rfl) (Pl.free 9 (by kernel_rfl)) (Pl.binV 9 .add 3 3 (.tmp 6) (.tmp 11) (.int .i64 ((D.sb : Nat) : Int)) (.int .i64 ((L.ss.len : Nat) : Int)) _ (by kernel_rfl) (by decide) (by decide) rfl rfl (fun w => by simp [go_sem, eqGuard, hu])) h.drew ?_
  refine Pl.H.take 10 2 (.int .i64 ((D.sb + L.ss.len : Nat) : Int)) (by kernel_rfl) (by kernel_rfl) (by kernel_rfl) (Pl.free 10 (by kernel_rfl)) (Pl.assign 10 (.tmp 12) (by kernel_rfl) (by decide)) h.drew ?_
  refine Pl.H.done (by kernel_rfl) (fun A' hA' => ?_)
  rw [Pl.At.ext hA' (((((((((((hA.put 3 _).put 4 _).put 5 _).put 6 _).put 7 _).put 8 _).put 9 _).put 10 _).put 11 _).put 12 _).put 2 _)]
  exact hend (fun d => if d = 3 then .pointer (some ⟨p, 0, none⟩) else if d = 4 then .pointer (some ⟨p, 0, none⟩) else if d = 5 then .pointer (some ⟨p, 1, none⟩) else if d = 6 then .int .i64 ((D.sb : Nat) : Int) else if d = 7 then .pointer (some ⟨p, 0, none⟩) else if d = 8 then .pointer (some ⟨p, 0, none⟩) else if d = 9 then .pointer (some ⟨p, 2, none⟩) else if d = 10 then .slice L.ss.a L.ss.len L.ss.cap else if d = 11 then .int .i64 ((L.ss.len : Nat) : Int) else if d = 12 then .int .i64 ((D.sb + L.ss.len : Nat) : Int) else undef) _ rfl

end Go.Proofs.YtpggkfdnpdhkfaaGreat

namespace Go.Proofs.YtpggkfdnpdhkfaaGreat
open Go.RowKit
set_option maxRecDepth 100000

/-- A device that has turned: it stands; nothing but its own blocks, and new ones, has turned; its blocks are old ones of its own, or new. -/
structure Turned (w : World) (p : Nat) (L : Dl) (w' : World) (D' : Ds) (L' : Dl) : Prop where
  dev : DevM w' p D' L'
  frm : Frm (L.F p) w w'
  foot : ∀ k, L'.F p k → L.F p k ∨ w.heap.size ≤ k
theorem Turned.same {w w' : World} {p : Nat} {D : Ds} {L : Dl} (h : DevM w p D L) (hb : Below w.heap.size w w') : Turned w p L w' D L := ⟨h.keep hb, Frm.ofBelow hb, fun _ hk => .inl hk⟩
theorem Turned.trans {w w1 w2 : World} {p : Nat} {D1 D2 : Ds} {L L1 L2 : Dl} (h : Turned w p L w1 D1 L1) (k : Turned w1 p L1 w2 D2 L2) : Turned w p L w2 D2 L2 := by
  refine ⟨k.dev, h.frm.trans k.frm (fun i hi hf => ?_), fun i hi => ?_⟩
  · rcases h.foot i hf with h1 | h1
    · exact h1
    · omega
  · rcases k.foot i hi with h1 | h1
    · exact h.foot i h1
    · exact .inr (Nat.le_trans h.frm.size h1)
theorem Turned.cell {w w' : World} {p : Nat} {D' : Ds} {L : Dl} (hd : DevM w' p D' L) (hf : Frm (fun k => k = p) w w') : Turned w p L w' D' L := ⟨hd, hf.mono (fun _ _ e => .inl e), fun _ hk => .inl hk⟩

/-- A field's bytes turn, and the field. -/
theorem DevM.swap {w w1 : World} {p : Nat} {D : Ds} {L : Dl} (h : DevM w p D L) (f0 : Fld) (s' : Sl) (xs : List Nat) (hf : Frm (fun k => (L.s f0).blk = some k) w w1) (ho : Own 5 1 w1 s' (vals xs)) (hx : Bytes xs)
    (hb : ∀ k, s'.blk = some k → (L.s f0).blk = some k ∨ w.heap.size ≤ k) (i : Nat) (D' : Ds) (L' : Dl) (he : (dvCells D L).setIfInBounds i s'.val = dvCells D' L') (h0 : L'.s f0 = s' ∧ D'.b f0 = xs)
    (hL : ∀ f, f ≠ f0 → L'.s f = L.s f ∧ D'.b f = D.b f) (hw : L'.wr = L.wr ∧ D'.wr = D.wr) (ht : L'.tr = L.tr ∧ D'.tr = D.tr) : Turned w p L (w1.setCell ⟨p, i, none⟩ s'.val) D' L' := by
  have hp1 : w1.heap[p]? = some (.cells (dvCells D L) 91 (0, 0)) := (hf.block p (h.lt (.inl rfl)) (h.ne f0)).trans h.blk
  have hsame := heap_setCell_same w1 p i _ 91 s'.val hp1
  have hoff : ∀ k, k ≠ p → (w1.setCell ⟨p, i, none⟩ s'.val).heap[k]? = w1.heap[k]? := fun k hk => Below.heap_setCell w1 ⟨p, i, none⟩ _ k hk
  have hkp : ∀ k, L.F p k → k ≠ p → (L.s f0).blk ≠ some k → (w1.setCell ⟨p, i, none⟩ s'.val).heap[k]? = w.heap[k]? := fun k hk h1 h2 => (hoff k h1).trans (hf.block k (h.lt hk) h2)
  have hsp : ∀ k, s'.blk = some k → k ≠ p := by
    intro k hk e
    rcases hb k hk with h1 | h1
    · exact h.ne f0 (by rw [← e]; exact h1)
    · have := h.lt (L := L) (k := p) (.inl rfl); omega
  refine ⟨⟨by rw [hsame, he], fun f => ?_, fun f => ?_, fun f g k hf1 hg1 => ?_, ?_, ?_⟩, (hf.mono (fun k _ e => .inr (.inl ⟨f0, e⟩))).setCell (p := ⟨p, i, none⟩) (.inl rfl) _, ?_⟩
  · by_cases e : f = f0
    · subst e
      rw [h0.1, h0.2]
      exact ho.frame fun k hk => hoff k (hsp k hk)
    · rw [(hL f e).1, (hL f e).2]
      refine (h.own f).frame fun k hk => hkp k (.inr (.inl ⟨f, hk⟩)) (fun e' => h.ne f (by rw [← e']; exact hk)) (fun e' => e (h.apart f f0 k hk e'))
  · by_cases e : f = f0
    · subst e; rw [h0.2]; exact hx
    · rw [(hL f e).2]; exact h.byt f
  · by_cases e : f = f0
    · by_cases e2 : g = f0
      · rw [e, e2]
      · rw [e, h0.1] at hf1
        rw [(hL g e2).1] at hg1
        rcases hb k hf1 with h1 | h1
        · rw [e]; exact h.apart f0 g k h1 hg1
        · have := (h.own g).lt hg1; omega
    · by_cases e2 : g = f0
      · rw [e2, h0.1] at hg1
        rw [(hL f e).1] at hf1
        rcases hb k hg1 with h1 | h1
        · rw [e2]; exact h.apart f f0 k hf1 h1
        · have := (h.own f).lt hf1; omega
      · rw [(hL f e).1] at hf1
        rw [(hL g e2).1] at hg1
        exact h.apart f g k hf1 hg1
  · rw [hw.1, hw.2]
    exact h.wr.frame fun k hk => hkp k (.inr (.inr (.inl hk))) (fun e => h.neW (by rw [← e]; exact hk)) (h.neWf f0 hk)
  · rw [ht.1, ht.2]
    exact h.tr.frame fun k hk => hkp k (.inr (.inr (.inr hk))) (fun e => h.neT (by rw [← e]; exact hk)) (h.neTf f0 hk)
  · intro k hk
    rcases hk with h1 | ⟨f, h1⟩ | h1 | h1
    · exact .inl (.inl h1)
    · by_cases e : f = f0
      · rw [e, h0.1] at h1
        rcases hb k h1 with h2 | h2
        · exact .inl (.inr (.inl ⟨f0, h2⟩))
        · exact .inr h2
      · rw [(hL f e).1] at h1
        exact .inl (.inr (.inl ⟨f, h1⟩))
    · rw [hw.1] at h1; exact .inl (.inr (.inr (.inl h1)))
    · rw [ht.1] at h1; exact .inl (.inr (.inr (.inr h1)))

/-- A field's bytes turn where they lie. -/
theorem DevM.over {w w1 : World} {p : Nat} {D : Ds} {L : Dl} (h : DevM w p D L) (f0 : Fld) (xs : List Nat) (hf : Frm (fun k => (L.s f0).blk = some k) w w1) (ho : Own 5 1 w1 (L.s f0) (vals xs)) (hx : Bytes xs)
    (D' : Ds) (he : dvCells D L = dvCells D' L) (h0 : D'.b f0 = xs) (hL : ∀ f, f ≠ f0 → D'.b f = D.b f) (hw : D'.wr = D.wr) (ht : D'.tr = D.tr) : Turned w p L w1 D' L := by
  have hkp : ∀ k, L.F p k → (L.s f0).blk ≠ some k → w1.heap[k]? = w.heap[k]? := fun k hk h2 => hf.block k (h.lt hk) h2
  refine ⟨⟨by rw [← he]; exact (hkp p (.inl rfl) (h.ne f0)).trans h.blk, fun f => ?_, fun f => ?_, h.apart, ?_, ?_⟩, hf.mono (fun k _ e => .inr (.inl ⟨f0, e⟩)), fun k hk => .inl hk⟩
  · by_cases e : f = f0
    · subst e; rw [h0]; exact ho
    · rw [hL f e]
      exact (h.own f).frame fun k hk => hkp k (.inr (.inl ⟨f, hk⟩)) (fun e' => e (h.apart f f0 k hk e'))
  · by_cases e : f = f0
    · subst e; rw [h0]; exact hx
    · rw [hL f e]; exact h.byt f
  · rw [hw]; exact h.wr.frame fun k hk => hkp k (.inr (.inr (.inl hk))) (h.neWf f0 hk)
  · rw [ht]; exact h.tr.frame fun k hk => hkp k (.inr (.inr (.inr hk))) (h.neTf f0 hk)

theorem DevM.swapW {w w1 : World} {p : Nat} {D : Ds} {L : Dl} (h : DevM w p D L) (s' : Sl) (xs : List Sw) (hf : Frm (fun k => L.wr.blk = some k) w w1) (ho : Own 150 129 w1 s' (swCells xs))
    (hb : ∀ k, s'.blk = some k → L.wr.blk = some k ∨ w.heap.size ≤ k) : Turned w p L (w1.setCell ⟨p, 6, none⟩ s'.val) { D with wr := xs } { L with wr := s' } := by
  have hp1 : w1.heap[p]? = some (.cells (dvCells D L) 91 (0, 0)) := (hf.block p (h.lt (.inl rfl)) h.neW).trans h.blk
  have hsame := heap_setCell_same w1 p 6 _ 91 s'.val hp1
  have hoff : ∀ k, k ≠ p → (w1.setCell ⟨p, 6, none⟩ s'.val).heap[k]? = w1.heap[k]? := fun k hk => Below.heap_setCell w1 ⟨p, 6, none⟩ _ k hk
  have hkp : ∀ k, L.F p k → k ≠ p → L.wr.blk ≠ some k → (w1.setCell ⟨p, 6, none⟩ s'.val).heap[k]? = w.heap[k]? := fun k hk h1 h2 => (hoff k h1).trans (hf.block k (h.lt hk) h2)
  have hsp : ∀ k, s'.blk = some k → k ≠ p := by
    intro k hk e
    rcases hb k hk with h1 | h1
    · exact h.neW (by rw [← e]; exact h1)
    · have := h.lt (L := L) (k := p) (.inl rfl); omega
  refine ⟨⟨by rw [hsame]; rfl, fun f => ?_, fun f => by cases f <;> first | exact h.byt .sp | exact h.byt .ss | exact h.byt .kp | exact h.byt .ks | exact h.byt .ap, ?_, ho.frame fun k hk => hoff k (hsp k hk), ?_⟩, (hf.mono (fun k _ e => .inr (.inr (.inl e)))).setCell (p := ⟨p, 6, none⟩) (.inl rfl) _, ?_⟩
  · have hs : Dl.s { L with wr := s' } f = L.s f := by cases f <;> rfl
    have hd : Ds.b { D with wr := xs } f = D.b f := by cases f <;> rfl
    rw [hs, hd]
    exact (h.own f).frame fun k hk => hkp k (.inr (.inl ⟨f, hk⟩)) (fun e' => h.ne f (by rw [← e']; exact hk)) (fun e => h.neWf f e hk)
  · intro f g k h1 h2
    have e1 : Dl.s { L with wr := s' } f = L.s f := by cases f <;> rfl
    have e2 : Dl.s { L with wr := s' } g = L.s g := by cases g <;> rfl
    rw [e1] at h1
    rw [e2] at h2
    exact h.apart f g k h1 h2
  · exact h.tr.frame fun k hk => hkp k (.inr (.inr (.inr hk))) (fun e => h.neT (by rw [← e]; exact hk)) (h.neTW hk)
  · intro k hk
    rcases hk with h1 | ⟨f, h1⟩ | h1 | h1
    · exact .inl (.inl h1)
    · have e1 : Dl.s { L with wr := s' } f = L.s f := by cases f <;> rfl
      rw [e1] at h1
      exact .inl (.inr (.inl ⟨f, h1⟩))
    · rcases hb k h1 with h2 | h2
      · exact .inl (.inr (.inr (.inl h2)))
      · exact .inr h2
    · exact .inl (.inr (.inr (.inr h1)))

theorem DevM.swapT {w w1 : World} {p : Nat} {D : Ds} {L : Dl} (h : DevM w p D L) (s' : Sl) (xs : List Tm) (hf : Frm (fun k => L.tr.blk = some k) w w1) (ho : Own 138 2 w1 s' (tmCells xs))
    (hb : ∀ k, s'.blk = some k → L.tr.blk = some k ∨ w.heap.size ≤ k) : Turned w p L (w1.setCell ⟨p, 8, none⟩ s'.val) { D with tr := xs } { L with tr := s' } := by
  have hp1 : w1.heap[p]? = some (.cells (dvCells D L) 91 (0, 0)) := (hf.block p (h.lt (.inl rfl)) h.neT).trans h.blk
  have hsame := heap_setCell_same w1 p 8 _ 91 s'.val hp1
  have hoff : ∀ k, k ≠ p → (w1.setCell ⟨p, 8, none⟩ s'.val).heap[k]? = w1.heap[k]? := fun k hk => Below.heap_setCell w1 ⟨p, 8, none⟩ _ k hk
  have hkp : ∀ k, L.F p k → k ≠ p → L.tr.blk ≠ some k → (w1.setCell ⟨p, 8, none⟩ s'.val).heap[k]? = w.heap[k]? := fun k hk h1 h2 => (hoff k h1).trans (hf.block k (h.lt hk) h2)
  have hsp : ∀ k, s'.blk = some k → k ≠ p := by
    intro k hk e
    rcases hb k hk with h1 | h1
    · exact h.neT (by rw [← e]; exact h1)
    · have := h.lt (L := L) (k := p) (.inl rfl); omega
  refine ⟨⟨by rw [hsame]; rfl, fun f => ?_, fun f => by cases f <;> first | exact h.byt .sp | exact h.byt .ss | exact h.byt .kp | exact h.byt .ks | exact h.byt .ap, ?_, ?_, ho.frame fun k hk => hoff k (hsp k hk)⟩, (hf.mono (fun k _ e => .inr (.inr (.inr e)))).setCell (p := ⟨p, 8, none⟩) (.inl rfl) _, ?_⟩
  · have hs : Dl.s { L with tr := s' } f = L.s f := by cases f <;> rfl
    have hd : Ds.b { D with tr := xs } f = D.b f := by cases f <;> rfl
    rw [hs, hd]
    exact (h.own f).frame fun k hk => hkp k (.inr (.inl ⟨f, hk⟩)) (fun e' => h.ne f (by rw [← e']; exact hk)) (fun e => h.neTf f e hk)
  · intro f g k h1 h2
    have e1 : Dl.s { L with tr := s' } f = L.s f := by cases f <;> rfl
    have e2 : Dl.s { L with tr := s' } g = L.s g := by cases g <;> rfl
    rw [e1] at h1
    rw [e2] at h2
    exact h.apart f g k h1 h2
  · exact h.wr.frame fun k hk => hkp k (.inr (.inr (.inl hk))) (fun e => h.neW (by rw [← e]; exact hk)) (fun e => h.neTW e hk)
  · intro k hk
    rcases hk with h1 | ⟨f, h1⟩ | h1 | h1
    · exact .inl (.inl h1)
    · have e1 : Dl.s { L with tr := s' } f = L.s f := by cases f <;> rfl
      rw [e1] at h1
      exact .inl (.inr (.inl ⟨f, h1⟩))
    · exact .inl (.inr (.inr (.inl h1)))
    · rcases hb k h1 with h2 | h2
      · exact .inl (.inr (.inr (.inr h2)))
      · exact .inr h2

theorem DevM.len {w : World} {p : Nat} {D : Ds} {L : Dl} (h : DevM w p D L) (f : Fld) : (D.b f).length = (L.s f).len := by have := (h.own f).1; rw [vals_length, Nat.mul_one] at this; exact this
theorem tmCells_length : ∀ l, (tmCells l).length = l.length * 2
  | [] => rfl
  | x :: r => by
    have := tmCells_length r
    simp only [tmCells, List.flatMap_cons, List.length_append, List.length_cons, Tm.cells, List.length_nil] at *
    omega
theorem DevM.lenT {w : World} {p : Nat} {D : Ds} {L : Dl} (h : DevM w p D L) : D.tr.length = L.tr.len := by have := h.tr.1; rw [tmCells_length] at this; omega
def Ds.units (D : Ds) : Nat := D.ap.length + D.tr.length

set_option maxHeartbeats 1000000 in
theorem units_any (w : World) (p : Nat) (D : Ds) (L : Dl) (h : DevM w p D L) (hu : D.units ≤ 1000000000) : Calls Tryz.prog 76 #[at0 p] w fun e w' => e = .returned (.int .i64 ((D.units : Nat) : Int)) ∧ Below w.heap.size w w' := by
  have e1 : D.units = L.ap.len + L.tr.len := by
    have := h.len .ap
    have h2 := h.lenT
    show D.ap.length + D.tr.length = _
    rw [h2]; congr 1
  rw [e1] at hu ⊢
  have HR : Hid (∀ {Q : Exit → Act → World → Prop} {A : Act}, _) := fun {Q A} => units1 w p D L h (by rw [IntKind.wrap_i64]; omega) (Q := Q) (A := A)
  have HW := hide ((Below.refl w.heap.size w).drew)
  clear h e1 hu
  unfold at0
  go_enter Tryz.func76, Tryz.ntmps76
  go_wp2_with fail
  refine Pl.region_is (ops := Pl.find 1 ((Tryz.f76.body).getD .skip)) (by kernel_rfl) ?_
  refine HR.out (by rfl) rfl (by rfl) ?_
  rintro u w' rfl
  simp only [Act.put, List.setIfInBounds_toArray, List.set_cons_zero, List.set_cons_succ]
  go_wp2_with fail
  go_ret
  exact ⟨rfl, HW.out⟩

set_option maxHeartbeats 1000000 in
theorem end_any (w : World) (p : Nat) (D : Ds) (L : Dl) (h : DevM w p D L) (hu : D.sb + D.ss.length ≤ 1000000000000) : Calls Tryz.prog 91 #[at0 p] w fun e w' => e = .returned (.int .i64 ((D.sb + D.ss.length : Nat) : Int)) ∧ Below w.heap.size w w' := by
  have e1 : D.ss.length = L.ss.len := h.len .ss
  rw [e1] at hu ⊢
  have HR : Hid (∀ {Q : Exit → Act → World → Prop} {A : Act}, _) := fun {Q A} => end1 w p D L h (by rw [IntKind.wrap_i64]; omega) (Q := Q) (A := A)
  have HW := hide ((Below.refl w.heap.size w).drew)
  clear h e1 hu
  unfold at0
  go_enter Tryz.func91, Tryz.ntmps91
  go_wp2_with fail
  refine Pl.region_is (ops := Pl.find 1 ((Tryz.f91.body).getD .skip)) (by kernel_rfl) ?_
  refine HR.out (by rfl) rfl (by rfl) ?_
  rintro u w' rfl
  simp only [Act.put, List.setIfInBounds_toArray, List.set_cons_zero, List.set_cons_succ]
  go_wp2_with fail
  go_ret
  exact ⟨rfl, HW.out⟩

set_option maxHeartbeats 2000000 in
set_option maxRecDepth 100000 in
theorem trimS1 (w : World) (p : Nat) (D : Ds) (L : Dl) (h : DevM w p D L) (pl : Int) (k : Nat) (hk : IntKind.i64.wrap (pl - (D.sb : Int)) = (k : Nat)) (hl : k ≤ L.ss.len)
    {Q : Exit → Act → World → Prop} {A : Act} (hsz : A.tmps.size = 22) (hdf : A.defers = []) (s0 : A.tmps.getD 0 undef = .pointer (some ⟨p, 0, none⟩)) (s1 : A.tmps.getD 1 undef = .int .i64 pl)
    (hend : ∀ (u : Nat → Value) w', w' = w.drew.setCell ⟨p, 2, none⟩ (L.ss.from_ k).val → Q .normal (((((((((((((((A).put (some 4) (u 4)).put (some 5) (u 5)).put (some 6) (u 6)).put (some 7) (u 7)).put (some 9) (u 9)).put (some 10) (u 10)).put (some 11) (u 11)).put (some 12) (u 12)).put (some 13) (u 13)).put (some 14) (u 14)).put (some 8) (u 8)).put (some 15) (u 15)).put (some 16) (u 16)).put (some 17) (u 17)) w') :
    (Code.region 0 (Pl.find 0 ((Tryz.f92.body).getD .skip)) true).wp Tryz.prog Q A w := by
  have hS1 : (fun w' : World => w'.cell? ⟨p, 1, none⟩ = some (.int .i64 ((D.sb : Nat) : Int))) (w.drew.setCell ⟨p, 2, none⟩ (L.ss.from_ k).val) := by
    have hb := heap_setCell_same w.drew p 2 _ 91 (L.ss.from_ k).val h.drew.blk
    show World.cell? _ _ = _
    rw [Addr.cell0 hb]
    rfl
  have hA := Pl.At.same (v := .int .i64 pl) (d := 1) (Pl.At.same (v := .pointer (some ⟨p, 0, none⟩)) (d := 0) (Pl.At.here hsz hdf) s0) s1
  refine Pl.H.start (S := fun w' => w'.cell? ⟨p, 1, none⟩ = some (.int .i64 ((D.sb : Nat) : Int))) (by kernel_rfl) hA (show (fun w' => w'.cell? ⟨p, 1, none⟩ = some (.int .i64 ((D.sb : Nat) : Int))) w.drew from h.drew.c1) ?_
  rw [show (Pl.find 0 ((Tryz.f92.body).getD .skip)).size = 15 by kernel_rfl]
  refine Pl.H.take 0 4 (.pointer (some ⟨p, 0, none⟩)) (by kernel_rfl) (by kernel_rfl) (by kernel_rfl) (Pl.free 0 (by kernel_rfl)) (Pl.move 0 (.tmp 0) (by kernel_rfl) (by decide)) (show (fun w' => w'.cell? ⟨p, 1, none⟩ = some (.int .i64 ((D.sb : Nat) : Int))) w.drew from h.drew.c1) ?_
  refine Pl.H.take 1 5 (.pointer (some ⟨p, 0, none⟩)) (by kernel_rfl) (by kernel_rfl) (by kernel_rfl) (Pl.free 1 (by kernel_rfl)) (Pl.move 1 (.tmp 0) (by kernel_rfl) (by decide)) (show (fun w' => w'.cell? ⟨p, 1, none⟩ = some (.int .i64 ((D.sb : Nat) : Int))) w.drew from h.drew.c1) ?_
  refine Pl.H.take 2 6 (.pointer (some ⟨p, 0, none⟩)) (by kernel_rfl) (by kernel_rfl) (by kernel_rfl) (Pl.free 2 (by kernel_rfl)) (Pl.nilc 2 (.tmp 5) _ (by kernel_rfl) (by decide) rfl) (show (fun w' => w'.cell? ⟨p, 1, none⟩ = some (.int .i64 ((D.sb : Nat) : Int))) w.drew from h.drew.c1) ?_
  refine Pl.H.take 3 7 (.pointer (some ⟨p, 2, none⟩)) (by kernel_rfl) (by kernel_rfl) (by kernel_rfl) (Pl.free 3 (by kernel_rfl)) (Pl.field 3 87 (.tmp 6) 2 _ (by kernel_rfl) (by decide) (fdDk2_0 p)) (show (fun w' => w'.cell? ⟨p, 1, none⟩ = some (.int .i64 ((D.sb : Nat) : Int))) w.drew from h.drew.c1) ?_
  refine Pl.H.take 5 9 (.int .i64 pl) (by kernel_rfl) (by kernel_rfl) (by kernel_rfl) (Pl.free 5 (by kernel_rfl)) (Pl.move 5 (.tmp 1) (by kernel_rfl) (by decide)) (show (fun w' => w'.cell? ⟨p, 1, none⟩ = some (.int .i64 ((D.sb : Nat) : Int))) w.drew from h.drew.c1) ?_
  refine Pl.H.take 6 10 (.pointer (some ⟨p, 0, none⟩)) (by kernel_rfl) (by kernel_rfl) (by kernel_rfl) (Pl.free 6 (by kernel_rfl)) (Pl.move 6 (.tmp 0) (by kernel_rfl) (by decide)) (show (fun w' => w'.cell? ⟨p, 1, none⟩ = some (.int .i64 ((D.sb : Nat) : Int))) w.drew from h.drew.c1) ?_
  refine Pl.H.take 7 11 (.pointer (some ⟨p, 0, none⟩)) (by kernel_rfl) (by kernel_rfl) (by kernel_rfl) (Pl.free 7 (by kernel_rfl)) (Pl.nilc 7 (.tmp 10) _ (by kernel_rfl) (by decide) rfl) (show (fun w' => w'.cell? ⟨p, 1, none⟩ = some (.int .i64 ((D.sb : Nat) : Int))) w.drew from h.drew.c1) ?_
  refine Pl.H.take 8 12 (.pointer (some ⟨p, 1, none⟩)) (by kernel_rfl) (by kernel_rfl) (by kernel_rfl) (Pl.free 8 (by kernel_rfl)) (Pl.field 8 87 (.tmp 11) 1 _ (by kernel_rfl) (by decide) (fdDk1_0 p)) (show (fun w' => w'.cell? ⟨p, 1, none⟩ = some (.int .i64 ((D.sb : Nat) : Int))) w.drew from h.drew.c1) ?_
  refine Pl.H.take 9 13 (.int .i64 ((D.sb : Nat) : Int)) (by kernel_rfl) (by kernel_rfl) (by kernel_rfl) (Pl.free 9 (by kernel_rfl)) (Pl.load 9 3 (.tmp 12) _ (by kernel_rfl) (by decide) (fun w' hS => ldInt p 1 _ w' hS)) (show (fun w' => w'.cell? ⟨p, 1, none⟩ = some (.int .i64 ((D.sb : Nat) : Int))) w.drew from h.drew.c1) ?_
  refine Pl.H.take 10 14 (.int .i64 ((k : Nat) : Int)) (by kernel_rfl) (by kernel_rfl) (by kernel_rfl) (Pl.free 10 (by kernel_rfl)) (Pl.binV 10 .sub 3 3 (.tmp 9) (.tmp 13) (.int .i64 pl) (.int .i64 ((D.sb : Nat) : Int)) _ (by kernel_rfl) (by decide) (by decide) rfl rfl (fun w => by simp [go_sem, eqGuard, hk])) (show (fun w' => w'.cell? ⟨p, 1, none⟩ = some (.int .i64 ((D.sb : Nat) : Int))) w.drew from h.drew.c1) ?_
  refine Pl.H.solo 4 8 (.slice L.ss.a L.ss.len L.ss.cap) (by kernel_rfl) (by kernel_rfl) (by kernel_rfl) (Pl.free 4 (by kernel_rfl)) (Pl.load1 4 32 (.tmp 7) _ (by kernel_rfl) (by decide) (ldBs p 2 _ _ _ _ h.drew.c2)) (show (fun w' => w'.cell? ⟨p, 1, none⟩ = some (.int .i64 ((D.sb : Nat) : Int))) w.drew from h.drew.c1) ?_
  refine Pl.H.take 11 15 ((L.ss.from_ k).val) (by kernel_rfl) (by kernel_rfl) (by kernel_rfl) (Pl.free 11 (by kernel_rfl)) (Pl.slice 11 32 (.tmp 8) (some (.tmp 14)) none _ (by kernel_rfl) (by decide) (by decide) (by decide) (fun w => slice_from L.ss.a L.ss.len L.ss.cap k hl w)) (show (fun w' => w'.cell? ⟨p, 1, none⟩ = some (.int .i64 ((D.sb : Nat) : Int))) w.drew from h.drew.c1) ?_
  refine Pl.H.take 12 16 (.pointer (some ⟨p, 0, none⟩)) (by kernel_rfl) (by kernel_rfl) (by kernel_rfl) (Pl.free 12 (by kernel_rfl)) (Pl.nilc 12 (.tmp 4) _ (by kernel_rfl) (by decide) rfl) (show (fun w' => w'.cell? ⟨p, 1, none⟩ = some (.int .i64 ((D.sb : Nat) : Int))) w.drew from h.drew.c1) ?_
  refine Pl.H.take 13 17 (.pointer (some ⟨p, 2, none⟩)) (by kernel_rfl) (by kernel_rfl) (by kernel_rfl) (Pl.free 13 (by kernel_rfl)) (Pl.field 13 87 (.tmp 16) 2 _ (by kernel_rfl) (by decide) (fdDk2_0 p)) (show (fun w' => w'.cell? ⟨p, 1, none⟩ = some (.int .i64 ((D.sb : Nat) : Int))) w.drew from h.drew.c1) ?_
  refine Pl.H.store 14 (w.drew.setCell ⟨p, 2, none⟩ (L.ss.from_ k).val) (by kernel_rfl) (by kernel_rfl) (by kernel_rfl) (Pl.free 14 (by kernel_rfl)) (Pl.storeV 14 32 (.tmp 17) (.tmp 15) _ (by kernel_rfl) (by decide) (by decide) (stBs p 2 _ _ w.drew h.drew.c2 (h.drew.fz 2))) hS1 ?_
  refine Pl.H.done (by kernel_rfl) (fun A' hA' => ?_)
  rw [Pl.At.ext hA' ((((((((((((((hA.put 4 _).put 5 _).put 6 _).put 7 _).put 9 _).put 10 _).put 11 _).put 12 _).put 13 _).put 14 _).put 8 _).put 15 _).put 16 _).put 17 _)]
  exact hend (fun d => if d = 4 then .pointer (some ⟨p, 0, none⟩) else if d = 5 then .pointer (some ⟨p, 0, none⟩) else if d = 6 then .pointer (some ⟨p, 0, none⟩) else if d = 7 then .pointer (some ⟨p, 2, none⟩) else if d = 9 then .int .i64 pl else if d = 10 then .pointer (some ⟨p, 0, none⟩) else if d = 11 then .pointer (some ⟨p, 0, none⟩) else if d = 12 then .pointer (some ⟨p, 1, none⟩) else if d = 13 then .int .i64 ((D.sb : Nat) : Int) else if d = 14 then .int .i64 ((k : Nat) : Int) else if d = 8 then .slice L.ss.a L.ss.len L.ss.cap else if d = 15 then (L.ss.from_ k).val else if d = 16 then .pointer (some ⟨p, 0, none⟩) else if d = 17 then .pointer (some ⟨p, 2, none⟩) else undef) _ rfl

set_option maxHeartbeats 1000000 in
theorem trimS (w : World) (p : Nat) (D : Ds) (L : Dl) (h : DevM w p D L) (pl : Nat) (hk : D.sb ≤ pl) (hl : pl ≤ D.sb + D.ss.length) (hm : pl ≤ 1000000000000) : Calls Tryz.prog 92 #[.pointer (some ⟨p, 0, none⟩), .int .i64 ((pl : Nat) : Int)] w fun e w' => e = .returned (.tuple #[]) ∧ ∃ L', Turned w p L w' { D with ss := D.ss.drop (pl - D.sb), sb := pl } L' := by
  have e1 : D.ss.length = L.ss.len := h.len .ss
  have hkl : pl - D.sb ≤ L.ss.len := by omega
  obtain ⟨ho, hbl⟩ := (h.own .ss).from_ hkl
  have hT : Turned w p L (w.drew.setCell ⟨p, 2, none⟩ (L.ss.from_ (pl - D.sb)).val) { D with ss := D.ss.drop (pl - D.sb) } { L with ss := L.ss.from_ (pl - D.sb) } := by
    refine h.swap .ss (L.ss.from_ (pl - D.sb)) (D.ss.drop (pl - D.sb)) ((Frm.refl _ w).drew) ?_ (fun x hx => h.byt .ss x (List.mem_of_mem_drop hx)) (fun k hk => .inl (by rw [← hk]; exact hbl.symm)) 2 _ _ (by rfl) ⟨rfl, rfl⟩ (fun f hf => by cases f <;> first | exact ⟨rfl, rfl⟩ | exact absurd rfl hf) ⟨rfl, rfl⟩ ⟨rfl, rfl⟩
    have e2 : (vals D.ss).drop (pl - D.sb) = vals (D.ss.drop (pl - D.sb)) := by simp [vals, List.map_drop]
    have ho' : Own 5 1 w (L.ss.from_ (pl - D.sb)) (vals (D.ss.drop (pl - D.sb))) := by rw [← e2]; exact ho
    exact ho'.frame fun _ _ => rfl
  have HT := hide hT
  have hT2 := hT.trans (Turned.cell (hT.dev.turn { D with ss := D.ss.drop (pl - D.sb), sb := pl } { L with ss := L.ss.from_ (pl - D.sb) } 1 (.int .i64 ((pl : Nat) : Int)) (by rfl) (fun f => by cases f <;> exact ⟨rfl, rfl⟩) ⟨rfl, rfl⟩ ⟨rfl, rfl⟩) ((Frm.refl (fun k => k = p) _).setCell (p := ⟨p, 1, none⟩) rfl _))
  have HT2 := hide hT2
  have HR : Hid (∀ {Q : Exit → Act → World → Prop} {A : Act}, _) := fun {Q A} => trimS1 w p D L h ((pl : Nat) : Int) (pl - D.sb) (by rw [IntKind.wrap_i64]; omega) hkl (Q := Q) (A := A)
  have c1 := hT.dev.c1
  have f1 := hT.dev.fz
  clear hT hT2 h e1 ho hbl
  simp only at c1
  generalize hW : w.drew.setCell ⟨p, 2, none⟩ (L.ss.from_ (pl - D.sb)).val = W at *
  clear hW
  go_enter Tryz.func92, Tryz.ntmps92
  go_wp2_with fail
  refine Pl.region_is (ops := Pl.find 0 ((Tryz.f92.body).getD .skip)) (by kernel_rfl) ?_
  refine HR.out (by rfl) rfl (by rfl) (by rfl) ?_
  rintro u w' rfl
  simp only [Act.put, List.setIfInBounds_toArray, List.set_cons_zero, List.set_cons_succ]
  go_wp2_with fail
  go_end0
  exact ⟨rfl, _, HT2.out⟩

set_option maxHeartbeats 2000000 in
set_option maxRecDepth 100000 in
theorem trimK1 (w : World) (p : Nat) (D : Ds) (L : Dl) (h : DevM w p D L) (pl : Int) (k : Nat) (hk : IntKind.i64.wrap (pl - (D.kb : Int)) = (k : Nat)) (hl : k ≤ L.ks.len)
    {Q : Exit → Act → World → Prop} {A : Act} (hsz : A.tmps.size = 22) (hdf : A.defers = []) (s0 : A.tmps.getD 0 undef = .pointer (some ⟨p, 3, none⟩)) (s1 : A.tmps.getD 1 undef = .int .i64 pl)
    (hend : ∀ (u : Nat → Value) w', w' = w.drew.setCell ⟨p, 5, none⟩ (L.ks.from_ k).val → Q .normal (((((((((((((((A).put (some 4) (u 4)).put (some 5) (u 5)).put (some 6) (u 6)).put (some 7) (u 7)).put (some 9) (u 9)).put (some 10) (u 10)).put (some 11) (u 11)).put (some 12) (u 12)).put (some 13) (u 13)).put (some 14) (u 14)).put (some 8) (u 8)).put (some 15) (u 15)).put (some 16) (u 16)).put (some 17) (u 17)) w') :
    (Code.region 0 (Pl.find 0 ((Tryz.f92.body).getD .skip)) true).wp Tryz.prog Q A w := by
  have hS1 : (fun w' : World => w'.cell? ⟨p, 4, none⟩ = some (.int .i64 ((D.kb : Nat) : Int))) (w.drew.setCell ⟨p, 5, none⟩ (L.ks.from_ k).val) := by
    have hb := heap_setCell_same w.drew p 5 _ 91 (L.ks.from_ k).val h.drew.blk
    show World.cell? _ _ = _
    rw [Addr.cell0 hb]
    rfl
  have hA := Pl.At.same (v := .int .i64 pl) (d := 1) (Pl.At.same (v := .pointer (some ⟨p, 3, none⟩)) (d := 0) (Pl.At.here hsz hdf) s0) s1
  refine Pl.H.start (S := fun w' => w'.cell? ⟨p, 4, none⟩ = some (.int .i64 ((D.kb : Nat) : Int))) (by kernel_rfl) hA (show (fun w' => w'.cell? ⟨p, 4, none⟩ = some (.int .i64 ((D.kb : Nat) : Int))) w.drew from h.drew.c4) ?_
  rw [show (Pl.find 0 ((Tryz.f92.body).getD .skip)).size = 15 by kernel_rfl]
  refine Pl.H.take 0 4 (.pointer (some ⟨p, 3, none⟩)) (by kernel_rfl) (by kernel_rfl) (by kernel_rfl) (Pl.free 0 (by kernel_rfl)) (Pl.move 0 (.tmp 0) (by kernel_rfl) (by decide)) (show (fun w' => w'.cell? ⟨p, 4, none⟩ = some (.int .i64 ((D.kb : Nat) : Int))) w.drew from h.drew.c4) ?_
  refine Pl.H.take 1 5 (.pointer (some ⟨p, 3, none⟩)) (by kernel_rfl) (by kernel_rfl) (by kernel_rfl) (Pl.free 1 (by kernel_rfl)) (Pl.move 1 (.tmp 0) (by kernel_rfl) (by decide)) (show (fun w' => w'.cell? ⟨p, 4, none⟩ = some (.int .i64 ((D.kb : Nat) : Int))) w.drew from h.drew.c4) ?_
  refine Pl.H.take 2 6 (.pointer (some ⟨p, 3, none⟩)) (by kernel_rfl) (by kernel_rfl) (by kernel_rfl) (Pl.free 2 (by kernel_rfl)) (Pl.nilc 2 (.tmp 5) _ (by kernel_rfl) (by decide) rfl) (show (fun w' => w'.cell? ⟨p, 4, none⟩ = some (.int .i64 ((D.kb : Nat) : Int))) w.drew from h.drew.c4) ?_
  refine Pl.H.take 3 7 (.pointer (some ⟨p, 5, none⟩)) (by kernel_rfl) (by kernel_rfl) (by kernel_rfl) (Pl.free 3 (by kernel_rfl)) (Pl.field 3 87 (.tmp 6) 2 _ (by kernel_rfl) (by decide) (fdDk2_3 p)) (show (fun w' => w'.cell? ⟨p, 4, none⟩ = some (.int .i64 ((D.kb : Nat) : Int))) w.drew from h.drew.c4) ?_
  refine Pl.H.take 5 9 (.int .i64 pl) (by kernel_rfl) (by kernel_rfl) (by kernel_rfl) (Pl.free 5 (by kernel_rfl)) (Pl.move 5 (.tmp 1) (by kernel_rfl) (by decide)) (show (fun w' => w'.cell? ⟨p, 4, none⟩ = some (.int .i64 ((D.kb : Nat) : Int))) w.drew from h.drew.c4) ?_
  refine Pl.H.take 6 10 (.pointer (some ⟨p, 3, none⟩)) (by kernel_rfl) (by kernel_rfl) (by kernel_rfl) (Pl.free 6 (by kernel_rfl)) (Pl.move 6 (.tmp 0) (by kernel_rfl) (by decide)) (show (fun w' => w'.cell? ⟨p, 4, none⟩ = some (.int .i64 ((D.kb : Nat) : Int))) w.drew from h.drew.c4) ?_
  refine Pl.H.take 7 11 (.pointer (some ⟨p, 3, none⟩)) (by kernel_rfl) (by kernel_rfl) (by kernel_rfl) (Pl.free 7 (by kernel_rfl)) (Pl.nilc 7 (.tmp 10) _ (by kernel_rfl) (by decide) rfl) (show (fun w' => w'.cell? ⟨p, 4, none⟩ = some (.int .i64 ((D.kb : Nat) : Int))) w.drew from h.drew.c4) ?_
  refine Pl.H.take 8 12 (.pointer (some ⟨p, 4, none⟩)) (by kernel_rfl) (by kernel_rfl) (by kernel_rfl) (Pl.free 8 (by kernel_rfl)) (Pl.field 8 87 (.tmp 11) 1 _ (by kernel_rfl) (by decide) (fdDk1_3 p)) (show (fun w' => w'.cell? ⟨p, 4, none⟩ = some (.int .i64 ((D.kb : Nat) : Int))) w.drew from h.drew.c4) ?_
  refine Pl.H.take 9 13 (.int .i64 ((D.kb : Nat) : Int)) (by kernel_rfl) (by kernel_rfl) (by kernel_rfl) (Pl.free 9 (by kernel_rfl)) (Pl.load 9 3 (.tmp 12) _ (by kernel_rfl) (by decide) (fun w' hS => ldInt p 4 _ w' hS)) (show (fun w' => w'.cell? ⟨p, 4, none⟩ = some (.int .i64 ((D.kb : Nat) : Int))) w.drew from h.drew.c4) ?_
  refine Pl.H.take 10 14 (.int .i64 ((k : Nat) : Int)) (by kernel_rfl) (by kernel_rfl) (by kernel_rfl) (Pl.free 10 (by kernel_rfl)) (Pl.binV 10 .sub 3 3 (.tmp 9) (.tmp 13) (.int .i64 pl) (.int .i64 ((D.kb : Nat) : Int)) _ (by kernel_rfl) (by decide) (by decide) rfl rfl (fun w => by simp [go_sem, eqGuard, hk])) (show (fun w' => w'.cell? ⟨p, 4, none⟩ = some (.int .i64 ((D.kb : Nat) : Int))) w.drew from h.drew.c4) ?_
  refine Pl.H.solo 4 8 (.slice L.ks.a L.ks.len L.ks.cap) (by kernel_rfl) (by kernel_rfl) (by kernel_rfl) (Pl.free 4 (by kernel_rfl)) (Pl.load1 4 32 (.tmp 7) _ (by kernel_rfl) (by decide) (ldBs p 5 _ _ _ _ h.drew.c5)) (show (fun w' => w'.cell? ⟨p, 4, none⟩ = some (.int .i64 ((D.kb : Nat) : Int))) w.drew from h.drew.c4) ?_
  refine Pl.H.take 11 15 ((L.ks.from_ k).val) (by kernel_rfl) (by kernel_rfl) (by kernel_rfl) (Pl.free 11 (by kernel_rfl)) (Pl.slice 11 32 (.tmp 8) (some (.tmp 14)) none _ (by kernel_rfl) (by decide) (by decide) (by decide) (fun w => slice_from L.ks.a L.ks.len L.ks.cap k hl w)) (show (fun w' => w'.cell? ⟨p, 4, none⟩ = some (.int .i64 ((D.kb : Nat) : Int))) w.drew from h.drew.c4) ?_
  refine Pl.H.take 12 16 (.pointer (some ⟨p, 3, none⟩)) (by kernel_rfl) (by kernel_rfl) (by kernel_rfl) (Pl.free 12 (by kernel_rfl)) (Pl.nilc 12 (.tmp 4) _ (by kernel_rfl) (by decide) rfl) (show (fun w' => w'.cell? ⟨p, 4, none⟩ = some (.int .i64 ((D.kb : Nat) : Int))) w.drew from h.drew.c4) ?_
  refine Pl.H.take 13 17 (.pointer (some ⟨p, 5, none⟩)) (by kernel_rfl) (by kernel_rfl) (by kernel_rfl) (Pl.free 13 (by kernel_rfl)) (Pl.field 13 87 (.tmp 16) 2 _ (by kernel_rfl) (by decide) (fdDk2_3 p)) (show (fun w' => w'.cell? ⟨p, 4, none⟩ = some (.int .i64 ((D.kb : Nat) : Int))) w.drew from h.drew.c4) ?_
  refine Pl.H.store 14 (w.drew.setCell ⟨p, 5, none⟩ (L.ks.from_ k).val) (by kernel_rfl) (by kernel_rfl) (by kernel_rfl) (Pl.free 14 (by kernel_rfl)) (Pl.storeV 14 32 (.tmp 17) (.tmp 15) _ (by kernel_rfl) (by decide) (by decide) (stBs p 5 _ _ w.drew h.drew.c5 (h.drew.fz 5))) hS1 ?_
  refine Pl.H.done (by kernel_rfl) (fun A' hA' => ?_)
  rw [Pl.At.ext hA' ((((((((((((((hA.put 4 _).put 5 _).put 6 _).put 7 _).put 9 _).put 10 _).put 11 _).put 12 _).put 13 _).put 14 _).put 8 _).put 15 _).put 16 _).put 17 _)]
  exact hend (fun d => if d = 4 then .pointer (some ⟨p, 3, none⟩) else if d = 5 then .pointer (some ⟨p, 3, none⟩) else if d = 6 then .pointer (some ⟨p, 3, none⟩) else if d = 7 then .pointer (some ⟨p, 5, none⟩) else if d = 9 then .int .i64 pl else if d = 10 then .pointer (some ⟨p, 3, none⟩) else if d = 11 then .pointer (some ⟨p, 3, none⟩) else if d = 12 then .pointer (some ⟨p, 4, none⟩) else if d = 13 then .int .i64 ((D.kb : Nat) : Int) else if d = 14 then .int .i64 ((k : Nat) : Int) else if d = 8 then .slice L.ks.a L.ks.len L.ks.cap else if d = 15 then (L.ks.from_ k).val else if d = 16 then .pointer (some ⟨p, 3, none⟩) else if d = 17 then .pointer (some ⟨p, 5, none⟩) else undef) _ rfl

set_option maxHeartbeats 1000000 in
theorem trimK (w : World) (p : Nat) (D : Ds) (L : Dl) (h : DevM w p D L) (pl : Nat) (hk : D.kb ≤ pl) (hl : pl ≤ D.kb + D.ks.length) (hm : pl ≤ 1000000000000) : Calls Tryz.prog 92 #[.pointer (some ⟨p, 3, none⟩), .int .i64 ((pl : Nat) : Int)] w fun e w' => e = .returned (.tuple #[]) ∧ ∃ L', Turned w p L w' { D with ks := D.ks.drop (pl - D.kb), kb := pl } L' := by
  have e1 : D.ks.length = L.ks.len := h.len .ks
  have hkl : pl - D.kb ≤ L.ks.len := by omega
  obtain ⟨ho, hbl⟩ := (h.own .ks).from_ hkl
  have hT : Turned w p L (w.drew.setCell ⟨p, 5, none⟩ (L.ks.from_ (pl - D.kb)).val) { D with ks := D.ks.drop (pl - D.kb) } { L with ks := L.ks.from_ (pl - D.kb) } := by
    refine h.swap .ks (L.ks.from_ (pl - D.kb)) (D.ks.drop (pl - D.kb)) ((Frm.refl _ w).drew) ?_ (fun x hx => h.byt .ks x (List.mem_of_mem_drop hx)) (fun k hk => .inl (by rw [← hk]; exact hbl.symm)) 5 _ _ (by rfl) ⟨rfl, rfl⟩ (fun f hf => by cases f <;> first | exact ⟨rfl, rfl⟩ | exact absurd rfl hf) ⟨rfl, rfl⟩ ⟨rfl, rfl⟩
    have e2 : (vals D.ks).drop (pl - D.kb) = vals (D.ks.drop (pl - D.kb)) := by simp [vals, List.map_drop]
    have ho' : Own 5 1 w (L.ks.from_ (pl - D.kb)) (vals (D.ks.drop (pl - D.kb))) := by rw [← e2]; exact ho
    exact ho'.frame fun _ _ => rfl
  have HT := hide hT
  have hT2 := hT.trans (Turned.cell (hT.dev.turn { D with ks := D.ks.drop (pl - D.kb), kb := pl } { L with ks := L.ks.from_ (pl - D.kb) } 4 (.int .i64 ((pl : Nat) : Int)) (by rfl) (fun f => by cases f <;> exact ⟨rfl, rfl⟩) ⟨rfl, rfl⟩ ⟨rfl, rfl⟩) ((Frm.refl (fun k => k = p) _).setCell (p := ⟨p, 4, none⟩) rfl _))
  have HT2 := hide hT2
  have HR : Hid (∀ {Q : Exit → Act → World → Prop} {A : Act}, _) := fun {Q A} => trimK1 w p D L h ((pl : Nat) : Int) (pl - D.kb) (by rw [IntKind.wrap_i64]; omega) hkl (Q := Q) (A := A)
  have c1 := hT.dev.c4
  have f1 := hT.dev.fz
  clear hT hT2 h e1 ho hbl
  simp only at c1
  generalize hW : w.drew.setCell ⟨p, 5, none⟩ (L.ks.from_ (pl - D.kb)).val = W at *
  clear hW
  go_enter Tryz.func92, Tryz.ntmps92
  go_wp2_with fail
  refine Pl.region_is (ops := Pl.find 0 ((Tryz.f92.body).getD .skip)) (by kernel_rfl) ?_
  refine HR.out (by rfl) rfl (by rfl) (by rfl) ?_
  rintro u w' rfl
  simp only [Act.put, List.setIfInBounds_toArray, List.set_cons_zero, List.set_cons_succ]
  go_wp2_with fail
  go_end0
  exact ⟨rfl, _, HT2.out⟩

theorem Owns.own {w : World} {base : Nat} {v : Value} {xs : List Nat} (h : Owns w base v xs) : ∃ s : Sl, v = s.val ∧ Own 5 1 w s (vals xs) ∧ s.len = xs.length ∧ ∀ k, s.blk = some k → base ≤ k := by
  rcases h.2 with ⟨hv, h0⟩ | ⟨g, cap, cur, hv, hbg, hg, hle, hm, hcs, htk⟩
  · refine ⟨Sl.nil, hv, ?_, h0.symm, fun k hk => by cases hk⟩
    have : xs = [] := List.eq_nil_of_length_eq_zero h0
    subst this
    exact Own.nil _ _ _
  · refine ⟨⟨some ⟨g, 0, none⟩, xs.length, cap⟩, hv, ⟨by rw [vals_length]; show _ = xs.length * 1; omega, .inr ⟨g, 0, cur, rfl, hg, by show 0 + cap * 1 ≤ _; rw [hcs]; omega, hle, hm, by rw [List.drop_zero]; exact htk⟩⟩, rfl, fun k hk => by cases hk; exact hbg⟩

set_option maxHeartbeats 1000000 in
theorem clone_any (w : World) (a : Option Addr) (len cap : Nat) (xs : List Nat) (h : Came w a len cap xs) (hm : len ≤ 1000000) : Calls Tryz.prog 72 #[.slice a len cap] w fun e w' => Below w.heap.size w w' ∧ ∃ s : Sl, e = .returned s.val ∧ Own 5 1 w' s (vals xs) ∧ s.len = xs.length ∧ ∀ k, s.blk = some k → w.heap.size ≤ k := by
  cases a with
  | none =>
    have hc := h.nil rfl
    have h0 : len = 0 := by have := h.le; omega
    subst hc; subst h0
    have hx : xs = [] := List.eq_nil_of_length_eq_zero h.bs.1
    subst hx
    clear h
    have HN := hide (Own.nil 5 1 w)
    have HB := hide (Below.refl w.heap.size w)
    have he : ∀ w : World, (binOp .eql 32 (.slice none 0 0) (.slice none 0 0)).run Tryz.prog w = .ok (.bool true) w := fun _ => rfl
    go_enter Tryz.func72, Tryz.ntmps72
    go_wp2_with fail
    go_ret
    exact ⟨HB.out, Sl.nil, rfl, HN.out, rfl, fun k hk => by cases hk⟩
  | some ad =>
    have HO : Hid (Owns (w.alloc (.cells #[] 5)) w.heap.size (.slice (some ⟨w.heap.size, 0, none⟩) 0 0) []) := own_new w
    have HA := hide (below_alloc w (.cells #[] 5))
    have HV := hide (h.bs.keep (below_alloc w (.cells #[] 5)) (Nat.le_refl _))
    have HN : Hid (some ad = none → cap = 0) := fun e => by cases e
    have HL : Hid (([] : List Nat).length + len ≤ 1000000) := by show _ ≤ _; simp; omega
    have he : ∀ w : World, (binOp .eql 32 (.slice (some ad) len cap) (.slice none 0 0)).run Tryz.prog w = .ok (.bool false) w := fun _ => rfl
    clear h
    go_enter Tryz.func72, Tryz.ntmps72
    go_wp2_with (at_builtin; refine wpList_append_bytes' _ rfl (.tmp 5) (.tmp 6) rfl w.heap.size _ [] rfl HO.out _ _ _ _ rfl HV.out HN.out HL.out HA.out.size ?_)
    intro v1 w1 ho1 hb1 _
    have HO1 := hide ho1
    have HB1 := hide (HA.out.trans hb1)
    clear ho1 hb1 HO HA HV HN HL
    go_wp2_with fail
    go_ret
    obtain ⟨s, hv, h1, h2, h3⟩ := HO1.out.own
    exact ⟨HB1.out, s, congrArg Ending.returned hv, h1, h2, h3⟩

end Go.Proofs.YtpggkfdnpdhkfaaGreat

namespace Go.Proofs.YtpggkfdnpdhkfaaGreat
open Go.RowKit
set_option maxRecDepth 100000

theorem entClone : ∀ args w, (callFunc 72 args).run Tryz.prog w = .ok (.enter 72 args) w := Pl.enters Tryz.func72 (by kernel_rfl) (by kernel_rfl)
theorem entUnits : ∀ args w, (callFunc 76 args).run Tryz.prog w = .ok (.enter 76 args) w := Pl.enters Tryz.func76 (by kernel_rfl) (by kernel_rfl)
theorem entSpend : ∀ args w, (callFunc 86 args).run Tryz.prog w = .ok (.enter 86 args) w := Pl.enters Tryz.func86 (by kernel_rfl) (by kernel_rfl)
theorem entTrim : ∀ args w, (callFunc 92 args).run Tryz.prog w = .ok (.enter 92 args) w := Pl.enters Tryz.func92 (by kernel_rfl) (by kernel_rfl)

/-- A device's field, as bytes. -/
theorem DevM.came {w : World} {p : Nat} {D : Ds} {L : Dl} (h : DevM w p D L) (f : Fld) : Came w (L.s f).a (L.s f).len (L.s f).cap (D.b f) := (h.own f).came (h.byt f)
theorem below_drew (w : World) : Below w.heap.size w w.drew := (Below.refl _ _).drew

set_option maxHeartbeats 2000000 in
set_option maxRecDepth 100000 in
theorem stream3 (w : World) (p : Nat) (D : Ds) (L : Dl) (h : DevM w p D L) (hm : L.ss.len ≤ 1000000)
    {Q : Exit → Act → World → Prop} {A : Act} (hsz : A.tmps.size = 18) (hdf : A.defers = []) (s0 : A.tmps.getD 0 undef = .pointer (some ⟨p, 0, none⟩))
    (hend : ∀ (u : Nat → Value) w' s, Below w.heap.size w w' → Own 5 1 w' s (vals D.ss) → s.len = D.ss.length → (∀ k, s.blk = some k → w.heap.size ≤ k) → Q .normal ((((((((((((((A).put (some 7) (u 7)).put (some 8) (u 8)).put (some 9) (u 9)).put (some 10) (u 10)).put (some 11) (u 11)).put (some 12) (u 12)).put (some 13) (u 13)).put (some 14) (u 14)).put (some 15) (u 15)).put (some 16) (u 16)).put (some 17) (u 17)).put (some 2) (.int .i64 ((D.sb : Nat) : Int))).put (some 3) (s.val)) w') :
    (Code.region 3 (Pl.find 3 ((Tryz.f29.body).getD .skip)) true).wp Tryz.prog Q A w := by
  have hA := Pl.At.same (v := .pointer (some ⟨p, 0, none⟩)) (d := 0) (Pl.At.here hsz hdf) s0
  refine Pl.H.start (S := fun w' => DevM w' p D L) (by kernel_rfl) hA h.drew ?_
  rw [show (Pl.find 3 ((Tryz.f29.body).getD .skip)).size = 13 by kernel_rfl]
  refine Pl.H.take 0 7 (.pointer (some ⟨p, 0, none⟩)) (by kernel_rfl) (by kernel_rfl) (by kernel_rfl) (Pl.free 0 (by kernel_rfl)) (Pl.move 0 (.tmp 0) (by kernel_rfl) (by decide)) h.drew ?_
  refine Pl.H.take 1 8 (.pointer (some ⟨p, 0, none⟩)) (by kernel_rfl) (by kernel_rfl) (by kernel_rfl) (Pl.free 1 (by kernel_rfl)) (Pl.nilc 1 (.tmp 7) _ (by kernel_rfl) (by decide) rfl) h.drew ?_
  refine Pl.H.take 2 9 (.pointer (some ⟨p, 0, none⟩)) (by kernel_rfl) (by kernel_rfl) (by kernel_rfl) (Pl.free 2 (by kernel_rfl)) (Pl.field 2 91 (.tmp 8) 0 _ (by kernel_rfl) (by decide) (fdDev0_0 p)) h.drew ?_
  refine Pl.H.take 3 10 (.pointer (some ⟨p, 1, none⟩)) (by kernel_rfl) (by kernel_rfl) (by kernel_rfl) (Pl.free 3 (by kernel_rfl)) (Pl.field 3 87 (.tmp 9) 1 _ (by kernel_rfl) (by decide) (fdDk1_0 p)) h.drew ?_
  refine Pl.H.take 4 11 (.int .i64 ((D.sb : Nat) : Int)) (by kernel_rfl) (by kernel_rfl) (by kernel_rfl) (Pl.free 4 (by kernel_rfl)) (Pl.load 4 3 (.tmp 10) _ (by kernel_rfl) (by decide) (fun w' hS => ldInt p 1 _ w' hS.c1)) h.drew ?_
  refine Pl.H.take 5 12 (.pointer (some ⟨p, 0, none⟩)) (by kernel_rfl) (by kernel_rfl) (by kernel_rfl) (Pl.free 5 (by kernel_rfl)) (Pl.move 5 (.tmp 0) (by kernel_rfl) (by decide)) h.drew ?_
  refine Pl.H.take 6 13 (.pointer (some ⟨p, 0, none⟩)) (by kernel_rfl) (by kernel_rfl) (by kernel_rfl) (Pl.free 6 (by kernel_rfl)) (Pl.nilc 6 (.tmp 12) _ (by kernel_rfl) (by decide) rfl) h.drew ?_
  refine Pl.H.take 7 14 (.pointer (some ⟨p, 0, none⟩)) (by kernel_rfl) (by kernel_rfl) (by kernel_rfl) (Pl.free 7 (by kernel_rfl)) (Pl.field 7 91 (.tmp 13) 0 _ (by kernel_rfl) (by decide) (fdDev0_0 p)) h.drew ?_
  refine Pl.H.take 8 15 (.pointer (some ⟨p, 2, none⟩)) (by kernel_rfl) (by kernel_rfl) (by kernel_rfl) (Pl.free 8 (by kernel_rfl)) (Pl.field 8 87 (.tmp 14) 2 _ (by kernel_rfl) (by decide) (fdDk2_0 p)) h.drew ?_
  refine Pl.H.take 9 16 (.slice L.ss.a L.ss.len L.ss.cap) (by kernel_rfl) (by kernel_rfl) (by kernel_rfl) (Pl.free 9 (by kernel_rfl)) (Pl.load 9 32 (.tmp 15) _ (by kernel_rfl) (by decide) (fun w' hS => ldBs p 2 _ _ _ w' hS.c2)) h.drew ?_
  refine Pl.H.call 10 17 72 [(.tmp 16)] #[32] (by kernel_rfl) (by kernel_rfl) (by kernel_rfl) (Pl.free 10 (by kernel_rfl)) (by kernel_rfl) (by decide) entClone (Calls.mono (clone_any w.drew _ _ _ _ (h.drew.came .ss) hm) ?_)
  rintro e w2 ⟨hb2, s2, rfl, ho2, hl2, hk2⟩
  refine ⟨s2.val, rfl, (h.drew.keep hb2), ?_⟩
  refine Pl.H.take 11 2 (.int .i64 ((D.sb : Nat) : Int)) (by kernel_rfl) (by kernel_rfl) (by kernel_rfl) (Pl.free 11 (by kernel_rfl)) (Pl.assign 11 (.tmp 11) (by kernel_rfl) (by decide)) (h.drew.keep hb2) ?_
  refine Pl.H.take 12 3 (s2.val) (by kernel_rfl) (by kernel_rfl) (by kernel_rfl) (Pl.free 12 (by kernel_rfl)) (Pl.assign 12 (.tmp 17) (by kernel_rfl) (by decide)) (h.drew.keep hb2) ?_
  refine Pl.H.done (by kernel_rfl) (fun A' hA' => ?_)
  rw [Pl.At.ext hA' (((((((((((((hA.put 7 _).put 8 _).put 9 _).put 10 _).put 11 _).put 12 _).put 13 _).put 14 _).put 15 _).put 16 _).put 17 _).put 2 _).put 3 _)]
  exact hend (fun d => if d = 7 then .pointer (some ⟨p, 0, none⟩) else if d = 8 then .pointer (some ⟨p, 0, none⟩) else if d = 9 then .pointer (some ⟨p, 0, none⟩) else if d = 10 then .pointer (some ⟨p, 1, none⟩) else if d = 11 then .int .i64 ((D.sb : Nat) : Int) else if d = 12 then .pointer (some ⟨p, 0, none⟩) else if d = 13 then .pointer (some ⟨p, 0, none⟩) else if d = 14 then .pointer (some ⟨p, 0, none⟩) else if d = 15 then .pointer (some ⟨p, 2, none⟩) else if d = 16 then .slice L.ss.a L.ss.len L.ss.cap else if d = 17 then s2.val else undef) w2 s2 ((below_drew w).trans hb2) ho2 hl2 hk2

theorem Sw.cells_length (x : Sw) (h : x.b.length = 128) : x.cells.length = 129 := by simp [Sw.cells, vals_length, h]
theorem swCells_length : ∀ l : List Sw, (∀ x ∈ l, x.b.length = 128) → (swCells l).length = l.length * 129
  | [], _ => rfl
  | x :: r, h => by
    have := swCells_length r (fun y hy => h y (by simp [hy]))
    simp only [swCells, List.flatMap_cons, List.length_append, List.length_cons] at *
    rw [this, x.cells_length (h x (by simp))]
    omega
theorem DevM.lenW {w : World} {p : Nat} {D : Ds} {L : Dl} (h : DevM w p D L) (hw : ∀ x ∈ D.wr, x.b.length = 128) : D.wr.length = L.wr.len := by have := h.wr.1; rw [swCells_length _ hw] at this; omega

set_option maxHeartbeats 2000000 in
theorem stream_any (w : World) (p : Nat) (D : Ds) (L : Dl) (h : DevM w p D L) (n : Nat) (hn : D.sp.length = 512 * n) (hn2 : n ≤ 64) (hn1 : 1 ≤ n) (hm : D.ss.length ≤ 1000000) : Calls Tryz.prog 29 #[at0 p] w fun e w' => Below w.heap.size w w' ∧ ∃ s : Sl, e = .returned (.tuple #[.int .i64 ((D.sb : Nat) : Int), s.val]) ∧ Own 5 1 w' s (vals D.ss) ∧ s.len = D.ss.length ∧ ∀ k, s.blk = some k → w.heap.size ≤ k := by
  have HG := hide (given_any w p D L h n hn hn2 hn1)
  have hm' : L.ss.len ≤ 1000000 := by have : D.ss.length = L.ss.len := h.len .ss; omega
  have HR : Hid (∀ {Q : Exit → Act → World → Prop} {A : Act}, _) := fun {Q A} => stream3 w p D L h hm' (Q := Q) (A := A)
  clear h hn hm hm'
  unfold at0 at *
  go_enter Tryz.func29, Tryz.ntmps29
  go_wp2_with fail
  refine HG.out.mono ?_
  rintro e w' ⟨rfl, hw⟩
  obtain rfl := hw.symm
  go_wp2_with fail
  refine Pl.region_is (ops := Pl.find 3 ((Tryz.f29.body).getD .skip)) (by kernel_rfl) ?_
  refine HR.out (by rfl) rfl (by rfl) ?_
  intro u w' s hb ho hl hk
  simp only [Act.put, List.setIfInBounds_toArray, List.set_cons_zero, List.set_cons_succ]
  have HB := hide hb
  have HO := hide ho
  have HL := hide hl
  have HK := hide hk
  clear hb ho hl hk
  go_wp2_with fail
  go_ret2
  exact ⟨HB.out, s, rfl, HO.out, HL.out, HK.out⟩

/-- A slice's part, from a place up to one. -/
def Sl.mid (s : Sl) (k l : Nat) : Sl := ⟨fromA s.a s.cap k, l - k, s.cap - k⟩
theorem slice_mid (a : Option Addr) (len cap k l : Nat) (hk : k ≤ l) (hl : l ≤ cap) (w : World) : (Instr.sliceAt 32 (.slice a len cap) (some (.int .i64 (k : Nat))) (some (.int .i64 (l : Nat))) none).run Tryz.prog w = .ok (.slice (fromA a cap k) (l - k) (cap - k)) w := by
  have h22 : Tryz.prog.underlying 32 = some (.slice (Tryz.prog.elem 32)) := by kernel_rfl
  rw [run_sliceAt_slice w 32 _ _ _ _ h22, run_slice_lh w 32 a len cap h22 .i64 .i64 (k : Nat) (l : Nat) (by omega) (by omega) (by omega), elem22, sz5]
  simp [Result.andThen, sliced, fromA]
theorem Came.mid {w : World} {s : Sl} {xs : List Nat} (h : Came w s.a s.len s.cap xs) (k l : Nat) (hk : k ≤ l) (hl : l ≤ s.len) : Came w (s.mid k l).a (s.mid k l).len (s.mid k l).cap ((xs.drop k).take (l - k)) := by
  have hle := h.le
  have h1 := h.bs.from (cap := s.cap) (k := k) (by omega) h.le
  refine ⟨⟨?_, fun x hx => h1.2.1 x (List.mem_of_mem_take hx), fun i hi => ?_⟩, ?_, ?_, ?_⟩
  · have := h.bs.1
    show ((xs.drop k).take (l - k)).length = l - k
    simp only [List.length_take, List.length_drop]
    omega
  · have hi' : i < l - k := hi
    obtain ⟨b, off, e, hc⟩ := h1.2.2 i (by omega)
    refine ⟨b, off, e, ?_⟩
    rw [hc]
    simp [List.getD, hi']
  · intro e
    have e' : fromA s.a s.cap k = none := e
    show s.cap - k = 0
    unfold fromA at e'
    split at e'
    · omega
    · cases hs : s.a with
      | none => have := h.nil hs; omega
      | some x => rw [hs] at e'; cases e'
  · show l - k ≤ s.cap - k
    omega
  · have := h.big
    show l - k ≤ _
    omega

set_option maxHeartbeats 2000000 in
theorem read_any (w : World) (p : Nat) (D : Ds) (L : Dl) (h : DevM w p D L) (n : Nat) (hn : D.sp.length = 512 * n) (hn2 : n ≤ 64) (k : Nat) (hk : k < n) : Calls Tryz.prog 34 #[at0 p, .int .i64 ((k : Nat) : Int)] w fun e w' => Below w.heap.size w w' ∧ ∃ s : Sl, e = .returned (.tuple #[s.val, .int .i64 0]) ∧ Own 5 1 w' s (vals ((D.sp.drop (512 * k)).take 512)) ∧ s.len = 512 ∧ ∀ k, s.blk = some k → w.heap.size ≤ k := by
  have HG := hide (has_any w p D L h n hn hn2 ((k : Nat) : Int))
  rw [decide_eq_true (show 0 ≤ ((k : Nat) : Int) ∧ ((k : Nat) : Int) < ((n : Nat) : Int) by omega)] at HG
  have hsl : L.sp.len = 512 * n := by have : D.sp.length = L.sp.len := h.len .sp; omega
  have hlc := (h.own .sp).lecap
  have hlc' : L.sp.len ≤ L.sp.cap := hlc
  have hmid := slice_mid L.sp.a L.sp.len L.sp.cap (512 * k) (512 * k + 512) (by omega) (by omega)
  have e0 : 512 * k + 512 - 512 * k = 512 := by omega
  have HC := hide (clone_any w _ _ _ _ ((h.came .sp).mid (512 * k) (512 * k + 512) (by omega) (by show _ ≤ L.sp.len; omega)) (by show 512 * k + 512 - 512 * k ≤ _; omega))
  have c0 := h.c0
  rw [e0] at hmid HC
  have hlen : ((D.sp.drop (512 * k)).take 512).length = 512 := by simp only [List.length_take, List.length_drop]; omega
  unfold Sl.mid Dl.s Ds.b at HC
  simp only at HC
  rw [e0, hlen] at HC
  clear hlen e0
  rw [show (((512 * k : Nat)) : Int) = 512 * ((k : Nat) : Int) by omega, show (((512 * k + 512 : Nat)) : Int) = 512 * ((k : Nat) : Int) + 512 by omega] at hmid
  have hw1 : IntKind.i64.wrap (((k : Nat) : Int) * 512) = 512 * ((k : Nat) : Int) := by rw [IntKind.wrap_i64]; omega
  have hw2 : IntKind.i64.wrap (512 * ((k : Nat) : Int) + 512) = 512 * ((k : Nat) : Int) + 512 := by rw [IntKind.wrap_i64]; omega
  clear h hn hlc hlc' hsl
  unfold at0 at *
  go_enter Tryz.func34, Tryz.ntmps34
  go_wp2_with fail
  refine HG.out.mono ?_
  rintro e w' ⟨rfl, hw⟩
  obtain rfl := hw.symm
  go_wp2_with fail
  refine HC.out.mono ?_
  rintro e w' ⟨hb, s, rfl, ho, hl, hk2⟩
  have HB := hide hb
  have HO := hide ho
  have HL := hide hl
  have HK := hide hk2
  clear hb ho hl hk2
  go_wp2_with fail
  go_ret2
  exact ⟨HB.out, s, rfl, HO.out, HL.out, HK.out⟩

end Go.Proofs.YtpggkfdnpdhkfaaGreat
