/-
  The document's device: disks, parts of what is done, and what its small functions hand back.
-/
import Derived.Test.YtokdeilcfkobfaaBytes
import Derived.Test.YtokdeilcfkobfaaPlan
import Derived.Test.YtokdeilcfkobfaaVals
namespace Go.Proofs.Ytokdeilcfkobfaa
open Go.RowKit

theorem rBelow {a b c : World} (h : Below a.heap.size a b) (k : Below b.heap.size b c) : Below a.heap.size a c := h.trans (k.mono h.size)

theorem below_two (w : World) (o o' : Obj) : Below w.heap.size w ((w.alloc o).alloc o') :=
  (below_alloc w o).trans ((below_alloc (w.alloc o) o').mono (below_alloc w o).size)

/-- A slice, as its parts. -/
structure Sl where
  a : Option Addr
  len : Nat
  cap : Nat
def Sl.val (s : Sl) : Value := .slice s.a s.len s.cap
def Sl.nil : Sl := ⟨none, 0, 0⟩

/-- Where bytes may lie: in blocks of some kind; from one on all are. -/
structure Home where
  G : Nat → Prop
  low : Nat
  all : ∀ k, low ≤ k → G k
variable {K : Home}
/-- The bytes xs lie where the slice leads, in a block where they may. -/
structure BsS (K : Home) (w : World) (s : Sl) (xs : List Nat) : Prop where
  came : Came w s.a s.len s.cap xs
  low : K.low ≤ w.heap.size
  home : 0 < s.len → ∀ ad, s.a = some ad → K.G ad.block
theorem BsS.bs {w : World} {s : Sl} {xs : List Nat} (h : BsS K w s xs) : Bs w s.a s.len xs := h.came.bs
theorem BsS.nil {w : World} {s : Sl} {xs : List Nat} (h : BsS K w s xs) : s.a = none → s.cap = 0 := h.came.nil
theorem BsS.le {w : World} {s : Sl} {xs : List Nat} (h : BsS K w s xs) : s.len ≤ s.cap := h.came.le
theorem BsS.big {w : World} {s : Sl} {xs : List Nat} (h : BsS K w s xs) : s.len ≤ 9223372036854775807 := h.came.big

theorem BsS.keep {w w' : World} {B : Nat} {s : Sl} {xs : List Nat} (h : BsS K w s xs) (hb : Below B w w') (hB : w.heap.size ≤ B) : BsS K w' s xs := ⟨⟨h.bs.keep hb hB, h.nil, h.le, h.big⟩, Nat.le_trans h.low hb.size, h.home⟩
theorem BsS.len {w : World} {s : Sl} {xs : List Nat} (h : BsS K w s xs) : xs.length = s.len := h.bs.1

/-- A disk: its pages, where its stream begins, its stream. -/
structure Dk where
  pg : List Nat
  base : Int
  st : List Nat
def Dk.val (d : Dk) (p s : Sl) : Value := .agg #[p.val, .int .i64 d.base, s.val]
structure DkIn (K : Home) (w : World) (d : Dk) (p s : Sl) : Prop where
  pg : BsS K w p d.pg
  st : BsS K w s d.st

theorem DkIn.keep {w w' : World} {B : Nat} {d : Dk} {p s : Sl} (h : DkIn K w d p s) (hb : Below B w w') (hB : w.heap.size ≤ B) : DkIn K w' d p s := ⟨h.pg.keep hb hB, h.st.keep hb hB⟩

/-- Some of what was done. -/
structure Pt where
  at_ : Int
  b : List Nat
  trim : Bool
  to : Int
def Pt.val (u : Pt) (s : Sl) : Value := .agg #[.int .i64 u.at_, s.val, .bool u.trim, .int .i64 u.to]
/-- How many units a part has. -/
def Pt.size (u : Pt) : Nat := if u.at_ < 0 ∧ u.trim = false then u.b.length else 1

set_option maxHeartbeats 1000000 in
theorem size_any (u : Pt) (s : Sl) (w : World) (h : BsS K w s u.b) : Calls Try.prog 43 #[u.val s] w fun e w' => e = .returned (.int .i64 (u.size : Nat)) ∧ Below w.heap.size w w' := by
  obtain ⟨at_, b, trim, to⟩ := u
  obtain ⟨a, len, cap⟩ := s
  have HL := hide h.len
  have HW : Hid (∀ o, Below w.heap.size w (w.alloc o)) := below_alloc w
  clear h
  unfold Pt.val Sl.val
  simp only at HL ⊢
  by_cases h0 : at_ < 0
  · cases trim
    · have e : Pt.size ⟨at_, b, false, to⟩ = len := by simp [Pt.size, h0, HL.out]
      rw [e]
      go_enter Try.func43, Try.ntmps43
      go_wp2_with fail
      go_ret
      exact ⟨rfl, HW.out _⟩
    · have e : Pt.size ⟨at_, b, true, to⟩ = 1 := by simp [Pt.size]
      rw [e]
      go_enter Try.func43, Try.ntmps43
      go_wp2_with fail
      go_ret
      exact ⟨rfl, HW.out _⟩
  · have e : Pt.size ⟨at_, b, trim, to⟩ = 1 := by simp [Pt.size, h0]
    rw [e]
    go_enter Try.func43, Try.ntmps43
    go_wp2_with fail
    go_ret
    exact ⟨rfl, HW.out _⟩

/-- A disk in a block of its own. -/
def DkBlk (w : World) (p : Nat) (x : Value) (b : Int) (y : Value) : Prop := w.heap[p]? = some (Obj.cells #[x, .int .i64 b, y] 32 (0, 0))
theorem DkBlk.keep {w w' : World} {p : Nat} {x y : Value} {b : Int} (h : DkBlk w p x b y) (hb : Below w.heap.size w w') : DkBlk w' p x b y := (hb.block p (Array.getElem?_eq_some_iff.1 h).1).trans h
theorem DkBlk.c0 {w : World} {p : Nat} {x y : Value} {b : Int} (h : DkBlk w p x b y) : w.cell? ⟨p, 0, none⟩ = some x := by unfold DkBlk at h; simp [World.cell?, h]
theorem DkBlk.c1 {w : World} {p : Nat} {x y : Value} {b : Int} (h : DkBlk w p x b y) : w.cell? ⟨p, 1, none⟩ = some (.int .i64 b) := by unfold DkBlk at h; simp [World.cell?, h]
theorem DkBlk.c2 {w : World} {p : Nat} {x y : Value} {b : Int} (h : DkBlk w p x b y) : w.cell? ⟨p, 2, none⟩ = some y := by unfold DkBlk at h; simp [World.cell?, h]
theorem DkBlk.fz {w : World} {p : Nat} {x y : Value} {b : Int} (h : DkBlk w p x b y) (o : Nat) : w.frozen? ⟨p, o, none⟩ = false := frozen_of_row w p _ _ 32 h
theorem dkBlk_new (w : World) (x : Value) (b : Int) (y : Value) : DkBlk (w.alloc (.cells #[x, .int .i64 b, y] 32)) w.heap.size x b y := heap_alloc_new w _

/-- A disk laid over a disk. -/
def setDk (w : World) (g : Nat) (x : Value) (b : Int) (y : Value) : World := ((w.setCell ⟨g, 0, none⟩ x).setCell ⟨g, 1, none⟩ (.int .i64 b)).setCell ⟨g, 2, none⟩ y
theorem setCell_size (w : World) (a : Addr) (u : Value) : (w.setCell a u).heap.size = w.heap.size := by simp [World.setCell]
theorem setDk_size (w : World) (g : Nat) (x : Value) (b : Int) (y : Value) : (setDk w g x b y).heap.size = w.heap.size := by simp only [setDk, setCell_size]
theorem setDk_blk {w : World} {g : Nat} {x0 y0 : Value} {b0 : Int} (h : DkBlk w g x0 b0 y0) (x : Value) (b : Int) (y : Value) : DkBlk (setDk w g x b y) g x b y := by
  have h1 := heap_setCell_same w g 0 _ 32 x h
  have h2 := heap_setCell_same _ g 1 _ 32 (.int .i64 b) h1
  have h3 := heap_setCell_same _ g 2 _ 32 y h2
  unfold DkBlk setDk
  rw [h3]
  simp
theorem setDk_below {B g : Nat} {w0 w : World} (hb : Below B w0 w) (hg : B ≤ g) (x : Value) (b : Int) (y : Value) : Below B w0 (setDk w g x b y) :=
  ((hb.setCell (p := ⟨g, 0, none⟩) hg _).setCell (p := ⟨g, 1, none⟩) hg _).setCell (p := ⟨g, 2, none⟩) hg _
theorem setDk_other (w : World) (g : Nat) (x : Value) (b : Int) (y : Value) (k : Nat) (hk : k ≠ g) : (setDk w g x b y).heap[k]? = w.heap[k]? := by
  unfold setDk
  rw [Below.heap_setCell _ ⟨g, 2, none⟩ _ k hk, Below.heap_setCell _ ⟨g, 1, none⟩ _ k hk, Below.heap_setCell _ ⟨g, 0, none⟩ _ k hk]

theorem dk_results {fn : Func} {x : Nat} (hr : fn.results = #[.cell x 32]) {W : World} {g : Nat} {p s : Sl} {d : Dk} (h : DkBlk W g p.val d.base s.val) (tmps : Array Value) (ht : tmps.getD x undef = .pointer (some ⟨g, 0, none⟩)) : (results fn tmps).run Try.prog W = .ok (d.val p s) W := by
  have c0 := h.c0
  have c1 := h.c1
  have c2 := h.c2
  unfold Sl.val at c0 c2
  have ht2 : tmps[x]?.getD undef = .pointer (some ⟨g, 0, none⟩) := by simpa using ht
  simp [results, hr, ht2, go_sem, c0, c1, c2, Dk.val, Sl.val]

theorem dk_end {fn : Func} {x : Nat} (hres : fn.results = #[.cell x 32]) {W : World} {g : Nat} {x0 y0 : Value} {b0 : Int} (h : DkBlk W g x0 b0 y0) (d : Dk) (p s : Sl) {A : Act} {R : Ending → World → Prop} (t2 : A.tmps.getD x undef = .pointer (some ⟨g, 0, none⟩)) (hd : A.defers = [])
    (hR : R (.returned (d.val p s)) (setDk W g p.val d.base s.val)) : bodyPost Try.prog fn R Exit.ret A (setDk W g p.val d.base s.val) := by
  have hr := setDk_blk h p.val d.base s.val
  generalize setDk W g p.val d.base s.val = W' at *
  exact bodyPost_ret (dk_results hres hr _ t2) hd hR

theorem Owns.sl {w : World} {base : Nat} {v : Value} {xs : List Nat} (h : Owns w base v xs) (hx : Bytes xs) (hm : xs.length ≤ 1000000) (hK : K.low ≤ base) (hw : K.low ≤ w.heap.size) : ∃ s : Sl, v = s.val ∧ BsS K w s xs := by
  obtain ⟨a, cap, hv, hbs, hn⟩ := h.bs hx
  refine ⟨⟨a, xs.length, cap⟩, hv, ⟨hbs, hn, ?_, by show xs.length ≤ _; omega⟩, hw, fun h0 ad ha => ?_⟩
  rotate_left
  · obtain ⟨g, cp, hv', hg, _⟩ := h.pos h0
    rw [hv] at hv'
    simp only [Value.slice.injEq] at hv'
    have ha' : a = some ad := ha
    rw [hv'.1] at ha'
    obtain rfl := Option.some.inj ha'
    exact K.all _ (Nat.le_trans hK hg)
  rcases h.2 with ⟨hv', h0'⟩ | ⟨g, cp, cur, hv', _, _, hle, _⟩
  · show xs.length ≤ cap
    rw [h0']; exact Nat.zero_le _
  · rw [hv] at hv'
    simp only [Value.slice.injEq] at hv'
    show xs.length ≤ cap
    rw [hv'.2.2]; exact hle

end Go.Proofs.Ytokdeilcfkobfaa
