/-
  The document's device: a part is done.
-/
import Derived.Test.YtokdeilcfkobfaaDevH
namespace Go.Proofs.Ytokdeilcfkobfaa
open Go.RowKit
variable {K : Home}

/-- A device laid over a device. -/
def setDv (w : World) (p : Nat) (k0 : Value) (k1 : Int) (k2 : Value) (n0 : Value) (n1 : Int) (n2 : Value) (d : Value) (g : Bool) (a : Int) : World := (((((((((w.setCell ⟨p, 0, none⟩ (k0)).setCell ⟨p, 1, none⟩ (.int .i64 k1)).setCell ⟨p, 2, none⟩ (k2)).setCell ⟨p, 3, none⟩ (n0)).setCell ⟨p, 4, none⟩ (.int .i64 n1)).setCell ⟨p, 5, none⟩ (n2)).setCell ⟨p, 6, none⟩ (d)).setCell ⟨p, 7, none⟩ (.bool g)).setCell ⟨p, 8, none⟩ (.int .i64 a))
theorem setDv_size (w : World) (p : Nat) (k0 : Value) (k1 : Int) (k2 : Value) (n0 : Value) (n1 : Int) (n2 : Value) (d : Value) (g : Bool) (a : Int) : (setDv w p k0 k1 k2 n0 n1 n2 d g a).heap.size = w.heap.size := by simp only [setDv, setCell_size]
theorem setDv_blk {w : World} {p : Nat} {k0' k2' n0' n2' d' : Value} {k1' n1' a' : Int} {g' : Bool} (h : DvBlk w p k0' k1' k2' n0' n1' n2' d' g' a') (k0 : Value) (k1 : Int) (k2 : Value) (n0 : Value) (n1 : Int) (n2 : Value) (d : Value) (g : Bool) (a : Int) : DvBlk (setDv w p k0 k1 k2 n0 n1 n2 d g a) p k0 k1 k2 n0 n1 n2 d g a := by
  have h1 := heap_setCell_same w p 0 _ 35 (k0) h
  have h2 := heap_setCell_same _ p 1 _ 35 (.int .i64 k1) h1
  have h3 := heap_setCell_same _ p 2 _ 35 (k2) h2
  have h4 := heap_setCell_same _ p 3 _ 35 (n0) h3
  have h5 := heap_setCell_same _ p 4 _ 35 (.int .i64 n1) h4
  have h6 := heap_setCell_same _ p 5 _ 35 (n2) h5
  have h7 := heap_setCell_same _ p 6 _ 35 (d) h6
  have h8 := heap_setCell_same _ p 7 _ 35 (.bool g) h7
  have h9 := heap_setCell_same _ p 8 _ 35 (.int .i64 a) h8
  unfold DvBlk setDv
  rw [h9]
  simp
theorem setDv_below {B p : Nat} {w0 w : World} (hb : Below B w0 w) (hg : B ≤ p) (k0 : Value) (k1 : Int) (k2 : Value) (n0 : Value) (n1 : Int) (n2 : Value) (d : Value) (g : Bool) (a : Int) : Below B w0 (setDv w p k0 k1 k2 n0 n1 n2 d g a) :=
  (((((((((hb.setCell (p := ⟨p, 0, none⟩) hg _).setCell (p := ⟨p, 1, none⟩) hg _).setCell (p := ⟨p, 2, none⟩) hg _).setCell (p := ⟨p, 3, none⟩) hg _).setCell (p := ⟨p, 4, none⟩) hg _).setCell (p := ⟨p, 5, none⟩) hg _).setCell (p := ⟨p, 6, none⟩) hg _).setCell (p := ⟨p, 7, none⟩) hg _).setCell (p := ⟨p, 8, none⟩) hg _)
theorem setDv_other (w : World) (p : Nat) (k0 : Value) (k1 : Int) (k2 : Value) (n0 : Value) (n1 : Int) (n2 : Value) (d : Value) (g : Bool) (a : Int) (k : Nat) (hk : k ≠ p) : (setDv w p k0 k1 k2 n0 n1 n2 d g a).heap[k]? = w.heap[k]? := by
  unfold setDv
  rw [Below.heap_setCell _ ⟨p, 8, none⟩ _ k hk, Below.heap_setCell _ ⟨p, 7, none⟩ _ k hk, Below.heap_setCell _ ⟨p, 6, none⟩ _ k hk, Below.heap_setCell _ ⟨p, 5, none⟩ _ k hk, Below.heap_setCell _ ⟨p, 4, none⟩ _ k hk, Below.heap_setCell _ ⟨p, 3, none⟩ _ k hk, Below.heap_setCell _ ⟨p, 2, none⟩ _ k hk, Below.heap_setCell _ ⟨p, 1, none⟩ _ k hk, Below.heap_setCell _ ⟨p, 0, none⟩ _ k hk]

/-- What is seen is laid anew. -/
def setNow (w : World) (p : Nat) (n0 : Value) (n1 : Int) (n2 : Value) : World := (((w.setCell ⟨p, 3, none⟩ (n0)).setCell ⟨p, 4, none⟩ (.int .i64 n1)).setCell ⟨p, 5, none⟩ (n2))
theorem setNow_size (w : World) (p : Nat) (n0 : Value) (n1 : Int) (n2 : Value) : (setNow w p n0 n1 n2).heap.size = w.heap.size := by simp only [setNow, setCell_size]
theorem setNow_blk {w : World} {p : Nat} {k0' k2' n0' n2' d' : Value} {k1' n1' a' : Int} {g' : Bool} (h : DvBlk w p k0' k1' k2' n0' n1' n2' d' g' a') (n0 : Value) (n1 : Int) (n2 : Value) : DvBlk (setNow w p n0 n1 n2) p k0' k1' k2' n0 n1 n2 d' g' a' := by
  have h1 := heap_setCell_same w p 3 _ 35 (n0) h
  have h2 := heap_setCell_same _ p 4 _ 35 (.int .i64 n1) h1
  have h3 := heap_setCell_same _ p 5 _ 35 (n2) h2
  unfold DvBlk setNow
  rw [h3]
  simp
theorem setNow_below {B p : Nat} {w0 w : World} (hb : Below B w0 w) (hg : B ≤ p) (n0 : Value) (n1 : Int) (n2 : Value) : Below B w0 (setNow w p n0 n1 n2) :=
  (((hb.setCell (p := ⟨p, 3, none⟩) hg _).setCell (p := ⟨p, 4, none⟩) hg _).setCell (p := ⟨p, 5, none⟩) hg _)
theorem setNow_other (w : World) (p : Nat) (n0 : Value) (n1 : Int) (n2 : Value) (k : Nat) (hk : k ≠ p) : (setNow w p n0 n1 n2).heap[k]? = w.heap[k]? := by
  unfold setNow
  rw [Below.heap_setCell _ ⟨p, 5, none⟩ _ k hk, Below.heap_setCell _ ⟨p, 4, none⟩ _ k hk, Below.heap_setCell _ ⟨p, 3, none⟩ _ k hk]
theorem DvBlk.other {w w' : World} {p : Nat} {k0' k2' n0' n2' d' : Value} {k1' n1' a' : Int} {g' : Bool} (h : DvBlk w p k0' k1' k2' n0' n1' n2' d' g' a') (hk : w'.heap[p]? = w.heap[p]?) : DvBlk w' p k0' k1' k2' n0' n1' n2' d' g' a' := hk.trans h
theorem PtBlk.other {w w' : World} {p : Nat} {a o : Int} {x : Value} {t : Bool} (h : PtBlk w p a x t o) (hk : w'.heap[p]? = w.heap[p]?) : PtBlk w' p a x t o := hk.trans h

theorem dv_results {fn : Func} {x : Nat} (hr : fn.results = #[.cell x 35]) {W : World} {p : Nat} {d : Dv} {L : DvL} (h : DvBlk W p L.kp.val d.kept.base L.ks.val L.np.val d.now.base L.ns.val L.ds.val d.gone d.armed) (tmps : Array Value) (ht : tmps.getD x undef = .pointer (some ⟨p, 0, none⟩)) : (results fn tmps).run Try.prog W = .ok (d.val L) W := by
  have c0 := h.c0
  have c1 := h.c1
  have c2 := h.c2
  have c3 := h.c3
  have c4 := h.c4
  have c5 := h.c5
  have c6 := h.c6
  have c7 := h.c7
  have c8 := h.c8
  unfold Sl.val at c0 c2 c3 c5 c6
  have ht2 : tmps[x]?.getD undef = .pointer (some ⟨p, 0, none⟩) := by simpa using ht
  simp [results, hr, ht2, go_sem, c0, c1, c2, c3, c4, c5, c6, c7, c8, Dv.val, Sl.val]
theorem dv_end {fn : Func} {x : Nat} (hres : fn.results = #[.cell x 35]) {W : World} {p : Nat} {k0' k2' n0' n2' d' : Value} {k1' n1' a' : Int} {g' : Bool} (h : DvBlk W p k0' k1' k2' n0' n1' n2' d' g' a') (d : Dv) (L : DvL) {A : Act} {R : Ending → World → Prop} (t2 : A.tmps.getD x undef = .pointer (some ⟨p, 0, none⟩)) (hd : A.defers = [])
    (hR : R (.returned (d.val L)) (setDv W p L.kp.val d.kept.base L.ks.val L.np.val d.now.base L.ns.val L.ds.val d.gone d.armed)) : bodyPost Try.prog fn R Exit.ret A (setDv W p L.kp.val d.kept.base L.ks.val L.np.val d.now.base L.ns.val L.ds.val d.gone d.armed) := by
  have hr := setDv_blk h L.kp.val d.kept.base L.ks.val L.np.val d.now.base L.ns.val L.ds.val d.gone d.armed
  generalize setDv W p L.kp.val d.kept.base L.ks.val L.np.val d.now.base L.ns.val L.ds.val d.gone d.armed = W' at *
  exact bodyPost_ret (dv_results hres hr _ t2) hd hR

/-- Bytes in blocks that a store leaves alone. -/
theorem BsS.off {w w' : World} {p : Nat} {s : Sl} {xs : List Nat} (h : BsS K w s xs) (hp : ∀ o i, w.cell? ⟨p, o, none⟩ ≠ some (.int .u8 i)) (ho : ∀ k, k ≠ p → w'.heap[k]? = w.heap[k]?) (hs : w.heap.size ≤ w'.heap.size := by first | (simp only [setCell_size, Nat.le_refl]; done) | (simp only [setDk_size, setCell_size, Nat.le_refl]; done) | (simp only [setPt_size, setDk_size, setCell_size, Nat.le_refl]; done) | (simp only [setNow_size, setDv_size, setPt_size, setDk_size, setCell_size, Nat.le_refl]; done)) : BsS K w' s xs := h.other hp ho hs
theorem DvBlk.no8 {w : World} {p : Nat} {s0 s2 s3 s5 s6 : Sl} {k1' n1' a' : Int} {g' : Bool} (h : DvBlk w p s0.val k1' s2.val s3.val n1' s5.val s6.val g' a') : ∀ o i, w.cell? ⟨p, o, none⟩ ≠ some (.int .u8 i) := by
  intro o i
  unfold DvBlk Sl.val at h
  rcases o with _ | _ | _ | _ | _ | _ | _ | _ | _ | o <;> simp [World.cell?, h]

end Go.Proofs.Ytokdeilcfkobfaa
