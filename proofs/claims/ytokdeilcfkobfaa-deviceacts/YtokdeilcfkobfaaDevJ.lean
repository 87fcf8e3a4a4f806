/-
  The document's device: a part is done.
-/
import Derived.Test.YtokdeilcfkobfaaDevI
namespace Go.Proofs.Ytokdeilcfkobfaa
open Go.RowKit
variable {K : Home}

theorem DkIn.other {w w' : World} {d : Dk} {p s : Sl} {g : Nat} (h : DkIn K w d p s) (hg : ∀ o i, w.cell? ⟨g, o, none⟩ ≠ some (.int .u8 i)) (ho : ∀ k, k ≠ g → w'.heap[k]? = w.heap[k]?) (hs : w.heap.size ≤ w'.heap.size := by first | (simp only [setCell_size, Nat.le_refl]; done) | (simp only [setDk_size, setCell_size, Nat.le_refl]; done) | (simp only [setPt_size, setDk_size, setCell_size, Nat.le_refl]; done) | (simp only [setNow_size, setDv_size, setPt_size, setDk_size, setCell_size, Nat.le_refl]; done)) : DkIn K w' d p s := ⟨h.pg.other hg ho hs, h.st.other hg ho hs⟩

/-- Where a part is done: three blocks, and what lies in them. -/
structure DoIn (w W : World) (d : Dv) (L : DvL) (u : Pt) (q : Sl) : Prop where
  below : Below w.heap.size w W
  size : W.heap.size = w.heap.size + 1 + 1 + 1
  dv : DvBlk W w.heap.size L.kp.val d.kept.base L.ks.val L.np.val d.now.base L.ns.val L.ds.val d.gone d.armed
  pt : PtBlk W (w.heap.size + 1) u.at_ q.val u.trim u.to
  zero : DvBlk W (w.heap.size + 1 + 1) Sl.nil.val 0 Sl.nil.val Sl.nil.val 0 Sl.nil.val Sl.nil.val false 0

def doW (w : World) (d : Dv) (L : DvL) (u : Pt) (q : Sl) : World :=
  ((w.alloc (.cells #[L.kp.val, .int .i64 d.kept.base, L.ks.val, L.np.val, .int .i64 d.now.base, L.ns.val, L.ds.val, .bool d.gone, .int .i64 d.armed] 35)).alloc (.cells #[.int .i64 u.at_, q.val, .bool u.trim, .int .i64 u.to] 81)).alloc (.cells #[Sl.nil.val, .int .i64 0, Sl.nil.val, Sl.nil.val, .int .i64 0, Sl.nil.val, Sl.nil.val, .bool false, .int .i64 0] 35)

theorem doIn_new (w : World) (d : Dv) (L : DvL) (u : Pt) (q : Sl) : DoIn w (doW w d L u q) d L u q := by
  unfold doW
  refine ⟨rBelow (below_two w _ _) (below_alloc _ _), by simp, ?_, ?_, ?_⟩
  · exact ((dvBlk_new w _ _ _ _ _ _ _ _ _).keep (below_alloc _ _)).keep (below_alloc _ _)
  · have := (ptBlk_new (w.alloc (.cells #[L.kp.val, .int .i64 d.kept.base, L.ks.val, L.np.val, .int .i64 d.now.base, L.ns.val, L.ds.val, .bool d.gone, .int .i64 d.armed] 35)) u.at_ q.val u.trim u.to).keep (below_alloc _ (.cells #[Sl.nil.val, .int .i64 0, Sl.nil.val, Sl.nil.val, .int .i64 0, Sl.nil.val, Sl.nil.val, .bool false, .int .i64 0] 35))
    simpa using this
  · have := dvBlk_new ((w.alloc (.cells #[L.kp.val, .int .i64 d.kept.base, L.ks.val, L.np.val, .int .i64 d.now.base, L.ns.val, L.ds.val, .bool d.gone, .int .i64 d.armed] 35)).alloc (.cells #[.int .i64 u.at_, q.val, .bool u.trim, .int .i64 u.to] 81)) Sl.nil.val 0 Sl.nil.val Sl.nil.val 0 Sl.nil.val Sl.nil.val false 0
    simpa using this

set_option maxHeartbeats 4000000 in
set_option maxRecDepth 100000 in
theorem do_gone (d : Dv) (L : DvL) (u : Pt) (q : Sl) (w : World) (h : DvIn K w d L) (hu : BsS K w q u.b) (hf : Fits d.now u) (hg : d.gone = true) :
    Calls Try.prog 34 #[d.val L, u.val q] w fun e w' => Below w.heap.size w w' ∧ ∃ L', e = .returned (Dv.val ⟨d.kept, d.now.turn u, d.done, true, d.armed⟩ L') ∧ DvIn K w' ⟨d.kept, d.now.turn u, d.done, true, d.armed⟩ L' := by
  have HT : Hid (∀ w', Below w.heap.size w w' → Calls Try.prog 41 #[d.now.val L.np L.ns, u.val q] w' fun e w2 => Below w'.heap.size w' w2 ∧ ∃ p' s', e = .returned ((d.now.turn u).val p' s') ∧ DkIn K w2 (d.now.turn u) p' s') := fun w' hb => turn_any d.now L.np L.ns u q w' (h.now.keep hb (Nat.le_refl _)) (hu.keep hb (Nat.le_refl _)) hf
  have HI := hide (doIn_new w d L u q)
  have HE : Hid (doW w d L u q = doW w d L u q) := rfl
  unfold doW at HE
  have H := hide h
  generalize hW : doW w d L u q = W at HI
  have HWE := hide hW
  unfold doW at HWE
  obtain ⟨kept, now, done, gone, armed⟩ := d
  simp only at hg
  subst hg
  clear h hu hf hW HE
  generalize hnt : now.turn u = nt at HT ⊢
  clear hnt
  unfold Dk.val Pt.val Sl.val at HT
  unfold Sl.nil Sl.val at HWE
  unfold Dv.val Pt.val Sl.val
  simp only at HT HWE ⊢
  go_enter Try.func34, Try.ntmps34
  go_wp2_with fail
  rw [HWE.out]
  refine (HT.out W HI.out.below).mono ?_
  rintro e w1 ⟨hb1, p1, s1, rfl, hin1⟩
  have hD1 := HI.out.dv.keep hb1
  have hZ1 := HI.out.zero.keep hb1
  have hD2 := setNow_blk hD1 p1.val nt.base s1.val
  have hZ2 := hZ1.other (setNow_other w1 w.heap.size p1.val nt.base s1.val (w.heap.size + 1 + 1) (by omega))
  have HB1 := hide (rBelow HI.out.below hb1)
  have HIN := hide hin1
  have HD1 := hide hD1
  have HZ2 := hide hZ2
  unfold setNow at hD2 hZ2
  unfold Sl.nil at hZ2
  unfold Sl.val at hD1 hD2 hZ2
  simp only at hD1 hD2 hZ2
  have c3 := hD1.c3
  have c4 := hD1.c4
  have c5 := hD1.c5
  have f1 := hD1.fz
  have d0 := hD2.c0
  have d1 := hD2.c1
  have d2 := hD2.c2
  have d3 := hD2.c3
  have d4 := hD2.c4
  have d5 := hD2.c5
  have d6 := hD2.c6
  have d7 := hD2.c7
  have d8 := hD2.c8
  have z0 := hZ2.c0
  have z1 := hZ2.c1
  have z2 := hZ2.c2
  have z3 := hZ2.c3
  have z4 := hZ2.c4
  have z5 := hZ2.c5
  have z6 := hZ2.c6
  have z7 := hZ2.c7
  have z8 := hZ2.c8
  have fz := hZ2.fz
  clear hb1 hD1 hZ1 hD2 hZ2 hin1
  go_wp2_with fail
  show bodyPost Try.prog Try.f34 _ Exit.ret _ (setDv (setNow w1 w.heap.size p1.val nt.base s1.val) (w.heap.size + 1 + 1) L.kp.val kept.base L.ks.val p1.val nt.base s1.val L.ds.val true armed)
  refine dv_end rfl HZ2.out ⟨kept, nt, done, true, armed⟩ ⟨L.kp, L.ks, p1, s1, L.ds⟩ (by rfl) rfl ?_
  have hbb := setDv_below (setNow_below HB1.out (Nat.le_refl _) p1.val nt.base s1.val) (show w.heap.size ≤ w.heap.size + 1 + 1 by omega) L.kp.val kept.base L.ks.val p1.val nt.base s1.val L.ds.val true armed
  refine ⟨hbb, ⟨L.kp, L.ks, p1, s1, L.ds⟩, rfl, H.out.kept.keep hbb (Nat.le_refl _), ?_, H.out.done.keep hbb (Nat.le_refl _), H.out.nil, H.out.le⟩
  exact (HIN.out.other HD1.out.no8 fun k hk => setNow_other _ _ _ _ _ k hk).other HZ2.out.no8 fun k hk => setDv_other _ _ _ _ _ _ _ _ _ _ _ k hk

end Go.Proofs.Ytokdeilcfkobfaa
