/-
  The document's device: bytes follow in the stream.
-/
import Derived.Test.YtokdeilcfkobfaaDevM
namespace Go.Proofs.Ytokdeilcfkobfaa
open Go.RowKit
variable {K : Home}

theorem dv_results2 {fn : Func} {x y : Nat} (hr : fn.results = #[.cell x 35, .tmp y]) {W : World} {p : Nat} {d : Dv} {L : DvL} {v : Value} (h : DvBlk W p L.kp.val d.kept.base L.ks.val L.np.val d.now.base L.ns.val L.ds.val d.gone d.armed) (tmps : Array Value) (ht : tmps.getD x undef = .pointer (some ⟨p, 0, none⟩)) (hv : tmps.getD y undef = v) : (results fn tmps).run Try.prog W = .ok (.tuple #[d.val L, v]) W := by
  have c0 := h.c0
  have c1 := h.c1
  have c2 := h.c2
  have c3 := h.c3
  have c4 := h.c4
  have c5 := h.c5
  have c6 := h.c6
  have c7 := h.c7
  have c8 := h.c8
  unfold Sl.val at c0 c2 c3 c5 c6
  have ht2 : tmps[x]?.getD undef = .pointer (some ⟨p, 0, none⟩) := by simpa using ht
  have hv2 : tmps[y]?.getD undef = v := by simpa using hv
  simp [results, hr, ht2, hv2, go_sem, c0, c1, c2, c3, c4, c5, c6, c7, c8, Dv.val, Sl.val]
theorem dv_end2 {fn : Func} {x y : Nat} (hres : fn.results = #[.cell x 35, .tmp y]) {W : World} {p : Nat} {k0' k2' n0' n2' d' : Value} {k1' n1' a' : Int} {g' : Bool} (h : DvBlk W p k0' k1' k2' n0' n1' n2' d' g' a') (d : Dv) (L : DvL) (v : Value) {A : Act} {R : Ending → World → Prop} (t2 : A.tmps.getD x undef = .pointer (some ⟨p, 0, none⟩)) (t3 : A.tmps.getD y undef = v) (hd : A.defers = [])
    (hR : R (.returned (.tuple #[d.val L, v])) (setDv W p L.kp.val d.kept.base L.ks.val L.np.val d.now.base L.ns.val L.ds.val d.gone d.armed)) : bodyPost Try.prog fn R Exit.ret A (setDv W p L.kp.val d.kept.base L.ks.val L.np.val d.now.base L.ns.val L.ds.val d.gone d.armed) := by
  have hr := setDv_blk h L.kp.val d.kept.base L.ks.val L.np.val d.now.base L.ns.val L.ds.val d.gone d.armed
  generalize setDv W p L.kp.val d.kept.base L.ks.val L.np.val d.now.base L.ns.val L.ds.val d.gone d.armed = W' at *
  exact bodyPost_ret (dv_results2 hres hr _ t2 t3) hd hR

/-- The device is boxed, and a place for what is handed back is made. -/
def twoW (w : World) (d : Dv) (L : DvL) : World :=
  (w.alloc (.cells #[L.kp.val, .int .i64 d.kept.base, L.ks.val, L.np.val, .int .i64 d.now.base, L.ns.val, L.ds.val, .bool d.gone, .int .i64 d.armed] 35)).alloc (.cells #[Sl.nil.val, .int .i64 0, Sl.nil.val, Sl.nil.val, .int .i64 0, Sl.nil.val, Sl.nil.val, .bool false, .int .i64 0] 35)
structure TwoIn (w W : World) (d : Dv) (L : DvL) : Prop where
  below : Below w.heap.size w W
  dv : DvBlk W w.heap.size L.kp.val d.kept.base L.ks.val L.np.val d.now.base L.ns.val L.ds.val d.gone d.armed
  zero : DvBlk W (w.heap.size + 1) Sl.nil.val 0 Sl.nil.val Sl.nil.val 0 Sl.nil.val Sl.nil.val false 0
theorem twoIn_new (w : World) (d : Dv) (L : DvL) : TwoIn w (twoW w d L) d L := by
  unfold twoW
  refine ⟨below_two w _ _, ?_, ?_⟩
  · exact (dvBlk_new w _ _ _ _ _ _ _ _ _).keep (below_alloc _ _)
  · have := dvBlk_new (w.alloc (.cells #[L.kp.val, .int .i64 d.kept.base, L.ks.val, L.np.val, .int .i64 d.now.base, L.ns.val, L.ds.val, .bool d.gone, .int .i64 d.armed] 35)) Sl.nil.val 0 Sl.nil.val Sl.nil.val 0 Sl.nil.val Sl.nil.val false 0
    simpa using this

theorem PtS.ok.other {w w' : World} {i : PtS} {g : Nat} (h : PtS.ok K w i) (hg : ∀ o x, w.cell? ⟨g, o, none⟩ ≠ some (.int .u8 x)) (ho : ∀ k, k ≠ g → w'.heap[k]? = w.heap[k]?) (hs : w.heap.size ≤ w'.heap.size := by first | (simp only [setCell_size, Nat.le_refl]; done) | (simp only [setDk_size, setCell_size, Nat.le_refl]; done) | (simp only [setPt_size, setDk_size, setCell_size, Nat.le_refl]; done) | (simp only [setNow_size, setDv_size, setPt_size, setDk_size, setCell_size, Nat.le_refl]; done)) : PtS.ok K w' i := ⟨h.1.other hg ho hs, h.2⟩

/-- A block that holds a device is no block of a row of parts. -/
theorem Ps.otherDv {w w' : World} {a : Option Addr} {len : Nat} {l : List PtS} {p : Nat} {s0 s2 s3 s5 s6 : Sl} {k1 n1 am : Int} {g : Bool} (h : Ps K w a len l) (hd : DvBlk w p s0.val k1 s2.val s3.val n1 s5.val s6.val g am) (ho : ∀ k, k ≠ p → w'.heap[k]? = w.heap[k]?) (hs : w.heap.size ≤ w'.heap.size := by first | (simp only [setCell_size, Nat.le_refl]; done) | (simp only [setDk_size, setCell_size, Nat.le_refl]; done) | (simp only [setPt_size, setDk_size, setCell_size, Nat.le_refl]; done) | (simp only [setNow_size, setDv_size, setPt_size, setDk_size, setCell_size, Nat.le_refl]; done)) : Ps K w' a len l := by
  refine ⟨h.1, fun i hi => (h.2.1 i hi).other hd.no8 ho hs, fun j hj => ?_⟩
  obtain ⟨b, off, ha, c0, c1, c2, c3, C4, fr4, c4⟩ := h.2.2 j hj
  have hne : b ≠ p := by
    intro e
    subst e
    generalize off + j * 4 = o at c0 c1 c2 c3
    unfold DvBlk Sl.val at hd
    rcases o with _ | _ | _ | _ | _ | _ | _ | _ | _ | o <;> simp [World.cell?, hd] at c0 c1 c2 c3 <;> simp [Sl.val] at c1
  have hc : ∀ o, w'.cell? ⟨b, o, none⟩ = w.cell? ⟨b, o, none⟩ := by
    intro o
    simp only [World.cell?]
    rw [ho b hne]
  exact ⟨b, off, ha, (hc _).trans c0, (hc _).trans c1, (hc _).trans c2, (hc _).trans c3, C4, fr4, (ho b hne).trans c4⟩
theorem DvIn.otherDv {w w' : World} {d : Dv} {L : DvL} {p : Nat} {s0 s2 s3 s5 s6 : Sl} {k1 n1 am : Int} {g : Bool} (h : DvIn K w d L) (hd : DvBlk w p s0.val k1 s2.val s3.val n1 s5.val s6.val g am) (ho : ∀ k, k ≠ p → w'.heap[k]? = w.heap[k]?) (hs : w.heap.size ≤ w'.heap.size := by first | (simp only [setCell_size, Nat.le_refl]; done) | (simp only [setDk_size, setCell_size, Nat.le_refl]; done) | (simp only [setPt_size, setDk_size, setCell_size, Nat.le_refl]; done) | (simp only [setNow_size, setDv_size, setPt_size, setDk_size, setCell_size, Nat.le_refl]; done)) : DvIn K w' d L := ⟨h.kept.other hd.no8 ho hs, h.now.other hd.no8 ho hs, h.done.otherDv hd ho hs, h.nil, h.le⟩

set_option maxHeartbeats 4000000 in
set_option maxRecDepth 100000 in
theorem refAppend_any (d : Dv) (L : DvL) (q : Sl) (b : List Nat) (w : World) (h : DvIn K w d L) (hu : BsS K w q b) (hb : b.length ≤ 1000) (hst : d.now.st.length ≤ 10000) (hpg : d.now.pg.length ≤ 100000) (hm : d.armed ≤ 9223372036854775807) (hdl : d.done.length ≤ 1000) :
    Calls Try.prog 17 #[d.val L, q.val] w fun e w' => Below w.heap.size w w' ∧ ∃ d' L', e = .returned (.tuple #[d'.val L', .int .i64 0]) ∧ DvIn K w' d' L' ∧ d'.abs = d.abs.act ⟨-1, b, false, 0⟩ := by
  have HDO : Hid (∀ w', Below w.heap.size w w' → Calls Try.prog 34 #[d.val L, Pt.val ⟨-1, b, false, 0⟩ q] w' fun e w2 => Below w'.heap.size w' w2 ∧ ∃ d' L', e = .returned (d'.val L') ∧ DvIn K w2 d' L' ∧ d'.abs = d.abs.act ⟨-1, b, false, 0⟩) := fun w' hw => do_any d L ⟨-1, b, false, 0⟩ q w' (h.keep hw (Nat.le_refl _)) (hu.keep hw (Nat.le_refl _)) ⟨hpg, by omega, hb, (fun x => by simp at x), (fun _ x => by cases x), rfl⟩ rfl hm hdl
  have HI := hide (twoIn_new w d L)
  generalize hW : twoW w d L = W at HI
  have HWE := hide hW
  unfold twoW at HWE
  have l1 := h.now.st.len
  have l2 := hu.len
  have hlt : ¬ (65536 - (L.ns.len : Int) < (q.len : Int)) := by omega
  have hlt' : (q.len : Int) ≤ 65536 - (L.ns.len : Int) := by omega
  have hns : L.ns.len ≤ 10000 := by omega
  clear h hu hb hst hpg hm hdl hW l1 l2 hlt
  generalize d.abs.act ⟨-1, b, false, 0⟩ = da at HDO ⊢
  unfold Dv.val Pt.val Sl.val at HDO
  unfold Sl.nil Sl.val at HWE
  unfold Dv.val Sl.val
  simp only at HDO HWE ⊢
  go_enter Try.func17, Try.ntmps17
  go_wp2_with fail
  rw [HWE.out]
  refine (HDO.out W HI.out.below).mono ?_
  rintro e w1 ⟨hb1, d1, L1, rfl, hin1, ha1⟩
  have hZ2 := HI.out.zero.keep hb1
  have HZ2 := hide hZ2
  have HB1 := hide (rBelow HI.out.below hb1)
  have HIN := hide hin1
  have HA := hide ha1
  unfold Sl.nil Sl.val at hZ2
  simp only at hZ2
  have z0 := hZ2.c0
  have z1 := hZ2.c1
  have z2 := hZ2.c2
  have z3 := hZ2.c3
  have z4 := hZ2.c4
  have z5 := hZ2.c5
  have z6 := hZ2.c6
  have z7 := hZ2.c7
  have z8 := hZ2.c8
  have fz := hZ2.fz
  clear hb1 hin1 ha1 hZ2
  go_wp2_with fail
  show bodyPost Try.prog Try.f17 _ Exit.ret _ (setDv w1 (w.heap.size + 1) L1.kp.val d1.kept.base L1.ks.val L1.np.val d1.now.base L1.ns.val L1.ds.val d1.gone d1.armed)
  refine dv_end2 rfl HZ2.out d1 L1 (.int .i64 0) (by rfl) (by rfl) rfl ?_
  have hbb := setDv_below HB1.out (show w.heap.size ≤ w.heap.size + 1 by omega) L1.kp.val d1.kept.base L1.ks.val L1.np.val d1.now.base L1.ns.val L1.ds.val d1.gone d1.armed
  exact ⟨hbb, d1, L1, rfl, HIN.out.otherDv HZ2.out fun k hk => setDv_other _ _ _ _ _ _ _ _ _ _ _ k hk, HA.out⟩

end Go.Proofs.Ytokdeilcfkobfaa
