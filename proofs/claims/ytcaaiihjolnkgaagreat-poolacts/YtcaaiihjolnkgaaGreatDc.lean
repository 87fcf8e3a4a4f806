/-
  The document's device: bytes follow in the stream.
  The document's device: the stream is forgotten ahead of a place.
  The document's device: Sync and Arm.
  The document's device: Seen, Pending.
  The document's device: Crash.
  The document's device: Write.
  The document's device: Write, whole.
-/
import Derived.Test.YtcaaiihjolnkgaaGreatDb
import Derived.Test.YtcaaiihjolnkgaaGreatBd
namespace Go.Proofs.YtcaaiihjolnkgaaGreat
open Go.RowKit
set_option maxRecDepth 100000
variable {K : Home}

theorem dv_results2 {fn : Func} {x y : Nat} (hr : fn.results = #[.cell x 37, .tmp y]) {W : World} {p : Nat} {d : Dv} {L : DvL} {v : Value} (h : DvBlk W p L.kp.val d.kept.base L.ks.val L.np.val d.now.base L.ns.val L.ds.val d.gone d.armed) (tmps : Array Value) (ht : tmps.getD x undef = .pointer (some ⟨p, 0, none⟩)) (hv : tmps.getD y undef = v) : (results fn tmps).run Tryz.prog W = .ok (.tuple #[d.val L, v]) W := by
  have c0 := h.c0
  have c1 := h.c1
  have c2 := h.c2
  have c3 := h.c3
  have c4 := h.c4
  have c5 := h.c5
  have c6 := h.c6
  have c7 := h.c7
  have c8 := h.c8
  unfold Sl.val at c0 c2 c3 c5 c6
  have ht2 : tmps[x]?.getD undef = .pointer (some ⟨p, 0, none⟩) := by simpa using ht
  have hv2 : tmps[y]?.getD undef = v := by simpa using hv
  simp [results, hr, ht2, hv2, go_sem, c0, c1, c2, c3, c4, c5, c6, c7, c8, Dv.val, Sl.val]
theorem dv_end2 {fn : Func} {x y : Nat} (hres : fn.results = #[.cell x 37, .tmp y]) {W : World} {p : Nat} {k0' k2' n0' n2' d' : Value} {k1' n1' a' : Int} {g' : Bool} (h : DvBlk W p k0' k1' k2' n0' n1' n2' d' g' a') (d : Dv) (L : DvL) (v : Value) {A : Act} {R : Ending → World → Prop} (t2 : A.tmps.getD x undef = .pointer (some ⟨p, 0, none⟩)) (t3 : A.tmps.getD y undef = v) (hd : A.defers = [])
    (hR : R (.returned (.tuple #[d.val L, v])) (setDv W p L.kp.val d.kept.base L.ks.val L.np.val d.now.base L.ns.val L.ds.val d.gone d.armed)) : bodyPost Tryz.prog fn R Exit.ret A (setDv W p L.kp.val d.kept.base L.ks.val L.np.val d.now.base L.ns.val L.ds.val d.gone d.armed) := by
  have hr := setDv_blk h L.kp.val d.kept.base L.ks.val L.np.val d.now.base L.ns.val L.ds.val d.gone d.armed
  generalize setDv W p L.kp.val d.kept.base L.ks.val L.np.val d.now.base L.ns.val L.ds.val d.gone d.armed = W' at *
  exact bodyPost_ret (dv_results2 hres hr _ t2 t3) hd hR

/-- The device is boxed, and a place for what is handed back is made. -/
def twoW (w : World) (d : Dv) (L : DvL) : World :=
  (w.alloc (.cells #[L.kp.val, .int .i64 d.kept.base, L.ks.val, L.np.val, .int .i64 d.now.base, L.ns.val, L.ds.val, .bool d.gone, .int .i64 d.armed] 37)).alloc (.cells #[Sl.nil.val, .int .i64 0, Sl.nil.val, Sl.nil.val, .int .i64 0, Sl.nil.val, Sl.nil.val, .bool false, .int .i64 0] 37)
structure TwoIn (w W : World) (d : Dv) (L : DvL) : Prop where
  below : Below w.heap.size w W
  dv : DvBlk W w.heap.size L.kp.val d.kept.base L.ks.val L.np.val d.now.base L.ns.val L.ds.val d.gone d.armed
  zero : DvBlk W (w.heap.size + 1) Sl.nil.val 0 Sl.nil.val Sl.nil.val 0 Sl.nil.val Sl.nil.val false 0
theorem twoIn_new (w : World) (d : Dv) (L : DvL) : TwoIn w (twoW w d L) d L := by
  unfold twoW
  refine ⟨below_two w _ _, ?_, ?_⟩
  · exact (dvBlk_new w _ _ _ _ _ _ _ _ _).keep (below_alloc _ _)
  · have := dvBlk_new (w.alloc (.cells #[L.kp.val, .int .i64 d.kept.base, L.ks.val, L.np.val, .int .i64 d.now.base, L.ns.val, L.ds.val, .bool d.gone, .int .i64 d.armed] 37)) Sl.nil.val 0 Sl.nil.val Sl.nil.val 0 Sl.nil.val Sl.nil.val false 0
    simpa using this

theorem PtS.ok.other {w w' : World} {i : PtS} {g : Nat} (h : PtS.ok K w i) (hg : ∀ o x, w.cell? ⟨g, o, none⟩ ≠ some (.int .u8 x)) (ho : ∀ k, k ≠ g → w'.heap[k]? = w.heap[k]?) (hs : w.heap.size ≤ w'.heap.size := by first | (simp only [setCell_size, Nat.le_refl]; done) | (simp only [setDk_size, setCell_size, Nat.le_refl]; done) | (simp only [setPt_size, setDk_size, setCell_size, Nat.le_refl]; done) | (simp only [setNow_size, setDv_size, setPt_size, setDk_size, setCell_size, Nat.le_refl]; done)) : PtS.ok K w' i := ⟨h.1.other hg ho hs, h.2⟩

/-- A block that holds a device is no block of a row of parts. -/
theorem Ps.otherDv {w w' : World} {a : Option Addr} {len : Nat} {l : List PtS} {p : Nat} {s0 s2 s3 s5 s6 : Sl} {k1 n1 am : Int} {g : Bool} (h : Ps K w a len l) (hd : DvBlk w p s0.val k1 s2.val s3.val n1 s5.val s6.val g am) (ho : ∀ k, k ≠ p → w'.heap[k]? = w.heap[k]?) (hs : w.heap.size ≤ w'.heap.size := by first | (simp only [setCell_size, Nat.le_refl]; done) | (simp only [setDk_size, setCell_size, Nat.le_refl]; done) | (simp only [setPt_size, setDk_size, setCell_size, Nat.le_refl]; done) | (simp only [setNow_size, setDv_size, setPt_size, setDk_size, setCell_size, Nat.le_refl]; done)) : Ps K w' a len l := by
  refine ⟨h.1, fun i hi => (h.2.1 i hi).other hd.no8 ho hs, fun j hj => ?_⟩
  obtain ⟨b, off, ha, c0, c1, c2, c3, C4, fr4, c4⟩ := h.2.2 j hj
  have hne : b ≠ p := by
    intro e
    subst e
    generalize off + j * 4 = o at c0 c1 c2 c3
    unfold DvBlk Sl.val at hd
    rcases o with _ | _ | _ | _ | _ | _ | _ | _ | _ | o <;> simp [World.cell?, hd] at c0 c1 c2 c3 <;> simp [Sl.val] at c1
  have hc : ∀ o, w'.cell? ⟨b, o, none⟩ = w.cell? ⟨b, o, none⟩ := by
    intro o
    simp only [World.cell?]
    rw [ho b hne]
  exact ⟨b, off, ha, (hc _).trans c0, (hc _).trans c1, (hc _).trans c2, (hc _).trans c3, C4, fr4, (ho b hne).trans c4⟩
theorem DvIn.otherDv {w w' : World} {d : Dv} {L : DvL} {p : Nat} {s0 s2 s3 s5 s6 : Sl} {k1 n1 am : Int} {g : Bool} (h : DvIn K w d L) (hd : DvBlk w p s0.val k1 s2.val s3.val n1 s5.val s6.val g am) (ho : ∀ k, k ≠ p → w'.heap[k]? = w.heap[k]?) (hs : w.heap.size ≤ w'.heap.size := by first | (simp only [setCell_size, Nat.le_refl]; done) | (simp only [setDk_size, setCell_size, Nat.le_refl]; done) | (simp only [setPt_size, setDk_size, setCell_size, Nat.le_refl]; done) | (simp only [setNow_size, setDv_size, setPt_size, setDk_size, setCell_size, Nat.le_refl]; done)) : DvIn K w' d L := ⟨h.kept.other hd.no8 ho hs, h.now.other hd.no8 ho hs, h.done.otherDv hd ho hs, h.nil, h.le⟩

set_option maxHeartbeats 4000000 in
set_option maxRecDepth 100000 in
theorem refAppend_any (d : Dv) (L : DvL) (q : Sl) (b : List Nat) (w : World) (h : DvIn K w d L) (hu : BsS K w q b) (hb : b.length ≤ 1000) (hst : d.now.st.length ≤ 10000) (hpg : d.now.pg.length ≤ 100000) (hm : d.armed ≤ 9223372036854775807) (hdl : d.done.length ≤ 1000) :
    Calls Tryz.prog 21 #[d.val L, q.val] w fun e w' => Below w.heap.size w w' ∧ ∃ d' L', e = .returned (.tuple #[d'.val L', .int .i64 0]) ∧ DvIn K w' d' L' ∧ d'.abs = d.abs.act ⟨-1, b, false, 0⟩ := by
  have HDO : Hid (∀ w', Below w.heap.size w w' → Calls Tryz.prog 48 #[d.val L, Pt.val ⟨-1, b, false, 0⟩ q] w' fun e w2 => Below w'.heap.size w' w2 ∧ ∃ d' L', e = .returned (d'.val L') ∧ DvIn K w2 d' L' ∧ d'.abs = d.abs.act ⟨-1, b, false, 0⟩) := fun w' hw => do_any d L ⟨-1, b, false, 0⟩ q w' (h.keep hw (Nat.le_refl _)) (hu.keep hw (Nat.le_refl _)) ⟨hpg, by omega, hb, (fun x => by simp at x), (fun _ x => by cases x), rfl⟩ rfl hm hdl
  have HI := hide (twoIn_new w d L)
  generalize hW : twoW w d L = W at HI
  have HWE := hide hW
  unfold twoW at HWE
  have l1 := h.now.st.len
  have l2 := hu.len
  have hlt : ¬ (65536 - (L.ns.len : Int) < (q.len : Int)) := by omega
  have hlt' : (q.len : Int) ≤ 65536 - (L.ns.len : Int) := by omega
  have hns : L.ns.len ≤ 10000 := by omega
  clear h hu hb hst hpg hm hdl hW l1 l2 hlt
  generalize d.abs.act ⟨-1, b, false, 0⟩ = da at HDO ⊢
  unfold Dv.val Pt.val Sl.val at HDO
  unfold Sl.nil Sl.val at HWE
  unfold Dv.val Sl.val
  simp only at HDO HWE ⊢
  go_enter Tryz.func21, Tryz.ntmps21
  go_wp2_with fail
  rw [HWE.out]
  refine (HDO.out W HI.out.below).mono ?_
  rintro e w1 ⟨hb1, d1, L1, rfl, hin1, ha1⟩
  have hZ2 := HI.out.zero.keep hb1
  have HZ2 := hide hZ2
  have HB1 := hide (rBelow HI.out.below hb1)
  have HIN := hide hin1
  have HA := hide ha1
  unfold Sl.nil Sl.val at hZ2
  simp only at hZ2
  have z0 := hZ2.c0
  have z1 := hZ2.c1
  have z2 := hZ2.c2
  have z3 := hZ2.c3
  have z4 := hZ2.c4
  have z5 := hZ2.c5
  have z6 := hZ2.c6
  have z7 := hZ2.c7
  have z8 := hZ2.c8
  have fz := hZ2.fz
  clear hb1 hin1 ha1 hZ2
  go_wp2_with fail
  show bodyPost Tryz.prog Tryz.f21 _ Exit.ret _ (setDv w1 (w.heap.size + 1) L1.kp.val d1.kept.base L1.ks.val L1.np.val d1.now.base L1.ns.val L1.ds.val d1.gone d1.armed)
  refine dv_end2 rfl HZ2.out d1 L1 (.int .i64 0) (by rfl) (by rfl) rfl ?_
  have hbb := setDv_below HB1.out (show w.heap.size ≤ w.heap.size + 1 by omega) L1.kp.val d1.kept.base L1.ks.val L1.np.val d1.now.base L1.ns.val L1.ds.val d1.gone d1.armed
  exact ⟨hbb, d1, L1, rfl, HIN.out.otherDv HZ2.out fun k hk => setDv_other _ _ _ _ _ _ _ _ _ _ _ k hk, HA.out⟩

end Go.Proofs.YtcaaiihjolnkgaaGreat

namespace Go.Proofs.YtcaaiihjolnkgaaGreat
open Go.RowKit
set_option maxRecDepth 100000
variable {K : Home}

theorem bsS_nil (w : World) (hl : K.low ≤ w.heap.size) : BsS K w Sl.nil [] := ⟨⟨⟨rfl, (fun x hx => by cases hx), (fun i hi => absurd hi (Nat.not_lt_zero i))⟩, (fun _ => rfl), Nat.le_refl _, Nat.zero_le _⟩, hl, fun h => absurd h (Nat.not_lt_zero _)⟩

/-- The device, boxed and handed back as it is. -/
theorem same_new (w : World) (d : Dv) (L : DvL) : DvBlk ((w.alloc (.cells #[L.kp.val, .int .i64 d.kept.base, L.ks.val, L.np.val, .int .i64 d.now.base, L.ns.val, L.ds.val, .bool d.gone, .int .i64 d.armed] 37)).alloc (.cells #[L.kp.val, .int .i64 d.kept.base, L.ks.val, L.np.val, .int .i64 d.now.base, L.ns.val, L.ds.val, .bool d.gone, .int .i64 d.armed] 37)) (w.heap.size + 1) L.kp.val d.kept.base L.ks.val L.np.val d.now.base L.ns.val L.ds.val d.gone d.armed := by
  have := dvBlk_new (w.alloc (.cells #[L.kp.val, .int .i64 d.kept.base, L.ks.val, L.np.val, .int .i64 d.now.base, L.ns.val, L.ds.val, .bool d.gone, .int .i64 d.armed] 37)) L.kp.val d.kept.base L.ks.val L.np.val d.now.base L.ns.val L.ds.val d.gone d.armed
  simpa using this

end Go.Proofs.YtcaaiihjolnkgaaGreat

namespace Go.Proofs.YtcaaiihjolnkgaaGreat
open Go.RowKit
set_option maxRecDepth 100000
variable {K : Home}

theorem next_new (w : World) (o : Obj) (k0 : Value) (k1 : Int) (k2 n0 : Value) (n1 : Int) (n2 dd : Value) (g : Bool) (a : Int) : DvBlk ((w.alloc o).alloc (.cells #[k0, .int .i64 k1, k2, n0, .int .i64 n1, n2, dd, .bool g, .int .i64 a] 37)) (w.heap.size + 1) k0 k1 k2 n0 n1 n2 dd g a := by
  have := dvBlk_new (w.alloc o) k0 k1 k2 n0 n1 n2 dd g a
  simpa using this

def Dv.sync (d : Dv) : Dv := if d.gone = true then d else ⟨d.now, d.now, [], false, d.armed⟩
set_option maxHeartbeats 4000000 in
set_option maxRecDepth 100000 in
theorem refSync_any (d : Dv) (L : DvL) (w : World) (h : DvIn K w d L) :
    Calls Tryz.prog 24 #[d.val L] w fun e w' => Below w.heap.size w w' ∧ ∃ L', e = .returned (d.sync.val L') ∧ DvIn K w' d.sync L' := by
  have H := hide h
  clear h
  cases hg : d.gone
  · have e : d.sync = ⟨d.now, d.now, [], false, d.armed⟩ := by unfold Dv.sync; rw [if_neg (by rw [hg]; decide)]
    rw [e]
    obtain ⟨kept, now, done, gone, armed⟩ := d
    simp only at hg
    subst hg
    have HI := hide (next_new w (.cells #[L.kp.val, .int .i64 kept.base, L.ks.val, L.np.val, .int .i64 now.base, L.ns.val, L.ds.val, .bool false, .int .i64 armed] 37) L.np.val now.base L.ns.val L.np.val now.base L.ns.val Sl.nil.val false armed)
    have HB := hide (below_two w (.cells #[L.kp.val, .int .i64 kept.base, L.ks.val, L.np.val, .int .i64 now.base, L.ns.val, L.ds.val, .bool false, .int .i64 armed] 37) (.cells #[L.np.val, .int .i64 now.base, L.ns.val, L.np.val, .int .i64 now.base, L.ns.val, Sl.nil.val, .bool false, .int .i64 armed] 37))
    clear e
    unfold Dv.val Sl.val
    simp only
    go_enter Tryz.func24, Tryz.ntmps24
    go_wp2_with fail
    refine bodyPost_ret (dv_results (d := ⟨now, now, [], false, armed⟩) (L := ⟨L.np, L.ns, L.np, L.ns, Sl.nil⟩) rfl HI.out _ rfl) rfl ⟨HB.out, ⟨L.np, L.ns, L.np, L.ns, Sl.nil⟩, rfl, H.out.now.keep HB.out (Nat.le_refl _), H.out.now.keep HB.out (Nat.le_refl _), ⟨rfl, (fun i hi => by cases hi), (fun j hj => absurd hj (Nat.not_lt_zero j))⟩, (fun _ => rfl), Nat.le_refl _⟩
  · have e : d.sync = d := by unfold Dv.sync; rw [if_pos hg]
    rw [e]
    obtain ⟨kept, now, done, gone, armed⟩ := d
    simp only at hg
    subst hg
    have HI := hide (same_new w ⟨kept, now, done, true, armed⟩ L)
    have HB := hide (below_two w (.cells #[L.kp.val, .int .i64 kept.base, L.ks.val, L.np.val, .int .i64 now.base, L.ns.val, L.ds.val, .bool true, .int .i64 armed] 37) (.cells #[L.kp.val, .int .i64 kept.base, L.ks.val, L.np.val, .int .i64 now.base, L.ns.val, L.ds.val, .bool true, .int .i64 armed] 37))
    clear e
    unfold Dv.val Sl.val
    simp only
    go_enter Tryz.func24, Tryz.ntmps24
    go_wp2_with fail
    exact bodyPost_ret (dv_results (d := ⟨kept, now, done, true, armed⟩) (L := L) rfl HI.out _ rfl) rfl ⟨HB.out, L, rfl, H.out.keep HB.out (Nat.le_refl _)⟩

end Go.Proofs.YtcaaiihjolnkgaaGreat

namespace Go.Proofs.YtcaaiihjolnkgaaGreat
open Go.RowKit
set_option maxRecDepth 100000
variable {K : Home}

set_option maxHeartbeats 4000000 in
set_option maxRecDepth 100000 in
theorem refSeen_any (d : Dv) (L : DvL) (w : World) : Calls Tryz.prog 31 #[d.val L] w fun e w' => Below w.heap.size w w' ∧ e = .returned (d.now.val L.np L.ns) := by
  obtain ⟨kept, now, done, gone, armed⟩ := d
  obtain ⟨kp, ks, np, ns, ds⟩ := L
  have HB : Hid (DkBlk ((w.alloc (.cells #[kp.val, .int .i64 kept.base, ks.val, np.val, .int .i64 now.base, ns.val, ds.val, .bool gone, .int .i64 armed] 37)).alloc (.cells #[np.val, .int .i64 now.base, ns.val] 34)) (w.heap.size + 1) np.val now.base ns.val) := by
    have := dkBlk_new (w.alloc (.cells #[kp.val, .int .i64 kept.base, ks.val, np.val, .int .i64 now.base, ns.val, ds.val, .bool gone, .int .i64 armed] 37)) np.val now.base ns.val
    exact hide (by simpa using this)
  have HW := hide (below_two w (.cells #[kp.val, .int .i64 kept.base, ks.val, np.val, .int .i64 now.base, ns.val, ds.val, .bool gone, .int .i64 armed] 37) (.cells #[np.val, .int .i64 now.base, ns.val] 34))
  obtain ⟨na, nl, nc⟩ := np
  obtain ⟨sa, sl, sc⟩ := ns
  obtain ⟨ka, kl, kc⟩ := kp
  obtain ⟨ta, tl, tc⟩ := ks
  obtain ⟨da, dl, dc⟩ := ds
  unfold Dv.val
  unfold Sl.val at *
  simp only at HB HW ⊢
  go_enter Tryz.func31, Tryz.ntmps31
  go_wp2_with fail
  refine bodyPost_ret (dk_results (d := now) (p := ⟨na, nl, nc⟩) (s := ⟨sa, sl, sc⟩) rfl HB.out _ rfl) rfl ?_
  exact ⟨HW.out, rfl⟩

/-- How many sectors' writes, and units of the stream, a row of parts has. -/
def pendA : List Pt → Nat
  | [] => 0
  | u :: r => (if 0 ≤ u.at_ then 1 else 0) + pendA r
def pendB : List Pt → Nat
  | [] => 0
  | u :: r => (if 0 ≤ u.at_ then 0 else u.size) + pendB r
theorem pend_snoc (l : List Pt) (u : Pt) : pendA (l ++ [u]) = pendA l + (if 0 ≤ u.at_ then 1 else 0) ∧ pendB (l ++ [u]) = pendB l + (if 0 ≤ u.at_ then 0 else u.size) := by
  induction l with
  | nil => simp [pendA, pendB]
  | cons x r ih =>
    simp only [List.cons_append, pendA, pendB]
    rw [ih.1, ih.2]
    omega
theorem pendA_le (l : List Pt) : pendA l ≤ l.length := by
  induction l with
  | nil => simp [pendA]
  | cons x r ih => simp only [pendA, List.length_cons]; split <;> omega

theorem pendB_append (l m : List Pt) : pendB (l ++ m) = pendB l + pendB m := by
  induction l with
  | nil => simp [pendB]
  | cons x r ih => simp only [List.cons_append, pendB]; rw [ih]; omega
theorem pendB_take (l : List PtS) (j : Nat) : pendB ((l.take j).map (·.u)) ≤ pendB (l.map (·.u)) := by
  have : l.map (·.u) = (l.take j).map (·.u) ++ (l.drop j).map (·.u) := by rw [← List.map_append, List.take_append_drop]
  rw [this, pendB_append]
  omega

set_option maxHeartbeats 8000000 in
set_option maxRecDepth 100000 in
theorem refPending_any (d : Dv) (L : DvL) (w : World) (h : DvIn K w d L) (hdl : d.done.length ≤ 1000) (hun : pendB (d.done.map (·.u)) ≤ 1000000) : Calls Tryz.prog 52 #[d.val L] w fun e w' => Below w.heap.size w w' ∧ e = .returned (.tuple #[.int .i64 ((pendA (d.done.map (·.u)) : Nat) : Int), .int .i64 ((pendB (d.done.map (·.u)) : Nat) : Int)]) := by
  obtain ⟨kept, now, done, gone, armed⟩ := d
  obtain ⟨kp, ks, np, ns, ds⟩ := L
  have HD := hide h.done
  have hlen : done.length = ds.len := h.done.1
  simp only at hdl hun
  have HB0 := hide (below_alloc w (.cells #[kp.val, .int .i64 kept.base, ks.val, np.val, .int .i64 now.base, ns.val, ds.val, .bool gone, .int .i64 armed] 37))
  have HBD : Hid (DvBlk (w.alloc (.cells #[kp.val, .int .i64 kept.base, ks.val, np.val, .int .i64 now.base, ns.val, ds.val, .bool gone, .int .i64 armed] 37)) w.heap.size kp.val kept.base ks.val np.val now.base ns.val ds.val gone armed) := dvBlk_new w _ _ _ _ _ _ _ _ _
  clear h
  have HUN := hide hun
  clear hun
  unfold Dv.val
  simp only at HD ⊢
  go_enter Tryz.func52, Tryz.ntmps52
  go_wp2_with fail
  go_loopw [4, 5, 6] (fun ua ub i wr => ∃ j : Nat, j ≤ done.length ∧ i = .int .i64 j ∧ ua = .int .i64 ((pendA ((done.take j).map (·.u)) : Nat) : Int) ∧ ub = .int .i64 ((pendB ((done.take j).map (·.u)) : Nat) : Int) ∧ Hid (Below w.heap.size w wr) ∧ Hid (DvBlk wr w.heap.size kp.val kept.base ks.val np.val now.base ns.val ds.val gone armed)) (fun _ _ i _ => done.length - (intOf i).toNat)
  case atStart => exact ⟨0, by omega, rfl, rfl, rfl, HB0, HBD⟩
  case round =>
    obtain ⟨j, hj, rfl, rfl, rfl, hB, hBD⟩ := hrel
    have c6 := hBD.out.c6
    obtain ⟨da, dl, dc⟩ := ds
    simp only at hlen
    unfold Sl.val at c6
    simp only at c6
    rcases Nat.lt_or_ge j done.length with hlt | hge
    · obtain ⟨b, off, ha, c0, c1, c2, c3, _⟩ := (HD.out.keep hB.out (Nat.le_refl _)).2.2 j (by show j < dl; omega)
      have hok := (HD.out.keep hB.out (Nat.le_refl _)).okAt j (by show j < dl; omega)
      obtain ⟨x, hx⟩ : ∃ x, x = done.getD j ptD := ⟨_, rfl⟩
      rw [← hx] at c0 c1 c2 c3 hok
      have htk : (done.take (j + 1)).map (·.u) = (done.take j).map (·.u) ++ [x.u] := by
        have e : done[j] = x := by rw [hx]; simp [List.getD, hlt]
        rw [List.take_succ_eq_append_getElem hlt, e, List.map_append]
        rfl
      obtain ⟨p1, p2⟩ := pend_snoc ((done.take j).map (·.u)) x.u
      rw [← htk] at p1 p2
      have HP1 := hide p1
      have HP2 := hide p2
      have hA := pendA_le ((done.take j).map (·.u))
      have hAl : ((done.take j).map (·.u)).length ≤ 1000 := by simp; omega
      have HSZ := hide (size_any x.u x.q wr hok.1)
      simp only at ha
      subst ha
      have i1 : ((j : Nat) : Int) < ((dl : Nat) : Int) := by omega
      have hBle := pendB_take done (j + 1)
      have hBu := HUN.out
      obtain ⟨pa, hpa⟩ : ∃ pa, pa = pendA ((done.take j).map (·.u)) := ⟨_, rfl⟩
      obtain ⟨pb, hpb⟩ : ∃ pb, pb = pendB ((done.take j).map (·.u)) := ⟨_, rfl⟩
      rw [← hpa] at hA HP1
      rw [← hpb] at HP2
      rw [← hpa, ← hpb]
      have HPA := hide hpa
      have HPB := hide hpb
      by_cases h0 : 0 ≤ x.u.at_
      · have w1 : IntKind.i64.wrap (((pa : Nat) : Int) + 1) = ((pa : Nat) : Int) + 1 := by rw [IntKind.wrap_i64]; omega
        have HQ1 : Hid (pendA ((done.take (j + 1)).map (·.u)) = pa + 1) := by have := HP1.out; rw [if_pos h0] at this; exact this
        have HQ2 : Hid (pendB ((done.take (j + 1)).map (·.u)) = pb) := by have := HP2.out; rw [if_pos h0, Nat.add_zero] at this; exact this
        clear p1 p2 hx htk hpa hpb HSZ hBle hBu hok HP1 HP2 c1 c2 c3
        go_wp2_with fail
        go_roundw
        case rel => exact ⟨j + 1, by omega, by go_num, by rw [HQ1.out]; go_num, by rw [HQ2.out], hB, hBD⟩
        case measure => simp only [intOf]; omega
      · have hsz : pb + x.u.size ≤ 1000000 := by have := HP2.out; rw [if_neg h0] at this; omega
        obtain ⟨z, hz⟩ : ∃ z, z = x.u.size := ⟨_, rfl⟩
        rw [← hz] at hsz HSZ
        have w1 : IntKind.i64.wrap (((pb : Nat) : Int) + ((z : Nat) : Int)) = ((pb : Nat) : Int) + ((z : Nat) : Int) := by rw [IntKind.wrap_i64]; omega
        have HQ1 : Hid (pendA ((done.take (j + 1)).map (·.u)) = pa) := by have := HP1.out; rw [if_neg h0, Nat.add_zero] at this; exact this
        have HQ2 : Hid (pendB ((done.take (j + 1)).map (·.u)) = pb + z) := by have := HP2.out; rw [if_neg h0, ← hz] at this; exact this
        have h0' : x.u.at_ < 0 := by omega
        obtain ⟨⟨xa, xb, xt, xo⟩, ⟨qa, ql, qc⟩⟩ := x
        unfold Pt.val Sl.val at HSZ
        unfold Sl.val at c1
        simp only at HSZ c0 c1 c2 c3 h0 h0'
        clear p1 p2 hx htk hpa hpb hBle hBu hok HP1 HP2 hz
        go_wp2_with fail
        refine HSZ.out.mono ?_
        rintro e w2 ⟨rfl, hb2⟩
        have HB2 := hide (hB.out.trans (hb2.mono hB.out.size))
        have HBD2 := hide (hBD.out.keep hb2)
        clear hb2
        go_wp2_with fail
        go_roundw
        case rel => exact ⟨j + 1, by omega, by go_num, by rw [HQ1.out], by rw [HQ2.out]; go_num, HB2, HBD2⟩
        case measure => simp only [intOf]; omega
    · obtain rfl : j = done.length := by omega

      have i1 : ¬ ((done.length : Nat) : Int) < ((dl : Nat) : Int) := by omega
      have hdl2 : dl = done.length := by omega
      subst hdl2
      go_wp2_with fail
      go_ret2
      exact ⟨hB.out, rfl⟩

end Go.Proofs.YtcaaiihjolnkgaaGreat

namespace Go.Proofs.YtcaaiihjolnkgaaGreat
open Go.RowKit
set_option maxRecDepth 100000
variable {K : Home}

theorem store_dk (g : Nat) (d : Dk) (p s : Sl) (w : World) {x0 y0 : Sl} {b0 : Int} (h : DkBlk w g x0.val b0 y0.val) : (Instr.storeAt 34 (.pointer (some ⟨g, 0, none⟩)) (d.val p s)).run Tryz.prog w = .ok () (setDk w g p.val d.base s.val) := by
  have h1 := h.set0 p.val
  have h2 := heap_setCell_same _ g 1 _ 34 (.int .i64 d.base) h1
  have c0 := h.c0
  have c1 := h1.c1
  have f0 := h.fz
  have f1 := h1.fz
  have c2 : ((w.setCell ⟨g, 0, none⟩ p.val).setCell ⟨g, 1, none⟩ (.int .i64 d.base)).cell? ⟨g, 2, none⟩ = some y0.val := (Addr.cell0 h2).trans rfl
  have f2 : ((w.setCell ⟨g, 0, none⟩ p.val).setCell ⟨g, 1, none⟩ (.int .i64 d.base)).frozen? ⟨g, 2, none⟩ = false := frozen_of_row _ g _ _ 34 h2
  unfold Sl.val at c0 c1 c2 f1 f2
  unfold setDk Dk.val Sl.val
  simp [go_sem, Instr.storeAt, c0, c1, c2, f0, f1, f2]
/-- What a crash keeps of the document's disk; and that each part of it may be. -/
def crashF (bs : List Bool) : List Pt → Dk → Nat → Int → Dk
  | [], x, _, _ => x
  | u :: r, x, k, n =>
    if 0 ≤ u.at_ then crashF bs r (if hit bs k = true then x.turn u else x) (k + 1) n
    else crashF bs r (if (u.first n).2 = true then x.turn (u.first n).1 else x) k (if n < (u.size : Int) then 0 else n - (u.size : Int))
def crashOk (bs : List Bool) : List Pt → Dk → Nat → Int → Prop
  | [], _, _, _ => True
  | u :: r, x, k, n =>
    if 0 ≤ u.at_ then (hit bs k = true → Fits x u) ∧ crashOk bs r (if hit bs k = true then x.turn u else x) (k + 1) n
    else ((u.first n).2 = true → Fits x (u.first n).1) ∧ crashOk bs r (if (u.first n).2 = true then x.turn (u.first n).1 else x) k (if n < (u.size : Int) then 0 else n - (u.size : Int))

theorem crashF_cons (bs : List Bool) (u : Pt) (r : List Pt) (x : Dk) (k : Nat) (n : Int) : crashF bs (u :: r) x k n = if 0 ≤ u.at_ then crashF bs r (if hit bs k = true then x.turn u else x) (k + 1) n
    else crashF bs r (if (u.first n).2 = true then x.turn (u.first n).1 else x) k (if n < (u.size : Int) then 0 else n - (u.size : Int)) := rfl

/-- Where a crash stands: its three blocks, and the disk so far. -/
structure CrIn (K : Home) (w wr : World) (d : Dv) (L : DvL) (x : Dk) (p s : Sl) : Prop where
  below : Below w.heap.size w wr
  dv : DvBlk wr w.heap.size L.kp.val d.kept.base L.ks.val L.np.val d.now.base L.ns.val L.ds.val d.gone d.armed
  zero : DvBlk wr (w.heap.size + 1) Sl.nil.val 0 Sl.nil.val Sl.nil.val 0 Sl.nil.val Sl.nil.val false 0
  dk : DkBlk wr (w.heap.size + 1 + 1) p.val x.base s.val
  din : DkIn K wr x p s
  size : w.heap.size + 1 + 1 < wr.heap.size
theorem CrIn.keep {w wr w' : World} {d : Dv} {L : DvL} {x : Dk} {p s : Sl} (h : CrIn K w wr d L x p s) (hb : Below wr.heap.size wr w') : CrIn K w w' d L x p s :=
  ⟨h.below.trans (hb.mono h.below.size), h.dv.keep hb, h.zero.keep hb, h.dk.keep hb, h.din.keep hb (Nat.le_refl _), Nat.lt_of_lt_of_le h.size hb.size⟩
/-- The disk so far is laid anew. -/
theorem CrIn.set {w wr : World} {d : Dv} {L : DvL} {x y : Dk} {p s p' s' : Sl} (h : CrIn K w wr d L x p s) (hy : DkIn K wr y p' s') : CrIn K w (setDk wr (w.heap.size + 1 + 1) p'.val y.base s'.val) d L y p' s' := by
  have ho := setDk_other wr (w.heap.size + 1 + 1) p'.val y.base s'.val
  refine ⟨setDk_below h.below (by omega) _ _ _, h.dv.other (ho _ (by omega)), h.zero.other (ho _ (by omega)), setDk_blk h.dk _ _ _, ?_, by rw [setDk_size]; exact h.size⟩
  exact hy.other (DkBlk.no8 h.dk) ho (by rw [setDk_size]; exact Nat.le_refl _)

end Go.Proofs.YtcaaiihjolnkgaaGreat

namespace Go.Proofs.YtcaaiihjolnkgaaGreat
open Go.RowKit
set_option maxRecDepth 100000
variable {K : Home}

theorem infoDv : (Tryz.prog.info? 37).map (·.size) = some 9 := by kernel_rfl
theorem load_dv (g : Nat) (d : Dv) (L : DvL) (w : World) (h : DvBlk w g L.kp.val d.kept.base L.ks.val L.np.val d.now.base L.ns.val L.ds.val d.gone d.armed) : (Instr.loadAt 37 (.pointer (some ⟨g, 0, none⟩))).run Tryz.prog w = .ok (d.val L) w := by
  have hr : w.rangeAt g 0 [L.kp.val, .int .i64 d.kept.base, L.ks.val, L.np.val, .int .i64 d.now.base, L.ns.val, L.ds.val, .bool d.gone, .int .i64 d.armed] := by
    intro j v hj
    rw [Nat.zero_add, Addr.cell0 h]
    simpa using hj
  exact run_loadAt_mid w g 0 37 _ _ hr Tryz.underlying37 rfl (by rw [infoDv]; rfl)
theorem store_dv (g : Nat) (d : Dv) (L : DvL) (w : World) {x0 x2 x3 x5 x6 : Value} {b1 b4 a0 : Int} {g0 : Bool} (h : DvBlk w g x0 b1 x2 x3 b4 x5 x6 g0 a0) : (Instr.storeAt 37 (.pointer (some ⟨g, 0, none⟩)) (d.val L)).run Tryz.prog w = .ok () (setDv w g L.kp.val d.kept.base L.ks.val L.np.val d.now.base L.ns.val L.ds.val d.gone d.armed) := by
  have hc := run_storeCells_cells (P := Tryz.prog) g 0 [L.kp.val, .int .i64 d.kept.base, L.ks.val, L.np.val, .int .i64 d.now.base, L.ns.val, L.ds.val, .bool d.gone, .int .i64 d.armed] 0 w (fun j hj => by
    rw [Nat.zero_add, Addr.cell0 h]
    have : j < 9 := hj
    simpa using this) (fun j hj => frozen_of_row w g _ _ 37 h) (by
    intro v hv
    simp only [List.mem_cons, List.mem_nil_iff, or_false] at hv
    rcases hv with rfl | rfl | rfl | rfl | rfl | rfl | rfl | rfl | rfl <;> rfl)
  cases hq : Tryz.prog.info? 37 with
  | none => have := infoDv; rw [hq] at this; cases this
  | some i =>
    have hi : i.size = 9 := by have := infoDv; rw [hq] at this; simpa using this
    simp only [Instr.storeAt, Instr.sureAddr, storeVar, sizeOf, typeInfo, Dv.val, Value.cells]
    simp [hq, hi]
    exact hc

theorem slice_midS (s : Sl) (k l : Nat) (hk : k ≤ l) (hl : l ≤ s.cap) (w : World) : (Instr.sliceAt 32 s.val (some (.int .i64 (k : Nat))) (some (.int .i64 (l : Nat))) none).run Tryz.prog w = .ok (s.mid k l).val w := slice_mid s.a s.len s.cap k l hk hl w
theorem BsS.mid {w : World} {s : Sl} {xs : List Nat} (h : BsS K w s xs) (k l : Nat) (hk : k ≤ l) (hl : l ≤ s.len) : BsS K w (s.mid k l) ((xs.drop k).take (l - k)) := by
  refine ⟨h.came.mid k l hk hl, h.low, fun h0 ad ha => ?_⟩
  have h0' : 0 < s.len := by have : 0 < l - k := h0; omega
  have ha' : fromA s.a s.cap k = some ad := ha
  unfold fromA at ha'
  split at ha'
  · exact h.home h0' ad ha'
  · cases hs : s.a with
    | none => rw [hs] at ha'; cases ha'
    | some x =>
      rw [hs] at ha'
      have := h.home h0' x hs
      simp only [Option.map_some, Option.some.injEq] at ha'
      rw [← ha']
      unfold Addr.add
      split <;> exact this
theorem build_ptS (x : Int) (q : Sl) (w : World) : (Instr.build 102 #[(0, .int .i64 x), (1, q.val)]).run Tryz.prog w = .ok (Pt.val ⟨x, [], false, 0⟩ q) w := by
  unfold Pt.val Sl.val
  simp [go_sem, Instr.build]
theorem entDo : ∀ args w, (callFunc 48 args).run Tryz.prog w = .ok (.enter 48 args) w := Pl.enters Tryz.func48 (by kernel_rfl) (by kernel_rfl)

set_option maxHeartbeats 2000000 in
set_option maxRecDepth 100000 in
theorem refWrite8 (w : World) (g k j : Nat) (e0 : Dv) (L0 : DvL) (q : Sl) (hk : k ≤ 1000) (hj : j < 4) (hql : 128 * j + 128 ≤ q.cap) (hd : DvBlk w g L0.kp.val e0.kept.base L0.ks.val L0.np.val e0.now.base L0.ns.val L0.ds.val e0.gone e0.armed) (P : Dv → Prop) (hdo : ∀ w', Below w.heap.size w w' → Calls Tryz.prog 48 #[e0.val L0, Pt.val ⟨((4 * k + j : Nat) : Int), [], false, 0⟩ (q.mid (128 * j) (128 * j + 128))] w' fun e w2 => Below w'.heap.size w' w2 ∧ ∃ d' L', e = .returned (d'.val L') ∧ DvIn K w2 d' L' ∧ P d')
    {Q : Exit → Act → World → Prop} {A : Act} (hsz : A.tmps.size = 44) (hdf : A.defers = []) (s3 : A.tmps.getD 3 undef = .pointer (some ⟨g, 0, none⟩)) (s1 : A.tmps.getD 1 undef = .int .i64 ((k : Nat) : Int)) (s8 : A.tmps.getD 8 undef = .int .i64 ((j : Nat) : Int)) (s2 : A.tmps.getD 2 undef = q.val)
    (hend : ∀ (u : Nat → Value) w' w2 d2 L2, w' = setDv w2 g L2.kp.val d2.kept.base L2.ks.val L2.np.val d2.now.base L2.ns.val L2.ds.val d2.gone d2.armed → Below w.heap.size w w2 → DvIn K w2 d2 L2 → P d2 → Q .normal (((((((((((((((A).put (some 30) (u 30)).put (some 31) (u 31)).put (some 32) (u 32)).put (some 33) (u 33)).put (some 34) (u 34)).put (some 35) (u 35)).put (some 36) (u 36)).put (some 37) (u 37)).put (some 38) (u 38)).put (some 39) (u 39)).put (some 40) (u 40)).put (some 41) (u 41)).put (some 29) (u 29)).put (some 42) (u 42)) w') :
    (Code.region 8 (Pl.find 8 ((Tryz.f63.body).getD .skip)) true).wp Tryz.prog Q A w := by
  have m1 : IntKind.i64.wrap (4 * ((k : Nat) : Int)) = 4 * ((k : Nat) : Int) := by rw [IntKind.wrap_i64]; omega
  have m2 : IntKind.i64.wrap (4 * ((k : Nat) : Int) + ((j : Nat) : Int)) = 4 * ((k : Nat) : Int) + ((j : Nat) : Int) := by rw [IntKind.wrap_i64]; omega
  have m3 : IntKind.i64.wrap (128 * ((j : Nat) : Int)) = 128 * ((j : Nat) : Int) := by rw [IntKind.wrap_i64]; omega
  have m4 : IntKind.i64.wrap (128 * ((j : Nat) : Int) + 128) = 128 * ((j : Nat) : Int) + 128 := by rw [IntKind.wrap_i64]; omega
  have hd0 : DvBlk w.drew g L0.kp.val e0.kept.base L0.ks.val L0.np.val e0.now.base L0.ns.val L0.ds.val e0.gone e0.armed := hd
  have hA := Pl.At.same (v := q.val) (d := 2) (Pl.At.same (v := .int .i64 ((j : Nat) : Int)) (d := 8) (Pl.At.same (v := .int .i64 ((k : Nat) : Int)) (d := 1) (Pl.At.same (v := .pointer (some ⟨g, 0, none⟩)) (d := 3) (Pl.At.here hsz hdf) s3) s1) s8) s2
  refine Pl.H.start (S := fun _ => True) (by kernel_rfl) hA True.intro ?_
  rw [show (Pl.find 8 ((Tryz.f63.body).getD .skip)).size = 15 by kernel_rfl]
  refine Pl.H.take 1 30 (.int .i64 ((k : Nat) : Int)) (by kernel_rfl) (by kernel_rfl) (by kernel_rfl) (Pl.free 1 (by kernel_rfl)) (Pl.move 1 (.tmp 1) (by kernel_rfl) (by decide)) True.intro ?_
  refine Pl.H.take 2 31 (.int .i64 ((4 * k : Nat) : Int)) (by kernel_rfl) (by kernel_rfl) (by kernel_rfl) (Pl.free 2 (by kernel_rfl)) (Pl.binV 2 .mul 3 3 (.const (.int .i64 4)) (.tmp 30) (.int .i64 4) (.int .i64 ((k : Nat) : Int)) _ (by kernel_rfl) (by decide) (by decide) rfl rfl (fun w => by simp [go_sem, eqGuard, m1])) True.intro ?_
  refine Pl.H.take 3 32 (.int .i64 ((j : Nat) : Int)) (by kernel_rfl) (by kernel_rfl) (by kernel_rfl) (Pl.free 3 (by kernel_rfl)) (Pl.move 3 (.tmp 8) (by kernel_rfl) (by decide)) True.intro ?_
  refine Pl.H.take 4 33 (.int .i64 ((4 * k + j : Nat) : Int)) (by kernel_rfl) (by kernel_rfl) (by kernel_rfl) (Pl.free 4 (by kernel_rfl)) (Pl.binV 4 .add 3 3 (.tmp 31) (.tmp 32) (.int .i64 ((4 * k : Nat) : Int)) (.int .i64 ((j : Nat) : Int)) _ (by kernel_rfl) (by decide) (by decide) rfl rfl (fun w => by simp [go_sem, eqGuard, m2])) True.intro ?_
  refine Pl.H.take 5 34 (q.val) (by kernel_rfl) (by kernel_rfl) (by kernel_rfl) (Pl.free 5 (by kernel_rfl)) (Pl.move 5 (.tmp 2) (by kernel_rfl) (by decide)) True.intro ?_
  refine Pl.H.take 6 35 (.int .i64 ((j : Nat) : Int)) (by kernel_rfl) (by kernel_rfl) (by kernel_rfl) (Pl.free 6 (by kernel_rfl)) (Pl.move 6 (.tmp 8) (by kernel_rfl) (by decide)) True.intro ?_
  refine Pl.H.take 7 36 (.int .i64 ((128 * j : Nat) : Int)) (by kernel_rfl) (by kernel_rfl) (by kernel_rfl) (Pl.free 7 (by kernel_rfl)) (Pl.binV 7 .mul 3 3 (.const (.int .i64 128)) (.tmp 35) (.int .i64 128) (.int .i64 ((j : Nat) : Int)) _ (by kernel_rfl) (by decide) (by decide) rfl rfl (fun w => by simp [go_sem, eqGuard, m3])) True.intro ?_
  refine Pl.H.take 8 37 (.int .i64 ((j : Nat) : Int)) (by kernel_rfl) (by kernel_rfl) (by kernel_rfl) (Pl.free 8 (by kernel_rfl)) (Pl.move 8 (.tmp 8) (by kernel_rfl) (by decide)) True.intro ?_
  refine Pl.H.take 9 38 (.int .i64 ((128 * j : Nat) : Int)) (by kernel_rfl) (by kernel_rfl) (by kernel_rfl) (Pl.free 9 (by kernel_rfl)) (Pl.binV 9 .mul 3 3 (.const (.int .i64 128)) (.tmp 37) (.int .i64 128) (.int .i64 ((j : Nat) : Int)) _ (by kernel_rfl) (by decide) (by decide) rfl rfl (fun w => by simp [go_sem, eqGuard, m3])) True.intro ?_
  refine Pl.H.take 10 39 (.int .i64 ((128 * j + 128 : Nat) : Int)) (by kernel_rfl) (by kernel_rfl) (by kernel_rfl) (Pl.free 10 (by kernel_rfl)) (Pl.binV 10 .add 3 3 (.tmp 38) (.const (.int .i64 128)) (.int .i64 ((128 * j : Nat) : Int)) (.int .i64 128) _ (by kernel_rfl) (by decide) (by decide) rfl rfl (fun w => by simp [go_sem, eqGuard, m4])) True.intro ?_
  refine Pl.H.take 11 40 ((q.mid (128 * j) (128 * j + 128)).val) (by kernel_rfl) (by kernel_rfl) (by kernel_rfl) (Pl.free 11 (by kernel_rfl)) (Pl.slice 11 32 (.tmp 34) (some (.tmp 36)) (some (.tmp 39)) _ (by kernel_rfl) (by decide) (by decide) (by decide) (slice_midS q (128 * j) (128 * j + 128) (by omega) hql)) True.intro ?_
  refine Pl.H.take 12 41 (Pt.val ⟨((4 * k + j : Nat) : Int), [], false, 0⟩ (q.mid (128 * j) (128 * j + 128))) (by kernel_rfl) (by kernel_rfl) (by kernel_rfl) (Pl.free 12 (by kernel_rfl)) (Pl.buildD 12 102 [(0, .tmp 33), (1, .tmp 40)] _ (by kernel_rfl) (by decide) (build_ptS _ _)) True.intro ?_
  refine Pl.H.solo 0 29 (e0.val L0) (by kernel_rfl) (by kernel_rfl) (by kernel_rfl) (Pl.free 0 (by kernel_rfl)) (Pl.load1 0 37 (.tmp 3) _ (by kernel_rfl) (by decide) (load_dv g e0 L0 w.drew hd)) True.intro ?_
  refine Pl.H.call 13 42 48 [(.tmp 29), (.tmp 41)] #[37, 102] (by kernel_rfl) (by kernel_rfl) (by kernel_rfl) (Pl.free 13 (by kernel_rfl)) (by kernel_rfl) (by decide) entDo (Calls.mono (hdo w.drew (below_drew w)) ?_)
  rintro e w2 ⟨hb2, d2, L2, rfl, hin2, habs2⟩
  have hd2 := hd0.keep hb2
  refine ⟨(d2.val L2), rfl, True.intro, ?_⟩
  refine Pl.H.store 14 (setDv w2 g L2.kp.val d2.kept.base L2.ks.val L2.np.val d2.now.base L2.ns.val L2.ds.val d2.gone d2.armed) (by kernel_rfl) (by kernel_rfl) (by kernel_rfl) (Pl.free 14 (by kernel_rfl)) (Pl.storeV 14 37 (.tmp 3) (.tmp 42) _ (by kernel_rfl) (by decide) (by decide) (store_dv g d2 L2 w2 hd2)) True.intro ?_
  refine Pl.H.done (by kernel_rfl) (fun A' hA' => ?_)
  rw [Pl.At.ext hA' ((((((((((((((hA.put 30 _).put 31 _).put 32 _).put 33 _).put 34 _).put 35 _).put 36 _).put 37 _).put 38 _).put 39 _).put 40 _).put 41 _).put 29 _).put 42 _)]
  exact hend (fun d => if d = 30 then .int .i64 ((k : Nat) : Int) else if d = 31 then .int .i64 ((4 * k : Nat) : Int) else if d = 32 then .int .i64 ((j : Nat) : Int) else if d = 33 then .int .i64 ((4 * k + j : Nat) : Int) else if d = 34 then q.val else if d = 35 then .int .i64 ((j : Nat) : Int) else if d = 36 then .int .i64 ((128 * j : Nat) : Int) else if d = 37 then .int .i64 ((j : Nat) : Int) else if d = 38 then .int .i64 ((128 * j : Nat) : Int) else if d = 39 then .int .i64 ((128 * j + 128 : Nat) : Int) else if d = 40 then (q.mid (128 * j) (128 * j + 128)).val else if d = 41 then Pt.val ⟨((4 * k + j : Nat) : Int), [], false, 0⟩ (q.mid (128 * j) (128 * j + 128)) else if d = 29 then e0.val L0 else if d = 42 then (d2.val L2) else undef) _ w2 d2 L2 rfl ((below_drew w).trans hb2) hin2 habs2

end Go.Proofs.YtcaaiihjolnkgaaGreat

namespace Go.Proofs.YtcaaiihjolnkgaaGreat
open Go.RowKit
set_option maxRecDepth 100000
variable {K : Home}

theorem wf_small (n : Nat) (h : n ≤ 1000000) : (Lit.int .i64 ((n : Nat) : Int)).wf = true := by
  have h1 : IntKind.i64.wrap ((n : Nat) : Int) = ((n : Nat) : Int) := by rw [IntKind.wrap_i64]; omega
  simp [Lit.wf, IntKind.min, IntKind.max, IntKind.signed, IntKind.bits]
  omega

/-- A page's sector, as a part; a device behind a page's first sectors. -/
def secP (k : Nat) (b : List Nat) (j : Nat) : Pt := ⟨((4 * k + j : Nat) : Int), (b.drop (128 * j)).take 128, false, 0⟩
def wrActs (A : Da) (k : Nat) (b : List Nat) : Nat → Da
  | 0 => A
  | j + 1 => (wrActs A k b j).act (secP k b j)
theorem Da.act_now (A : Da) (u : Pt) : (A.act u).now = A.now.turn u := by unfold Da.act; split <;> rfl
theorem Da.act_done (A : Da) (u : Pt) : (A.act u).done.length ≤ A.done.length + 1 := by
  unfold Da.act
  split
  · exact Nat.le_succ _
  · simp only
    split
    · simp
    · omega
theorem Da.act_armed (A : Da) (u : Pt) (h : A.armed ≤ 9223372036854775807) : (A.act u).armed ≤ 9223372036854775807 := by
  unfold Da.act
  split
  · exact h
  · simp only
    split
    · unfold Da.units
      split <;> omega
    · exact h
theorem sec_turn (d : Dk) (k : Nat) (b : List Nat) (j : Nat) (hj : j < 4) (hb : b.length = 512) (hk : 512 * k + 512 ≤ d.pg.length) : (d.turn (secP k b j)).pg.length = d.pg.length ∧ (d.turn (secP k b j)).st = d.st ∧ (d.turn (secP k b j)).base = d.base := by
  unfold Dk.turn secP
  rw [if_pos (by simp only; omega)]
  refine ⟨?_, rfl, rfl⟩
  simp only [List.length_append, List.length_take, List.length_drop]
  omega
theorem wrActs_now (A : Da) (k : Nat) (b : List Nat) (hb : b.length = 512) (hk : 512 * k + 512 ≤ A.now.pg.length) : ∀ j, j ≤ 4 → (wrActs A k b j).now.pg.length = A.now.pg.length ∧ (wrActs A k b j).now.st = A.now.st ∧ (wrActs A k b j).done.length ≤ A.done.length + j ∧ (A.armed ≤ 9223372036854775807 → (wrActs A k b j).armed ≤ 9223372036854775807)
  | 0, _ => ⟨rfl, rfl, by simp [wrActs], fun h => h⟩
  | j + 1, hj => by
    obtain ⟨a1, a2, a3, a4⟩ := wrActs_now A k b hb hk j (by omega)
    obtain ⟨b1, b2, _⟩ := sec_turn (wrActs A k b j).now k b j (by omega) hb (by omega)
    have b3 := (wrActs A k b j).act_done (secP k b j)
    refine ⟨?_, ?_, ?_, fun h => (wrActs A k b j).act_armed _ (a4 h)⟩
    · show ((wrActs A k b j).act (secP k b j)).now.pg.length = _
      rw [Da.act_now, b1, a1]
    · show ((wrActs A k b j).act (secP k b j)).now.st = _
      rw [Da.act_now, b2, a2]
    · show ((wrActs A k b j).act (secP k b j)).done.length ≤ _
      omega

/-- Where Write stands: its two blocks. -/
structure WrIn (K : Home) (w wr : World) (d : Dv) (L : DvL) : Prop where
  below : Below w.heap.size w wr
  dv : DvBlk wr w.heap.size L.kp.val d.kept.base L.ks.val L.np.val d.now.base L.ns.val L.ds.val d.gone d.armed
  zero : DvBlk wr (w.heap.size + 1) Sl.nil.val 0 Sl.nil.val Sl.nil.val 0 Sl.nil.val Sl.nil.val false 0
  din : DvIn K wr d L
theorem WrIn.set {w wr w2 : World} {d d2 : Dv} {L L2 : DvL} (h : WrIn K w wr d L) (hb : Below wr.heap.size wr w2) (h2 : DvIn K w2 d2 L2) : WrIn K w (setDv w2 w.heap.size L2.kp.val d2.kept.base L2.ks.val L2.np.val d2.now.base L2.ns.val L2.ds.val d2.gone d2.armed) d2 L2 := by
  have hd := h.dv.keep hb
  have ho : ∀ k, k ≠ w.heap.size → (setDv w2 w.heap.size L2.kp.val d2.kept.base L2.ks.val L2.np.val d2.now.base L2.ns.val L2.ds.val d2.gone d2.armed).heap[k]? = w2.heap[k]? := fun k hk => setDv_other _ _ _ _ _ _ _ _ _ _ _ k hk
  exact ⟨setDv_below (h.below.trans (hb.mono h.below.size)) (Nat.le_refl _) _ _ _ _ _ _ _ _ _, setDv_blk hd _ _ _ _ _ _ _ _ _, (h.zero.keep hb).other (ho _ (by omega)), h2.otherDv hd ho (by rw [setDv_size]; exact Nat.le_refl _)⟩

set_option maxHeartbeats 8000000 in
set_option maxRecDepth 100000 in
theorem refWrite_ok (d : Dv) (L : DvL) (w : World) (h : DvIn K w d L) (n k : Nat) (hn : d.kept.pg.length = 512 * n) (hn2 : d.now.pg.length = 512 * n) (hn4 : n ≤ 64) (hk : k < n) (q : Sl) (b : List Nat) (hb : BsS K w q b) (hl : q.len = 512) (hst : d.now.st.length ≤ 10000) (hm : d.armed ≤ 9223372036854775807) (hdl : d.done.length ≤ 900) :
    Calls Tryz.prog 63 #[d.val L, .int .i64 ((k : Nat) : Int), q.val] w fun e w' => Below w.heap.size w w' ∧ ∃ d' L', e = .returned (.tuple #[d'.val L', .int .i64 0]) ∧ DvIn K w' d' L' ∧ d'.abs = wrActs d.abs k b 4 := by
  have hbl : b.length = 512 := by rw [hb.len, hl]
  have hkl : L.kp.len = 512 * n := by rw [← h.kept.pg.len, hn]
  have hnow := wrActs_now d.abs k b hbl (by show 512 * k + 512 ≤ d.now.pg.length; omega)
  have HI := twoIn_new w d L
  have HW0 : Hid (WrIn K w (twoW w d L) d L) := ⟨HI.below, HI.dv, HI.zero, h.keep HI.below (Nat.le_refl _)⟩
  generalize hW : twoW w d L = W at HW0
  have HWE := hide hW
  unfold twoW at HWE
  have HNOW := hide hnow
  have HB := hide hb
  have HST := hide hst
  have HM := hide hm
  have HDL := hide hdl
  have HN2 := hide hn2
  have HBL := hide hbl
  have hqc : 512 ≤ q.cap := by have := hb.le; omega
  have hd : IntKind.i64.wrap (Int.tdiv ((512 * n : Nat) : Int) 512) = ((n : Nat) : Int) := by
    rw [IntKind.wrap_i64]
    have : Int.tdiv ((512 * n : Nat) : Int) 512 = (n : Int) := by
      rw [Int.tdiv_eq_ediv_of_nonneg (by omega)]; omega
    omega
  clear h HI hW hnow hb hst hm hdl hn hn2 hbl
  obtain ⟨A, hA⟩ : ∃ A, A = d.abs := ⟨_, rfl⟩
  have HA := hide hA
  rw [← hA] at HNOW ⊢
  clear hA
  obtain ⟨kept, now, done, gone, armed⟩ := d
  obtain ⟨⟨ka, kl, kc⟩, ks, np, ns, ds⟩ := L
  obtain ⟨qa, ql, qc⟩ := q
  simp only at hkl hl hqc
  subst hkl
  subst hl
  unfold Dv.val
  unfold Sl.nil Sl.val at HWE
  unfold Sl.val
  simp only at HWE ⊢
  have k1 : ¬ ((k : Nat) : Int) < 0 := by omega
  have k2 : ¬ ((n : Nat) : Int) ≤ ((k : Nat) : Int) := by omega
  have k3 : ((k : Nat) : Int) < ((n : Nat) : Int) := by omega
  go_enter Tryz.func63, Tryz.ntmps63
  go_wp2_with fail
  rw [HWE.out]
  go_loopw [8] (fun i wr => ∃ (j : Nat) (d' : Dv) (L' : DvL), j ≤ 4 ∧ i = .int .i64 j ∧ Hid (WrIn K w wr d' L') ∧ Hid (d'.abs = wrActs A k b j)) (fun i _ => 4 - (intOf i).toNat)
  case atStart => exact ⟨0, _, _, by omega, rfl, HW0, hide HA.out.symm⟩
  case round =>
    obtain ⟨j, d', L', hj, rfl, hI, hab⟩ := hrel
    rcases Nat.lt_or_ge j 4 with hlt | hge
    · obtain ⟨q1, q2, q3, q4⟩ := HNOW.out j hj
      have hA2 : A.now.pg.length = 512 * n := by rw [HA.out]; exact HN2.out
      have hnl : d'.now.pg.length = 512 * n := by have : d'.abs.now.pg.length = 512 * n := by rw [hab.out, q1, hA2]
                                                  exact this
      have hns : d'.now.st.length ≤ 10000 := by have : d'.abs.now.st.length ≤ 10000 := by rw [hab.out, q2, HA.out]; exact HST.out
                                                exact this
      have hdn : d'.done.length ≤ 1000 := by
        have h1 : d'.abs.done.length ≤ A.done.length + j := by rw [hab.out]; exact q3
        have h2 : A.done.length ≤ 900 := by rw [HA.out]; show (done.map _).length ≤ _; rw [List.length_map]; exact HDL.out
        have h3 : d'.abs.done.length = d'.done.length := by show (d'.done.map _).length = _; rw [List.length_map]
        omega
      have har : d'.armed ≤ 9223372036854775807 := by have : d'.abs.armed ≤ 9223372036854775807 := by rw [hab.out]; exact q4 (by rw [HA.out]; exact HM.out)
                                                      exact this
      have hbb := (HB.out.keep hI.out.below (Nat.le_refl _)).mid (128 * j) (128 * j + 128) (by omega) (by show _ ≤ 512; omega)
      rw [show 128 * j + 128 - 128 * j = 128 by omega] at hbb
      have hdo : ∀ w', Below wr.heap.size wr w' → Calls Tryz.prog 48 #[d'.val L', Pt.val ⟨((4 * k + j : Nat) : Int), [], false, 0⟩ (Sl.mid ⟨qa, 512, qc⟩ (128 * j) (128 * j + 128))] w' fun e w2 => Below w'.heap.size w' w2 ∧ ∃ d2 L2, e = .returned (d2.val L2) ∧ DvIn K w2 d2 L2 ∧ d2.abs = d'.abs.act (secP k b j) := fun w' hw' =>
        do_any d' L' (secP k b j) _ w' (hI.out.din.keep hw' (Nat.le_refl _)) (hbb.keep hw' (Nat.le_refl _)) ⟨by rw [hnl]; omega, by omega, by show ((b.drop (128 * j)).take 128).length ≤ _; simp only [List.length_take]; omega, fun _ => by show 128 * (((4 * k + j : Nat) : Int)).toNat + 128 ≤ _; rw [hnl]; omega, fun hx => absurd hx (by show ¬ ((4 * k + j : Nat) : Int) < 0; omega), by rfl⟩ (wf_small (4 * k + j) (by omega)) har hdn
      have HR : Hid (∀ {Q : Exit → Act → World → Prop} {A' : Act}, _) := fun {Q A'} => refWrite8 (K := K) wr w.heap.size k j d' L' ⟨qa, 512, qc⟩ (by omega) hlt (by show _ ≤ qc; omega) hI.out.dv (fun d2 => d2.abs = d'.abs.act (secP k b j)) hdo (Q := Q) (A := A')
      have i1 : ((j : Nat) : Int) < 4 := by omega
      clear hdo hbb q1 q2 q3 q4 hnl hns hdn har hA2
      go_wp2_with fail
      refine Pl.region_is (ops := Pl.find 8 ((Tryz.f63.body).getD .skip)) (by kernel_rfl) ?_
      refine HR.out (by rfl) rfl (by rfl) (by rfl) (by rfl) (by rfl) ?_
      intro uu w' w2 d2 L2 hw' hb2 hin2 hab2
      have HI2 : Hid (WrIn K w w' d2 L2) := by rw [hw']; exact hI.out.set hb2 hin2
      have HAB2 : Hid (d2.abs = wrActs A k b (j + 1)) := by show _ = (wrActs A k b j).act (secP k b j); rw [hab2, hab.out]
      clear hw' hb2 hin2 hab2 HR
      simp only [Act.put, List.setIfInBounds_toArray, List.set_cons_zero, List.set_cons_succ]
      go_wp2_with fail
      go_roundw
      case rel => exact ⟨j + 1, d2, L2, by omega, by go_num, HI2, HAB2⟩
      case measure => simp only [intOf]; omega
    · obtain rfl : j = 4 := by omega
      have HLD := hide (load_dv w.heap.size d' L' wr hI.out.dv)
      have HSD := hide (store_dv (w.heap.size + 1) d' L' wr hI.out.zero)
      go_wp2_with (first | refine wpList_load _ rfl 37 (.tmp 3) rfl (.pointer (some ⟨w.heap.size, 0, none⟩)) (d'.val L') rfl HLD.out ?_ | refine wpList_store _ rfl rfl 37 (.tmp 6) (.tmp 43) rfl (.pointer (some ⟨w.heap.size + 1, 0, none⟩)) (d'.val L') rfl rfl _ HSD.out ?_)
      refine dv_end2 rfl hI.out.zero d' L' (.int .i64 0) (by rfl) (by rfl) rfl ?_
      have hbb := setDv_below hI.out.below (show w.heap.size ≤ w.heap.size + 1 by omega) L'.kp.val d'.kept.base L'.ks.val L'.np.val d'.now.base L'.ns.val L'.ds.val d'.gone d'.armed
      exact ⟨hbb, d', L', rfl, hI.out.din.otherDv hI.out.zero (fun k hk => setDv_other _ _ _ _ _ _ _ _ _ _ _ k hk) (by rw [setDv_size]; exact Nat.le_refl _), hab.out⟩

end Go.Proofs.YtcaaiihjolnkgaaGreat
