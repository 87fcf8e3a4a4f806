/-
  The document's device: a part is done.
  The document's device: a part is done while the power is there.
  The document's device: a part is done while the power is there: what is armed, and whether some is first.
  The document's device: a part is done, whatever the device is.
-/
import Derived.Test.YtcaaiihjolnkgaaGreatDa
namespace Go.Proofs.YtcaaiihjolnkgaaGreat
open Go.RowKit
set_option maxRecDepth 100000
variable {K : Home}

theorem DkIn.other {w w' : World} {d : Dk} {p s : Sl} {g : Nat} (h : DkIn K w d p s) (hg : ∀ o i, w.cell? ⟨g, o, none⟩ ≠ some (.int .u8 i)) (ho : ∀ k, k ≠ g → w'.heap[k]? = w.heap[k]?) (hs : w.heap.size ≤ w'.heap.size := by first | (simp only [setCell_size, Nat.le_refl]; done) | (simp only [setDk_size, setCell_size, Nat.le_refl]; done) | (simp only [setPt_size, setDk_size, setCell_size, Nat.le_refl]; done) | (simp only [setNow_size, setDv_size, setPt_size, setDk_size, setCell_size, Nat.le_refl]; done)) : DkIn K w' d p s := ⟨h.pg.other hg ho hs, h.st.other hg ho hs⟩

/-- Where a part is done: three blocks, and what lies in them. -/
structure DoIn (w W : World) (d : Dv) (L : DvL) (u : Pt) (q : Sl) : Prop where
  below : Below w.heap.size w W
  size : W.heap.size = w.heap.size + 1 + 1 + 1
  dv : DvBlk W w.heap.size L.kp.val d.kept.base L.ks.val L.np.val d.now.base L.ns.val L.ds.val d.gone d.armed
  pt : PtBlk W (w.heap.size + 1) u.at_ q.val u.trim u.to
  zero : DvBlk W (w.heap.size + 1 + 1) Sl.nil.val 0 Sl.nil.val Sl.nil.val 0 Sl.nil.val Sl.nil.val false 0

def doW (w : World) (d : Dv) (L : DvL) (u : Pt) (q : Sl) : World :=
  ((w.alloc (.cells #[L.kp.val, .int .i64 d.kept.base, L.ks.val, L.np.val, .int .i64 d.now.base, L.ns.val, L.ds.val, .bool d.gone, .int .i64 d.armed] 37)).alloc (.cells #[.int .i64 u.at_, q.val, .bool u.trim, .int .i64 u.to] 102)).alloc (.cells #[Sl.nil.val, .int .i64 0, Sl.nil.val, Sl.nil.val, .int .i64 0, Sl.nil.val, Sl.nil.val, .bool false, .int .i64 0] 37)

theorem doIn_new (w : World) (d : Dv) (L : DvL) (u : Pt) (q : Sl) : DoIn w (doW w d L u q) d L u q := by
  unfold doW
  refine ⟨rBelow (below_two w _ _) (below_alloc _ _), by simp, ?_, ?_, ?_⟩
  · exact ((dvBlk_new w _ _ _ _ _ _ _ _ _).keep (below_alloc _ _)).keep (below_alloc _ _)
  · have := (ptBlk_new (w.alloc (.cells #[L.kp.val, .int .i64 d.kept.base, L.ks.val, L.np.val, .int .i64 d.now.base, L.ns.val, L.ds.val, .bool d.gone, .int .i64 d.armed] 37)) u.at_ q.val u.trim u.to).keep (below_alloc _ (.cells #[Sl.nil.val, .int .i64 0, Sl.nil.val, Sl.nil.val, .int .i64 0, Sl.nil.val, Sl.nil.val, .bool false, .int .i64 0] 37))
    simpa using this
  · have := dvBlk_new ((w.alloc (.cells #[L.kp.val, .int .i64 d.kept.base, L.ks.val, L.np.val, .int .i64 d.now.base, L.ns.val, L.ds.val, .bool d.gone, .int .i64 d.armed] 37)).alloc (.cells #[.int .i64 u.at_, q.val, .bool u.trim, .int .i64 u.to] 102)) Sl.nil.val 0 Sl.nil.val Sl.nil.val 0 Sl.nil.val Sl.nil.val false 0
    simpa using this

set_option maxHeartbeats 4000000 in
set_option maxRecDepth 100000 in
theorem do_gone (d : Dv) (L : DvL) (u : Pt) (q : Sl) (w : World) (h : DvIn K w d L) (hu : BsS K w q u.b) (hf : Fits d.now u) (hg : d.gone = true) :
    Calls Tryz.prog 48 #[d.val L, u.val q] w fun e w' => Below w.heap.size w w' ∧ ∃ L', e = .returned (Dv.val ⟨d.kept, d.now.turn u, d.done, true, d.armed⟩ L') ∧ DvIn K w' ⟨d.kept, d.now.turn u, d.done, true, d.armed⟩ L' := by
  have HT : Hid (∀ w', Below w.heap.size w w' → Calls Tryz.prog 69 #[d.now.val L.np L.ns, u.val q] w' fun e w2 => Below w'.heap.size w' w2 ∧ ∃ p' s', e = .returned ((d.now.turn u).val p' s') ∧ DkIn K w2 (d.now.turn u) p' s') := fun w' hb => turn_any d.now L.np L.ns u q w' (h.now.keep hb (Nat.le_refl _)) (hu.keep hb (Nat.le_refl _)) hf
  have HI := hide (doIn_new w d L u q)
  have HE : Hid (doW w d L u q = doW w d L u q) := rfl
  unfold doW at HE
  have H := hide h
  generalize hW : doW w d L u q = W at HI
  have HWE := hide hW
  unfold doW at HWE
  obtain ⟨kept, now, done, gone, armed⟩ := d
  simp only at hg
  subst hg
  clear h hu hf hW HE
  generalize hnt : now.turn u = nt at HT ⊢
  clear hnt
  unfold Dk.val Pt.val Sl.val at HT
  unfold Sl.nil Sl.val at HWE
  unfold Dv.val Pt.val Sl.val
  simp only at HT HWE ⊢
  go_enter Tryz.func48, Tryz.ntmps48
  go_wp2_with fail
  rw [HWE.out]
  refine (HT.out W HI.out.below).mono ?_
  rintro e w1 ⟨hb1, p1, s1, rfl, hin1⟩
  have hD1 := HI.out.dv.keep hb1
  have hZ1 := HI.out.zero.keep hb1
  have hD2 := setNow_blk hD1 p1.val nt.base s1.val
  have hZ2 := hZ1.other (setNow_other w1 w.heap.size p1.val nt.base s1.val (w.heap.size + 1 + 1) (by omega))
  have HB1 := hide (rBelow HI.out.below hb1)
  have HIN := hide hin1
  have HD1 := hide hD1
  have HZ2 := hide hZ2
  unfold setNow at hD2 hZ2
  unfold Sl.nil at hZ2
  unfold Sl.val at hD1 hD2 hZ2
  simp only at hD1 hD2 hZ2
  have c3 := hD1.c3
  have c4 := hD1.c4
  have c5 := hD1.c5
  have f1 := hD1.fz
  have d0 := hD2.c0
  have d1 := hD2.c1
  have d2 := hD2.c2
  have d3 := hD2.c3
  have d4 := hD2.c4
  have d5 := hD2.c5
  have d6 := hD2.c6
  have d7 := hD2.c7
  have d8 := hD2.c8
  have z0 := hZ2.c0
  have z1 := hZ2.c1
  have z2 := hZ2.c2
  have z3 := hZ2.c3
  have z4 := hZ2.c4
  have z5 := hZ2.c5
  have z6 := hZ2.c6
  have z7 := hZ2.c7
  have z8 := hZ2.c8
  have fz := hZ2.fz
  clear hb1 hD1 hZ1 hD2 hZ2 hin1
  go_wp2_with fail
  show bodyPost Tryz.prog Tryz.f48 _ Exit.ret _ (setDv (setNow w1 w.heap.size p1.val nt.base s1.val) (w.heap.size + 1 + 1) L.kp.val kept.base L.ks.val p1.val nt.base s1.val L.ds.val true armed)
  refine dv_end rfl HZ2.out ⟨kept, nt, done, true, armed⟩ ⟨L.kp, L.ks, p1, s1, L.ds⟩ (by rfl) rfl ?_
  have hbb := setDv_below (setNow_below HB1.out (Nat.le_refl _) p1.val nt.base s1.val) (show w.heap.size ≤ w.heap.size + 1 + 1 by omega) L.kp.val kept.base L.ks.val p1.val nt.base s1.val L.ds.val true armed
  refine ⟨hbb, ⟨L.kp, L.ks, p1, s1, L.ds⟩, rfl, H.out.kept.keep hbb (Nat.le_refl _), ?_, H.out.done.keep hbb (Nat.le_refl _), H.out.nil, H.out.le⟩
  exact (HIN.out.other HD1.out.no8 fun k hk => setNow_other _ _ _ _ _ k hk).other HZ2.out.no8 fun k hk => setDv_other _ _ _ _ _ _ _ _ _ _ _ k hk

end Go.Proofs.YtcaaiihjolnkgaaGreat

namespace Go.Proofs.YtcaaiihjolnkgaaGreat
open Go.RowKit
set_option maxRecDepth 100000
variable {K : Home}

theorem OwnsP.sl {w : World} {base : Nat} {v : Value} {l : List PtS} (h : OwnsP w base v l) (hf : ∀ i ∈ l, PtS.ok K w i) : ∃ s : Sl, v = s.val ∧ Ps K w s.a s.len l ∧ (s.a = none → s.cap = 0) ∧ s.len ≤ s.cap := by
  obtain ⟨a, cap, hv, h1, h2, h3⟩ := h.is hf
  exact ⟨⟨a, l.length, cap⟩, hv, h1, h2, h3⟩

theorem OwnsP.slAt {w : World} {base : Nat} {s : Sl} {l : List PtS} (h : OwnsP w base s.val l) (hf : ∀ i ∈ l, PtS.ok K w i) : Ps K w s.a s.len l ∧ (s.a = none → s.cap = 0) ∧ s.len ≤ s.cap := by
  obtain ⟨t, e, h1⟩ := h.sl hf
  obtain ⟨a, n, c⟩ := s
  obtain ⟨a', n', c'⟩ := t
  simp only [Sl.val, Value.slice.injEq] at e
  obtain ⟨rfl, rfl, rfl⟩ := e
  exact h1
theorem OwnsP.off {w w' : World} {base : Nat} {v : Value} {l : List PtS} (h : OwnsP w base v l) (ho : ∀ k, base ≤ k → w'.heap[k]? = w.heap[k]?) : OwnsP w' base v l := by
  refine ⟨h.1, ?_⟩
  rcases h.2 with hn | ⟨g, cap, cur, hv, hbg, hg, rest⟩
  · exact .inl hn
  · refine .inr ⟨g, cap, cur, hv, hbg, ?_, rest⟩
    rw [ho g hbg]
    exact hg
theorem DvBlk.set6 {w : World} {p : Nat} {k0 k2 n0 n2 d : Value} {k1 n1 a : Int} {g : Bool} (h : DvBlk w p k0 k1 k2 n0 n1 n2 d g a) (v : Value) : DvBlk (w.setCell ⟨p, 6, none⟩ v) p k0 k1 k2 n0 n1 n2 v g a := by
  have := heap_setCell_same w p 6 _ 37 v h
  unfold DvBlk
  rw [this]
  simp

set_option maxHeartbeats 4000000 in
set_option maxRecDepth 100000 in
theorem do_free_some (d : Dv) (L : DvL) (u : Pt) (q : Sl) (w : World) (h : DvIn K w d L) (hu : BsS K w q u.b) (hf : Fits d.now u) (hg : d.gone = false) (ha : d.armed < 0) (f1 : Pt) (hf1 : u.first (u.size : Nat) = (f1, true)) (hfa : (Lit.int .i64 f1.at_).wf = true) (hft : (Lit.int .i64 f1.to).wf = true) (hdl : d.done.length ≤ 1000) :
    Calls Tryz.prog 48 #[d.val L, u.val q] w fun e w' => Below w.heap.size w w' ∧ ∃ L' q', e = .returned (Dv.val ⟨d.kept, d.now.turn u, d.done ++ [⟨f1, q'⟩], false, d.armed⟩ L') ∧ DvIn K w' ⟨d.kept, d.now.turn u, d.done ++ [⟨f1, q'⟩], false, d.armed⟩ L' := by
  have HT : Hid (∀ w', Below w.heap.size w w' → Calls Tryz.prog 69 #[d.now.val L.np L.ns, u.val q] w' fun e w2 => Below w'.heap.size w' w2 ∧ ∃ p' s', e = .returned ((d.now.turn u).val p' s') ∧ DkIn K w2 (d.now.turn u) p' s') := fun w' hb => turn_any d.now L.np L.ns u q w' (h.now.keep hb (Nat.le_refl _)) (hu.keep hb (Nat.le_refl _)) hf
  have HSZ : Hid (∀ w', Below w.heap.size w w' → Calls Tryz.prog 70 #[u.val q] w' fun e w2 => e = .returned (.int .i64 (u.size : Nat)) ∧ Below w'.heap.size w' w2) := fun w' hb => size_any u q w' (hu.keep hb (Nat.le_refl _))
  have HF : Hid (∀ w', Below w.heap.size w w' → Calls Tryz.prog 71 #[u.val q, .int .i64 (u.size : Nat)] w' fun e w2 => Below w'.heap.size w' w2 ∧ ∃ q', e = .returned (.tuple #[f1.val q', .bool true]) ∧ BsS K w2 q' f1.b) := fun w' hb => by
    have := first_any u q (u.size : Nat) w' (hu.keep hb (Nat.le_refl _))
    rw [hf1] at this
    exact this
  have HI := hide (doIn_new w d L u q)
  have H := hide h
  generalize hW : doW w d L u q = W at HI
  have HWE := hide hW
  unfold doW at HWE
  have HDL := hide hdl
  have HFA := hide hfa
  have HFT := hide hft
  obtain ⟨kept, now, done, gone, armed⟩ := d
  simp only at hg ha
  subst hg
  clear h hu hf hW hf1 hfa hft hdl
  generalize hnt : now.turn u = nt at HT ⊢
  generalize hsz : u.size = sz at HSZ HF ⊢
  clear hnt hsz
  unfold Dk.val Pt.val Sl.val at HT
  unfold Pt.val Sl.val at HSZ HF
  unfold Sl.nil Sl.val at HWE
  unfold Dv.val Pt.val Sl.val
  simp only at HT HSZ HF HWE ⊢
  go_enter Tryz.func48, Tryz.ntmps48
  go_wp2_with fail
  rw [HWE.out]
  refine (HT.out W HI.out.below).mono ?_
  rintro e w1 ⟨hb1, p1, s1, rfl, hin1⟩
  have hD1 := HI.out.dv.keep hb1
  have HB1 := hide (rBelow HI.out.below hb1)
  have HIN := hide hin1
  have HD1 := hide hD1
  have HP1 := hide (HI.out.pt.keep hb1)
  have HZ1 := hide (HI.out.zero.keep hb1)
  have hD2 := setNow_blk hD1 p1.val nt.base s1.val
  have hP2 := HP1.out.other (setNow_other w1 w.heap.size p1.val nt.base s1.val (w.heap.size + 1) (by omega))
  have HD2 := hide hD2
  have HP2 := hide hP2
  unfold setNow at hD2 hP2
  unfold Sl.val at hD1 hD2 hP2
  simp only at hD1 hD2 hP2
  have c3 := hD1.c3
  have c4 := hD1.c4
  have c5 := hD1.c5
  have f1' := hD1.fz
  have d7 := hD2.c7
  have e0 := hP2.c0
  have e1 := hP2.c1
  have e2 := hP2.c2
  have e3 := hP2.c3
  clear hb1 hD1 hD2 hP2 hin1
  go_wp2_with fail
  have HB2 := hide (setNow_below HB1.out (Nat.le_refl _) p1.val nt.base s1.val)
  have HZ2 := hide (HZ1.out.other (setNow_other w1 w.heap.size p1.val nt.base s1.val (w.heap.size + 1 + 1) (by omega)))
  have HIN2 := hide (HIN.out.other HD1.out.no8 fun k hk => setNow_other w1 w.heap.size p1.val nt.base s1.val k hk)
  clear c3 c4 c5 f1' d7 e0 e1 e2 e3
  show Calls Tryz.prog _ _ (setNow w1 w.heap.size p1.val nt.base s1.val) _
  generalize setNow w1 w.heap.size p1.val nt.base s1.val = W2 at HB2 HD2 HP2 HZ2 HIN2 ⊢
  refine (HSZ.out W2 HB2.out).mono ?_
  rintro e w3 ⟨rfl, hb3⟩
  have HB3 := hide (rBelow HB2.out hb3)
  have HD3 := hide (HD2.out.keep hb3)
  have HP3 := hide (HP2.out.keep hb3)
  have HZ3 := hide (HZ2.out.keep hb3)
  have HIN3 := hide (HIN2.out.keep hb3 (Nat.le_refl _))
  have d8 := HD3.out.c8
  have e0 := HP3.out.c0
  have e1 := HP3.out.c1
  have e2 := HP3.out.c2
  have e3 := HP3.out.c3
  unfold Sl.val at e1
  clear HD1 HP1 HZ1 HD2 HP2 HZ2 HIN HIN2 hb3
  go_wp2_with fail
  refine (HF.out w3 HB3.out).mono ?_
  rintro e w4 ⟨hb4, q4, rfl, hq4⟩
  have HB4 := hide (rBelow HB3.out hb4)
  have HD4 := hide (HD3.out.keep hb4)
  have HZ4 := hide (HZ3.out.keep hb4)
  have HIN4 := hide (HIN3.out.keep hb4 (Nat.le_refl _))
  have HQ4 := hide hq4
  clear HD3 HP3 HZ3 HIN3 hb4 hq4 d8 e0 e1 e2 e3
  go_wp2_with fail
  have hal := below_alloc w4 (.cells #[.int .i64 f1.at_, q4.val, .bool f1.trim, .int .i64 f1.to] 102)
  have hne : w4.heap.size ≠ w.heap.size := by
    have := (Array.getElem?_eq_some_iff.1 HD4.out).1
    omega
  have hp5 := ptBlk_new w4 f1.at_ q4.val f1.trim f1.to
  have HB5 := hide (rBelow HB4.out hal)
  have HD5 := hide (HD4.out.keep hal)
  have HZ5 := hide (HZ4.out.keep hal)
  have HIN5 := hide (HIN4.out.keep hal (Nat.le_refl _))
  have HQ5 := hide (HQ4.out.keep hal (Nat.le_refl _))
  refine Pl.region_is (ops := Pl.find 10 ((Tryz.f48.body).getD .skip)) (by kernel_rfl) ?_
  refine do10 _ w.heap.size w4.heap.size hne _ _ _ _ _ _ L.ds.a L.ds.len L.ds.cap false armed ⟨f1, q4⟩ done HD5.out hp5 ⟨HQ5.out, HFA.out, HFT.out⟩ (H.out.done.keep HB5.out (Nat.le_refl _)) H.out.nil (by have := H.out.done.1; have := HDL.out; simp only at *; omega) (by rfl) (by rfl) (by rfl) (by rfl) ?_
  intro v w6 v6 ho6 hb6
  simp only [Act.put, List.setIfInBounds_toArray, List.set_cons_zero, List.set_cons_succ]
  have HB6 := hide (rBelow HB5.out hb6)
  have HD6 := hide (HD5.out.keep hb6)
  have HZ6 := hide (HZ5.out.keep hb6)
  have HIN6 := hide (HIN5.out.keep hb6 (Nat.le_refl _))
  have HQ6 := hide (HQ5.out.keep hb6 (Nat.le_refl _))
  have HO6 := hide ho6
  have HS5 : Hid (w.heap.size + 1 + 1 < (w4.alloc (.cells #[.int .i64 f1.at_, q4.val, .bool f1.trim, .int .i64 f1.to] 102)).heap.size) := (Array.getElem?_eq_some_iff.1 HZ5.out).1
  obtain ⟨a6, l6, k6, rfl⟩ := ho6.form
  have hD7 := HD6.out.set6 (.slice a6 l6 k6)
  have hZ7 := HZ6.out.other (Below.heap_setCell w6 ⟨w.heap.size, 6, none⟩ (.slice a6 l6 k6) (w.heap.size + 1 + 1) (by show w.heap.size + 1 + 1 ≠ w.heap.size; omega))
  have HZ7 := hide hZ7
  unfold Sl.nil at hZ7
  unfold Sl.val at hD7 hZ7
  simp only at hD7 hZ7
  have d0 := hD7.c0
  have d1 := hD7.c1
  have d2 := hD7.c2
  have d3 := hD7.c3
  have d4 := hD7.c4
  have d5 := hD7.c5
  have d6 := hD7.c6
  have d7 := hD7.c7
  have d8 := hD7.c8
  have fd := hD7.fz
  have z0 := hZ7.c0
  have z1 := hZ7.c1
  have z2 := hZ7.c2
  have z3 := hZ7.c3
  have z4 := hZ7.c4
  have z5 := hZ7.c5
  have z6 := hZ7.c6
  have z7 := hZ7.c7
  have z8 := hZ7.c8
  have fz := hZ7.fz
  clear ho6 hb6 hal hp5 hD7 hZ7 HD4 HZ4 HIN4 HQ4 HB4 hne
  go_wp2_with fail
  show bodyPost Tryz.prog Tryz.f48 _ Exit.ret _ (setDv (w6.setCell ⟨w.heap.size, 6, none⟩ (.slice a6 l6 k6)) (w.heap.size + 1 + 1) L.kp.val kept.base L.ks.val p1.val nt.base s1.val (Sl.val ⟨a6, l6, k6⟩) false armed)
  refine dv_end rfl HZ7.out ⟨kept, nt, done ++ [⟨f1, q4⟩], false, armed⟩ ⟨L.kp, L.ks, p1, s1, ⟨a6, l6, k6⟩⟩ (by rfl) rfl ?_
  have hbb := setDv_below (HB6.out.setCell (p := ⟨w.heap.size, 6, none⟩) (Nat.le_refl _) (.slice a6 l6 k6)) (show w.heap.size ≤ w.heap.size + 1 + 1 by omega) L.kp.val kept.base L.ks.val p1.val nt.base s1.val (Sl.val ⟨a6, l6, k6⟩) false armed
  have hoth : ∀ k, w.heap.size + 1 + 1 < k → (setDv (w6.setCell ⟨w.heap.size, 6, none⟩ (.slice a6 l6 k6)) (w.heap.size + 1 + 1) L.kp.val kept.base L.ks.val p1.val nt.base s1.val (Sl.val ⟨a6, l6, k6⟩) false armed).heap[k]? = w6.heap[k]? := by
    intro k hk
    rw [setDv_other _ _ _ _ _ _ _ _ _ _ _ k (by omega)]
    exact Below.heap_setCell _ ⟨w.heap.size, 6, none⟩ _ k (by show k ≠ w.heap.size; omega)
  have hq := (HQ6.out.other HD6.out.no8 fun k hk => Below.heap_setCell w6 ⟨w.heap.size, 6, none⟩ (.slice a6 l6 k6) k hk).other HZ7.out.no8 fun k hk => setDv_other _ _ L.kp.val kept.base L.ks.val p1.val nt.base s1.val (Sl.val ⟨a6, l6, k6⟩) false armed k hk
  have hps := (HO6.out.off fun k hk => hoth k (Nat.lt_of_lt_of_le HS5.out hk)).slAt (s := ⟨a6, l6, k6⟩) (fun i hi => by
    rcases List.mem_append.1 hi with h1 | h1
    · exact (H.out.done.2.1 i h1).keep hbb (Nat.le_refl _)
    · simp only [List.mem_singleton] at h1
      subst h1
      exact ⟨hq, HFA.out, HFT.out⟩)
  refine ⟨hbb, ⟨L.kp, L.ks, p1, s1, ⟨a6, l6, k6⟩⟩, q4, rfl, H.out.kept.keep hbb (Nat.le_refl _), ?_, hps.1, hps.2.1, hps.2.2⟩
  exact (HIN6.out.other HD6.out.no8 fun k hk => Below.heap_setCell w6 ⟨w.heap.size, 6, none⟩ (.slice a6 l6 k6) k hk).other HZ7.out.no8 fun k hk => setDv_other _ _ _ _ _ _ _ _ _ _ _ k hk

end Go.Proofs.YtcaaiihjolnkgaaGreat

namespace Go.Proofs.YtcaaiihjolnkgaaGreat
open Go.RowKit
set_option maxRecDepth 100000
variable {K : Home}

theorem DvBlk.set7 {w : World} {p : Nat} {k0 k2 n0 n2 d : Value} {k1 n1 a : Int} {g : Bool} (h : DvBlk w p k0 k1 k2 n0 n1 n2 d g a) (v : Bool) : DvBlk (w.setCell ⟨p, 7, none⟩ (.bool v)) p k0 k1 k2 n0 n1 n2 d v a := by
  have := heap_setCell_same w p 7 _ 37 (.bool v) h
  unfold DvBlk
  rw [this]
  simp
theorem DvBlk.set8 {w : World} {p : Nat} {k0 k2 n0 n2 d : Value} {k1 n1 a : Int} {g : Bool} (h : DvBlk w p k0 k1 k2 n0 n1 n2 d g a) (v : Int) : DvBlk (w.setCell ⟨p, 8, none⟩ (.int .i64 v)) p k0 k1 k2 n0 n1 n2 d g v := by
  have := heap_setCell_same w p 8 _ 37 (.int .i64 v) h
  unfold DvBlk
  rw [this]
  simp

set_option maxHeartbeats 4000000 in
set_option maxRecDepth 100000 in
theorem do_free_none (d : Dv) (L : DvL) (u : Pt) (q : Sl) (w : World) (h : DvIn K w d L) (hu : BsS K w q u.b) (hf : Fits d.now u) (hg : d.gone = false) (ha : d.armed < 0) (f1 : Pt) (hf1 : u.first (u.size : Nat) = (f1, false)) (hfa : (Lit.int .i64 f1.at_).wf = true) (hft : (Lit.int .i64 f1.to).wf = true) (hdl : d.done.length ≤ 1000) :
    Calls Tryz.prog 48 #[d.val L, u.val q] w fun e w' => Below w.heap.size w w' ∧ ∃ L', e = .returned (Dv.val ⟨d.kept, d.now.turn u, d.done, false, d.armed⟩ L') ∧ DvIn K w' ⟨d.kept, d.now.turn u, d.done, false, d.armed⟩ L' := by
  have HT : Hid (∀ w', Below w.heap.size w w' → Calls Tryz.prog 69 #[d.now.val L.np L.ns, u.val q] w' fun e w2 => Below w'.heap.size w' w2 ∧ ∃ p' s', e = .returned ((d.now.turn u).val p' s') ∧ DkIn K w2 (d.now.turn u) p' s') := fun w' hb => turn_any d.now L.np L.ns u q w' (h.now.keep hb (Nat.le_refl _)) (hu.keep hb (Nat.le_refl _)) hf
  have HSZ : Hid (∀ w', Below w.heap.size w w' → Calls Tryz.prog 70 #[u.val q] w' fun e w2 => e = .returned (.int .i64 (u.size : Nat)) ∧ Below w'.heap.size w' w2) := fun w' hb => size_any u q w' (hu.keep hb (Nat.le_refl _))
  have HF : Hid (∀ w', Below w.heap.size w w' → Calls Tryz.prog 71 #[u.val q, .int .i64 (u.size : Nat)] w' fun e w2 => Below w'.heap.size w' w2 ∧ ∃ q', e = .returned (.tuple #[f1.val q', .bool false]) ∧ BsS K w2 q' f1.b) := fun w' hb => by
    have := first_any u q (u.size : Nat) w' (hu.keep hb (Nat.le_refl _))
    rw [hf1] at this
    exact this
  have HI := hide (doIn_new w d L u q)
  have H := hide h
  generalize hW : doW w d L u q = W at HI
  have HWE := hide hW
  unfold doW at HWE
  have HDL := hide hdl
  have HFA := hide hfa
  have HFT := hide hft
  obtain ⟨kept, now, done, gone, armed⟩ := d
  simp only at hg ha
  subst hg
  clear h hu hf hW hf1 hfa hft hdl
  generalize hnt : now.turn u = nt at HT ⊢
  generalize hsz : u.size = sz at HSZ HF ⊢
  clear hnt hsz
  unfold Dk.val Pt.val Sl.val at HT
  unfold Pt.val Sl.val at HSZ HF
  unfold Sl.nil Sl.val at HWE
  unfold Dv.val Pt.val Sl.val
  simp only at HT HSZ HF HWE ⊢
  go_enter Tryz.func48, Tryz.ntmps48
  go_wp2_with fail
  rw [HWE.out]
  refine (HT.out W HI.out.below).mono ?_
  rintro e w1 ⟨hb1, p1, s1, rfl, hin1⟩
  have hD1 := HI.out.dv.keep hb1
  have HB1 := hide (rBelow HI.out.below hb1)
  have HIN := hide hin1
  have HD1 := hide hD1
  have HP1 := hide (HI.out.pt.keep hb1)
  have HZ1 := hide (HI.out.zero.keep hb1)
  have hD2 := setNow_blk hD1 p1.val nt.base s1.val
  have hP2 := HP1.out.other (setNow_other w1 w.heap.size p1.val nt.base s1.val (w.heap.size + 1) (by omega))
  have HD2 := hide hD2
  have HP2 := hide hP2
  unfold setNow at hD2 hP2
  unfold Sl.val at hD1 hD2 hP2
  simp only at hD1 hD2 hP2
  have c3 := hD1.c3
  have c4 := hD1.c4
  have c5 := hD1.c5
  have f1' := hD1.fz
  have d7 := hD2.c7
  have e0 := hP2.c0
  have e1 := hP2.c1
  have e2 := hP2.c2
  have e3 := hP2.c3
  clear hb1 hD1 hD2 hP2 hin1
  go_wp2_with fail
  have HB2 := hide (setNow_below HB1.out (Nat.le_refl _) p1.val nt.base s1.val)
  have HZ2 := hide (HZ1.out.other (setNow_other w1 w.heap.size p1.val nt.base s1.val (w.heap.size + 1 + 1) (by omega)))
  have HIN2 := hide (HIN.out.other HD1.out.no8 fun k hk => setNow_other w1 w.heap.size p1.val nt.base s1.val k hk)
  clear c3 c4 c5 f1' d7 e0 e1 e2 e3
  show Calls Tryz.prog _ _ (setNow w1 w.heap.size p1.val nt.base s1.val) _
  generalize setNow w1 w.heap.size p1.val nt.base s1.val = W2 at HB2 HD2 HP2 HZ2 HIN2 ⊢
  refine (HSZ.out W2 HB2.out).mono ?_
  rintro e w3 ⟨rfl, hb3⟩
  have HB3 := hide (rBelow HB2.out hb3)
  have HD3 := hide (HD2.out.keep hb3)
  have HP3 := hide (HP2.out.keep hb3)
  have HZ3 := hide (HZ2.out.keep hb3)
  have HIN3 := hide (HIN2.out.keep hb3 (Nat.le_refl _))
  have d8 := HD3.out.c8
  have e0 := HP3.out.c0
  have e1 := HP3.out.c1
  have e2 := HP3.out.c2
  have e3 := HP3.out.c3
  unfold Sl.val at e1
  clear HD1 HP1 HZ1 HD2 HP2 HZ2 HIN HIN2 hb3
  go_wp2_with fail
  refine (HF.out w3 HB3.out).mono ?_
  rintro e w4 ⟨hb4, q4, rfl, hq4⟩
  have HB4 := hide (rBelow HB3.out hb4)
  have HD4 := hide (HD3.out.keep hb4)
  have HZ4 := hide (HZ3.out.keep hb4)
  have HIN4 := hide (HIN3.out.keep hb4 (Nat.le_refl _))
  have HQ4 := hide hq4
  clear HD3 HP3 HZ3 HIN3 hb4 hq4 d8 e0 e1 e2 e3
  have hal := below_alloc w4 (.cells #[.int .i64 f1.at_, q4.val, .bool f1.trim, .int .i64 f1.to] 102)
  have hne : w4.heap.size ≠ w.heap.size := by
    have := (Array.getElem?_eq_some_iff.1 HD4.out).1
    omega
  have hp5 := ptBlk_new w4 f1.at_ q4.val f1.trim f1.to
  have HB5 := hide (rBelow HB4.out hal)
  have HD5 := hide (HD4.out.keep hal)
  have HZ5 := hide (HZ4.out.keep hal)
  have HIN5 := hide (HIN4.out.keep hal (Nat.le_refl _))
  have HQ5 := hide (HQ4.out.keep hal (Nat.le_refl _))
  have hS5 := (Array.getElem?_eq_some_iff.1 HZ5.out).1
  have hD7 := HD5.out
  have hZ7 := HZ5.out
  have HZ7 := hide hZ7
  unfold Sl.nil at hZ7
  unfold Sl.val at hD7 hZ7
  simp only at hD7 hZ7
  have d0 := hD7.c0
  have d1 := hD7.c1
  have d2 := hD7.c2
  have d3 := hD7.c3
  have d4 := hD7.c4
  have d5 := hD7.c5
  have d6 := hD7.c6
  have d7 := hD7.c7
  have d8 := hD7.c8
  have fd := hD7.fz
  have z0 := hZ7.c0
  have z1 := hZ7.c1
  have z2 := hZ7.c2
  have z3 := hZ7.c3
  have z4 := hZ7.c4
  have z5 := hZ7.c5
  have z6 := hZ7.c6
  have z7 := hZ7.c7
  have z8 := hZ7.c8
  have fz := hZ7.fz
  clear hal hp5 hD7 hZ7 HD4 HZ4 HIN4 HQ4 HB4 hne hS5
  go_wp2_with fail
  show bodyPost Tryz.prog Tryz.f48 _ Exit.ret _ (setDv (w4.alloc (.cells #[.int .i64 f1.at_, q4.val, .bool f1.trim, .int .i64 f1.to] 102)) (w.heap.size + 1 + 1) L.kp.val kept.base L.ks.val p1.val nt.base s1.val L.ds.val false armed)
  have hZE := HZ7.out
  refine dv_end rfl hZE ⟨kept, nt, done, false, armed⟩ ⟨L.kp, L.ks, p1, s1, L.ds⟩ (by rfl) rfl ?_
  have hbb := setDv_below HB5.out (show w.heap.size ≤ w.heap.size + 1 + 1 by omega) L.kp.val kept.base L.ks.val p1.val nt.base s1.val L.ds.val false armed
  have hin := HIN5.out.other hZE.no8 fun k hk => setDv_other _ _ L.kp.val kept.base L.ks.val p1.val nt.base s1.val L.ds.val false armed k hk
  exact ⟨hbb, ⟨L.kp, L.ks, p1, s1, L.ds⟩, rfl, H.out.kept.keep hbb (Nat.le_refl _), hin, H.out.done.keep hbb (Nat.le_refl _), H.out.nil, H.out.le⟩

set_option maxHeartbeats 4000000 in
set_option maxRecDepth 100000 in
theorem do_rich_none (d : Dv) (L : DvL) (u : Pt) (q : Sl) (w : World) (h : DvIn K w d L) (hu : BsS K w q u.b) (hf : Fits d.now u) (hg : d.gone = false) (ha : 0 ≤ d.armed) (hs : (u.size : Int) ≤ d.armed) (hm : d.armed ≤ 9223372036854775807) (f1 : Pt) (hf1 : u.first (u.size : Nat) = (f1, false)) (hfa : (Lit.int .i64 f1.at_).wf = true) (hft : (Lit.int .i64 f1.to).wf = true) (hdl : d.done.length ≤ 1000) :
    Calls Tryz.prog 48 #[d.val L, u.val q] w fun e w' => Below w.heap.size w w' ∧ ∃ L', e = .returned (Dv.val ⟨d.kept, d.now.turn u, d.done, false, d.armed - (u.size : Nat)⟩ L') ∧ DvIn K w' ⟨d.kept, d.now.turn u, d.done, false, d.armed - (u.size : Nat)⟩ L' := by
  have HT : Hid (∀ w', Below w.heap.size w w' → Calls Tryz.prog 69 #[d.now.val L.np L.ns, u.val q] w' fun e w2 => Below w'.heap.size w' w2 ∧ ∃ p' s', e = .returned ((d.now.turn u).val p' s') ∧ DkIn K w2 (d.now.turn u) p' s') := fun w' hb => turn_any d.now L.np L.ns u q w' (h.now.keep hb (Nat.le_refl _)) (hu.keep hb (Nat.le_refl _)) hf
  have HSZ : Hid (∀ w', Below w.heap.size w w' → Calls Tryz.prog 70 #[u.val q] w' fun e w2 => e = .returned (.int .i64 (u.size : Nat)) ∧ Below w'.heap.size w' w2) := fun w' hb => size_any u q w' (hu.keep hb (Nat.le_refl _))
  have HF : Hid (∀ w', Below w.heap.size w w' → Calls Tryz.prog 71 #[u.val q, .int .i64 (u.size : Nat)] w' fun e w2 => Below w'.heap.size w' w2 ∧ ∃ q', e = .returned (.tuple #[f1.val q', .bool false]) ∧ BsS K w2 q' f1.b) := fun w' hb => by
    have := first_any u q (u.size : Nat) w' (hu.keep hb (Nat.le_refl _))
    rw [hf1] at this
    exact this
  have HI := hide (doIn_new w d L u q)
  have H := hide h
  generalize hW : doW w d L u q = W at HI
  have HWE := hide hW
  unfold doW at HWE
  have HDL := hide hdl
  have HFA := hide hfa
  have HFT := hide hft
  obtain ⟨kept, now, done, gone, armed⟩ := d
  simp only at hg ha hs hm
  subst hg
  clear h hu hf hW hf1 hfa hft hdl
  generalize hnt : now.turn u = nt at HT ⊢
  generalize hsz : u.size = sz at HSZ hs HF ⊢
  clear hnt hsz
  have hwr : IntKind.i64.wrap (armed - (sz : Nat)) = armed - (sz : Nat) := by rw [IntKind.wrap_i64]; omega
  have HWR := hide hwr
  clear hm
  unfold Dk.val Pt.val Sl.val at HT
  unfold Pt.val Sl.val at HSZ HF
  unfold Sl.nil Sl.val at HWE
  unfold Dv.val Pt.val Sl.val
  simp only at HT HSZ HF HWE ⊢
  go_enter Tryz.func48, Tryz.ntmps48
  go_wp2_with fail
  rw [HWE.out]
  refine (HT.out W HI.out.below).mono ?_
  rintro e w1 ⟨hb1, p1, s1, rfl, hin1⟩
  have hD1 := HI.out.dv.keep hb1
  have HB1 := hide (rBelow HI.out.below hb1)
  have HIN := hide hin1
  have HD1 := hide hD1
  have HP1 := hide (HI.out.pt.keep hb1)
  have HZ1 := hide (HI.out.zero.keep hb1)
  have hD2 := setNow_blk hD1 p1.val nt.base s1.val
  have hP2 := HP1.out.other (setNow_other w1 w.heap.size p1.val nt.base s1.val (w.heap.size + 1) (by omega))
  have HD2 := hide hD2
  have HP2 := hide hP2
  unfold setNow at hD2 hP2
  unfold Sl.val at hD1 hD2 hP2
  simp only at hD1 hD2 hP2
  have c3 := hD1.c3
  have c4 := hD1.c4
  have c5 := hD1.c5
  have f1' := hD1.fz
  have d7 := hD2.c7
  have e0 := hP2.c0
  have e1 := hP2.c1
  have e2 := hP2.c2
  have e3 := hP2.c3
  clear hb1 hD1 hD2 hP2 hin1
  go_wp2_with fail
  have HB2 := hide (setNow_below HB1.out (Nat.le_refl _) p1.val nt.base s1.val)
  have HZ2 := hide (HZ1.out.other (setNow_other w1 w.heap.size p1.val nt.base s1.val (w.heap.size + 1 + 1) (by omega)))
  have HIN2 := hide (HIN.out.other HD1.out.no8 fun k hk => setNow_other w1 w.heap.size p1.val nt.base s1.val k hk)
  clear c3 c4 c5 f1' d7 e0 e1 e2 e3
  show Calls Tryz.prog _ _ (setNow w1 w.heap.size p1.val nt.base s1.val) _
  generalize setNow w1 w.heap.size p1.val nt.base s1.val = W2 at HB2 HD2 HP2 HZ2 HIN2 ⊢
  refine (HSZ.out W2 HB2.out).mono ?_
  rintro e w3 ⟨rfl, hb3⟩
  have HB3 := hide (rBelow HB2.out hb3)
  have HD3 := hide (HD2.out.keep hb3)
  have HP3 := hide (HP2.out.keep hb3)
  have HZ3 := hide (HZ2.out.keep hb3)
  have HIN3 := hide (HIN2.out.keep hb3 (Nat.le_refl _))
  have d8 := HD3.out.c8
  have e0 := HP3.out.c0
  have e1 := HP3.out.c1
  have e2 := HP3.out.c2
  have e3 := HP3.out.c3
  unfold Sl.val at e1
  clear HD1 HP1 HZ1 HD2 HP2 HZ2 HIN HIN2 hb3
  go_wp2_with fail
  refine (HF.out w3 HB3.out).mono ?_
  rintro e w4 ⟨hb4, q4, rfl, hq4⟩
  have HB4 := hide (rBelow HB3.out hb4)
  have HD4 := hide (HD3.out.keep hb4)
  have HZ4 := hide (HZ3.out.keep hb4)
  have HIN4 := hide (HIN3.out.keep hb4 (Nat.le_refl _))
  have HQ4 := hide hq4
  clear HD3 HP3 HZ3 HIN3 hb4 hq4 d8 e0 e1 e2 e3
  have hal := below_alloc w4 (.cells #[.int .i64 f1.at_, q4.val, .bool f1.trim, .int .i64 f1.to] 102)
  have hne : w4.heap.size ≠ w.heap.size := by
    have := (Array.getElem?_eq_some_iff.1 HD4.out).1
    omega
  have hp5 := ptBlk_new w4 f1.at_ q4.val f1.trim f1.to
  have HB5 := hide (rBelow HB4.out hal)
  have HD5 := hide (HD4.out.keep hal)
  have HZ5 := hide (HZ4.out.keep hal)
  have HIN5 := hide (HIN4.out.keep hal (Nat.le_refl _))
  have HQ5 := hide (HQ4.out.keep hal (Nat.le_refl _))
  have hS5 := (Array.getElem?_eq_some_iff.1 HZ5.out).1
  have hD7 := HD5.out
  have hZ7 := HZ5.out
  have HZ7 := hide hZ7
  unfold Sl.nil at hZ7
  unfold Sl.val at hD7 hZ7
  simp only at hD7 hZ7
  have d0 := hD7.c0
  have d1 := hD7.c1
  have d2 := hD7.c2
  have d3 := hD7.c3
  have d4 := hD7.c4
  have d5 := hD7.c5
  have d6 := hD7.c6
  have d7 := hD7.c7
  have d8 := hD7.c8
  have fd := hD7.fz
  have z0 := hZ7.c0
  have z1 := hZ7.c1
  have z2 := hZ7.c2
  have z3 := hZ7.c3
  have z4 := hZ7.c4
  have z5 := hZ7.c5
  have z6 := hZ7.c6
  have z7 := hZ7.c7
  have z8 := hZ7.c8
  have fz := hZ7.fz
  have hD8 := hD7.set8 (armed - (sz : Nat))
  have hZ8 := hZ7.other (Below.heap_setCell (w4.alloc (.cells #[.int .i64 f1.at_, q4.val, .bool f1.trim, .int .i64 f1.to] 102)) ⟨w.heap.size, 8, none⟩ (.int .i64 (armed - (sz : Nat))) (w.heap.size + 1 + 1) (by show w.heap.size + 1 + 1 ≠ w.heap.size; omega))
  have x0 := hD8.c0
  have x1 := hD8.c1
  have x2 := hD8.c2
  have x3 := hD8.c3
  have x4 := hD8.c4
  have x5 := hD8.c5
  have x6 := hD8.c6
  have x7 := hD8.c7
  have x8 := hD8.c8
  have y0 := hZ8.c0
  have y1 := hZ8.c1
  have y2 := hZ8.c2
  have y3 := hZ8.c3
  have y4 := hZ8.c4
  have y5 := hZ8.c5
  have y6 := hZ8.c6
  have y7 := hZ8.c7
  have y8 := hZ8.c8
  have fy := hZ8.fz
  clear hD8 hZ8
  clear hal hp5 hD7 hZ7 HD4 HZ4 HIN4 HQ4 HB4 hne hS5
  go_wp2_with fail
  show bodyPost Tryz.prog Tryz.f48 _ Exit.ret _ (setDv ((w4.alloc (.cells #[.int .i64 f1.at_, q4.val, .bool f1.trim, .int .i64 f1.to] 102)).setCell ⟨w.heap.size, 8, none⟩ (.int .i64 (armed - (sz : Nat)))) (w.heap.size + 1 + 1) L.kp.val kept.base L.ks.val p1.val nt.base s1.val L.ds.val false (armed - (sz : Nat)))
  have hZE := HZ7.out.other (Below.heap_setCell (w4.alloc (.cells #[.int .i64 f1.at_, q4.val, .bool f1.trim, .int .i64 f1.to] 102)) ⟨w.heap.size, 8, none⟩ (.int .i64 (armed - (sz : Nat))) (w.heap.size + 1 + 1) (by show w.heap.size + 1 + 1 ≠ w.heap.size; omega))
  refine dv_end rfl hZE ⟨kept, nt, done, false, (armed - (sz : Nat))⟩ ⟨L.kp, L.ks, p1, s1, L.ds⟩ (by rfl) rfl ?_
  have hbb := setDv_below (HB5.out.setCell (p := ⟨w.heap.size, 8, none⟩) (Nat.le_refl _) (.int .i64 (armed - (sz : Nat)))) (show w.heap.size ≤ w.heap.size + 1 + 1 by omega) L.kp.val kept.base L.ks.val p1.val nt.base s1.val L.ds.val false (armed - (sz : Nat))
  have hin := (HIN5.out.other HD5.out.no8 fun k hk => Below.heap_setCell (w4.alloc (.cells #[.int .i64 f1.at_, q4.val, .bool f1.trim, .int .i64 f1.to] 102)) ⟨w.heap.size, 8, none⟩ (.int .i64 (armed - (sz : Nat))) k hk).other hZE.no8 fun k hk => setDv_other _ _ L.kp.val kept.base L.ks.val p1.val nt.base s1.val L.ds.val false (armed - (sz : Nat)) k hk
  exact ⟨hbb, ⟨L.kp, L.ks, p1, s1, L.ds⟩, rfl, H.out.kept.keep hbb (Nat.le_refl _), hin, H.out.done.keep hbb (Nat.le_refl _), H.out.nil, H.out.le⟩

set_option maxHeartbeats 4000000 in
set_option maxRecDepth 100000 in
theorem do_rich_some (d : Dv) (L : DvL) (u : Pt) (q : Sl) (w : World) (h : DvIn K w d L) (hu : BsS K w q u.b) (hf : Fits d.now u) (hg : d.gone = false) (ha : 0 ≤ d.armed) (hs : (u.size : Int) ≤ d.armed) (hm : d.armed ≤ 9223372036854775807) (f1 : Pt) (hf1 : u.first (u.size : Nat) = (f1, true)) (hfa : (Lit.int .i64 f1.at_).wf = true) (hft : (Lit.int .i64 f1.to).wf = true) (hdl : d.done.length ≤ 1000) :
    Calls Tryz.prog 48 #[d.val L, u.val q] w fun e w' => Below w.heap.size w w' ∧ ∃ L' q', e = .returned (Dv.val ⟨d.kept, d.now.turn u, d.done ++ [⟨f1, q'⟩], false, d.armed - (u.size : Nat)⟩ L') ∧ DvIn K w' ⟨d.kept, d.now.turn u, d.done ++ [⟨f1, q'⟩], false, d.armed - (u.size : Nat)⟩ L' := by
  have HT : Hid (∀ w', Below w.heap.size w w' → Calls Tryz.prog 69 #[d.now.val L.np L.ns, u.val q] w' fun e w2 => Below w'.heap.size w' w2 ∧ ∃ p' s', e = .returned ((d.now.turn u).val p' s') ∧ DkIn K w2 (d.now.turn u) p' s') := fun w' hb => turn_any d.now L.np L.ns u q w' (h.now.keep hb (Nat.le_refl _)) (hu.keep hb (Nat.le_refl _)) hf
  have HSZ : Hid (∀ w', Below w.heap.size w w' → Calls Tryz.prog 70 #[u.val q] w' fun e w2 => e = .returned (.int .i64 (u.size : Nat)) ∧ Below w'.heap.size w' w2) := fun w' hb => size_any u q w' (hu.keep hb (Nat.le_refl _))
  have HF : Hid (∀ w', Below w.heap.size w w' → Calls Tryz.prog 71 #[u.val q, .int .i64 (u.size : Nat)] w' fun e w2 => Below w'.heap.size w' w2 ∧ ∃ q', e = .returned (.tuple #[f1.val q', .bool true]) ∧ BsS K w2 q' f1.b) := fun w' hb => by
    have := first_any u q (u.size : Nat) w' (hu.keep hb (Nat.le_refl _))
    rw [hf1] at this
    exact this
  have HI := hide (doIn_new w d L u q)
  have H := hide h
  generalize hW : doW w d L u q = W at HI
  have HWE := hide hW
  unfold doW at HWE
  have HDL := hide hdl
  have HFA := hide hfa
  have HFT := hide hft
  obtain ⟨kept, now, done, gone, armed⟩ := d
  simp only at hg ha hs hm
  subst hg
  clear h hu hf hW hf1 hfa hft hdl
  generalize hnt : now.turn u = nt at HT ⊢
  generalize hsz : u.size = sz at HSZ hs HF ⊢
  clear hnt hsz
  have hwr : IntKind.i64.wrap (armed - (sz : Nat)) = armed - (sz : Nat) := by rw [IntKind.wrap_i64]; omega
  have HWR := hide hwr
  clear hm
  unfold Dk.val Pt.val Sl.val at HT
  unfold Pt.val Sl.val at HSZ HF
  unfold Sl.nil Sl.val at HWE
  unfold Dv.val Pt.val Sl.val
  simp only at HT HSZ HF HWE ⊢
  go_enter Tryz.func48, Tryz.ntmps48
  go_wp2_with fail
  rw [HWE.out]
  refine (HT.out W HI.out.below).mono ?_
  rintro e w1 ⟨hb1, p1, s1, rfl, hin1⟩
  have hD1 := HI.out.dv.keep hb1
  have HB1 := hide (rBelow HI.out.below hb1)
  have HIN := hide hin1
  have HD1 := hide hD1
  have HP1 := hide (HI.out.pt.keep hb1)
  have HZ1 := hide (HI.out.zero.keep hb1)
  have hD2 := setNow_blk hD1 p1.val nt.base s1.val
  have hP2 := HP1.out.other (setNow_other w1 w.heap.size p1.val nt.base s1.val (w.heap.size + 1) (by omega))
  have HD2 := hide hD2
  have HP2 := hide hP2
  unfold setNow at hD2 hP2
  unfold Sl.val at hD1 hD2 hP2
  simp only at hD1 hD2 hP2
  have c3 := hD1.c3
  have c4 := hD1.c4
  have c5 := hD1.c5
  have f1' := hD1.fz
  have d7 := hD2.c7
  have e0 := hP2.c0
  have e1 := hP2.c1
  have e2 := hP2.c2
  have e3 := hP2.c3
  clear hb1 hD1 hD2 hP2 hin1
  go_wp2_with fail
  have HB2 := hide (setNow_below HB1.out (Nat.le_refl _) p1.val nt.base s1.val)
  have HZ2 := hide (HZ1.out.other (setNow_other w1 w.heap.size p1.val nt.base s1.val (w.heap.size + 1 + 1) (by omega)))
  have HIN2 := hide (HIN.out.other HD1.out.no8 fun k hk => setNow_other w1 w.heap.size p1.val nt.base s1.val k hk)
  clear c3 c4 c5 f1' d7 e0 e1 e2 e3
  show Calls Tryz.prog _ _ (setNow w1 w.heap.size p1.val nt.base s1.val) _
  generalize setNow w1 w.heap.size p1.val nt.base s1.val = W2 at HB2 HD2 HP2 HZ2 HIN2 ⊢
  refine (HSZ.out W2 HB2.out).mono ?_
  rintro e w3 ⟨rfl, hb3⟩
  have HB3 := hide (rBelow HB2.out hb3)
  have HD3 := hide (HD2.out.keep hb3)
  have HP3 := hide (HP2.out.keep hb3)
  have HZ3 := hide (HZ2.out.keep hb3)
  have HIN3 := hide (HIN2.out.keep hb3 (Nat.le_refl _))
  have d8 := HD3.out.c8
  have e0 := HP3.out.c0
  have e1 := HP3.out.c1
  have e2 := HP3.out.c2
  have e3 := HP3.out.c3
  unfold Sl.val at e1
  clear HD1 HP1 HZ1 HD2 HP2 HZ2 HIN HIN2 hb3
  go_wp2_with fail
  refine (HF.out w3 HB3.out).mono ?_
  rintro e w4 ⟨hb4, q4, rfl, hq4⟩
  have HB4 := hide (rBelow HB3.out hb4)
  have HD4 := hide (HD3.out.keep hb4)
  have HZ4 := hide (HZ3.out.keep hb4)
  have HIN4 := hide (HIN3.out.keep hb4 (Nat.le_refl _))
  have HQ4 := hide hq4
  clear HD3 HP3 HZ3 HIN3 hb4 hq4 d8 e0 e1 e2 e3
  go_wp2_with fail
  have hal := below_alloc w4 (.cells #[.int .i64 f1.at_, q4.val, .bool f1.trim, .int .i64 f1.to] 102)
  have hne : w4.heap.size ≠ w.heap.size := by
    have := (Array.getElem?_eq_some_iff.1 HD4.out).1
    omega
  have hp5 := ptBlk_new w4 f1.at_ q4.val f1.trim f1.to
  have HB5 := hide (rBelow HB4.out hal)
  have HD5 := hide (HD4.out.keep hal)
  have HZ5 := hide (HZ4.out.keep hal)
  have HIN5 := hide (HIN4.out.keep hal (Nat.le_refl _))
  have HQ5 := hide (HQ4.out.keep hal (Nat.le_refl _))
  refine Pl.region_is (ops := Pl.find 10 ((Tryz.f48.body).getD .skip)) (by kernel_rfl) ?_
  refine do10 _ w.heap.size w4.heap.size hne _ _ _ _ _ _ L.ds.a L.ds.len L.ds.cap false armed ⟨f1, q4⟩ done HD5.out hp5 ⟨HQ5.out, HFA.out, HFT.out⟩ (H.out.done.keep HB5.out (Nat.le_refl _)) H.out.nil (by have := H.out.done.1; have := HDL.out; simp only at *; omega) (by rfl) (by rfl) (by rfl) (by rfl) ?_
  intro v w6 v6 ho6 hb6
  simp only [Act.put, List.setIfInBounds_toArray, List.set_cons_zero, List.set_cons_succ]
  have HB6 := hide (rBelow HB5.out hb6)
  have HD6 := hide (HD5.out.keep hb6)
  have HZ6 := hide (HZ5.out.keep hb6)
  have HIN6 := hide (HIN5.out.keep hb6 (Nat.le_refl _))
  have HQ6 := hide (HQ5.out.keep hb6 (Nat.le_refl _))
  have HO6 := hide ho6
  have HS5 : Hid (w.heap.size + 1 + 1 < (w4.alloc (.cells #[.int .i64 f1.at_, q4.val, .bool f1.trim, .int .i64 f1.to] 102)).heap.size) := (Array.getElem?_eq_some_iff.1 HZ5.out).1
  obtain ⟨a6, l6, k6, rfl⟩ := ho6.form
  have hD7 := HD6.out.set6 (.slice a6 l6 k6)
  have hZ7 := HZ6.out.other (Below.heap_setCell w6 ⟨w.heap.size, 6, none⟩ (.slice a6 l6 k6) (w.heap.size + 1 + 1) (by show w.heap.size + 1 + 1 ≠ w.heap.size; omega))
  have HZ7 := hide hZ7
  unfold Sl.nil at hZ7
  unfold Sl.val at hD7 hZ7
  simp only at hD7 hZ7
  have d0 := hD7.c0
  have d1 := hD7.c1
  have d2 := hD7.c2
  have d3 := hD7.c3
  have d4 := hD7.c4
  have d5 := hD7.c5
  have d6 := hD7.c6
  have d7 := hD7.c7
  have d8 := hD7.c8
  have fd := hD7.fz
  have z0 := hZ7.c0
  have z1 := hZ7.c1
  have z2 := hZ7.c2
  have z3 := hZ7.c3
  have z4 := hZ7.c4
  have z5 := hZ7.c5
  have z6 := hZ7.c6
  have z7 := hZ7.c7
  have z8 := hZ7.c8
  have fz := hZ7.fz
  have hD8 := hD7.set8 (armed - (sz : Nat))
  have hZ8 := hZ7.other (Below.heap_setCell (w6.setCell ⟨w.heap.size, 6, none⟩ (.slice a6 l6 k6)) ⟨w.heap.size, 8, none⟩ (.int .i64 (armed - (sz : Nat))) (w.heap.size + 1 + 1) (by show w.heap.size + 1 + 1 ≠ w.heap.size; omega))
  have x0 := hD8.c0
  have x1 := hD8.c1
  have x2 := hD8.c2
  have x3 := hD8.c3
  have x4 := hD8.c4
  have x5 := hD8.c5
  have x6 := hD8.c6
  have x7 := hD8.c7
  have x8 := hD8.c8
  have y0 := hZ8.c0
  have y1 := hZ8.c1
  have y2 := hZ8.c2
  have y3 := hZ8.c3
  have y4 := hZ8.c4
  have y5 := hZ8.c5
  have y6 := hZ8.c6
  have y7 := hZ8.c7
  have y8 := hZ8.c8
  have fy := hZ8.fz
  clear hD8 hZ8
  clear ho6 hb6 hal hp5 hD7 hZ7 HD4 HZ4 HIN4 HQ4 HB4 hne
  go_wp2_with fail
  show bodyPost Tryz.prog Tryz.f48 _ Exit.ret _ (setDv ((w6.setCell ⟨w.heap.size, 6, none⟩ (.slice a6 l6 k6)).setCell ⟨w.heap.size, 8, none⟩ (.int .i64 (armed - (sz : Nat)))) (w.heap.size + 1 + 1) L.kp.val kept.base L.ks.val p1.val nt.base s1.val (Sl.val ⟨a6, l6, k6⟩) false (armed - (sz : Nat)))
  have hZE := HZ7.out.other (Below.heap_setCell (w6.setCell ⟨w.heap.size, 6, none⟩ (.slice a6 l6 k6)) ⟨w.heap.size, 8, none⟩ (.int .i64 (armed - (sz : Nat))) (w.heap.size + 1 + 1) (by show w.heap.size + 1 + 1 ≠ w.heap.size; omega))
  refine dv_end rfl hZE ⟨kept, nt, done ++ [⟨f1, q4⟩], false, (armed - (sz : Nat))⟩ ⟨L.kp, L.ks, p1, s1, ⟨a6, l6, k6⟩⟩ (by rfl) rfl ?_
  have hbb := setDv_below ((HB6.out.setCell (p := ⟨w.heap.size, 6, none⟩) (Nat.le_refl _) (.slice a6 l6 k6)).setCell (p := ⟨w.heap.size, 8, none⟩) (Nat.le_refl _) (.int .i64 (armed - (sz : Nat)))) (show w.heap.size ≤ w.heap.size + 1 + 1 by omega) L.kp.val kept.base L.ks.val p1.val nt.base s1.val (Sl.val ⟨a6, l6, k6⟩) false (armed - (sz : Nat))
  have hDs := HD6.out.set6 (Sl.val ⟨a6, l6, k6⟩)
  have hin := ((HIN6.out.other HD6.out.no8 fun k hk => Below.heap_setCell w6 ⟨w.heap.size, 6, none⟩ (.slice a6 l6 k6) k hk).other hDs.no8 fun k hk => Below.heap_setCell (w6.setCell ⟨w.heap.size, 6, none⟩ (.slice a6 l6 k6)) ⟨w.heap.size, 8, none⟩ (.int .i64 (armed - (sz : Nat))) k hk).other hZE.no8 fun k hk => setDv_other _ _ L.kp.val kept.base L.ks.val p1.val nt.base s1.val (Sl.val ⟨a6, l6, k6⟩) false (armed - (sz : Nat)) k hk
  have hoth : ∀ k, w.heap.size + 1 + 1 < k → (setDv ((w6.setCell ⟨w.heap.size, 6, none⟩ (.slice a6 l6 k6)).setCell ⟨w.heap.size, 8, none⟩ (.int .i64 (armed - (sz : Nat)))) (w.heap.size + 1 + 1) L.kp.val kept.base L.ks.val p1.val nt.base s1.val (Sl.val ⟨a6, l6, k6⟩) false (armed - (sz : Nat))).heap[k]? = w6.heap[k]? := by
    intro k hk
    rw [setDv_other _ _ _ _ _ _ _ _ _ _ _ k (by omega)]
    rw [Below.heap_setCell _ ⟨w.heap.size, 8, none⟩ _ k (by show k ≠ w.heap.size; omega)]
    exact Below.heap_setCell _ ⟨w.heap.size, 6, none⟩ _ k (by show k ≠ w.heap.size; omega)
  have hq := ((HQ6.out.other HD6.out.no8 fun k hk => Below.heap_setCell w6 ⟨w.heap.size, 6, none⟩ (.slice a6 l6 k6) k hk).other hDs.no8 fun k hk => Below.heap_setCell (w6.setCell ⟨w.heap.size, 6, none⟩ (.slice a6 l6 k6)) ⟨w.heap.size, 8, none⟩ (.int .i64 (armed - (sz : Nat))) k hk).other hZE.no8 fun k hk => setDv_other _ _ L.kp.val kept.base L.ks.val p1.val nt.base s1.val (Sl.val ⟨a6, l6, k6⟩) false (armed - (sz : Nat)) k hk
  have hps := (HO6.out.off fun k hk => hoth k (Nat.lt_of_lt_of_le HS5.out hk)).slAt (s := ⟨a6, l6, k6⟩) (fun i hi => by
    rcases List.mem_append.1 hi with h1 | h1
    · exact (H.out.done.2.1 i h1).keep hbb (Nat.le_refl _)
    · simp only [List.mem_singleton] at h1
      subst h1
      exact ⟨hq, HFA.out, HFT.out⟩)
  exact ⟨hbb, ⟨L.kp, L.ks, p1, s1, ⟨a6, l6, k6⟩⟩, q4, rfl, H.out.kept.keep hbb (Nat.le_refl _), hin, hps.1, hps.2.1, hps.2.2⟩

set_option maxHeartbeats 4000000 in
set_option maxRecDepth 100000 in
theorem do_poor_none (d : Dv) (L : DvL) (u : Pt) (q : Sl) (w : World) (h : DvIn K w d L) (hu : BsS K w q u.b) (hf : Fits d.now u) (hg : d.gone = false) (ha : 0 ≤ d.armed) (hs : d.armed < (u.size : Int)) (f1 : Pt) (hf1 : u.first d.armed = (f1, false)) (hfa : (Lit.int .i64 f1.at_).wf = true) (hft : (Lit.int .i64 f1.to).wf = true) (hdl : d.done.length ≤ 1000) :
    Calls Tryz.prog 48 #[d.val L, u.val q] w fun e w' => Below w.heap.size w w' ∧ ∃ L', e = .returned (Dv.val ⟨d.kept, d.now.turn u, d.done, true, 0⟩ L') ∧ DvIn K w' ⟨d.kept, d.now.turn u, d.done, true, 0⟩ L' := by
  have HT : Hid (∀ w', Below w.heap.size w w' → Calls Tryz.prog 69 #[d.now.val L.np L.ns, u.val q] w' fun e w2 => Below w'.heap.size w' w2 ∧ ∃ p' s', e = .returned ((d.now.turn u).val p' s') ∧ DkIn K w2 (d.now.turn u) p' s') := fun w' hb => turn_any d.now L.np L.ns u q w' (h.now.keep hb (Nat.le_refl _)) (hu.keep hb (Nat.le_refl _)) hf
  have HSZ : Hid (∀ w', Below w.heap.size w w' → Calls Tryz.prog 70 #[u.val q] w' fun e w2 => e = .returned (.int .i64 (u.size : Nat)) ∧ Below w'.heap.size w' w2) := fun w' hb => size_any u q w' (hu.keep hb (Nat.le_refl _))
  have HF : Hid (∀ w', Below w.heap.size w w' → Calls Tryz.prog 71 #[u.val q, .int .i64 d.armed] w' fun e w2 => Below w'.heap.size w' w2 ∧ ∃ q', e = .returned (.tuple #[f1.val q', .bool false]) ∧ BsS K w2 q' f1.b) := fun w' hb => by
    have := first_any u q d.armed w' (hu.keep hb (Nat.le_refl _))
    rw [hf1] at this
    exact this
  have HI := hide (doIn_new w d L u q)
  have H := hide h
  generalize hW : doW w d L u q = W at HI
  have HWE := hide hW
  unfold doW at HWE
  have HDL := hide hdl
  have HFA := hide hfa
  have HFT := hide hft
  obtain ⟨kept, now, done, gone, armed⟩ := d
  simp only at hg ha hs HF
  subst hg
  clear h hu hf hW hf1 hfa hft hdl
  generalize hnt : now.turn u = nt at HT ⊢
  generalize hsz : u.size = sz at HSZ hs ⊢
  clear hnt hsz
  unfold Dk.val Pt.val Sl.val at HT
  unfold Pt.val Sl.val at HSZ HF
  unfold Sl.nil Sl.val at HWE
  unfold Dv.val Pt.val Sl.val
  simp only at HT HSZ HF HWE ⊢
  go_enter Tryz.func48, Tryz.ntmps48
  go_wp2_with fail
  rw [HWE.out]
  refine (HT.out W HI.out.below).mono ?_
  rintro e w1 ⟨hb1, p1, s1, rfl, hin1⟩
  have hD1 := HI.out.dv.keep hb1
  have HB1 := hide (rBelow HI.out.below hb1)
  have HIN := hide hin1
  have HD1 := hide hD1
  have HP1 := hide (HI.out.pt.keep hb1)
  have HZ1 := hide (HI.out.zero.keep hb1)
  have hD2 := setNow_blk hD1 p1.val nt.base s1.val
  have hP2 := HP1.out.other (setNow_other w1 w.heap.size p1.val nt.base s1.val (w.heap.size + 1) (by omega))
  have HD2 := hide hD2
  have HP2 := hide hP2
  unfold setNow at hD2 hP2
  unfold Sl.val at hD1 hD2 hP2
  simp only at hD1 hD2 hP2
  have c3 := hD1.c3
  have c4 := hD1.c4
  have c5 := hD1.c5
  have f1' := hD1.fz
  have d7 := hD2.c7
  have e0 := hP2.c0
  have e1 := hP2.c1
  have e2 := hP2.c2
  have e3 := hP2.c3
  clear hb1 hD1 hD2 hP2 hin1
  go_wp2_with fail
  have HB2 := hide (setNow_below HB1.out (Nat.le_refl _) p1.val nt.base s1.val)
  have HZ2 := hide (HZ1.out.other (setNow_other w1 w.heap.size p1.val nt.base s1.val (w.heap.size + 1 + 1) (by omega)))
  have HIN2 := hide (HIN.out.other HD1.out.no8 fun k hk => setNow_other w1 w.heap.size p1.val nt.base s1.val k hk)
  clear c3 c4 c5 f1' d7 e0 e1 e2 e3
  show Calls Tryz.prog _ _ (setNow w1 w.heap.size p1.val nt.base s1.val) _
  generalize setNow w1 w.heap.size p1.val nt.base s1.val = W2 at HB2 HD2 HP2 HZ2 HIN2 ⊢
  refine (HSZ.out W2 HB2.out).mono ?_
  rintro e w3 ⟨rfl, hb3⟩
  have HB3 := hide (rBelow HB2.out hb3)
  have HD3 := hide (HD2.out.keep hb3)
  have HP3 := hide (HP2.out.keep hb3)
  have HZ3 := hide (HZ2.out.keep hb3)
  have HIN3 := hide (HIN2.out.keep hb3 (Nat.le_refl _))
  have d8 := HD3.out.c8
  have e0 := HP3.out.c0
  have e1 := HP3.out.c1
  have e2 := HP3.out.c2
  have e3 := HP3.out.c3
  unfold Sl.val at e1
  have f7 := HD3.out.fz
  have d7 := HD3.out.c7
  have HP3' := hide (HP3.out.other (Below.heap_setCell w3 ⟨w.heap.size, 7, none⟩ (.bool true) (w.heap.size + 1) (by show w.heap.size + 1 ≠ w.heap.size; omega)))
  have g0 := HP3'.out.c0
  have g1 := HP3'.out.c1
  have g2 := HP3'.out.c2
  have g3 := HP3'.out.c3
  unfold Sl.val at g1
  clear HD1 HP1 HZ1 HD2 HP2 HZ2 HIN HIN2 hb3
  go_wp2_with fail
  have HBx := hide (HB3.out.setCell (p := ⟨w.heap.size, 7, none⟩) (Nat.le_refl _) (.bool true))
  have HDx := hide (HD3.out.set7 true)
  have HZx := hide (HZ3.out.other (Below.heap_setCell w3 ⟨w.heap.size, 7, none⟩ (.bool true) (w.heap.size + 1 + 1) (by show w.heap.size + 1 + 1 ≠ w.heap.size; omega)))
  have HINx := hide (HIN3.out.other HD3.out.no8 fun k hk => Below.heap_setCell w3 ⟨w.heap.size, 7, none⟩ (.bool true) k hk)
  clear f7 d7 g0 g1 g2 g3 d8 e0 e1 e2 e3 HP3 HP3' HB3 HD3 HZ3 HIN3
  generalize w3.setCell ⟨w.heap.size, 7, none⟩ (.bool true) = wx at HBx HDx HZx HINx ⊢
  refine (HF.out wx HBx.out).mono ?_
  rintro e w4 ⟨hb4, q4, rfl, hq4⟩
  have HB4 := hide (rBelow HBx.out hb4)
  have HD4 := hide (HDx.out.keep hb4)
  have HZ4 := hide (HZx.out.keep hb4)
  have HIN4 := hide (HINx.out.keep hb4 (Nat.le_refl _))
  have HQ4 := hide hq4
  clear HDx HZx HINx hb4 hq4
  have hal := below_alloc w4 (.cells #[.int .i64 f1.at_, q4.val, .bool f1.trim, .int .i64 f1.to] 102)
  have hne : w4.heap.size ≠ w.heap.size := by
    have := (Array.getElem?_eq_some_iff.1 HD4.out).1
    omega
  have hp5 := ptBlk_new w4 f1.at_ q4.val f1.trim f1.to
  have HB5 := hide (rBelow HB4.out hal)
  have HD5 := hide (HD4.out.keep hal)
  have HZ5 := hide (HZ4.out.keep hal)
  have HIN5 := hide (HIN4.out.keep hal (Nat.le_refl _))
  have HQ5 := hide (HQ4.out.keep hal (Nat.le_refl _))
  have hS5 := (Array.getElem?_eq_some_iff.1 HZ5.out).1
  have hD7 := HD5.out
  have hZ7 := HZ5.out
  have HZ7 := hide hZ7
  unfold Sl.nil at hZ7
  unfold Sl.val at hD7 hZ7
  simp only at hD7 hZ7
  have d0 := hD7.c0
  have d1 := hD7.c1
  have d2 := hD7.c2
  have d3 := hD7.c3
  have d4 := hD7.c4
  have d5 := hD7.c5
  have d6 := hD7.c6
  have d7 := hD7.c7
  have d8 := hD7.c8
  have fd := hD7.fz
  have z0 := hZ7.c0
  have z1 := hZ7.c1
  have z2 := hZ7.c2
  have z3 := hZ7.c3
  have z4 := hZ7.c4
  have z5 := hZ7.c5
  have z6 := hZ7.c6
  have z7 := hZ7.c7
  have z8 := hZ7.c8
  have fz := hZ7.fz
  have hD8 := hD7.set8 0
  have hZ8 := hZ7.other (Below.heap_setCell (w4.alloc (.cells #[.int .i64 f1.at_, q4.val, .bool f1.trim, .int .i64 f1.to] 102)) ⟨w.heap.size, 8, none⟩ (.int .i64 0) (w.heap.size + 1 + 1) (by show w.heap.size + 1 + 1 ≠ w.heap.size; omega))
  have x0 := hD8.c0
  have x1 := hD8.c1
  have x2 := hD8.c2
  have x3 := hD8.c3
  have x4 := hD8.c4
  have x5 := hD8.c5
  have x6 := hD8.c6
  have x7 := hD8.c7
  have x8 := hD8.c8
  have y0 := hZ8.c0
  have y1 := hZ8.c1
  have y2 := hZ8.c2
  have y3 := hZ8.c3
  have y4 := hZ8.c4
  have y5 := hZ8.c5
  have y6 := hZ8.c6
  have y7 := hZ8.c7
  have y8 := hZ8.c8
  have fy := hZ8.fz
  clear hD8 hZ8
  clear hal hp5 hD7 hZ7 HD4 HZ4 HIN4 HQ4 HB4 hne hS5
  go_wp2_with fail
  show bodyPost Tryz.prog Tryz.f48 _ Exit.ret _ (setDv ((w4.alloc (.cells #[.int .i64 f1.at_, q4.val, .bool f1.trim, .int .i64 f1.to] 102)).setCell ⟨w.heap.size, 8, none⟩ (.int .i64 0)) (w.heap.size + 1 + 1) L.kp.val kept.base L.ks.val p1.val nt.base s1.val L.ds.val true 0)
  have hZE := HZ7.out.other (Below.heap_setCell (w4.alloc (.cells #[.int .i64 f1.at_, q4.val, .bool f1.trim, .int .i64 f1.to] 102)) ⟨w.heap.size, 8, none⟩ (.int .i64 0) (w.heap.size + 1 + 1) (by show w.heap.size + 1 + 1 ≠ w.heap.size; omega))
  refine dv_end rfl hZE ⟨kept, nt, done, true, 0⟩ ⟨L.kp, L.ks, p1, s1, L.ds⟩ (by rfl) rfl ?_
  have hbb := setDv_below (HB5.out.setCell (p := ⟨w.heap.size, 8, none⟩) (Nat.le_refl _) (.int .i64 0)) (show w.heap.size ≤ w.heap.size + 1 + 1 by omega) L.kp.val kept.base L.ks.val p1.val nt.base s1.val L.ds.val true 0
  have hin := (HIN5.out.other HD5.out.no8 fun k hk => Below.heap_setCell (w4.alloc (.cells #[.int .i64 f1.at_, q4.val, .bool f1.trim, .int .i64 f1.to] 102)) ⟨w.heap.size, 8, none⟩ (.int .i64 0) k hk).other hZE.no8 fun k hk => setDv_other _ _ L.kp.val kept.base L.ks.val p1.val nt.base s1.val L.ds.val true 0 k hk
  exact ⟨hbb, ⟨L.kp, L.ks, p1, s1, L.ds⟩, rfl, H.out.kept.keep hbb (Nat.le_refl _), hin, H.out.done.keep hbb (Nat.le_refl _), H.out.nil, H.out.le⟩

set_option maxHeartbeats 4000000 in
set_option maxRecDepth 100000 in
theorem do_poor_some (d : Dv) (L : DvL) (u : Pt) (q : Sl) (w : World) (h : DvIn K w d L) (hu : BsS K w q u.b) (hf : Fits d.now u) (hg : d.gone = false) (ha : 0 ≤ d.armed) (hs : d.armed < (u.size : Int)) (f1 : Pt) (hf1 : u.first d.armed = (f1, true)) (hfa : (Lit.int .i64 f1.at_).wf = true) (hft : (Lit.int .i64 f1.to).wf = true) (hdl : d.done.length ≤ 1000) :
    Calls Tryz.prog 48 #[d.val L, u.val q] w fun e w' => Below w.heap.size w w' ∧ ∃ L' q', e = .returned (Dv.val ⟨d.kept, d.now.turn u, d.done ++ [⟨f1, q'⟩], true, 0⟩ L') ∧ DvIn K w' ⟨d.kept, d.now.turn u, d.done ++ [⟨f1, q'⟩], true, 0⟩ L' := by
  have HT : Hid (∀ w', Below w.heap.size w w' → Calls Tryz.prog 69 #[d.now.val L.np L.ns, u.val q] w' fun e w2 => Below w'.heap.size w' w2 ∧ ∃ p' s', e = .returned ((d.now.turn u).val p' s') ∧ DkIn K w2 (d.now.turn u) p' s') := fun w' hb => turn_any d.now L.np L.ns u q w' (h.now.keep hb (Nat.le_refl _)) (hu.keep hb (Nat.le_refl _)) hf
  have HSZ : Hid (∀ w', Below w.heap.size w w' → Calls Tryz.prog 70 #[u.val q] w' fun e w2 => e = .returned (.int .i64 (u.size : Nat)) ∧ Below w'.heap.size w' w2) := fun w' hb => size_any u q w' (hu.keep hb (Nat.le_refl _))
  have HF : Hid (∀ w', Below w.heap.size w w' → Calls Tryz.prog 71 #[u.val q, .int .i64 d.armed] w' fun e w2 => Below w'.heap.size w' w2 ∧ ∃ q', e = .returned (.tuple #[f1.val q', .bool true]) ∧ BsS K w2 q' f1.b) := fun w' hb => by
    have := first_any u q d.armed w' (hu.keep hb (Nat.le_refl _))
    rw [hf1] at this
    exact this
  have HI := hide (doIn_new w d L u q)
  have H := hide h
  generalize hW : doW w d L u q = W at HI
  have HWE := hide hW
  unfold doW at HWE
  have HDL := hide hdl
  have HFA := hide hfa
  have HFT := hide hft
  obtain ⟨kept, now, done, gone, armed⟩ := d
  simp only at hg ha hs HF
  subst hg
  clear h hu hf hW hf1 hfa hft hdl
  generalize hnt : now.turn u = nt at HT ⊢
  generalize hsz : u.size = sz at HSZ hs ⊢
  clear hnt hsz
  unfold Dk.val Pt.val Sl.val at HT
  unfold Pt.val Sl.val at HSZ HF
  unfold Sl.nil Sl.val at HWE
  unfold Dv.val Pt.val Sl.val
  simp only at HT HSZ HF HWE ⊢
  go_enter Tryz.func48, Tryz.ntmps48
  go_wp2_with fail
  rw [HWE.out]
  refine (HT.out W HI.out.below).mono ?_
  rintro e w1 ⟨hb1, p1, s1, rfl, hin1⟩
  have hD1 := HI.out.dv.keep hb1
  have HB1 := hide (rBelow HI.out.below hb1)
  have HIN := hide hin1
  have HD1 := hide hD1
  have HP1 := hide (HI.out.pt.keep hb1)
  have HZ1 := hide (HI.out.zero.keep hb1)
  have hD2 := setNow_blk hD1 p1.val nt.base s1.val
  have hP2 := HP1.out.other (setNow_other w1 w.heap.size p1.val nt.base s1.val (w.heap.size + 1) (by omega))
  have HD2 := hide hD2
  have HP2 := hide hP2
  unfold setNow at hD2 hP2
  unfold Sl.val at hD1 hD2 hP2
  simp only at hD1 hD2 hP2
  have c3 := hD1.c3
  have c4 := hD1.c4
  have c5 := hD1.c5
  have f1' := hD1.fz
  have d7 := hD2.c7
  have e0 := hP2.c0
  have e1 := hP2.c1
  have e2 := hP2.c2
  have e3 := hP2.c3
  clear hb1 hD1 hD2 hP2 hin1
  go_wp2_with fail
  have HB2 := hide (setNow_below HB1.out (Nat.le_refl _) p1.val nt.base s1.val)
  have HZ2 := hide (HZ1.out.other (setNow_other w1 w.heap.size p1.val nt.base s1.val (w.heap.size + 1 + 1) (by omega)))
  have HIN2 := hide (HIN.out.other HD1.out.no8 fun k hk => setNow_other w1 w.heap.size p1.val nt.base s1.val k hk)
  clear c3 c4 c5 f1' d7 e0 e1 e2 e3
  show Calls Tryz.prog _ _ (setNow w1 w.heap.size p1.val nt.base s1.val) _
  generalize setNow w1 w.heap.size p1.val nt.base s1.val = W2 at HB2 HD2 HP2 HZ2 HIN2 ⊢
  refine (HSZ.out W2 HB2.out).mono ?_
  rintro e w3 ⟨rfl, hb3⟩
  have HB3 := hide (rBelow HB2.out hb3)
  have HD3 := hide (HD2.out.keep hb3)
  have HP3 := hide (HP2.out.keep hb3)
  have HZ3 := hide (HZ2.out.keep hb3)
  have HIN3 := hide (HIN2.out.keep hb3 (Nat.le_refl _))
  have d8 := HD3.out.c8
  have e0 := HP3.out.c0
  have e1 := HP3.out.c1
  have e2 := HP3.out.c2
  have e3 := HP3.out.c3
  unfold Sl.val at e1
  have f7 := HD3.out.fz
  have d7 := HD3.out.c7
  have HP3' := hide (HP3.out.other (Below.heap_setCell w3 ⟨w.heap.size, 7, none⟩ (.bool true) (w.heap.size + 1) (by show w.heap.size + 1 ≠ w.heap.size; omega)))
  have g0 := HP3'.out.c0
  have g1 := HP3'.out.c1
  have g2 := HP3'.out.c2
  have g3 := HP3'.out.c3
  unfold Sl.val at g1
  clear HD1 HP1 HZ1 HD2 HP2 HZ2 HIN HIN2 hb3
  go_wp2_with fail
  have HBx := hide (HB3.out.setCell (p := ⟨w.heap.size, 7, none⟩) (Nat.le_refl _) (.bool true))
  have HDx := hide (HD3.out.set7 true)
  have HZx := hide (HZ3.out.other (Below.heap_setCell w3 ⟨w.heap.size, 7, none⟩ (.bool true) (w.heap.size + 1 + 1) (by show w.heap.size + 1 + 1 ≠ w.heap.size; omega)))
  have HINx := hide (HIN3.out.other HD3.out.no8 fun k hk => Below.heap_setCell w3 ⟨w.heap.size, 7, none⟩ (.bool true) k hk)
  clear f7 d7 g0 g1 g2 g3 d8 e0 e1 e2 e3 HP3 HP3' HB3 HD3 HZ3 HIN3
  generalize w3.setCell ⟨w.heap.size, 7, none⟩ (.bool true) = wx at HBx HDx HZx HINx ⊢
  refine (HF.out wx HBx.out).mono ?_
  rintro e w4 ⟨hb4, q4, rfl, hq4⟩
  have HB4 := hide (rBelow HBx.out hb4)
  have HD4 := hide (HDx.out.keep hb4)
  have HZ4 := hide (HZx.out.keep hb4)
  have HIN4 := hide (HINx.out.keep hb4 (Nat.le_refl _))
  have HQ4 := hide hq4
  clear HDx HZx HINx hb4 hq4
  go_wp2_with fail
  have hal := below_alloc w4 (.cells #[.int .i64 f1.at_, q4.val, .bool f1.trim, .int .i64 f1.to] 102)
  have hne : w4.heap.size ≠ w.heap.size := by
    have := (Array.getElem?_eq_some_iff.1 HD4.out).1
    omega
  have hp5 := ptBlk_new w4 f1.at_ q4.val f1.trim f1.to
  have HB5 := hide (rBelow HB4.out hal)
  have HD5 := hide (HD4.out.keep hal)
  have HZ5 := hide (HZ4.out.keep hal)
  have HIN5 := hide (HIN4.out.keep hal (Nat.le_refl _))
  have HQ5 := hide (HQ4.out.keep hal (Nat.le_refl _))
  refine Pl.region_is (ops := Pl.find 10 ((Tryz.f48.body).getD .skip)) (by kernel_rfl) ?_
  refine do10 _ w.heap.size w4.heap.size hne _ _ _ _ _ _ L.ds.a L.ds.len L.ds.cap true armed ⟨f1, q4⟩ done HD5.out hp5 ⟨HQ5.out, HFA.out, HFT.out⟩ (H.out.done.keep HB5.out (Nat.le_refl _)) H.out.nil (by have := H.out.done.1; have := HDL.out; simp only at *; omega) (by rfl) (by rfl) (by rfl) (by rfl) ?_
  intro v w6 v6 ho6 hb6
  simp only [Act.put, List.setIfInBounds_toArray, List.set_cons_zero, List.set_cons_succ]
  have HB6 := hide (rBelow HB5.out hb6)
  have HD6 := hide (HD5.out.keep hb6)
  have HZ6 := hide (HZ5.out.keep hb6)
  have HIN6 := hide (HIN5.out.keep hb6 (Nat.le_refl _))
  have HQ6 := hide (HQ5.out.keep hb6 (Nat.le_refl _))
  have HO6 := hide ho6
  have HS5 : Hid (w.heap.size + 1 + 1 < (w4.alloc (.cells #[.int .i64 f1.at_, q4.val, .bool f1.trim, .int .i64 f1.to] 102)).heap.size) := (Array.getElem?_eq_some_iff.1 HZ5.out).1
  obtain ⟨a6, l6, k6, rfl⟩ := ho6.form
  have hD7 := HD6.out.set6 (.slice a6 l6 k6)
  have hZ7 := HZ6.out.other (Below.heap_setCell w6 ⟨w.heap.size, 6, none⟩ (.slice a6 l6 k6) (w.heap.size + 1 + 1) (by show w.heap.size + 1 + 1 ≠ w.heap.size; omega))
  have HZ7 := hide hZ7
  unfold Sl.nil at hZ7
  unfold Sl.val at hD7 hZ7
  simp only at hD7 hZ7
  have d0 := hD7.c0
  have d1 := hD7.c1
  have d2 := hD7.c2
  have d3 := hD7.c3
  have d4 := hD7.c4
  have d5 := hD7.c5
  have d6 := hD7.c6
  have d7 := hD7.c7
  have d8 := hD7.c8
  have fd := hD7.fz
  have z0 := hZ7.c0
  have z1 := hZ7.c1
  have z2 := hZ7.c2
  have z3 := hZ7.c3
  have z4 := hZ7.c4
  have z5 := hZ7.c5
  have z6 := hZ7.c6
  have z7 := hZ7.c7
  have z8 := hZ7.c8
  have fz := hZ7.fz
  have hD8 := hD7.set8 0
  have hZ8 := hZ7.other (Below.heap_setCell (w6.setCell ⟨w.heap.size, 6, none⟩ (.slice a6 l6 k6)) ⟨w.heap.size, 8, none⟩ (.int .i64 0) (w.heap.size + 1 + 1) (by show w.heap.size + 1 + 1 ≠ w.heap.size; omega))
  have x0 := hD8.c0
  have x1 := hD8.c1
  have x2 := hD8.c2
  have x3 := hD8.c3
  have x4 := hD8.c4
  have x5 := hD8.c5
  have x6 := hD8.c6
  have x7 := hD8.c7
  have x8 := hD8.c8
  have y0 := hZ8.c0
  have y1 := hZ8.c1
  have y2 := hZ8.c2
  have y3 := hZ8.c3
  have y4 := hZ8.c4
  have y5 := hZ8.c5
  have y6 := hZ8.c6
  have y7 := hZ8.c7
  have y8 := hZ8.c8
  have fy := hZ8.fz
  clear hD8 hZ8
  clear ho6 hb6 hal hp5 hD7 hZ7 HD4 HZ4 HIN4 HQ4 HB4 hne
  go_wp2_with fail
  show bodyPost Tryz.prog Tryz.f48 _ Exit.ret _ (setDv ((w6.setCell ⟨w.heap.size, 6, none⟩ (.slice a6 l6 k6)).setCell ⟨w.heap.size, 8, none⟩ (.int .i64 0)) (w.heap.size + 1 + 1) L.kp.val kept.base L.ks.val p1.val nt.base s1.val (Sl.val ⟨a6, l6, k6⟩) true 0)
  have hZE := HZ7.out.other (Below.heap_setCell (w6.setCell ⟨w.heap.size, 6, none⟩ (.slice a6 l6 k6)) ⟨w.heap.size, 8, none⟩ (.int .i64 0) (w.heap.size + 1 + 1) (by show w.heap.size + 1 + 1 ≠ w.heap.size; omega))
  refine dv_end rfl hZE ⟨kept, nt, done ++ [⟨f1, q4⟩], true, 0⟩ ⟨L.kp, L.ks, p1, s1, ⟨a6, l6, k6⟩⟩ (by rfl) rfl ?_
  have hbb := setDv_below ((HB6.out.setCell (p := ⟨w.heap.size, 6, none⟩) (Nat.le_refl _) (.slice a6 l6 k6)).setCell (p := ⟨w.heap.size, 8, none⟩) (Nat.le_refl _) (.int .i64 0)) (show w.heap.size ≤ w.heap.size + 1 + 1 by omega) L.kp.val kept.base L.ks.val p1.val nt.base s1.val (Sl.val ⟨a6, l6, k6⟩) true 0
  have hDs := HD6.out.set6 (Sl.val ⟨a6, l6, k6⟩)
  have hin := ((HIN6.out.other HD6.out.no8 fun k hk => Below.heap_setCell w6 ⟨w.heap.size, 6, none⟩ (.slice a6 l6 k6) k hk).other hDs.no8 fun k hk => Below.heap_setCell (w6.setCell ⟨w.heap.size, 6, none⟩ (.slice a6 l6 k6)) ⟨w.heap.size, 8, none⟩ (.int .i64 0) k hk).other hZE.no8 fun k hk => setDv_other _ _ L.kp.val kept.base L.ks.val p1.val nt.base s1.val (Sl.val ⟨a6, l6, k6⟩) true 0 k hk
  have hoth : ∀ k, w.heap.size + 1 + 1 < k → (setDv ((w6.setCell ⟨w.heap.size, 6, none⟩ (.slice a6 l6 k6)).setCell ⟨w.heap.size, 8, none⟩ (.int .i64 0)) (w.heap.size + 1 + 1) L.kp.val kept.base L.ks.val p1.val nt.base s1.val (Sl.val ⟨a6, l6, k6⟩) true 0).heap[k]? = w6.heap[k]? := by
    intro k hk
    rw [setDv_other _ _ _ _ _ _ _ _ _ _ _ k (by omega)]
    rw [Below.heap_setCell _ ⟨w.heap.size, 8, none⟩ _ k (by show k ≠ w.heap.size; omega)]
    exact Below.heap_setCell _ ⟨w.heap.size, 6, none⟩ _ k (by show k ≠ w.heap.size; omega)
  have hq := ((HQ6.out.other HD6.out.no8 fun k hk => Below.heap_setCell w6 ⟨w.heap.size, 6, none⟩ (.slice a6 l6 k6) k hk).other hDs.no8 fun k hk => Below.heap_setCell (w6.setCell ⟨w.heap.size, 6, none⟩ (.slice a6 l6 k6)) ⟨w.heap.size, 8, none⟩ (.int .i64 0) k hk).other hZE.no8 fun k hk => setDv_other _ _ L.kp.val kept.base L.ks.val p1.val nt.base s1.val (Sl.val ⟨a6, l6, k6⟩) true 0 k hk
  have hps := (HO6.out.off fun k hk => hoth k (Nat.lt_of_lt_of_le HS5.out hk)).slAt (s := ⟨a6, l6, k6⟩) (fun i hi => by
    rcases List.mem_append.1 hi with h1 | h1
    · exact (H.out.done.2.1 i h1).keep hbb (Nat.le_refl _)
    · simp only [List.mem_singleton] at h1
      subst h1
      exact ⟨hq, HFA.out, HFT.out⟩)
  exact ⟨hbb, ⟨L.kp, L.ks, p1, s1, ⟨a6, l6, k6⟩⟩, q4, rfl, H.out.kept.keep hbb (Nat.le_refl _), hin, hps.1, hps.2.1, hps.2.2⟩

end Go.Proofs.YtcaaiihjolnkgaaGreat

namespace Go.Proofs.YtcaaiihjolnkgaaGreat
open Go.RowKit
set_option maxRecDepth 100000
variable {K : Home}

/-- A device, without a word on memory. -/
structure Da where
  kept : Dk
  now : Dk
  done : List Pt
  gone : Bool
  armed : Int
def Dv.abs (d : Dv) : Da := ⟨d.kept, d.now, d.done.map (·.u), d.gone, d.armed⟩
/-- How many units of a part count. -/
def Da.units (d : Da) (u : Pt) : Int := if 0 ≤ d.armed ∧ d.armed < (u.size : Int) then d.armed else (u.size : Int)
/-- A device behind a part. -/
def Da.act (d : Da) (u : Pt) : Da :=
  if d.gone = true then ⟨d.kept, d.now.turn u, d.done, true, d.armed⟩
  else ⟨d.kept, d.now.turn u, if (u.first (d.units u)).2 = true then d.done ++ [(u.first (d.units u)).1] else d.done, decide (0 ≤ d.armed ∧ d.armed < (u.size : Int)), if 0 ≤ d.armed then d.armed - d.units u else d.armed⟩

theorem Pt.first_at (u : Pt) (n : Int) : (u.first n).1.at_ = u.at_ ∧ (u.first n).1.to = u.to := by
  unfold Pt.first
  split
  · exact ⟨rfl, rfl⟩
  · split <;> exact ⟨rfl, rfl⟩

theorem do_any (d : Dv) (L : DvL) (u : Pt) (q : Sl) (w : World) (h : DvIn K w d L) (hu : BsS K w q u.b) (hf : Fits d.now u) (hat : (Lit.int .i64 u.at_).wf = true) (hm : d.armed ≤ 9223372036854775807) (hdl : d.done.length ≤ 1000) :
    Calls Tryz.prog 48 #[d.val L, u.val q] w fun e w' => Below w.heap.size w w' ∧ ∃ d' L', e = .returned (d'.val L') ∧ DvIn K w' d' L' ∧ d'.abs = d.abs.act u := by
  have hto := hf.to
  cases hg : d.gone
  · have hg' : ¬ d.abs.gone = true := by show ¬ d.gone = true; rw [hg]; decide
    by_cases ha : d.armed < 0
    · have hun : d.abs.units u = (u.size : Nat) := if_neg (by show ¬ (0 ≤ d.armed ∧ _); omega)
      have hcu : decide (0 ≤ d.abs.armed ∧ d.abs.armed < (u.size : Int)) = false := decide_eq_false (by show ¬ (0 ≤ d.armed ∧ _); omega)
      have hn0 : ¬ 0 ≤ d.abs.armed := by show ¬ 0 ≤ d.armed; omega
      have h1 := u.first_at (u.size : Nat)
      cases hfs : (u.first (u.size : Nat)).2
      · refine (do_free_none d L u q w h hu hf hg ha (u.first (u.size : Nat)).1 (by rw [← hfs]) (by rw [h1.1]; exact hat) (by rw [h1.2]; exact hto) hdl).mono ?_
        rintro e w' ⟨hb, L', rfl, hin⟩
        refine ⟨hb, _, L', rfl, hin, ?_⟩
        unfold Da.act
        rw [if_neg hg', hun, hfs, hcu, if_neg hn0, if_neg (by decide)]
        rfl
      · refine (do_free_some d L u q w h hu hf hg ha (u.first (u.size : Nat)).1 (by rw [← hfs]) (by rw [h1.1]; exact hat) (by rw [h1.2]; exact hto) hdl).mono ?_
        rintro e w' ⟨hb, L', q', rfl, hin⟩
        refine ⟨hb, _, L', rfl, hin, ?_⟩
        unfold Da.act
        rw [if_neg hg', hun, hfs, hcu, if_neg hn0, if_pos rfl]
        simp [Dv.abs]
    · have hp0 : 0 ≤ d.abs.armed := by show 0 ≤ d.armed; omega
      by_cases hs : (u.size : Int) ≤ d.armed
      · have hun : d.abs.units u = (u.size : Nat) := if_neg (by show ¬ (0 ≤ d.armed ∧ d.armed < _); omega)
        have hcu : decide (0 ≤ d.abs.armed ∧ d.abs.armed < (u.size : Int)) = false := decide_eq_false (by show ¬ (0 ≤ d.armed ∧ d.armed < _); omega)
        have h1 := u.first_at (u.size : Nat)
        cases hfs : (u.first (u.size : Nat)).2
        · refine (do_rich_none d L u q w h hu hf hg (by omega) hs hm (u.first (u.size : Nat)).1 (by rw [← hfs]) (by rw [h1.1]; exact hat) (by rw [h1.2]; exact hto) hdl).mono ?_
          rintro e w' ⟨hb, L', rfl, hin⟩
          refine ⟨hb, _, L', rfl, hin, ?_⟩
          unfold Da.act
          rw [if_neg hg', hun, hfs, hcu, if_pos hp0, if_neg (by decide)]
          rfl
        · refine (do_rich_some d L u q w h hu hf hg (by omega) hs hm (u.first (u.size : Nat)).1 (by rw [← hfs]) (by rw [h1.1]; exact hat) (by rw [h1.2]; exact hto) hdl).mono ?_
          rintro e w' ⟨hb, L', q', rfl, hin⟩
          refine ⟨hb, _, L', rfl, hin, ?_⟩
          unfold Da.act
          rw [if_neg hg', hun, hfs, hcu, if_pos hp0, if_pos rfl]
          simp [Dv.abs]
      · have hun : d.abs.units u = d.armed := if_pos (by show 0 ≤ d.armed ∧ d.armed < _; omega)
        have hcu : decide (0 ≤ d.abs.armed ∧ d.abs.armed < (u.size : Int)) = true := decide_eq_true (by show 0 ≤ d.armed ∧ d.armed < _; omega)
        have h1 := u.first_at d.armed
        cases hfs : (u.first d.armed).2
        · refine (do_poor_none d L u q w h hu hf hg (by omega) (by omega) (u.first d.armed).1 (by rw [← hfs]) (by rw [h1.1]; exact hat) (by rw [h1.2]; exact hto) hdl).mono ?_
          rintro e w' ⟨hb, L', rfl, hin⟩
          refine ⟨hb, _, L', rfl, hin, ?_⟩
          unfold Da.act
          rw [if_neg hg', hun, hfs, hcu, if_pos hp0, if_neg (by decide)]
          simp [Dv.abs]
        · refine (do_poor_some d L u q w h hu hf hg (by omega) (by omega) (u.first d.armed).1 (by rw [← hfs]) (by rw [h1.1]; exact hat) (by rw [h1.2]; exact hto) hdl).mono ?_
          rintro e w' ⟨hb, L', q', rfl, hin⟩
          refine ⟨hb, _, L', rfl, hin, ?_⟩
          unfold Da.act
          rw [if_neg hg', hun, hfs, hcu, if_pos hp0, if_pos rfl]
          simp [Dv.abs]
  · refine (do_gone d L u q w h hu hf hg).mono ?_
    rintro e w' ⟨hb, L', rfl, hin⟩
    refine ⟨hb, _, L', rfl, hin, ?_⟩
    unfold Da.act
    rw [if_pos (show d.abs.gone = true from hg)]
    rfl

end Go.Proofs.YtcaaiihjolnkgaaGreat
