/-
  The document's device: a part is done while the power is there.
-/
import Derived.Test.YtokdeilcfkobfaaDevJ
namespace Go.Proofs.Ytokdeilcfkobfaa
open Go.RowKit
variable {K : Home}

theorem OwnsP.sl {w : World} {base : Nat} {v : Value} {l : List PtS} (h : OwnsP w base v l) (hf : ∀ i ∈ l, PtS.ok K w i) : ∃ s : Sl, v = s.val ∧ Ps K w s.a s.len l ∧ (s.a = none → s.cap = 0) ∧ s.len ≤ s.cap := by
  obtain ⟨a, cap, hv, h1, h2, h3⟩ := h.is hf
  exact ⟨⟨a, l.length, cap⟩, hv, h1, h2, h3⟩

theorem OwnsP.slAt {w : World} {base : Nat} {s : Sl} {l : List PtS} (h : OwnsP w base s.val l) (hf : ∀ i ∈ l, PtS.ok K w i) : Ps K w s.a s.len l ∧ (s.a = none → s.cap = 0) ∧ s.len ≤ s.cap := by
  obtain ⟨t, e, h1⟩ := h.sl hf
  obtain ⟨a, n, c⟩ := s
  obtain ⟨a', n', c'⟩ := t
  simp only [Sl.val, Value.slice.injEq] at e
  obtain ⟨rfl, rfl, rfl⟩ := e
  exact h1
theorem OwnsP.off {w w' : World} {base : Nat} {v : Value} {l : List PtS} (h : OwnsP w base v l) (ho : ∀ k, base ≤ k → w'.heap[k]? = w.heap[k]?) : OwnsP w' base v l := by
  refine ⟨h.1, ?_⟩
  rcases h.2 with hn | ⟨g, cap, cur, hv, hbg, hg, rest⟩
  · exact .inl hn
  · refine .inr ⟨g, cap, cur, hv, hbg, ?_, rest⟩
    rw [ho g hbg]
    exact hg
theorem DvBlk.set6 {w : World} {p : Nat} {k0 k2 n0 n2 d : Value} {k1 n1 a : Int} {g : Bool} (h : DvBlk w p k0 k1 k2 n0 n1 n2 d g a) (v : Value) : DvBlk (w.setCell ⟨p, 6, none⟩ v) p k0 k1 k2 n0 n1 n2 v g a := by
  have := heap_setCell_same w p 6 _ 35 v h
  unfold DvBlk
  rw [this]
  simp

set_option maxHeartbeats 4000000 in
set_option maxRecDepth 100000 in
theorem do_free_some (d : Dv) (L : DvL) (u : Pt) (q : Sl) (w : World) (h : DvIn K w d L) (hu : BsS K w q u.b) (hf : Fits d.now u) (hg : d.gone = false) (ha : d.armed < 0) (f1 : Pt) (hf1 : u.first (u.size : Nat) = (f1, true)) (hfa : (Lit.int .i64 f1.at_).wf = true) (hft : (Lit.int .i64 f1.to).wf = true) (hdl : d.done.length ≤ 1000) :
    Calls Try.prog 34 #[d.val L, u.val q] w fun e w' => Below w.heap.size w w' ∧ ∃ L' q', e = .returned (Dv.val ⟨d.kept, d.now.turn u, d.done ++ [⟨f1, q'⟩], false, d.armed⟩ L') ∧ DvIn K w' ⟨d.kept, d.now.turn u, d.done ++ [⟨f1, q'⟩], false, d.armed⟩ L' := by
  have HT : Hid (∀ w', Below w.heap.size w w' → Calls Try.prog 41 #[d.now.val L.np L.ns, u.val q] w' fun e w2 => Below w'.heap.size w' w2 ∧ ∃ p' s', e = .returned ((d.now.turn u).val p' s') ∧ DkIn K w2 (d.now.turn u) p' s') := fun w' hb => turn_any d.now L.np L.ns u q w' (h.now.keep hb (Nat.le_refl _)) (hu.keep hb (Nat.le_refl _)) hf
  have HSZ : Hid (∀ w', Below w.heap.size w w' → Calls Try.prog 43 #[u.val q] w' fun e w2 => e = .returned (.int .i64 (u.size : Nat)) ∧ Below w'.heap.size w' w2) := fun w' hb => size_any u q w' (hu.keep hb (Nat.le_refl _))
  have HF : Hid (∀ w', Below w.heap.size w w' → Calls Try.prog 42 #[u.val q, .int .i64 (u.size : Nat)] w' fun e w2 => Below w'.heap.size w' w2 ∧ ∃ q', e = .returned (.tuple #[f1.val q', .bool true]) ∧ BsS K w2 q' f1.b) := fun w' hb => by
    have := first_any u q (u.size : Nat) w' (hu.keep hb (Nat.le_refl _))
    rw [hf1] at this
    exact this
  have HI := hide (doIn_new w d L u q)
  have H := hide h
  generalize hW : doW w d L u q = W at HI
  have HWE := hide hW
  unfold doW at HWE
  have HDL := hide hdl
  have HFA := hide hfa
  have HFT := hide hft
  obtain ⟨kept, now, done, gone, armed⟩ := d
  simp only at hg ha
  subst hg
  clear h hu hf hW hf1 hfa hft hdl
  generalize hnt : now.turn u = nt at HT ⊢
  generalize hsz : u.size = sz at HSZ HF ⊢
  clear hnt hsz
  unfold Dk.val Pt.val Sl.val at HT
  unfold Pt.val Sl.val at HSZ HF
  unfold Sl.nil Sl.val at HWE
  unfold Dv.val Pt.val Sl.val
  simp only at HT HSZ HF HWE ⊢
  go_enter Try.func34, Try.ntmps34
  go_wp2_with fail
  rw [HWE.out]
  refine (HT.out W HI.out.below).mono ?_
  rintro e w1 ⟨hb1, p1, s1, rfl, hin1⟩
  have hD1 := HI.out.dv.keep hb1
  have HB1 := hide (rBelow HI.out.below hb1)
  have HIN := hide hin1
  have HD1 := hide hD1
  have HP1 := hide (HI.out.pt.keep hb1)
  have HZ1 := hide (HI.out.zero.keep hb1)
  have hD2 := setNow_blk hD1 p1.val nt.base s1.val
  have hP2 := HP1.out.other (setNow_other w1 w.heap.size p1.val nt.base s1.val (w.heap.size + 1) (by omega))
  have HD2 := hide hD2
  have HP2 := hide hP2
  unfold setNow at hD2 hP2
  unfold Sl.val at hD1 hD2 hP2
  simp only at hD1 hD2 hP2
  have c3 := hD1.c3
  have c4 := hD1.c4
  have c5 := hD1.c5
  have f1' := hD1.fz
  have d7 := hD2.c7
  have e0 := hP2.c0
  have e1 := hP2.c1
  have e2 := hP2.c2
  have e3 := hP2.c3
  clear hb1 hD1 hD2 hP2 hin1
  go_wp2_with fail
  have HB2 := hide (setNow_below HB1.out (Nat.le_refl _) p1.val nt.base s1.val)
  have HZ2 := hide (HZ1.out.other (setNow_other w1 w.heap.size p1.val nt.base s1.val (w.heap.size + 1 + 1) (by omega)))
  have HIN2 := hide (HIN.out.other HD1.out.no8 fun k hk => setNow_other w1 w.heap.size p1.val nt.base s1.val k hk)
  clear c3 c4 c5 f1' d7 e0 e1 e2 e3
  show Calls Try.prog _ _ (setNow w1 w.heap.size p1.val nt.base s1.val) _
  generalize setNow w1 w.heap.size p1.val nt.base s1.val = W2 at HB2 HD2 HP2 HZ2 HIN2 ⊢
  refine (HSZ.out W2 HB2.out).mono ?_
  rintro e w3 ⟨rfl, hb3⟩
  have HB3 := hide (rBelow HB2.out hb3)
  have HD3 := hide (HD2.out.keep hb3)
  have HP3 := hide (HP2.out.keep hb3)
  have HZ3 := hide (HZ2.out.keep hb3)
  have HIN3 := hide (HIN2.out.keep hb3 (Nat.le_refl _))
  have d8 := HD3.out.c8
  have e0 := HP3.out.c0
  have e1 := HP3.out.c1
  have e2 := HP3.out.c2
  have e3 := HP3.out.c3
  unfold Sl.val at e1
  clear HD1 HP1 HZ1 HD2 HP2 HZ2 HIN HIN2 hb3
  go_wp2_with fail
  refine (HF.out w3 HB3.out).mono ?_
  rintro e w4 ⟨hb4, q4, rfl, hq4⟩
  have HB4 := hide (rBelow HB3.out hb4)
  have HD4 := hide (HD3.out.keep hb4)
  have HZ4 := hide (HZ3.out.keep hb4)
  have HIN4 := hide (HIN3.out.keep hb4 (Nat.le_refl _))
  have HQ4 := hide hq4
  clear HD3 HP3 HZ3 HIN3 hb4 hq4 d8 e0 e1 e2 e3
  go_wp2_with fail
  have hal := below_alloc w4 (.cells #[.int .i64 f1.at_, q4.val, .bool f1.trim, .int .i64 f1.to] 81)
  have hne : w4.heap.size ≠ w.heap.size := by
    have := (Array.getElem?_eq_some_iff.1 HD4.out).1
    omega
  have hp5 := ptBlk_new w4 f1.at_ q4.val f1.trim f1.to
  have HB5 := hide (rBelow HB4.out hal)
  have HD5 := hide (HD4.out.keep hal)
  have HZ5 := hide (HZ4.out.keep hal)
  have HIN5 := hide (HIN4.out.keep hal (Nat.le_refl _))
  have HQ5 := hide (HQ4.out.keep hal (Nat.le_refl _))
  refine Pl.region_is (ops := Pl.find 10 ((Try.f34.body).getD .skip)) (by kernel_rfl) ?_
  refine do10 _ w.heap.size w4.heap.size hne _ _ _ _ _ _ L.ds.a L.ds.len L.ds.cap false armed ⟨f1, q4⟩ done HD5.out hp5 ⟨HQ5.out, HFA.out, HFT.out⟩ (H.out.done.keep HB5.out (Nat.le_refl _)) H.out.nil (by have := H.out.done.1; have := HDL.out; simp only at *; omega) (by rfl) (by rfl) (by rfl) (by rfl) ?_
  intro v w6 v6 ho6 hb6
  simp only [Act.put, List.setIfInBounds_toArray, List.set_cons_zero, List.set_cons_succ]
  have HB6 := hide (rBelow HB5.out hb6)
  have HD6 := hide (HD5.out.keep hb6)
  have HZ6 := hide (HZ5.out.keep hb6)
  have HIN6 := hide (HIN5.out.keep hb6 (Nat.le_refl _))
  have HQ6 := hide (HQ5.out.keep hb6 (Nat.le_refl _))
  have HO6 := hide ho6
  have HS5 : Hid (w.heap.size + 1 + 1 < (w4.alloc (.cells #[.int .i64 f1.at_, q4.val, .bool f1.trim, .int .i64 f1.to] 81)).heap.size) := (Array.getElem?_eq_some_iff.1 HZ5.out).1
  obtain ⟨a6, l6, k6, rfl⟩ := ho6.form
  have hD7 := HD6.out.set6 (.slice a6 l6 k6)
  have hZ7 := HZ6.out.other (Below.heap_setCell w6 ⟨w.heap.size, 6, none⟩ (.slice a6 l6 k6) (w.heap.size + 1 + 1) (by show w.heap.size + 1 + 1 ≠ w.heap.size; omega))
  have HZ7 := hide hZ7
  unfold Sl.nil at hZ7
  unfold Sl.val at hD7 hZ7
  simp only at hD7 hZ7
  have d0 := hD7.c0
  have d1 := hD7.c1
  have d2 := hD7.c2
  have d3 := hD7.c3
  have d4 := hD7.c4
  have d5 := hD7.c5
  have d6 := hD7.c6
  have d7 := hD7.c7
  have d8 := hD7.c8
  have fd := hD7.fz
  have z0 := hZ7.c0
  have z1 := hZ7.c1
  have z2 := hZ7.c2
  have z3 := hZ7.c3
  have z4 := hZ7.c4
  have z5 := hZ7.c5
  have z6 := hZ7.c6
  have z7 := hZ7.c7
  have z8 := hZ7.c8
  have fz := hZ7.fz
  clear ho6 hb6 hal hp5 hD7 hZ7 HD4 HZ4 HIN4 HQ4 HB4 hne
  go_wp2_with fail
  show bodyPost Try.prog Try.f34 _ Exit.ret _ (setDv (w6.setCell ⟨w.heap.size, 6, none⟩ (.slice a6 l6 k6)) (w.heap.size + 1 + 1) L.kp.val kept.base L.ks.val p1.val nt.base s1.val (Sl.val ⟨a6, l6, k6⟩) false armed)
  refine dv_end rfl HZ7.out ⟨kept, nt, done ++ [⟨f1, q4⟩], false, armed⟩ ⟨L.kp, L.ks, p1, s1, ⟨a6, l6, k6⟩⟩ (by rfl) rfl ?_
  have hbb := setDv_below (HB6.out.setCell (p := ⟨w.heap.size, 6, none⟩) (Nat.le_refl _) (.slice a6 l6 k6)) (show w.heap.size ≤ w.heap.size + 1 + 1 by omega) L.kp.val kept.base L.ks.val p1.val nt.base s1.val (Sl.val ⟨a6, l6, k6⟩) false armed
  have hoth : ∀ k, w.heap.size + 1 + 1 < k → (setDv (w6.setCell ⟨w.heap.size, 6, none⟩ (.slice a6 l6 k6)) (w.heap.size + 1 + 1) L.kp.val kept.base L.ks.val p1.val nt.base s1.val (Sl.val ⟨a6, l6, k6⟩) false armed).heap[k]? = w6.heap[k]? := by
    intro k hk
    rw [setDv_other _ _ _ _ _ _ _ _ _ _ _ k (by omega)]
    exact Below.heap_setCell _ ⟨w.heap.size, 6, none⟩ _ k (by show k ≠ w.heap.size; omega)
  have hq := (HQ6.out.other HD6.out.no8 fun k hk => Below.heap_setCell w6 ⟨w.heap.size, 6, none⟩ (.slice a6 l6 k6) k hk).other HZ7.out.no8 fun k hk => setDv_other _ _ L.kp.val kept.base L.ks.val p1.val nt.base s1.val (Sl.val ⟨a6, l6, k6⟩) false armed k hk
  have hps := (HO6.out.off fun k hk => hoth k (Nat.lt_of_lt_of_le HS5.out hk)).slAt (s := ⟨a6, l6, k6⟩) (fun i hi => by
    rcases List.mem_append.1 hi with h1 | h1
    · exact (H.out.done.2.1 i h1).keep hbb (Nat.le_refl _)
    · simp only [List.mem_singleton] at h1
      subst h1
      exact ⟨hq, HFA.out, HFT.out⟩)
  refine ⟨hbb, ⟨L.kp, L.ks, p1, s1, ⟨a6, l6, k6⟩⟩, q4, rfl, H.out.kept.keep hbb (Nat.le_refl _), ?_, hps.1, hps.2.1, hps.2.2⟩
  exact (HIN6.out.other HD6.out.no8 fun k hk => Below.heap_setCell w6 ⟨w.heap.size, 6, none⟩ (.slice a6 l6 k6) k hk).other HZ7.out.no8 fun k hk => setDv_other _ _ _ _ _ _ _ _ _ _ _ k hk

end Go.Proofs.Ytokdeilcfkobfaa
