/-
  The document's device: Seen, Pending.
-/
import Derived.Test.YtokdeilcfkobfaaDevP
namespace Go.Proofs.Ytokdeilcfkobfaa
open Go.RowKit
variable {K : Home}

set_option maxHeartbeats 4000000 in
set_option maxRecDepth 100000 in
theorem refSeen_any (d : Dv) (L : DvL) (w : World) : Calls Try.prog 44 #[d.val L] w fun e w' => Below w.heap.size w w' ∧ e = .returned (d.now.val L.np L.ns) := by
  obtain ⟨kept, now, done, gone, armed⟩ := d
  obtain ⟨kp, ks, np, ns, ds⟩ := L
  have HB : Hid (DkBlk ((w.alloc (.cells #[kp.val, .int .i64 kept.base, ks.val, np.val, .int .i64 now.base, ns.val, ds.val, .bool gone, .int .i64 armed] 35)).alloc (.cells #[np.val, .int .i64 now.base, ns.val] 32)) (w.heap.size + 1) np.val now.base ns.val) := by
    have := dkBlk_new (w.alloc (.cells #[kp.val, .int .i64 kept.base, ks.val, np.val, .int .i64 now.base, ns.val, ds.val, .bool gone, .int .i64 armed] 35)) np.val now.base ns.val
    exact hide (by simpa using this)
  have HW := hide (below_two w (.cells #[kp.val, .int .i64 kept.base, ks.val, np.val, .int .i64 now.base, ns.val, ds.val, .bool gone, .int .i64 armed] 35) (.cells #[np.val, .int .i64 now.base, ns.val] 32))
  obtain ⟨na, nl, nc⟩ := np
  obtain ⟨sa, sl, sc⟩ := ns
  obtain ⟨ka, kl, kc⟩ := kp
  obtain ⟨ta, tl, tc⟩ := ks
  obtain ⟨da, dl, dc⟩ := ds
  unfold Dv.val
  unfold Sl.val at *
  simp only at HB HW ⊢
  go_enter Try.func44, Try.ntmps44
  go_wp2_with fail
  refine bodyPost_ret (dk_results (d := now) (p := ⟨na, nl, nc⟩) (s := ⟨sa, sl, sc⟩) rfl HB.out _ rfl) rfl ?_
  exact ⟨HW.out, rfl⟩

/-- How many sectors' writes, and units of the stream, a row of parts has. -/
def pendA : List Pt → Nat
  | [] => 0
  | u :: r => (if 0 ≤ u.at_ then 1 else 0) + pendA r
def pendB : List Pt → Nat
  | [] => 0
  | u :: r => (if 0 ≤ u.at_ then 0 else u.size) + pendB r
theorem pend_snoc (l : List Pt) (u : Pt) : pendA (l ++ [u]) = pendA l + (if 0 ≤ u.at_ then 1 else 0) ∧ pendB (l ++ [u]) = pendB l + (if 0 ≤ u.at_ then 0 else u.size) := by
  induction l with
  | nil => simp [pendA, pendB]
  | cons x r ih =>
    simp only [List.cons_append, pendA, pendB]
    rw [ih.1, ih.2]
    omega
theorem pendA_le (l : List Pt) : pendA l ≤ l.length := by
  induction l with
  | nil => simp [pendA]
  | cons x r ih => simp only [pendA, List.length_cons]; split <;> omega

theorem pendB_append (l m : List Pt) : pendB (l ++ m) = pendB l + pendB m := by
  induction l with
  | nil => simp [pendB]
  | cons x r ih => simp only [List.cons_append, pendB]; rw [ih]; omega
theorem pendB_take (l : List PtS) (j : Nat) : pendB ((l.take j).map (·.u)) ≤ pendB (l.map (·.u)) := by
  have : l.map (·.u) = (l.take j).map (·.u) ++ (l.drop j).map (·.u) := by rw [← List.map_append, List.take_append_drop]
  rw [this, pendB_append]
  omega

set_option maxHeartbeats 8000000 in
set_option maxRecDepth 100000 in
theorem refPending_any (d : Dv) (L : DvL) (w : World) (h : DvIn K w d L) (hdl : d.done.length ≤ 1000) (hun : pendB (d.done.map (·.u)) ≤ 1000000) : Calls Try.prog 45 #[d.val L] w fun e w' => Below w.heap.size w w' ∧ e = .returned (.tuple #[.int .i64 ((pendA (d.done.map (·.u)) : Nat) : Int), .int .i64 ((pendB (d.done.map (·.u)) : Nat) : Int)]) := by
  obtain ⟨kept, now, done, gone, armed⟩ := d
  obtain ⟨kp, ks, np, ns, ds⟩ := L
  have HD := hide h.done
  have hlen : done.length = ds.len := h.done.1
  simp only at hdl hun
  have HB0 := hide (below_alloc w (.cells #[kp.val, .int .i64 kept.base, ks.val, np.val, .int .i64 now.base, ns.val, ds.val, .bool gone, .int .i64 armed] 35))
  have HBD : Hid (DvBlk (w.alloc (.cells #[kp.val, .int .i64 kept.base, ks.val, np.val, .int .i64 now.base, ns.val, ds.val, .bool gone, .int .i64 armed] 35)) w.heap.size kp.val kept.base ks.val np.val now.base ns.val ds.val gone armed) := dvBlk_new w _ _ _ _ _ _ _ _ _
  clear h
  have HUN := hide hun
  clear hun
  unfold Dv.val
  simp only at HD ⊢
  go_enter Try.func45, Try.ntmps45
  go_wp2_with fail
  go_loopw [4, 5, 6] (fun ua ub i wr => ∃ j : Nat, j ≤ done.length ∧ i = .int .i64 j ∧ ua = .int .i64 ((pendA ((done.take j).map (·.u)) : Nat) : Int) ∧ ub = .int .i64 ((pendB ((done.take j).map (·.u)) : Nat) : Int) ∧ Hid (Below w.heap.size w wr) ∧ Hid (DvBlk wr w.heap.size kp.val kept.base ks.val np.val now.base ns.val ds.val gone armed)) (fun _ _ i _ => done.length - (intOf i).toNat)
  case atStart => exact ⟨0, by omega, rfl, rfl, rfl, HB0, HBD⟩
  case round =>
    obtain ⟨j, hj, rfl, rfl, rfl, hB, hBD⟩ := hrel
    have c6 := hBD.out.c6
    obtain ⟨da, dl, dc⟩ := ds
    simp only at hlen
    unfold Sl.val at c6
    simp only at c6
    rcases Nat.lt_or_ge j done.length with hlt | hge
    · obtain ⟨b, off, ha, c0, c1, c2, c3, _⟩ := (HD.out.keep hB.out (Nat.le_refl _)).2.2 j (by show j < dl; omega)
      have hok := (HD.out.keep hB.out (Nat.le_refl _)).okAt j (by show j < dl; omega)
      obtain ⟨x, hx⟩ : ∃ x, x = done.getD j ptD := ⟨_, rfl⟩
      rw [← hx] at c0 c1 c2 c3 hok
      have htk : (done.take (j + 1)).map (·.u) = (done.take j).map (·.u) ++ [x.u] := by
        have e : done[j] = x := by rw [hx]; simp [List.getD, hlt]
        rw [List.take_succ_eq_append_getElem hlt, e, List.map_append]
        rfl
      obtain ⟨p1, p2⟩ := pend_snoc ((done.take j).map (·.u)) x.u
      rw [← htk] at p1 p2
      have HP1 := hide p1
      have HP2 := hide p2
      have hA := pendA_le ((done.take j).map (·.u))
      have hAl : ((done.take j).map (·.u)).length ≤ 1000 := by simp; omega
      have HSZ := hide (size_any x.u x.q wr hok.1)
      simp only at ha
      subst ha
      have i1 : ((j : Nat) : Int) < ((dl : Nat) : Int) := by omega
      have hBle := pendB_take done (j + 1)
      have hBu := HUN.out
      obtain ⟨pa, hpa⟩ : ∃ pa, pa = pendA ((done.take j).map (·.u)) := ⟨_, rfl⟩
      obtain ⟨pb, hpb⟩ : ∃ pb, pb = pendB ((done.take j).map (·.u)) := ⟨_, rfl⟩
      rw [← hpa] at hA HP1
      rw [← hpb] at HP2
      rw [← hpa, ← hpb]
      have HPA := hide hpa
      have HPB := hide hpb
      by_cases h0 : 0 ≤ x.u.at_
      · have w1 : IntKind.i64.wrap (((pa : Nat) : Int) + 1) = ((pa : Nat) : Int) + 1 := by rw [IntKind.wrap_i64]; omega
        have HQ1 : Hid (pendA ((done.take (j + 1)).map (·.u)) = pa + 1) := by have := HP1.out; rw [if_pos h0] at this; exact this
        have HQ2 : Hid (pendB ((done.take (j + 1)).map (·.u)) = pb) := by have := HP2.out; rw [if_pos h0, Nat.add_zero] at this; exact this
        clear p1 p2 hx htk hpa hpb HSZ hBle hBu hok HP1 HP2 c1 c2 c3
        go_wp2_with fail
        go_roundw
        case rel => exact ⟨j + 1, by omega, by go_num, by rw [HQ1.out]; go_num, by rw [HQ2.out], hB, hBD⟩
        case measure => simp only [intOf]; omega
      · have hsz : pb + x.u.size ≤ 1000000 := by have := HP2.out; rw [if_neg h0] at this; omega
        obtain ⟨z, hz⟩ : ∃ z, z = x.u.size := ⟨_, rfl⟩
        rw [← hz] at hsz HSZ
        have w1 : IntKind.i64.wrap (((pb : Nat) : Int) + ((z : Nat) : Int)) = ((pb : Nat) : Int) + ((z : Nat) : Int) := by rw [IntKind.wrap_i64]; omega
        have HQ1 : Hid (pendA ((done.take (j + 1)).map (·.u)) = pa) := by have := HP1.out; rw [if_neg h0, Nat.add_zero] at this; exact this
        have HQ2 : Hid (pendB ((done.take (j + 1)).map (·.u)) = pb + z) := by have := HP2.out; rw [if_neg h0, ← hz] at this; exact this
        have h0' : x.u.at_ < 0 := by omega
        obtain ⟨⟨xa, xb, xt, xo⟩, ⟨qa, ql, qc⟩⟩ := x
        unfold Pt.val Sl.val at HSZ
        unfold Sl.val at c1
        simp only at HSZ c0 c1 c2 c3 h0 h0'
        clear p1 p2 hx htk hpa hpb hBle hBu hok HP1 HP2 hz
        go_wp2_with fail
        refine HSZ.out.mono ?_
        rintro e w2 ⟨rfl, hb2⟩
        have HB2 := hide (hB.out.trans (hb2.mono hB.out.size))
        have HBD2 := hide (hBD.out.keep hb2)
        clear hb2
        go_wp2_with fail
        go_roundw
        case rel => exact ⟨j + 1, by omega, by go_num, by rw [HQ1.out], by rw [HQ2.out]; go_num, HB2, HBD2⟩
        case measure => simp only [intOf]; omega
    · obtain rfl : j = done.length := by omega

      have i1 : ¬ ((done.length : Nat) : Int) < ((dl : Nat) : Int) := by omega
      have hdl2 : dl = done.length := by omega
      subst hdl2
      go_wp2_with fail
      go_ret2
      exact ⟨hB.out, rfl⟩

end Go.Proofs.Ytokdeilcfkobfaa
