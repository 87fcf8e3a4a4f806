/-
  The document's device: Crash.
-/
import Derived.Test.YtokdeilcfkobfaaDevQ
import Derived.Test.YtokdeilcfkobfaaLdN
namespace Go.Proofs.Ytokdeilcfkobfaa
open Go.RowKit
variable {K : Home}

theorem load_dk (g : Nat) (d : Dk) (p s : Sl) (w : World) (h : DkBlk w g p.val d.base s.val) : (Instr.loadAt 32 (.pointer (some ⟨g, 0, none⟩))).run Try.prog w = .ok (d.val p s) w := by
  have c0 := h.c0
  have c1 := h.c1
  have c2 := h.c2
  unfold Sl.val at c0 c2
  unfold Dk.val Sl.val
  simp [go_sem, c0, c1, c2]
theorem store_dk (g : Nat) (d : Dk) (p s : Sl) (w : World) {x0 y0 : Sl} {b0 : Int} (h : DkBlk w g x0.val b0 y0.val) : (Instr.storeAt 32 (.pointer (some ⟨g, 0, none⟩)) (d.val p s)).run Try.prog w = .ok () (setDk w g p.val d.base s.val) := by
  have h1 := h.set0 p.val
  have h2 := heap_setCell_same _ g 1 _ 32 (.int .i64 d.base) h1
  have c0 := h.c0
  have c1 := h1.c1
  have f0 := h.fz
  have f1 := h1.fz
  have c2 : ((w.setCell ⟨g, 0, none⟩ p.val).setCell ⟨g, 1, none⟩ (.int .i64 d.base)).cell? ⟨g, 2, none⟩ = some y0.val := (Addr.cell0 h2).trans rfl
  have f2 : ((w.setCell ⟨g, 0, none⟩ p.val).setCell ⟨g, 1, none⟩ (.int .i64 d.base)).frozen? ⟨g, 2, none⟩ = false := frozen_of_row _ g _ _ 32 h2
  unfold Sl.val at c0 c1 c2 f1 f2
  unfold setDk Dk.val Sl.val
  simp [go_sem, Instr.storeAt, c0, c1, c2, f0, f1, f2]
theorem load_ptAt (b o : Nat) (i : PtS) (w : World) (h : PtAt w b o i) : (Instr.loadAt 81 (.pointer (some ⟨b, o, none⟩))).run Try.prog w = .ok (i.u.val i.q) w := by
  obtain ⟨c0, c1, c2, c3, _⟩ := h
  unfold Sl.val at c1
  unfold Pt.val Sl.val
  simp [go_sem, c0, c1, c2, c3]
theorem alloc_pt (w : World) : (Instr.alloc 81 true (.tuple #[])).run Try.prog w = .ok (.pointer (some ⟨w.heap.size, 0, none⟩)) (w.alloc (.cells #[.int .i64 0, .slice none 0 0, .bool false, .int .i64 0] 81)) := by
  simp [go_sem, Instr.alloc]
theorem store_ptNew (u : Pt) (q : Sl) (w : World) : (Instr.storeAt 81 (.pointer (some ⟨w.heap.size, 0, none⟩)) (u.val q)).run Try.prog (w.alloc (.cells #[.int .i64 0, .slice none 0 0, .bool false, .int .i64 0] 81)) = .ok () (w.alloc (.cells #[.int .i64 u.at_, q.val, .bool u.trim, .int .i64 u.to] 81)) :=
  run_storeAt_new w 81 #[.int .i64 0, .slice none 0 0, .bool false, .int .i64 0] #[.int .i64 u.at_, q.val, .bool u.trim, .int .i64 u.to] (by kernel_rfl) rfl (by simp [Sl.val, Value.oneCell'])

/-- What a crash keeps of the document's disk; and that each part of it may be. -/
def crashF (bs : List Bool) : List Pt → Dk → Nat → Int → Dk
  | [], x, _, _ => x
  | u :: r, x, k, n =>
    if 0 ≤ u.at_ then crashF bs r (if hit bs k = true then x.turn u else x) (k + 1) n
    else crashF bs r (if (u.first n).2 = true then x.turn (u.first n).1 else x) k (if n < (u.size : Int) then 0 else n - (u.size : Int))
def crashOk (bs : List Bool) : List Pt → Dk → Nat → Int → Prop
  | [], _, _, _ => True
  | u :: r, x, k, n =>
    if 0 ≤ u.at_ then (hit bs k = true → Fits x u) ∧ crashOk bs r (if hit bs k = true then x.turn u else x) (k + 1) n
    else ((u.first n).2 = true → Fits x (u.first n).1) ∧ crashOk bs r (if (u.first n).2 = true then x.turn (u.first n).1 else x) k (if n < (u.size : Int) then 0 else n - (u.size : Int))

theorem crashF_cons (bs : List Bool) (u : Pt) (r : List Pt) (x : Dk) (k : Nat) (n : Int) : crashF bs (u :: r) x k n = if 0 ≤ u.at_ then crashF bs r (if hit bs k = true then x.turn u else x) (k + 1) n
    else crashF bs r (if (u.first n).2 = true then x.turn (u.first n).1 else x) k (if n < (u.size : Int) then 0 else n - (u.size : Int)) := rfl

/-- Where a crash stands: its three blocks, and the disk so far. -/
structure CrIn (K : Home) (w wr : World) (d : Dv) (L : DvL) (x : Dk) (p s : Sl) : Prop where
  below : Below w.heap.size w wr
  dv : DvBlk wr w.heap.size L.kp.val d.kept.base L.ks.val L.np.val d.now.base L.ns.val L.ds.val d.gone d.armed
  zero : DvBlk wr (w.heap.size + 1) Sl.nil.val 0 Sl.nil.val Sl.nil.val 0 Sl.nil.val Sl.nil.val false 0
  dk : DkBlk wr (w.heap.size + 1 + 1) p.val x.base s.val
  din : DkIn K wr x p s
  size : w.heap.size + 1 + 1 < wr.heap.size
theorem CrIn.keep {w wr w' : World} {d : Dv} {L : DvL} {x : Dk} {p s : Sl} (h : CrIn K w wr d L x p s) (hb : Below wr.heap.size wr w') : CrIn K w w' d L x p s :=
  ⟨h.below.trans (hb.mono h.below.size), h.dv.keep hb, h.zero.keep hb, h.dk.keep hb, h.din.keep hb (Nat.le_refl _), Nat.lt_of_lt_of_le h.size hb.size⟩
/-- The disk so far is laid anew. -/
theorem CrIn.set {w wr : World} {d : Dv} {L : DvL} {x y : Dk} {p s p' s' : Sl} (h : CrIn K w wr d L x p s) (hy : DkIn K wr y p' s') : CrIn K w (setDk wr (w.heap.size + 1 + 1) p'.val y.base s'.val) d L y p' s' := by
  have ho := setDk_other wr (w.heap.size + 1 + 1) p'.val y.base s'.val
  refine ⟨setDk_below h.below (by omega) _ _ _, h.dv.other (ho _ (by omega)), h.zero.other (ho _ (by omega)), setDk_blk h.dk _ _ _, ?_, by rw [setDk_size]; exact h.size⟩
  exact hy.other (DkBlk.no8 h.dk) ho (by rw [setDk_size]; exact Nat.le_refl _)

set_option maxHeartbeats 8000000 in
set_option maxRecDepth 100000 in
theorem refCrash_any (d : Dv) (L : DvL) (w : World) (h : DvIn K w d L) (pa : Option Addr) (pl pc : Nat) (bs : List Bool) (hpat : Pat w pa pl bs) (hpl : pl ≤ 1000) (u : Int) (hu : (Lit.int .i64 u).wf = true) (hdl : d.done.length ≤ 1000) (hok : crashOk bs (d.done.map (·.u)) d.kept 0 u) :
    Calls Try.prog 25 #[d.val L, .slice pa pl pc, .int .i64 u] w fun e w' => Below w.heap.size w w' ∧ ∃ L', e = .returned (Dv.val ⟨crashF bs (d.done.map (·.u)) d.kept 0 u, crashF bs (d.done.map (·.u)) d.kept 0 u, [], false, -1⟩ L') ∧ DvIn K w' ⟨crashF bs (d.done.map (·.u)) d.kept 0 u, crashF bs (d.done.map (·.u)) d.kept 0 u, [], false, -1⟩ L' := by
  have HH := hide h
  have HPAT := hide hpat
  have hlen : d.done.length = L.ds.len := h.done.1
  obtain ⟨W, hW⟩ : ∃ W, W = ((w.alloc (.cells #[L.kp.val, .int .i64 d.kept.base, L.ks.val, L.np.val, .int .i64 d.now.base, L.ns.val, L.ds.val, .bool d.gone, .int .i64 d.armed] 35)).alloc (.cells #[Sl.nil.val, .int .i64 0, Sl.nil.val, Sl.nil.val, .int .i64 0, Sl.nil.val, Sl.nil.val, .bool false, .int .i64 0] 35)).alloc (.cells #[L.kp.val, .int .i64 d.kept.base, L.ks.val] 32) := ⟨_, rfl⟩
  have HC0 : Hid (CrIn K w W d L d.kept L.kp L.ks) := by
    have hT := twoIn_new w d L
    unfold twoW at hT
    generalize hV : ((w.alloc (.cells #[L.kp.val, .int .i64 d.kept.base, L.ks.val, L.np.val, .int .i64 d.now.base, L.ns.val, L.ds.val, .bool d.gone, .int .i64 d.armed] 35)).alloc (.cells #[Sl.nil.val, .int .i64 0, Sl.nil.val, Sl.nil.val, .int .i64 0, Sl.nil.val, Sl.nil.val, .bool false, .int .i64 0] 35)) = V at hT hW
    have hVs : V.heap.size = w.heap.size + 1 + 1 := by rw [← hV]; simp
    have hb := below_alloc V (.cells #[L.kp.val, .int .i64 d.kept.base, L.ks.val] 32)
    rw [← hW] at hb
    refine ⟨rBelow hT.below hb, hT.dv.keep hb, hT.zero.keep hb, ?_, h.kept.keep (rBelow hT.below hb) (Nat.le_refl _), ?_⟩
    · rw [hW, ← hVs]
      exact dkBlk_new V _ _ _
    · rw [hW]
      simp
      omega
  have HWE := hide hW
  unfold Sl.nil Sl.val at HWE
  have HOK0 := hide hok
  have hub := bounds_i64 hu
  clear h hpat hW hok hu
  obtain ⟨kept, now, done, gone, armed⟩ := d
  obtain ⟨kp, ks, np, ns, ds⟩ := L
  unfold Dv.val
  unfold Sl.val
  simp only at HWE hlen hdl HOK0 ⊢
  go_enter Try.func25, Try.ntmps25
  go_wp2_with fail
  rw [← HWE.out]
  clear HWE
  go_loopw [2, 8, 9] (fun un uk ui wr => ∃ (j k : Nat) (n : Int) (x : Dk) (p s : Sl), j ≤ done.length ∧ ui = .int .i64 j ∧ uk = .int .i64 k ∧ un = .int .i64 n ∧ k ≤ j ∧ n ≤ 9223372036854775807 ∧ -9223372036854775808 ≤ n ∧ Hid (CrIn K w wr ⟨kept, now, done, gone, armed⟩ ⟨kp, ks, np, ns, ds⟩ x p s) ∧ Hid (crashOk bs ((done.drop j).map (·.u)) x k n) ∧ Hid (crashF bs (done.map (·.u)) kept 0 u = crashF bs ((done.drop j).map (·.u)) x k n)) (fun _ _ i _ => done.length - (intOf i).toNat)
  case atStart => exact ⟨0, 0, u, kept, kp, ks, by omega, rfl, rfl, rfl, by omega, hub.2, hub.1, HC0, by simpa using HOK0, hide (by simp)⟩
  case round =>
    obtain ⟨j, k, n, x, p, s, hj, rfl, rfl, rfl, hk, hn2, hn1, hC, hOK, hF⟩ := hrel
    have c6 := hC.out.dv.c6
    unfold Sl.val at c6
    simp only at c6
    have hub2 := hub
    clear HOK0 HC0 hub
    rcases Nat.lt_or_ge j done.length with hlt | hge
    · have hps := HH.out.done.keep hC.out.below (Nat.le_refl _)
      simp only at hps
      obtain ⟨b, off, ha, hat⟩ := hps.2.2 j (by omega)
      have hpo := hps.okAt j (by omega)
      obtain ⟨i, hi⟩ : ∃ i, i = done.getD j ptD := ⟨_, rfl⟩
      rw [← hi] at hat hpo
      have hdr : (done.drop j).map (·.u) = i.u :: (done.drop (j + 1)).map (·.u) := by
        rw [List.drop_eq_getElem_cons hlt, List.map_cons, hi]
        simp [List.getD, hlt]
      have hok := hOK.out
      have hf := hF.out
      rw [hdr] at hok hf
      unfold crashOk at hok
      rw [crashF_cons] at hf
      have HLP := hide (load_ptAt b (off + j * 4) i wr hat)
      have HAP := hide (alloc_pt wr)
      have HSP := hide (store_ptNew i.u i.q wr)
      obtain ⟨C, hCe⟩ : ∃ C, C = (.cells #[.int .i64 i.u.at_, i.q.val, .bool i.u.trim, .int .i64 i.u.to] 81 : Obj) := ⟨_, rfl⟩
      rw [← hCe] at HSP
      have hA := below_alloc wr C
      have HC1 := hide (hC.out.keep hA)
      have hPB : PtBlk (wr.alloc C) wr.heap.size i.u.at_ i.q.val i.u.trim i.u.to := by rw [hCe]; exact ptBlk_new wr _ _ _ _
      have HPB := hide hPB
      have hat0 := hPB.c0
      have HPO := hide (hpo.keep hA (Nat.le_refl _))
      have HDK := hide (load_dk (w.heap.size + 1 + 1) x p s (wr.alloc C) HC1.out.dk)
      have HLP2 := hide (load_pt wr.heap.size i.u i.q (wr.alloc C) hPB)
      have hj1 : ((j : Nat) : Int) < ((ds.len : Nat) : Int) := by omega
      rw [ha] at c6
      generalize hWa : wr.alloc C = Wa at *
      have hWs : wr.heap.size < Wa.heap.size := by rw [← hWa]; simp
      clear hWa hCe hA hat hpo hps hPB hdr hi ha
      by_cases h0 : 0 ≤ i.u.at_
      · rw [if_pos h0] at hok hf
        have HOK := hide hok
        have HF := hide hf
        clear hok hf
        cases hh : hit bs k
        · have hOK2 : Hid (crashOk bs ((done.drop (j + 1)).map (·.u)) x (k + 1) n) := by have := HOK.out.2; rw [hh] at this; exact this
          have hF2 : Hid (crashF bs (done.map (·.u)) kept 0 u = crashF bs ((done.drop (j + 1)).map (·.u)) x (k + 1) n) := by have := HF.out; rw [hh] at this; exact this
          have HPT := hide (HPAT.out.frm (F := fun _ => False) ⟨HC1.out.below.os, HC1.out.below.tape, HC1.out.below.output, HC1.out.below.size, fun q hq _ => HC1.out.below.block q hq⟩ (fun _ _ _ e => e))
          by_cases hp0 : pl = 0
          · subst hp0
            clear hh HOK HF hOK hF
            go_wp2_with (first | refine wpList_load _ rfl 81 (.tmp 25) rfl (.pointer (some ⟨b, off + j * 4, none⟩)) (i.u.val i.q) rfl HLP.out ?_ | refine wpList_alloc _ rfl 81 rfl (.pointer (some ⟨wr.heap.size, 0, none⟩)) _ HAP.out ?_ | refine wpList_store _ rfl rfl 81 (.tmp 10) (.tmp 26) rfl (.pointer (some ⟨wr.heap.size, 0, none⟩)) (i.u.val i.q) rfl rfl Wa HSP.out ?_)
            go_roundw
            case rel => exact ⟨j + 1, k + 1, n, _, _, _, by omega, by go_num, by go_num, rfl, by omega, by omega, by omega, HC1, hOK2, hF2⟩
            case measure => simp only [intOf]; omega
          · obtain ⟨pb, po, hpa, hpc⟩ := HPT.out.at_ (k % pl) (Nat.mod_lt _ (by omega))
            have hv : bs.getD (k % pl) false = false := by
              have := hh
              unfold hit at this
              rw [HPAT.out.len_, decide_eq_true (by omega : 0 < pl), Bool.true_and] at this
              exact this
            rw [hv] at hpc
            have r0 : (0 : Int) < ((pl : Nat) : Int) := by omega
            have r1 : ((k % pl : Nat) : Int) < ((pl : Nat) : Int) := by have := Nat.mod_lt k (show pl > 0 by omega); omega
            have r2 : ¬ pl = 0 := hp0
            subst hpa
            clear hh HOK HF hOK hF hv
            go_wp2_with (first | refine wpList_load _ rfl 81 (.tmp 25) rfl (.pointer (some ⟨b, off + j * 4, none⟩)) (i.u.val i.q) rfl HLP.out ?_ | refine wpList_alloc _ rfl 81 rfl (.pointer (some ⟨wr.heap.size, 0, none⟩)) _ HAP.out ?_ | refine wpList_store _ rfl rfl 81 (.tmp 10) (.tmp 26) rfl (.pointer (some ⟨wr.heap.size, 0, none⟩)) (i.u.val i.q) rfl rfl Wa HSP.out ?_)
            go_roundw
            case rel => exact ⟨j + 1, k + 1, n, _, _, _, by omega, by go_num, by go_num, rfl, by omega, by omega, by omega, HC1, hOK2, hF2⟩
            case measure => simp only [intOf]; omega
        · have hOK2 : Hid (crashOk bs ((done.drop (j + 1)).map (·.u)) (x.turn i.u) (k + 1) n) := by have := HOK.out.2; rw [hh] at this; exact this
          have hF2 : Hid (crashF bs (done.map (·.u)) kept 0 u = crashF bs ((done.drop (j + 1)).map (·.u)) (x.turn i.u) (k + 1) n) := by have := HF.out; rw [hh] at this; exact this
          have HTU := hide (turn_any x p s i.u i.q Wa HC1.out.din HPO.out.1 (HOK.out.1 hh))
          have HPT := hide (HPAT.out.frm (F := fun _ => False) ⟨HC1.out.below.os, HC1.out.below.tape, HC1.out.below.output, HC1.out.below.size, fun q hq _ => HC1.out.below.block q hq⟩ (fun _ _ _ e => e))
          have hp0 : 0 < pl := by
            have := hh
            unfold hit at this
            rw [HPAT.out.len_] at this
            simp only [Bool.and_eq_true, decide_eq_true_eq] at this
            exact this.1
          obtain ⟨pb, po, hpa, hpc⟩ := HPT.out.at_ (k % pl) (Nat.mod_lt _ (by omega))
          have hv : bs.getD (k % pl) false = true := by
            have := hh
            unfold hit at this
            rw [HPAT.out.len_, decide_eq_true hp0, Bool.true_and] at this
            exact this
          rw [hv] at hpc
          have r0 : (0 : Int) < ((pl : Nat) : Int) := by omega
          have r1 : ((k % pl : Nat) : Int) < ((pl : Nat) : Int) := by have := Nat.mod_lt k (show pl > 0 by omega); omega
          have r2 : ¬ pl = 0 := by omega
          subst hpa
          clear hh HOK HF hOK hF hv
          go_wp2_with (first | refine wpList_load _ rfl 81 (.tmp 25) rfl (.pointer (some ⟨b, off + j * 4, none⟩)) (i.u.val i.q) rfl HLP.out ?_ | refine wpList_alloc _ rfl 81 rfl (.pointer (some ⟨wr.heap.size, 0, none⟩)) _ HAP.out ?_ | refine wpList_store _ rfl rfl 81 (.tmp 10) (.tmp 26) rfl (.pointer (some ⟨wr.heap.size, 0, none⟩)) (i.u.val i.q) rfl rfl Wa HSP.out ?_ | refine wpList_load _ rfl 32 (.tmp 7) rfl (.pointer (some ⟨w.heap.size + 1 + 1, 0, none⟩)) (x.val p s) rfl HDK.out ?_ | refine wpList_load _ rfl 81 (.tmp 10) rfl (.pointer (some ⟨wr.heap.size, 0, none⟩)) (i.u.val i.q) rfl HLP2.out ?_)
          refine HTU.out.mono ?_
          rintro e w2 ⟨hb2, p2, s2, rfl, hin2⟩
          have HC2 := HC1.out.keep hb2
          have HSD := hide (store_dk (w.heap.size + 1 + 1) (x.turn i.u) p2 s2 w2 HC2.dk)
          have HC3 := hide (HC2.set hin2)
          clear hb2 hin2 HC2
          generalize hWb : setDk w2 (w.heap.size + 1 + 1) p2.val (x.turn i.u).base s2.val = Wb at HSD HC3
          clear hWb
          go_wp2_with (refine wpList_store _ rfl rfl 32 (.tmp 7) (.tmp 44) rfl (.pointer (some ⟨w.heap.size + 1 + 1, 0, none⟩)) ((x.turn i.u).val p2 s2) rfl rfl Wb HSD.out ?_)
          go_roundw
          case rel => exact ⟨j + 1, k + 1, n, _, _, _, by omega, by go_num, by go_num, rfl, by omega, by omega, by omega, HC3, hOK2, hF2⟩
          case measure => simp only [intOf]; omega
      · rw [if_neg h0] at hok hf
        have HOK := hide hok
        have HF := hide hf
        clear hok hf
        have HFI := hide (first_any i.u i.q n Wa HPO.out.1)
        have h0' : i.u.at_ < 0 := by omega
        clear hOK hF
        go_wp2_with (first | refine wpList_load _ rfl 81 (.tmp 25) rfl (.pointer (some ⟨b, off + j * 4, none⟩)) (i.u.val i.q) rfl HLP.out ?_ | refine wpList_alloc _ rfl 81 rfl (.pointer (some ⟨wr.heap.size, 0, none⟩)) _ HAP.out ?_ | refine wpList_store _ rfl rfl 81 (.tmp 10) (.tmp 26) rfl (.pointer (some ⟨wr.heap.size, 0, none⟩)) (i.u.val i.q) rfl rfl Wa HSP.out ?_ | refine wpList_load _ rfl 81 (.tmp 10) rfl (.pointer (some ⟨wr.heap.size, 0, none⟩)) (i.u.val i.q) rfl HLP2.out ?_)
        refine HFI.out.mono ?_
        rintro e w2 ⟨hb2, q2, rfl, hq2⟩
        obtain ⟨f1, hf1⟩ : ∃ f1, f1 = (i.u.first n).1 := ⟨_, rfl⟩
        obtain ⟨f2, hf2⟩ : ∃ f2, f2 = (i.u.first n).2 := ⟨_, rfl⟩
        rw [← hf1] at hq2
        have hok2 := HOK.out
        have hff2 := HF.out
        rw [← hf1, ← hf2] at hok2 hff2
        rw [← hf1, ← hf2]
        have HAP2 := hide (alloc_pt w2)
        have HSP2 := hide (store_ptNew f1 q2 w2)
        obtain ⟨C2, hC2⟩ : ∃ C2, C2 = (.cells #[.int .i64 f1.at_, q2.val, .bool f1.trim, .int .i64 f1.to] 81 : Obj) := ⟨_, rfl⟩
        rw [← hC2] at HSP2
        have hA2 := below_alloc w2 C2
        have HC2 := hide ((HC1.out.keep hb2).keep hA2)
        have HPX := hide (And.intro ((HPB.out.keep hb2).keep hA2) ((HPO.out.1.keep hb2 (Nat.le_refl _)).keep hA2 (Nat.le_refl _)))
        have hP2 : PtBlk (w2.alloc C2) w2.heap.size f1.at_ q2.val f1.trim f1.to := by rw [hC2]; exact ptBlk_new w2 _ _ _ _
        have HLP3 := hide (load_pt w2.heap.size f1 q2 (w2.alloc C2) hP2)
        have HQ2 := hide (hq2.keep hA2 (Nat.le_refl _))
        have HDK2 := hide (load_dk (w.heap.size + 1 + 1) x p s (w2.alloc C2) HC2.out.dk)
        generalize hWc : w2.alloc C2 = Wc at *
        clear hWc hC2 hA2 hb2 hq2 hP2 hf1 hf2 HFI HOK HF
        cases f2
        · have hOK3 : Hid (crashOk bs ((done.drop (j + 1)).map (·.u)) x k (if n < (i.u.size : Int) then 0 else n - (i.u.size : Int))) := hok2.2
          have hF3 : Hid (crashF bs (done.map (·.u)) kept 0 u = crashF bs ((done.drop (j + 1)).map (·.u)) x k (if n < (i.u.size : Int) then 0 else n - (i.u.size : Int))) := hff2
          clear hok2 hff2
          have HSZ := hide (size_any i.u i.q Wc (HPX.out.2))
          have HLP4 := hide (load_pt wr.heap.size i.u i.q Wc HPX.out.1)
          by_cases hlt2 : n < (i.u.size : Int)
          · rw [if_pos hlt2] at hOK3 hF3
            go_wp2_with (first | refine wpList_alloc _ rfl 81 rfl (.pointer (some ⟨w2.heap.size, 0, none⟩)) _ HAP2.out ?_ | refine wpList_store _ rfl rfl 81 (.tmp 11) (.tmp 51) rfl (.pointer (some ⟨w2.heap.size, 0, none⟩)) (f1.val q2) rfl rfl Wc HSP2.out ?_ | refine wpList_load _ rfl 81 (.tmp 10) rfl (.pointer (some ⟨wr.heap.size, 0, none⟩)) (i.u.val i.q) rfl HLP4.out ?_)
            refine HSZ.out.mono ?_
            rintro e w5 ⟨rfl, hb5⟩
            have HC5 := hide (HC2.out.keep hb5)
            clear hb5
            go_wp2_with fail
            go_roundw
            case rel => exact ⟨j + 1, k, 0, _, _, _, by omega, by go_num, rfl, rfl, by omega, by omega, by omega, HC5, hOK3, hF3⟩
            case measure => simp only [intOf]; omega
          · rw [if_neg hlt2] at hOK3 hF3
            have hsub : IntKind.i64.wrap (n - ((i.u.size : Nat) : Int)) = n - ((i.u.size : Nat) : Int) := by rw [IntKind.wrap_i64]; omega
            have hge2 : ((i.u.size : Nat) : Int) ≤ n := by omega
            go_wp2_with (first | refine wpList_alloc _ rfl 81 rfl (.pointer (some ⟨w2.heap.size, 0, none⟩)) _ HAP2.out ?_ | refine wpList_store _ rfl rfl 81 (.tmp 11) (.tmp 51) rfl (.pointer (some ⟨w2.heap.size, 0, none⟩)) (f1.val q2) rfl rfl Wc HSP2.out ?_ | refine wpList_load _ rfl 81 (.tmp 10) rfl (.pointer (some ⟨wr.heap.size, 0, none⟩)) (i.u.val i.q) rfl HLP4.out ?_)
            refine HSZ.out.mono ?_
            rintro e w5 ⟨rfl, hb5⟩
            have HC5 := hide (HC2.out.keep hb5)
            have HSZ6 := hide (size_any i.u i.q w5 (HPX.out.2.keep hb5 (Nat.le_refl _)))
            have HLP6 := hide (load_pt wr.heap.size i.u i.q w5 (HPX.out.1.keep hb5))
            clear hb5
            go_wp2_with (refine wpList_load _ rfl 81 (.tmp 10) rfl (.pointer (some ⟨wr.heap.size, 0, none⟩)) (i.u.val i.q) rfl HLP6.out ?_)
            refine HSZ6.out.mono ?_
            rintro e w6 ⟨rfl, hb6⟩
            have HC6 := hide (HC5.out.keep hb6)
            clear hb6
            go_wp2_with fail
            go_roundw
            case rel => exact ⟨j + 1, k, n - ((i.u.size : Nat) : Int), _, _, _, by omega, by go_num, rfl, rfl, by omega, by omega, by omega, HC6, hOK3, hF3⟩
            case measure => simp only [intOf]; omega
        · have hOK3 : Hid (crashOk bs ((done.drop (j + 1)).map (·.u)) (x.turn f1) k (if n < (i.u.size : Int) then 0 else n - (i.u.size : Int))) := hok2.2
          have hF3 : Hid (crashF bs (done.map (·.u)) kept 0 u = crashF bs ((done.drop (j + 1)).map (·.u)) (x.turn f1) k (if n < (i.u.size : Int) then 0 else n - (i.u.size : Int))) := hff2
          have HTU := hide (turn_any x p s f1 q2 Wc HC2.out.din HQ2.out (hok2.1 rfl))
          clear hok2 hff2
          go_wp2_with (first | refine wpList_alloc _ rfl 81 rfl (.pointer (some ⟨w2.heap.size, 0, none⟩)) _ HAP2.out ?_ | refine wpList_store _ rfl rfl 81 (.tmp 11) (.tmp 51) rfl (.pointer (some ⟨w2.heap.size, 0, none⟩)) (f1.val q2) rfl rfl Wc HSP2.out ?_ | refine wpList_load _ rfl 32 (.tmp 7) rfl (.pointer (some ⟨w.heap.size + 1 + 1, 0, none⟩)) (x.val p s) rfl HDK2.out ?_ | refine wpList_load _ rfl 81 (.tmp 11) rfl (.pointer (some ⟨w2.heap.size, 0, none⟩)) (f1.val q2) rfl HLP3.out ?_)
          refine HTU.out.mono ?_
          rintro e w3 ⟨hb3, p3, s3, rfl, hin3⟩
          have hC3 := HC2.out.keep hb3
          have HSD := hide (store_dk (w.heap.size + 1 + 1) (x.turn f1) p3 s3 w3 hC3.dk)
          have HC4 := hide (hC3.set hin3)
          have ho3 := setDk_other w3 (w.heap.size + 1 + 1) p3.val (x.turn f1).base s3.val
          have HPX4 := hide (And.intro ((HPX.out.1.keep hb3).other (ho3 wr.heap.size (by have := hC.out.size; omega))) ((HPX.out.2.keep hb3 (Nat.le_refl _)).other (DkBlk.no8 hC3.dk) ho3 (by rw [setDk_size]; exact Nat.le_refl _)))
          clear hb3 hin3 hC3 ho3
          generalize hWb : setDk w3 (w.heap.size + 1 + 1) p3.val (x.turn f1).base s3.val = Wd at *
          clear hWb
          have HSZ := hide (size_any i.u i.q Wd (HPX4.out.2))
          have HLP4 := hide (load_pt wr.heap.size i.u i.q Wd HPX4.out.1)
          by_cases hlt2 : n < (i.u.size : Int)
          · rw [if_pos hlt2] at hOK3 hF3
            go_wp2_with (first | refine wpList_store _ rfl rfl 32 (.tmp 7) (.tmp 56) rfl (.pointer (some ⟨w.heap.size + 1 + 1, 0, none⟩)) ((x.turn f1).val p3 s3) rfl rfl Wd HSD.out ?_ | refine wpList_load _ rfl 81 (.tmp 10) rfl (.pointer (some ⟨wr.heap.size, 0, none⟩)) (i.u.val i.q) rfl HLP4.out ?_)
            refine HSZ.out.mono ?_
            rintro e w5 ⟨rfl, hb5⟩
            have HC5 := hide (HC4.out.keep hb5)
            clear hb5
            go_wp2_with fail
            go_roundw
            case rel => exact ⟨j + 1, k, 0, _, _, _, by omega, by go_num, rfl, rfl, by omega, by omega, by omega, HC5, hOK3, hF3⟩
            case measure => simp only [intOf]; omega
          · rw [if_neg hlt2] at hOK3 hF3
            have hsub : IntKind.i64.wrap (n - ((i.u.size : Nat) : Int)) = n - ((i.u.size : Nat) : Int) := by rw [IntKind.wrap_i64]; omega
            have hge2 : ((i.u.size : Nat) : Int) ≤ n := by omega
            go_wp2_with (first | refine wpList_store _ rfl rfl 32 (.tmp 7) (.tmp 56) rfl (.pointer (some ⟨w.heap.size + 1 + 1, 0, none⟩)) ((x.turn f1).val p3 s3) rfl rfl Wd HSD.out ?_ | refine wpList_load _ rfl 81 (.tmp 10) rfl (.pointer (some ⟨wr.heap.size, 0, none⟩)) (i.u.val i.q) rfl HLP4.out ?_)
            refine HSZ.out.mono ?_
            rintro e w5 ⟨rfl, hb5⟩
            have HC5 := hide (HC4.out.keep hb5)
            have HSZ6 := hide (size_any i.u i.q w5 (HPX4.out.2.keep hb5 (Nat.le_refl _)))
            have HLP6 := hide (load_pt wr.heap.size i.u i.q w5 (HPX4.out.1.keep hb5))
            clear hb5
            go_wp2_with (refine wpList_load _ rfl 81 (.tmp 10) rfl (.pointer (some ⟨wr.heap.size, 0, none⟩)) (i.u.val i.q) rfl HLP6.out ?_)
            refine HSZ6.out.mono ?_
            rintro e w6 ⟨rfl, hb6⟩
            have HC6 := hide (HC5.out.keep hb6)
            clear hb6
            go_wp2_with fail
            go_roundw
            case rel => exact ⟨j + 1, k, n - ((i.u.size : Nat) : Int), _, _, _, by omega, by go_num, rfl, rfl, by omega, by omega, by omega, HC6, hOK3, hF3⟩
            case measure => simp only [intOf]; omega
    · obtain rfl : j = done.length := by omega
      have hfx : crashF bs (done.map (·.u)) kept 0 u = x := by
        have := hF.out
        rw [List.drop_length] at this
        exact this
      have HFX := hide hfx
      have HDK := hC.out.dk
      have hZ := hC.out.zero
      unfold Sl.val at HDK
      unfold Sl.nil Sl.val at hZ
      simp only at hZ
      have d0 := HDK.c0
      have d1 := HDK.c1
      have d2 := HDK.c2
      have z0 := hZ.c0
      have z1 := hZ.c1
      have z2 := hZ.c2
      have z3 := hZ.c3
      have z4 := hZ.c4
      have z5 := hZ.c5
      have z6 := hZ.c6
      have z7 := hZ.c7
      have z8 := hZ.c8
      have fz := hZ.fz
      have i1 : ¬ ((done.length : Nat) : Int) < ((ds.len : Nat) : Int) := by omega
      have HLN := hide hlen
      clear hlen
      clear HDK hZ hfx hF hOK
      go_wp2_with fail
      show bodyPost Try.prog Try.f25 _ Exit.ret _ (setDv wr (w.heap.size + 1) p.val x.base s.val p.val x.base s.val Sl.nil.val false (-1))
      refine dv_end rfl hC.out.zero ⟨x, x, [], false, -1⟩ ⟨p, s, p, s, Sl.nil⟩ (by rfl) rfl ?_
      rw [HFX.out]
      have hbb := setDv_below hC.out.below (show w.heap.size ≤ w.heap.size + 1 by omega) p.val x.base s.val p.val x.base s.val Sl.nil.val false (-1)
      have hin : DkIn K (setDv wr (w.heap.size + 1) p.val x.base s.val p.val x.base s.val Sl.nil.val false (-1)) x p s := hC.out.din.other hC.out.zero.no8 (fun k hk => setDv_other _ _ _ _ _ _ _ _ _ _ _ k hk) (by rw [setDv_size]; exact Nat.le_refl _)
      exact ⟨hbb, ⟨p, s, p, s, Sl.nil⟩, rfl, hin, hin, ⟨rfl, (fun i hi => by cases hi), (fun j hj => absurd hj (Nat.not_lt_zero j))⟩, (fun _ => rfl), Nat.le_refl _⟩

end Go.Proofs.Ytokdeilcfkobfaa
