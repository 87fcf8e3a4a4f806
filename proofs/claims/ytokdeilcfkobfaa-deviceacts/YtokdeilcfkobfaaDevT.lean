/-
  The document's device: Write, whole.
-/
import Derived.Test.YtokdeilcfkobfaaDevS
namespace Go.Proofs.Ytokdeilcfkobfaa
open Go.RowKit
variable {K : Home}

theorem wf_small (n : Nat) (h : n ≤ 1000000) : (Lit.int .i64 ((n : Nat) : Int)).wf = true := by
  have h1 : IntKind.i64.wrap ((n : Nat) : Int) = ((n : Nat) : Int) := by rw [IntKind.wrap_i64]; omega
  simp [Lit.wf, IntKind.min, IntKind.max, IntKind.signed, IntKind.bits]
  omega

/-- A page's sector, as a part; a device behind a page's first sectors. -/
def secP (k : Nat) (b : List Nat) (j : Nat) : Pt := ⟨((4 * k + j : Nat) : Int), (b.drop (128 * j)).take 128, false, 0⟩
def wrActs (A : Da) (k : Nat) (b : List Nat) : Nat → Da
  | 0 => A
  | j + 1 => (wrActs A k b j).act (secP k b j)
theorem Da.act_now (A : Da) (u : Pt) : (A.act u).now = A.now.turn u := by unfold Da.act; split <;> rfl
theorem Da.act_done (A : Da) (u : Pt) : (A.act u).done.length ≤ A.done.length + 1 := by
  unfold Da.act
  split
  · exact Nat.le_succ _
  · simp only
    split
    · simp
    · omega
theorem Da.act_armed (A : Da) (u : Pt) (h : A.armed ≤ 9223372036854775807) : (A.act u).armed ≤ 9223372036854775807 := by
  unfold Da.act
  split
  · exact h
  · simp only
    split
    · unfold Da.units
      split <;> omega
    · exact h
theorem sec_turn (d : Dk) (k : Nat) (b : List Nat) (j : Nat) (hj : j < 4) (hb : b.length = 512) (hk : 512 * k + 512 ≤ d.pg.length) : (d.turn (secP k b j)).pg.length = d.pg.length ∧ (d.turn (secP k b j)).st = d.st ∧ (d.turn (secP k b j)).base = d.base := by
  unfold Dk.turn secP
  rw [if_pos (by simp only; omega)]
  refine ⟨?_, rfl, rfl⟩
  simp only [List.length_append, List.length_take, List.length_drop]
  omega
theorem wrActs_now (A : Da) (k : Nat) (b : List Nat) (hb : b.length = 512) (hk : 512 * k + 512 ≤ A.now.pg.length) : ∀ j, j ≤ 4 → (wrActs A k b j).now.pg.length = A.now.pg.length ∧ (wrActs A k b j).now.st = A.now.st ∧ (wrActs A k b j).done.length ≤ A.done.length + j ∧ (A.armed ≤ 9223372036854775807 → (wrActs A k b j).armed ≤ 9223372036854775807)
  | 0, _ => ⟨rfl, rfl, by simp [wrActs], fun h => h⟩
  | j + 1, hj => by
    obtain ⟨a1, a2, a3, a4⟩ := wrActs_now A k b hb hk j (by omega)
    obtain ⟨b1, b2, _⟩ := sec_turn (wrActs A k b j).now k b j (by omega) hb (by omega)
    have b3 := (wrActs A k b j).act_done (secP k b j)
    refine ⟨?_, ?_, ?_, fun h => (wrActs A k b j).act_armed _ (a4 h)⟩
    · show ((wrActs A k b j).act (secP k b j)).now.pg.length = _
      rw [Da.act_now, b1, a1]
    · show ((wrActs A k b j).act (secP k b j)).now.st = _
      rw [Da.act_now, b2, a2]
    · show ((wrActs A k b j).act (secP k b j)).done.length ≤ _
      omega

/-- Where Write stands: its two blocks. -/
structure WrIn (K : Home) (w wr : World) (d : Dv) (L : DvL) : Prop where
  below : Below w.heap.size w wr
  dv : DvBlk wr w.heap.size L.kp.val d.kept.base L.ks.val L.np.val d.now.base L.ns.val L.ds.val d.gone d.armed
  zero : DvBlk wr (w.heap.size + 1) Sl.nil.val 0 Sl.nil.val Sl.nil.val 0 Sl.nil.val Sl.nil.val false 0
  din : DvIn K wr d L
theorem WrIn.set {w wr w2 : World} {d d2 : Dv} {L L2 : DvL} (h : WrIn K w wr d L) (hb : Below wr.heap.size wr w2) (h2 : DvIn K w2 d2 L2) : WrIn K w (setDv w2 w.heap.size L2.kp.val d2.kept.base L2.ks.val L2.np.val d2.now.base L2.ns.val L2.ds.val d2.gone d2.armed) d2 L2 := by
  have hd := h.dv.keep hb
  have ho : ∀ k, k ≠ w.heap.size → (setDv w2 w.heap.size L2.kp.val d2.kept.base L2.ks.val L2.np.val d2.now.base L2.ns.val L2.ds.val d2.gone d2.armed).heap[k]? = w2.heap[k]? := fun k hk => setDv_other _ _ _ _ _ _ _ _ _ _ _ k hk
  exact ⟨setDv_below (h.below.trans (hb.mono h.below.size)) (Nat.le_refl _) _ _ _ _ _ _ _ _ _, setDv_blk hd _ _ _ _ _ _ _ _ _, (h.zero.keep hb).other (ho _ (by omega)), h2.otherDv hd ho (by rw [setDv_size]; exact Nat.le_refl _)⟩

set_option maxHeartbeats 8000000 in
set_option maxRecDepth 100000 in
theorem refWrite_ok (d : Dv) (L : DvL) (w : World) (h : DvIn K w d L) (n k : Nat) (hn : d.kept.pg.length = 512 * n) (hn2 : d.now.pg.length = 512 * n) (hn4 : n ≤ 64) (hk : k < n) (q : Sl) (b : List Nat) (hb : BsS K w q b) (hl : q.len = 512) (hst : d.now.st.length ≤ 10000) (hm : d.armed ≤ 9223372036854775807) (hdl : d.done.length ≤ 900) :
    Calls Try.prog 15 #[d.val L, .int .i64 ((k : Nat) : Int), q.val] w fun e w' => Below w.heap.size w w' ∧ ∃ d' L', e = .returned (.tuple #[d'.val L', .int .i64 0]) ∧ DvIn K w' d' L' ∧ d'.abs = wrActs d.abs k b 4 := by
  have hbl : b.length = 512 := by rw [hb.len, hl]
  have hkl : L.kp.len = 512 * n := by rw [← h.kept.pg.len, hn]
  have hnow := wrActs_now d.abs k b hbl (by show 512 * k + 512 ≤ d.now.pg.length; omega)
  have HI := twoIn_new w d L
  have HW0 : Hid (WrIn K w (twoW w d L) d L) := ⟨HI.below, HI.dv, HI.zero, h.keep HI.below (Nat.le_refl _)⟩
  generalize hW : twoW w d L = W at HW0
  have HWE := hide hW
  unfold twoW at HWE
  have HNOW := hide hnow
  have HB := hide hb
  have HST := hide hst
  have HM := hide hm
  have HDL := hide hdl
  have HN2 := hide hn2
  have HBL := hide hbl
  have hqc : 512 ≤ q.cap := by have := hb.le; omega
  have hd : IntKind.i64.wrap (Int.tdiv ((512 * n : Nat) : Int) 512) = ((n : Nat) : Int) := by
    rw [IntKind.wrap_i64]
    have : Int.tdiv ((512 * n : Nat) : Int) 512 = (n : Int) := by
      rw [Int.tdiv_eq_ediv_of_nonneg (by omega)]; omega
    omega
  clear h HI hW hnow hb hst hm hdl hn hn2 hbl
  obtain ⟨A, hA⟩ : ∃ A, A = d.abs := ⟨_, rfl⟩
  have HA := hide hA
  rw [← hA] at HNOW ⊢
  clear hA
  obtain ⟨kept, now, done, gone, armed⟩ := d
  obtain ⟨⟨ka, kl, kc⟩, ks, np, ns, ds⟩ := L
  obtain ⟨qa, ql, qc⟩ := q
  simp only at hkl hl hqc
  subst hkl
  subst hl
  unfold Dv.val
  unfold Sl.nil Sl.val at HWE
  unfold Sl.val
  simp only at HWE ⊢
  have k1 : ¬ ((k : Nat) : Int) < 0 := by omega
  have k2 : ¬ ((n : Nat) : Int) ≤ ((k : Nat) : Int) := by omega
  have k3 : ((k : Nat) : Int) < ((n : Nat) : Int) := by omega
  go_enter Try.func15, Try.ntmps15
  go_wp2_with fail
  rw [HWE.out]
  go_loopw [8] (fun i wr => ∃ (j : Nat) (d' : Dv) (L' : DvL), j ≤ 4 ∧ i = .int .i64 j ∧ Hid (WrIn K w wr d' L') ∧ Hid (d'.abs = wrActs A k b j)) (fun i _ => 4 - (intOf i).toNat)
  case atStart => exact ⟨0, _, _, by omega, rfl, HW0, hide HA.out.symm⟩
  case round =>
    obtain ⟨j, d', L', hj, rfl, hI, hab⟩ := hrel
    rcases Nat.lt_or_ge j 4 with hlt | hge
    · obtain ⟨q1, q2, q3, q4⟩ := HNOW.out j hj
      have hA2 : A.now.pg.length = 512 * n := by rw [HA.out]; exact HN2.out
      have hnl : d'.now.pg.length = 512 * n := by have : d'.abs.now.pg.length = 512 * n := by rw [hab.out, q1, hA2]
                                                  exact this
      have hns : d'.now.st.length ≤ 10000 := by have : d'.abs.now.st.length ≤ 10000 := by rw [hab.out, q2, HA.out]; exact HST.out
                                                exact this
      have hdn : d'.done.length ≤ 1000 := by
        have h1 : d'.abs.done.length ≤ A.done.length + j := by rw [hab.out]; exact q3
        have h2 : A.done.length ≤ 900 := by rw [HA.out]; show (done.map _).length ≤ _; rw [List.length_map]; exact HDL.out
        have h3 : d'.abs.done.length = d'.done.length := by show (d'.done.map _).length = _; rw [List.length_map]
        omega
      have har : d'.armed ≤ 9223372036854775807 := by have : d'.abs.armed ≤ 9223372036854775807 := by rw [hab.out]; exact q4 (by rw [HA.out]; exact HM.out)
                                                      exact this
      have hbb := (HB.out.keep hI.out.below (Nat.le_refl _)).mid (128 * j) (128 * j + 128) (by omega) (by show _ ≤ 512; omega)
      rw [show 128 * j + 128 - 128 * j = 128 by omega] at hbb
      have hdo : ∀ w', Below wr.heap.size wr w' → Calls Try.prog 34 #[d'.val L', Pt.val ⟨((4 * k + j : Nat) : Int), [], false, 0⟩ (Sl.mid ⟨qa, 512, qc⟩ (128 * j) (128 * j + 128))] w' fun e w2 => Below w'.heap.size w' w2 ∧ ∃ d2 L2, e = .returned (d2.val L2) ∧ DvIn K w2 d2 L2 ∧ d2.abs = d'.abs.act (secP k b j) := fun w' hw' =>
        do_any d' L' (secP k b j) _ w' (hI.out.din.keep hw' (Nat.le_refl _)) (hbb.keep hw' (Nat.le_refl _)) ⟨by rw [hnl]; omega, by omega, by show ((b.drop (128 * j)).take 128).length ≤ _; simp only [List.length_take]; omega, fun _ => by show 128 * (((4 * k + j : Nat) : Int)).toNat + 128 ≤ _; rw [hnl]; omega, fun hx => absurd hx (by show ¬ ((4 * k + j : Nat) : Int) < 0; omega), by rfl⟩ (wf_small (4 * k + j) (by omega)) har hdn
      have HR : Hid (∀ {Q : Exit → Act → World → Prop} {A' : Act}, _) := fun {Q A'} => refWrite8 (K := K) wr w.heap.size k j d' L' ⟨qa, 512, qc⟩ (by omega) hlt (by show _ ≤ qc; omega) hI.out.dv (fun d2 => d2.abs = d'.abs.act (secP k b j)) hdo (Q := Q) (A := A')
      have i1 : ((j : Nat) : Int) < 4 := by omega
      clear hdo hbb q1 q2 q3 q4 hnl hns hdn har hA2
      go_wp2_with fail
      refine Pl.region_is (ops := Pl.find 8 ((Try.f15.body).getD .skip)) (by kernel_rfl) ?_
      refine HR.out (by rfl) rfl (by rfl) (by rfl) (by rfl) (by rfl) ?_
      intro uu w' w2 d2 L2 hw' hb2 hin2 hab2
      have HI2 : Hid (WrIn K w w' d2 L2) := by rw [hw']; exact hI.out.set hb2 hin2
      have HAB2 : Hid (d2.abs = wrActs A k b (j + 1)) := by show _ = (wrActs A k b j).act (secP k b j); rw [hab2, hab.out]
      clear hw' hb2 hin2 hab2 HR
      simp only [Act.put, List.setIfInBounds_toArray, List.set_cons_zero, List.set_cons_succ]
      go_wp2_with fail
      go_roundw
      case rel => exact ⟨j + 1, d2, L2, by omega, by go_num, HI2, HAB2⟩
      case measure => simp only [intOf]; omega
    · obtain rfl : j = 4 := by omega
      have HLD := hide (load_dv w.heap.size d' L' wr hI.out.dv)
      have HSD := hide (store_dv (w.heap.size + 1) d' L' wr hI.out.zero)
      go_wp2_with (first | refine wpList_load _ rfl 35 (.tmp 3) rfl (.pointer (some ⟨w.heap.size, 0, none⟩)) (d'.val L') rfl HLD.out ?_ | refine wpList_store _ rfl rfl 35 (.tmp 6) (.tmp 43) rfl (.pointer (some ⟨w.heap.size + 1, 0, none⟩)) (d'.val L') rfl rfl _ HSD.out ?_)
      refine dv_end2 rfl hI.out.zero d' L' (.int .i64 0) (by rfl) (by rfl) rfl ?_
      have hbb := setDv_below hI.out.below (show w.heap.size ≤ w.heap.size + 1 by omega) L'.kp.val d'.kept.base L'.ks.val L'.np.val d'.now.base L'.ns.val L'.ds.val d'.gone d'.armed
      exact ⟨hbb, d', L', rfl, hI.out.din.otherDv hI.out.zero (fun k hk => setDv_other _ _ _ _ _ _ _ _ _ _ _ k hk) (by rw [setDv_size]; exact Nat.le_refl _), hab.out⟩

set_option maxHeartbeats 8000000 in
set_option maxRecDepth 100000 in
theorem refWrite_none (d : Dv) (L : DvL) (w : World) (h : DvIn K w d L) (n : Nat) (k : Int) (hn : d.kept.pg.length = 512 * n) (hn4 : n ≤ 64) (hk : ¬ (0 ≤ k ∧ k < ((n : Nat) : Int))) (v : Value) :
    Calls Try.prog 15 #[d.val L, .int .i64 k, v] w fun e w' => Below w.heap.size w w' ∧ ∃ L', e = .returned (.tuple #[d.val L', .int .i64 3]) ∧ DvIn K w' d L' := by
  have hkl : L.kp.len = 512 * n := by rw [← h.kept.pg.len, hn]
  have HH := hide h
  have HI := hide (next_new w (.cells #[L.kp.val, .int .i64 d.kept.base, L.ks.val, L.np.val, .int .i64 d.now.base, L.ns.val, L.ds.val, .bool d.gone, .int .i64 d.armed] 35) L.kp.val d.kept.base L.ks.val L.np.val d.now.base L.ns.val L.ds.val d.gone d.armed)
  have HB := hide (below_two w (.cells #[L.kp.val, .int .i64 d.kept.base, L.ks.val, L.np.val, .int .i64 d.now.base, L.ns.val, L.ds.val, .bool d.gone, .int .i64 d.armed] 35) (.cells #[L.kp.val, .int .i64 d.kept.base, L.ks.val, L.np.val, .int .i64 d.now.base, L.ns.val, L.ds.val, .bool d.gone, .int .i64 d.armed] 35))
  have hd : IntKind.i64.wrap (Int.tdiv ((512 * n : Nat) : Int) 512) = ((n : Nat) : Int) := by
    rw [IntKind.wrap_i64]
    have : Int.tdiv ((512 * n : Nat) : Int) 512 = (n : Int) := by
      rw [Int.tdiv_eq_ediv_of_nonneg (by omega)]; omega
    omega
  clear h hn
  obtain ⟨kept, now, done, gone, armed⟩ := d
  obtain ⟨⟨ka, kl, kc⟩, ks, np, ns, ds⟩ := L
  simp only at hkl
  subst hkl
  unfold Dv.val Sl.val
  simp only
  by_cases k1 : k < 0
  · clear hk
    go_enter Try.func15, Try.ntmps15
    go_wp2_with fail
    exact bodyPost_ret (dv_results2 (d := ⟨kept, now, done, gone, armed⟩) (L := ⟨⟨ka, 512 * n, kc⟩, ks, np, ns, ds⟩) rfl HI.out _ rfl rfl) rfl ⟨HB.out, ⟨⟨ka, 512 * n, kc⟩, ks, np, ns, ds⟩, rfl, HH.out.keep HB.out (Nat.le_refl _)⟩
  · have k2 : ((n : Nat) : Int) ≤ k := by omega
    have k3 : 0 ≤ k := by omega
    clear hk
    go_enter Try.func15, Try.ntmps15
    go_wp2_with fail
    exact bodyPost_ret (dv_results2 (d := ⟨kept, now, done, gone, armed⟩) (L := ⟨⟨ka, 512 * n, kc⟩, ks, np, ns, ds⟩) rfl HI.out _ rfl rfl) rfl ⟨HB.out, ⟨⟨ka, 512 * n, kc⟩, ks, np, ns, ds⟩, rfl, HH.out.keep HB.out (Nat.le_refl _)⟩

set_option maxHeartbeats 8000000 in
set_option maxRecDepth 100000 in
theorem refWrite_arg (d : Dv) (L : DvL) (w : World) (h : DvIn K w d L) (n : Nat) (k : Int) (hn : d.kept.pg.length = 512 * n) (hn4 : n ≤ 64) (hk : 0 ≤ k ∧ k < ((n : Nat) : Int)) (a : Option Addr) (len cap : Nat) (hl : len ≠ 512) :
    Calls Try.prog 15 #[d.val L, .int .i64 k, .slice a len cap] w fun e w' => Below w.heap.size w w' ∧ ∃ L', e = .returned (.tuple #[d.val L', .int .i64 1]) ∧ DvIn K w' d L' := by
  have hkl : L.kp.len = 512 * n := by rw [← h.kept.pg.len, hn]
  have HH := hide h
  have HI := hide (next_new w (.cells #[L.kp.val, .int .i64 d.kept.base, L.ks.val, L.np.val, .int .i64 d.now.base, L.ns.val, L.ds.val, .bool d.gone, .int .i64 d.armed] 35) L.kp.val d.kept.base L.ks.val L.np.val d.now.base L.ns.val L.ds.val d.gone d.armed)
  have HB := hide (below_two w (.cells #[L.kp.val, .int .i64 d.kept.base, L.ks.val, L.np.val, .int .i64 d.now.base, L.ns.val, L.ds.val, .bool d.gone, .int .i64 d.armed] 35) (.cells #[L.kp.val, .int .i64 d.kept.base, L.ks.val, L.np.val, .int .i64 d.now.base, L.ns.val, L.ds.val, .bool d.gone, .int .i64 d.armed] 35))
  have hd : IntKind.i64.wrap (Int.tdiv ((512 * n : Nat) : Int) 512) = ((n : Nat) : Int) := by
    rw [IntKind.wrap_i64]
    have : Int.tdiv ((512 * n : Nat) : Int) 512 = (n : Int) := by
      rw [Int.tdiv_eq_ediv_of_nonneg (by omega)]; omega
    omega
  clear h hn
  obtain ⟨kept, now, done, gone, armed⟩ := d
  obtain ⟨⟨ka, kl, kc⟩, ks, np, ns, ds⟩ := L
  simp only at hkl
  subst hkl
  unfold Dv.val Sl.val
  simp only
  have k1 : ¬ k < 0 := by omega
  have k2 : ¬ ((n : Nat) : Int) ≤ k := by omega
  have k3 : k < ((n : Nat) : Int) := hk.2
  have k4 : 0 ≤ k := hk.1
  have l1 : ¬ ((len : Nat) : Int) = 512 := by omega
  clear hk
  go_enter Try.func15, Try.ntmps15
  go_wp2_with fail
  exact bodyPost_ret (dv_results2 (d := ⟨kept, now, done, gone, armed⟩) (L := ⟨⟨ka, 512 * n, kc⟩, ks, np, ns, ds⟩) rfl HI.out _ rfl rfl) rfl ⟨HB.out, ⟨⟨ka, 512 * n, kc⟩, ks, np, ns, ds⟩, rfl, HH.out.keep HB.out (Nat.le_refl _)⟩

end Go.Proofs.Ytokdeilcfkobfaa
