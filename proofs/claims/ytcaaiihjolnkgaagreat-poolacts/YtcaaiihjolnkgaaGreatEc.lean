/-
  The document's pool: write.
  The document's pool: let.
  The document's pool: Put, Evict, Flush.
-/
import Derived.Test.YtcaaiihjolnkgaaGreatEb
namespace Go.Proofs.YtcaaiihjolnkgaaGreat
open Go.RowKit
set_option maxRecDepth 100000
set_option linter.unusedVariables false
variable {K : Home}

theorem Good.more {n tot m m' : Nat} {A : Da} (g : Good n tot m A) (h : m ≤ m') : Good n tot m' A := ⟨g.np, g.kp, g.nb0, g.kb0, g.nt, g.kt, g.valid, g.fold1, g.fold2, g.parts, Nat.le_trans g.len h, g.mx⟩
theorem inl_congr {P Q : Po} {n : Nat} (h : ∀ k, P.m k = Q.m k) : P.inl n = Q.inl n := from_congr (fun k _ _ => h k)
theorem inl_len (P : Po) (n : Nat) : (P.inl n).length ≤ n := by
  have h1 := inl_pages P n
  have h2 : (P.inl n).length = (P.inn n).length := by rw [← h1, List.length_map]
  rw [h2]
  exact Nat.le_trans (List.length_filter_le _ _) (by simp)
/-- A sheet's box: its word on being dirty. -/
theorem stXd {w : World} {g : Nat} {z : SS} (h : XBlk w g z) (b : Bool) : ∃ W, (Instr.storeAt 4 (.pointer (some ⟨g, 2, none⟩)) (.bool b)).run Tryz.prog w = .ok () W ∧ XBlk W g ((z.1.1, { z.1.2 with dirty := b }), z.2) ∧ Frm (fun i => i = g) w W ∧ W.heap.size = w.heap.size := by
  have c2 := h.c2
  have f2 := h.fz 2
  refine ⟨w.setCell ⟨g, 2, none⟩ (.bool b), by simp [go_sem, Instr.storeAt, c2, f2], ?_, (Frm.refl (fun i => i = g) w).setCell (p := ⟨g, 2, none⟩) rfl _, by simp only [setCell_size]⟩
  have s2 := heap_setCell_same w g 2 _ 94 (.bool b) h
  unfold XBlk
  rw [s2]
  simp [SS.cells]
def No8 (C : Array Value) : Prop := ∀ (o : Nat) (k : Int), C[o]? ≠ some (Value.int .u8 k)
theorem came_box {w W : World} {a : Option Addr} {len cap : Nat} {xs : List Nat} (h : Came w a len cap xs) {F : Nat → Prop} (hb : ∀ i, ¬ F i → i < w.heap.size → W.heap[i]? = w.heap[i]?) (hF : ∀ i, F i → ∃ C t fz, w.heap[i]? = some (.cells C t fz) ∧ No8 C) : Came W a len cap xs := by
  refine ⟨⟨h.bs.1, h.bs.2.1, fun i hi => ?_⟩, h.nil, h.le, h.big⟩
  obtain ⟨b, off, ha, hc⟩ := h.bs.2.2 i hi
  refine ⟨b, off, ha, ?_⟩
  by_cases e : F b
  · obtain ⟨C, t, fz, hh, hn⟩ := hF b e
    exfalso
    simp only [World.cell?, hh] at hc
    simp at hc
    exact hn _ _ hc
  · have := hb b e (World.block_lt_of_cell? w _ hc)
    simp only [World.cell?, this] at hc ⊢
    exact hc
theorem no8R {w : World} {g : Nat} {d : Dv} {Ld : DvL} {v : Sl} {h : Int} {s : Sl} {sy : Int} : ∀ (o : Nat) (k : Int), (rCells d Ld v h s sy)[o]? ≠ some (Value.int .u8 k) := by
  intro o k
  unfold rCells Sl.val
  match o with
  | 0 | 1 | 2 | 3 | 4 | 5 | 6 | 7 | 8 | 9 | 10 | 11 | 12 => simp
  | o + 13 => simp
theorem no8X {z : SS} : ∀ (o : Nat) (k : Int), (SS.cells z).toArray[o]? ≠ some (Value.int .u8 k) := by
  intro o k
  unfold SS.cells Sl.val
  match o with
  | 0 | 1 | 2 | 3 => simp
  | o + 4 => simp
/-- Blocks that are boxes: no bytes, no parts, no frames. -/
structure Bxs (w W : World) (F : Nat → Prop) : Prop where
  same : ∀ i, ¬ F i → i < w.heap.size → W.heap[i]? = w.heap[i]?
  box : ∀ i, F i → ∃ C t fz, w.heap[i]? = some (.cells C t fz) ∧ No8 C ∧ t ≠ 102
  size : w.heap.size ≤ W.heap.size
theorem Bxs.bs {w W : World} {F : Nat → Prop} (b : Bxs w W F) {s : Sl} {xs : List Nat} (h : BsS K w s xs) : BsS K W s xs :=
  ⟨came_box h.came b.same (fun i hi => by obtain ⟨C, t, fz, h1, h2, _⟩ := b.box i hi; exact ⟨C, t, fz, h1, h2⟩), Nat.le_trans h.low b.size, h.home⟩
theorem Bxs.dv {w W : World} {F : Nat → Prop} (b : Bxs w W F) {d : Dv} {L : DvL} (h : DvIn K w d L) : DvIn K W d L := by
  refine ⟨⟨b.bs h.kept.pg, b.bs h.kept.st⟩, ⟨b.bs h.now.pg, b.bs h.now.st⟩, ⟨h.done.1, fun i hi => ⟨b.bs (h.done.2.1 i hi).1, (h.done.2.1 i hi).2⟩, fun j hj => ?_⟩, h.nil, h.le⟩
  obtain ⟨q, off, ha, c0, c1, c2, c3, C, fr, hc⟩ := h.done.2.2 j hj
  have hnf : ¬ F q := fun e => by
    obtain ⟨C', t, fz, h1, _, h3⟩ := b.box q e
    rw [hc] at h1
    simp only [Option.some.injEq, Obj.cells.injEq] at h1
    exact h3 h1.2.1.symm
  have e := b.same q hnf (Array.getElem?_eq_some_iff.1 hc).1
  have hcell : ∀ o, W.cell? ⟨q, o, none⟩ = w.cell? ⟨q, o, none⟩ := fun o => by simp only [World.cell?, e]
  exact ⟨q, off, ha, (hcell _).trans c0, (hcell _).trans c1, (hcell _).trans c2, (hcell _).trans c3, C, fr, e.trans hc⟩
theorem RBlk.box {w : World} {g : Nat} {d : Dv} {Ld : DvL} {v : Sl} {h : Int} {s : Sl} {sy : Int} (k : RBlk w g d Ld v h s sy) : ∃ C t fz, w.heap[g]? = some (.cells C t fz) ∧ No8 C ∧ t ≠ 102 := ⟨_, _, _, k, no8R (w := w) (g := g), by decide⟩
theorem XBlk.box {w : World} {g : Nat} {z : SS} (k : XBlk w g z) : ∃ C t fz, w.heap[g]? = some (.cells C t fz) ∧ No8 C ∧ t ≠ 102 := ⟨_, _, _, k, no8X, by decide⟩
theorem dvIn_boxes {w W : World} {g g2 : Nat} {d : Dv} {L : DvL} {d' : Dv} {Ld : DvL} {v : Sl} {h : Int} {s : Sl} {sy : Int} {z : SS} (hd : DvIn K w d L) (hs : ∀ i, i ≠ g ∧ i ≠ g2 → i < w.heap.size → W.heap[i]? = w.heap[i]?) (k : RBlk w g d' Ld v h s sy) (x : XBlk w g2 z) (hsz : w.heap.size ≤ W.heap.size) : DvIn K W d L :=
  Bxs.dv (F := fun i => i = g ∨ i = g2) ⟨fun i hi hl => hs i ⟨fun e => hi (.inl e), fun e => hi (.inr e)⟩ hl, fun i hi => by rcases hi with rfl | rfl; exact k.box; exact x.box, hsz⟩ hd
theorem dvIn_box {w W : World} {g : Nat} {d : Dv} {L : DvL} (hd : DvIn K w d L) (hf : Frm (fun i => i = g) w W) (k : ∃ d' Ld' v' h' s' sy', RBlk w g d' Ld' v' h' s' sy') : DvIn K W d L := by
  obtain ⟨_, _, _, _, _, _, k⟩ := k
  exact Bxs.dv (F := fun i => i = g) ⟨fun i hi hl => hf.block i hl hi, fun i hi => by rw [hi]; exact k.box, hf.size⟩ hd
theorem shRow_box {w W : World} {g : Nat} {s : Sl} {l : List (Nat × Sh)} (hs : ShRow K w s l) (hf : Frm (fun i => i = g) w W) (k : ∃ d' Ld' v' h' s' sy', RBlk w g d' Ld' v' h' s' sy') : ShRow K W s l := by
  obtain ⟨_, _, _, _, _, _, k⟩ := k
  obtain ⟨ls, e, hc, hz⟩ := hs
  have b : Bxs w W (fun i => i = g) := ⟨fun i hi hl => hf.block i hl hi, fun i hi => by rw [hi]; exact k.box, hf.size⟩
  refine ⟨ls, e, hc.frm (fun q hr => hf.block q hr.lt (fun e => ?_)), fun z hm => ⟨b.bs (hz z hm).1, (hz z hm).2⟩⟩
  subst e
  obtain ⟨C, fz, hC⟩ := hr
  unfold RBlk at k
  rw [hC] at k
  simp only [Option.some.injEq, Obj.cells.injEq] at k
  exact absurd k.2.1 (by decide)

set_option maxHeartbeats 16000000 in
set_option maxRecDepth 100000 in
theorem rwrite_any {w : World} {n tot m : Nat} {P : Po} {d : Dv} {Ld : DvL} {v s : Sl} (hI : RpIn K w n tot m P d Ld v s) (hn : n ≤ 64) (ht : tot ≤ 600) (hm : m ≤ 890) (hW : ∀ k sh, P.m k = some sh → k < n ∧ sh.b.length = 512 ∧ Bytes sh.b) (i k : Nat) (sh : Sh) (hi : (P.inl n)[i]? = some (k, sh)) : Calls Tryz.prog 41 #[rV d Ld v P.h s P.sy, .int .i64 ((i : Nat) : Int)] w fun e w' => Below w.heap.size w w' ∧ ∃ x, e = .returned x ∧ RpSays K n tot (m + 4) (P.write k) x w' := by
  obtain ⟨ls, hls, hc, hz⟩ := hI.sh
  have hmem := from_mem (List.mem_of_getElem? hi)
  have hkm : P.m k = some sh := hmem.2.2
  obtain ⟨hkn, hsb, hsx⟩ := hW k sh hkm
  obtain ⟨z, hzi, hzk⟩ : ∃ z, ls[i]? = some z ∧ z.1 = (k, sh) := by
    rw [← hls, List.getElem?_map] at hi
    cases e : ls[i]? with
    | none => rw [e] at hi; cases hi
    | some z => rw [e] at hi; exact ⟨z, rfl, by simpa using hi⟩
  obtain ⟨hq, hql⟩ := hz z (List.mem_of_getElem? hzi)
  obtain ⟨W0, hW0⟩ : ∃ W, W = ((w.alloc (.cells (rCells d Ld v P.h s P.sy) 43)).alloc (.cells (rCells dv0 dvl0 Sl.nil 0 Sl.nil 0) 43)) := ⟨_, rfl⟩
  have hX : Rx w W0 (w.heap.size + 1) d Ld v P.h s P.sy := by rw [hW0]; exact rx_new w d Ld v P.h s P.sy
  have hs0 : W0.heap.size = w.heap.size + 2 := by rw [hW0]; simp
  obtain ⟨⟨zk, zs⟩, ⟨qa, ql, qc⟩⟩ := z
  simp only [Prod.mk.injEq] at hzk
  obtain ⟨rfl, rfl⟩ := hzk
  obtain ⟨W1, hW1⟩ : ∃ W, W = W0.alloc (.cells (SS.cells ((zk, zs), ⟨qa, ql, qc⟩)).toArray 94) := ⟨_, rfl⟩
  have hA1 : Below W0.heap.size W0 W1 := by rw [hW1]; exact below_alloc W0 _
  have hX1 := hX.keep hA1
  have hXB1 : XBlk W1 (w.heap.size + 2) ((zk, zs), ⟨qa, ql, qc⟩) := by rw [hW1, ← hs0]; exact heap_alloc_new W0 _
  obtain ⟨b, off, ha, k0, k1, k2, k3, _⟩ := (hc.keep hX.e).at_ i _ hzi
  have hil : i < s.len := by rw [← hc.len]; exact (List.getElem?_eq_some_iff.1 hzi).1
  have e11 := hX.b.c11
  rw [hW0, r0_is] at k0 k1 k2 k3 e11
  rw [hW0, r0_is] at hW1
  simp only [SS.cells, Sl.val] at hW1 k0 k1 k2 k3 e11
  have HW1 := hide hW1
  obtain ⟨sa, sl, sc⟩ := s
  simp only at ha hil e11
  subst ha
  have HX1 := hide hX1
  have HXB1 := hide hXB1
  have HI := hide hI
  have HQ : Hid (BsS K w ⟨qa, ql, qc⟩ zs.b) := hq
  have HQL : Hid (ql = 512) := hql
  have HSB := hide hsb
  have HSX := hide hsx
  have HKN := hide hkn
  have HN := hide hn
  have HT := hide ht
  have HM := hide hm
  have HCK := hide hI.ck
  have HSH := hide hI.sh
  have HLOW := hide hI.low
  have HKM := hide hkm
  have i1 : ((i : Nat) : Int) < ((sl : Nat) : Int) := by omega
  have HHH : Hid ((P.wrote zk zs).h = P.h) := (wrote_rest P zk zs).2
  clear hls hc hz hmem hkm hkn hsb hsx hzi hq hql hW0 hX hs0 hW1 hA1 hX1 hXB1 hI hi hn ht hm hW
  unfold rV
  have x2 := HXB1.out.c2
  have x3 := HXB1.out.c3
  have y12 := HX1.out.b.c12
  simp only at x2 x3
  cases hd : zs.dirty with
  | false =>
    rw [hd] at x2 k2
    rw [write_clean P zk (fun s hs => by have := HKM.out; rw [hs] at this; rw [Option.some.inj this]; exact hd)]
    rw [hd] at HW1
    obtain ⟨W2, hst, hb2, hB2, hf2⟩ := HX1.out.tell d Ld v P.h ⟨some ⟨b, off, none⟩, sl, sc⟩ P.sy
    have HLD := hide (ldR HX1.out.b)
    have HST := hide hst
    have HB2 := hide hb2
    have HBB := hide hB2
    have HI2 := hide (HI.out.keep hB2)
    unfold rV at HLD HST
    clear hst hb2 hB2 hf2 hd
    rw [HW1.out] at HLD HST
    go_enter Tryz.func41, Tryz.ntmps41
    go_wp2_with (first | refine wpList_load _ rfl 43 (.tmp 2) rfl (.pointer (some ⟨w.heap.size, 0, none⟩)) _ rfl HLD.out ?_ | refine wpList_store _ rfl rfl 43 (.tmp 4) (.tmp 14) rfl (.pointer (some ⟨w.heap.size + 1, 0, none⟩)) _ rfl rfl W2 HST.out ?_)
    refine bodyPost_ret (rp_results rfl HB2.out _ rfl) rfl ?_
    exact ⟨HBB.out, _, rfl, d, Ld, v, _, rfl, ⟨HI2.out.dv, HI2.out.rel, HI2.out.good.more (by omega), HI2.out.ck, HI2.out.sh, HI2.out.low⟩⟩
  | true =>
    rw [hd] at x2 k2 HW1
    rw [write_dirty P zk zs HKM.out hd]
    have y12L := y12
    rw [HW1.out] at y12L
    clear x2 x3 y12
    by_cases hzs : P.sy < zs.place
    · have hAh : P.ahead zs.place = { P with D := P.D.sync, sy := P.D.fin } := if_pos hzs
      obtain ⟨hs1, hrel, hgood⟩ := HI.out.rel.sync HI.out.good HT.out
      have HSY := hide (refSync_any d Ld W1 (HI.out.dv.keep HX1.out.e (Nat.le_refl _)))
      have HLD1 := hide (ldRD HX1.out.b)
      rw [HW1.out] at HLD1
      have HREL := hide hrel
      have HGOOD := hide hgood
      have hgt : decide (P.sy < zs.place) = true := decide_eq_true hzs
      clear hs1 hrel hgood hd
      go_enter Tryz.func41, Tryz.ntmps41
      go_wp2_with (refine wpList_load _ rfl 37 (.tmp 20) rfl (.pointer (some ⟨w.heap.size, 0, none⟩)) _ rfl HLD1.out ?_)
      rw [← HW1.out]
      refine HSY.out.mono ?_
      rintro e w2 ⟨hb2, L1, rfl, hD1⟩
      have hX2 := HX1.out.keep hb2
      have hXB2 : XBlk w2 (w.heap.size + 2) ((zk, zs), ⟨qa, ql, qc⟩) := (hb2.block _ HXB1.out.lt).trans HXB1.out
      obtain ⟨W2, hst2, hblk2, hf2, hs2⟩ := stRD hX2.b d.sync L1
      have hX2' := hX2.turn hblk2 hf2
      have hXB2' : XBlk W2 (w.heap.size + 2) ((zk, zs), ⟨qa, ql, qc⟩) := hXB2.frm hf2 (by omega)
      have hw2 : Below w.heap.size w W2 := hX2'.e
      have hI2 : RpIn K W2 n tot m { P with D := P.D.sync } d.sync L1 v ⟨some ⟨b, off, none⟩, sl, sc⟩ := by
        refine ⟨dvIn_box hD1 hf2 ⟨_, _, _, _, _, _, hX2.b⟩, ?_, ?_, HCK.out.below hw2 (Nat.le_refl _), ?_, Nat.le_trans HLOW.out hw2.size⟩
        · rw [d.sync_abs]; exact HREL.out
        · rw [d.sync_abs]; exact HGOOD.out
        · rw [show ({ P with D := P.D.sync } : Po).inl n = P.inl n from inl_congr (fun _ => rfl)]
          exact HSH.out.keep hw2
      have HSN := hide (rSynced_any hI2 HT.out)
      have HS2 := hide hst2
      have HL2 := hide (ldR hX2'.b)
      have HX2 := hide hX2'
      have HXB2 := hide hXB2'
      have HI2 := hide hI2
      unfold rV at HSN HL2
      clear hb2 hD1 hX2 hXB2 hst2 hblk2 hf2 hs2 hX2' hXB2' hw2 hI2 k0 k1 k2 k3 e11 y12L HLD1
      go_wp2_with (first | refine wpList_store _ rfl rfl 37 (.tmp 23) (.tmp 22) rfl (.pointer (some ⟨w.heap.size, 0, none⟩)) (d.sync.val L1) rfl rfl W2 HS2.out ?_ | refine wpList_load _ rfl 43 (.tmp 2) rfl (.pointer (some ⟨w.heap.size, 0, none⟩)) _ rfl HL2.out ?_)
      refine HSN.out.mono ?_
      rintro e w3 ⟨hb3, rfl⟩
      have hX3 := HX2.out.keep hb3
      have hXB3 : XBlk w3 (w.heap.size + 2) ((zk, zs), ⟨qa, ql, qc⟩) := (hb3.block _ HXB2.out.lt).trans HXB2.out
      obtain ⟨W3, hst3, hblk3, hf3, hs3⟩ := stR hX3.b d.sync L1 v P.h ⟨some ⟨b, off, none⟩, sl, sc⟩ P.D.sync.fin
      have hX3' := hX3.turn hblk3 hf3
      have HXB3 : Hid (XBlk W3 (w.heap.size + 2) ((zk, zs), ⟨qa, ql, qc⟩)) := hXB3.frm hf3 (by omega)
      have hw3 : Below w.heap.size w W3 := hX3'.e
      have hI3' := HI2.out.keep hb3
      have HI3 : Hid (RpIn K W3 n tot m (P.ahead zs.place) d.sync L1 v ⟨some ⟨b, off, none⟩, sl, sc⟩) := by
        rw [hAh]
        refine ⟨dvIn_box hI3'.dv hf3 ⟨_, _, _, _, _, _, hX3.b⟩, hI3'.rel, hI3'.good, HCK.out.below hw3 (Nat.le_refl _), ?_, Nat.le_trans HLOW.out hw3.size⟩
        rw [show ({ P with D := P.D.sync, sy := P.D.fin } : Po).inl n = P.inl n from inl_congr (fun _ => rfl)]
        exact HSH.out.keep hw3
      have hsy : (P.ahead zs.place).sy = P.D.sync.fin := by rw [hAh]; exact P.D.sync_fin.symm
      have HX3 : Hid (Rx w W3 (w.heap.size + 1) d.sync L1 v P.h ⟨some ⟨b, off, none⟩, sl, sc⟩ (P.ahead zs.place).sy) := by rw [hsy]; exact hX3'
      have HS3 := hide hst3
      unfold rV at HS3
      clear hb3 hX3 hXB3 hst3 hblk3 hf3 hs3 hX3' hw3 hI3' hsy hAh HS2 HL2
      have hE3 := HI3.out
      obtain ⟨ls3, hls3, hc3, hz3⟩ := hE3.sh
      have hbq3 : BsS K W3 ⟨qa, ql, qc⟩ zs.b := HQ.out.keep (HX3.out.e) (Nat.le_refl _)
      have hWR := refWrite_ok d.sync L1 W3 hE3.dv n zk hE3.good.kp hE3.good.np (by have := HN.out; omega) HKN.out ⟨qa, ql, qc⟩ zs.b hbq3 HQL.out (by have := hE3.good.nt; have := HT.out; have h1 : d.sync.now.base.toNat + d.sync.now.st.length ≤ tot := hE3.good.nt; omega) hE3.good.mx (by have h1 : d.sync.done.length ≤ m := by { have := hE3.good.len; simpa [Dv.abs] using this }; have := HM.out; omega)
      have HWR := hide hWR
      have HLD3 := hide (ldRD HX3.out.b)
      have x0 := HXB3.out.c0
      have x1 := HXB3.out.c1
      simp only [Sl.val] at HWR x0 x1
      clear hE3 hls3 hc3 hz3 hbq3 hWR

      go_wp2_with (first | refine wpList_store _ rfl rfl 43 (.tmp 2) (.tmp 25) rfl (.pointer (some ⟨w.heap.size, 0, none⟩)) _ rfl rfl W3 HS3.out ?_ | refine wpList_load _ rfl 37 (.tmp 27) rfl (.pointer (some ⟨w.heap.size, 0, none⟩)) _ rfl HLD3.out ?_)

      refine HWR.out.mono ?_
      rintro e w4 ⟨hb4, d2, L2, rfl, hD2, habs⟩
      clear x0 x1
      have hX4 := HX3.out.keep hb4
      have hXB4 : XBlk w4 (w.heap.size + 2) ((zk, zs), ⟨qa, ql, qc⟩) := (hb4.block _ HXB3.out.lt).trans HXB3.out
      obtain ⟨W5, hst5, hblk5, hf5, hs5⟩ := stRD hX4.b d2 L2
      have hX5 := hX4.turn hblk5 hf5
      have hXB5 : XBlk W5 (w.heap.size + 2) ((zk, zs), ⟨qa, ql, qc⟩) := hXB4.frm hf5 (by omega)
      obtain ⟨W6, hst6, hXB6, hf6, hs6⟩ := stXd hXB5 false
      have hX6 := hX5.other hf6 (fun q e => by omega)
      have hB36 : Below W3.heap.size W3 W6 ∨ True := .inr trivial
      have hw6 : Below w.heap.size w W6 := hX6.e
      have hD6 : DvIn K W6 d2 L2 := dvIn_boxes hD2 (show ∀ i, i ≠ w.heap.size ∧ i ≠ w.heap.size + 2 → i < w4.heap.size → W6.heap[i]? = w4.heap[i]? from fun i hi hl => by rw [hf6.block i (by omega) hi.2, hf5.block i hl hi.1]) hX4.b hXB4 (by rw [hs6, hs5]; exact Nat.le_refl _)
      have hI6 : RpIn K W6 n tot (m + 4) { P.ahead zs.place with D := (P.ahead zs.place).D.write zk zs.b } d2 L2 v ⟨some ⟨b, off, none⟩, sl, sc⟩ := by
        refine ⟨hD6, ?_, ?_, ?_, ?_, ?_⟩
        · rw [habs]
          exact HI3.out.rel.write zk zs.b HSB.out (by have h1 : d.sync.now.pg.length = 512 * n := HI3.out.good.np; show 512 * zk + 512 ≤ d.sync.now.pg.length; have := HKN.out; omega)
        · rw [habs]
          exact HI3.out.good.write HT.out zk HKN.out zs.b HSB.out HSX.out 4 (Nat.le_refl _)
        · show Gs K.G W6 v (P.ahead zs.place).l
          rw [(ahead_rest P zs.place).2.1]
          exact HCK.out.below hw6 (Nat.le_refl _)
        · show ShRow K W6 ⟨some ⟨b, off, none⟩, sl, sc⟩ (({ P.ahead zs.place with D := (P.ahead zs.place).D.write zk zs.b } : Po).inl n)
          rw [show ({ P.ahead zs.place with D := (P.ahead zs.place).D.write zk zs.b } : Po).inl n = P.inl n from inl_congr (fun i => congrFun (ahead_rest P zs.place).1 i)]
          exact HSH.out.keep hw6
        · exact Nat.le_trans HLOW.out hw6.size
      have hSET := rpset_any hI6.sh (by
        have h1 : (({ P.ahead zs.place with D := (P.ahead zs.place).D.write zk zs.b } : Po).inl n).length ≤ n := inl_len _ n
        have := HN.out
        omega) d2 L2 v P.h (P.ahead zs.place).sy ((zk, { zs with dirty := false }), ⟨qa, ql, qc⟩) (HQ.out.keep hw6 (Nat.le_refl _)) HQL.out
      have HSET := hide hSET
      have HL6 := hide (ldR hX6.b)
      have HS5 := hide hst5
      have HS6 := hide hst6
      have HX6 := hide hX6
      have HI6 := hide hI6
      have y0 := hXB6.c0
      have y1 := hXB6.c1
      have y2 := hXB6.c2
      have y3 := hXB6.c3
      simp only [SS.val, SS.cells, Sl.val] at HSET y0 y1 y2 y3
      clear hb4 hX4 hXB4 hst5 hblk5 hf5 hs5 hX5 hXB5 hst6 hXB6 hf6 hs6 hX6 hw6 hD6 hI6 hSET hB36 hD2
      go_wp2_with (first | refine wpList_store _ rfl rfl 37 (.tmp 36) (.tmp 34) rfl (.pointer (some ⟨w.heap.size, 0, none⟩)) (d2.val L2) rfl rfl W5 HS5.out ?_ | refine wpList_store _ rfl rfl 4 (.tmp 37) (.const (.bool false)) rfl (.pointer (some ⟨w.heap.size + 2, 2, none⟩)) (.bool false) rfl rfl W6 HS6.out ?_ | refine wpList_load _ rfl 43 (.tmp 2) rfl (.pointer (some ⟨w.heap.size, 0, none⟩)) _ rfl HL6.out ?_)
      refine HSET.out.mono ?_
      rintro e w7 ⟨hb7, s7, rfl, hrow7⟩
      have hX7 := HX6.out.keep hb7
      obtain ⟨W8, hst8, hb8, hB8, hf8⟩ := hX7.tell d2 L2 v P.h s7 (P.ahead zs.place).sy
      have hI8 : RpIn K W8 n tot (m + 4) (P.wrote zk zs) d2 L2 v s7 := by
        have hI7 := HI6.out.keep hb7
        refine ⟨dvIn_box hI7.dv hf8 hX7.ans, hI7.rel, hI7.good, ?_, ?_, Nat.le_trans HLOW.out hB8.size⟩
        · show Gs K.G W8 v (P.ahead zs.place).l
          rw [(ahead_rest P zs.place).2.1]
          exact HCK.out.below hB8 (Nat.le_refl _)
        · have e : setL (({ P.ahead zs.place with D := (P.ahead zs.place).D.write zk zs.b } : Po).inl n) (zk, { zs with dirty := false }) = (P.wrote zk zs).inl n := setL_inl _ HKN.out _
          rw [e] at hrow7
          exact shRow_box hrow7 hf8 hX7.ans
      have HS8 := hide hst8
      have HB8 := hide hb8
      have HBB := hide hB8
      have HSAY : Hid (RpSays K n tot (m + 4) (P.wrote zk zs) (rV d2 L2 v P.h s7 (P.ahead zs.place).sy) W8) := ⟨d2, L2, v, s7, by rw [HHH.out, show (P.wrote zk zs).sy = (P.ahead zs.place).sy from rfl], hI8⟩
      clear hb7 hrow7 hX7 hst8 hb8 hB8 hf8 hI8 y0 y1 y2 y3
      unfold rV at HS8
      go_wp2_with (refine wpList_store _ rfl rfl 43 (.tmp 4) (.tmp 40) rfl (.pointer (some ⟨w.heap.size + 1, 0, none⟩)) _ rfl rfl W8 HS8.out ?_)
      refine bodyPost_ret (rp_results rfl HB8.out _ rfl) rfl ?_
      exact ⟨HBB.out, _, rfl, HSAY.out⟩
    · have hAh : P.ahead zs.place = P := if_neg hzs
      have hgt : decide (P.sy < zs.place) = false := decide_eq_false hzs
      have HI3 : Hid (RpIn K W1 n tot m (P.ahead zs.place) d Ld v ⟨some ⟨b, off, none⟩, sl, sc⟩) := by rw [hAh]; exact HI.out.keep HX1.out.e
      have HX3 : Hid (Rx w W1 (w.heap.size + 1) d Ld v P.h ⟨some ⟨b, off, none⟩, sl, sc⟩ (P.ahead zs.place).sy) := by rw [hAh]; exact HX1
      have HXB3 := HXB1
      clear hAh hd
      go_enter Tryz.func41, Tryz.ntmps41
      have hE3 := HI3.out
      obtain ⟨ls3, hls3, hc3, hz3⟩ := hE3.sh
      have hbq3 : BsS K W1 ⟨qa, ql, qc⟩ zs.b := HQ.out.keep (HX3.out.e) (Nat.le_refl _)
      have hWR := refWrite_ok d Ld W1 hE3.dv n zk hE3.good.kp hE3.good.np (by have := HN.out; omega) HKN.out ⟨qa, ql, qc⟩ zs.b hbq3 HQL.out (by have := hE3.good.nt; have := HT.out; have h1 : d.now.base.toNat + d.now.st.length ≤ tot := hE3.good.nt; omega) hE3.good.mx (by have h1 : d.done.length ≤ m := by { have := hE3.good.len; simpa [Dv.abs] using this }; have := HM.out; omega)
      have HWR := hide hWR
      have HLD3 := hide (ldRD HX3.out.b)
      have x0 := HXB3.out.c0
      have x1 := HXB3.out.c1
      simp only [Sl.val] at HWR x0 x1
      clear hE3 hls3 hc3 hz3 hbq3 hWR
      rw [HW1.out] at HLD3 x0 x1
      go_wp2_with (first | refine wpList_load _ rfl 37 (.tmp 27) rfl (.pointer (some ⟨w.heap.size, 0, none⟩)) _ rfl HLD3.out ?_)
      rw [← HW1.out]
      refine HWR.out.mono ?_
      rintro e w4 ⟨hb4, d2, L2, rfl, hD2, habs⟩
      clear x0 x1
      have hX4 := HX3.out.keep hb4
      have hXB4 : XBlk w4 (w.heap.size + 2) ((zk, zs), ⟨qa, ql, qc⟩) := (hb4.block _ HXB3.out.lt).trans HXB3.out
      obtain ⟨W5, hst5, hblk5, hf5, hs5⟩ := stRD hX4.b d2 L2
      have hX5 := hX4.turn hblk5 hf5
      have hXB5 : XBlk W5 (w.heap.size + 2) ((zk, zs), ⟨qa, ql, qc⟩) := hXB4.frm hf5 (by omega)
      obtain ⟨W6, hst6, hXB6, hf6, hs6⟩ := stXd hXB5 false
      have hX6 := hX5.other hf6 (fun q e => by omega)
      have hB36 : Below W1.heap.size W1 W6 ∨ True := .inr trivial
      have hw6 : Below w.heap.size w W6 := hX6.e
      have hD6 : DvIn K W6 d2 L2 := dvIn_boxes hD2 (show ∀ i, i ≠ w.heap.size ∧ i ≠ w.heap.size + 2 → i < w4.heap.size → W6.heap[i]? = w4.heap[i]? from fun i hi hl => by rw [hf6.block i (by omega) hi.2, hf5.block i hl hi.1]) hX4.b hXB4 (by rw [hs6, hs5]; exact Nat.le_refl _)
      have hI6 : RpIn K W6 n tot (m + 4) { P.ahead zs.place with D := (P.ahead zs.place).D.write zk zs.b } d2 L2 v ⟨some ⟨b, off, none⟩, sl, sc⟩ := by
        refine ⟨hD6, ?_, ?_, ?_, ?_, ?_⟩
        · rw [habs]
          exact HI3.out.rel.write zk zs.b HSB.out (by have h1 : d.now.pg.length = 512 * n := HI3.out.good.np; show 512 * zk + 512 ≤ d.now.pg.length; have := HKN.out; omega)
        · rw [habs]
          exact HI3.out.good.write HT.out zk HKN.out zs.b HSB.out HSX.out 4 (Nat.le_refl _)
        · show Gs K.G W6 v (P.ahead zs.place).l
          rw [(ahead_rest P zs.place).2.1]
          exact HCK.out.below hw6 (Nat.le_refl _)
        · show ShRow K W6 ⟨some ⟨b, off, none⟩, sl, sc⟩ (({ P.ahead zs.place with D := (P.ahead zs.place).D.write zk zs.b } : Po).inl n)
          rw [show ({ P.ahead zs.place with D := (P.ahead zs.place).D.write zk zs.b } : Po).inl n = P.inl n from inl_congr (fun i => congrFun (ahead_rest P zs.place).1 i)]
          exact HSH.out.keep hw6
        · exact Nat.le_trans HLOW.out hw6.size
      have hSET := rpset_any hI6.sh (by
        have h1 : (({ P.ahead zs.place with D := (P.ahead zs.place).D.write zk zs.b } : Po).inl n).length ≤ n := inl_len _ n
        have := HN.out
        omega) d2 L2 v P.h (P.ahead zs.place).sy ((zk, { zs with dirty := false }), ⟨qa, ql, qc⟩) (HQ.out.keep hw6 (Nat.le_refl _)) HQL.out
      have HSET := hide hSET
      have HL6 := hide (ldR hX6.b)
      have HS5 := hide hst5
      have HS6 := hide hst6
      have HX6 := hide hX6
      have HI6 := hide hI6
      have y0 := hXB6.c0
      have y1 := hXB6.c1
      have y2 := hXB6.c2
      have y3 := hXB6.c3
      simp only [SS.val, SS.cells, Sl.val] at HSET y0 y1 y2 y3
      clear hb4 hX4 hXB4 hst5 hblk5 hf5 hs5 hX5 hXB5 hst6 hXB6 hf6 hs6 hX6 hw6 hD6 hI6 hSET hB36 hD2
      go_wp2_with (first | refine wpList_store _ rfl rfl 37 (.tmp 36) (.tmp 34) rfl (.pointer (some ⟨w.heap.size, 0, none⟩)) (d2.val L2) rfl rfl W5 HS5.out ?_ | refine wpList_store _ rfl rfl 4 (.tmp 37) (.const (.bool false)) rfl (.pointer (some ⟨w.heap.size + 2, 2, none⟩)) (.bool false) rfl rfl W6 HS6.out ?_ | refine wpList_load _ rfl 43 (.tmp 2) rfl (.pointer (some ⟨w.heap.size, 0, none⟩)) _ rfl HL6.out ?_)
      refine HSET.out.mono ?_
      rintro e w7 ⟨hb7, s7, rfl, hrow7⟩
      have hX7 := HX6.out.keep hb7
      obtain ⟨W8, hst8, hb8, hB8, hf8⟩ := hX7.tell d2 L2 v P.h s7 (P.ahead zs.place).sy
      have hI8 : RpIn K W8 n tot (m + 4) (P.wrote zk zs) d2 L2 v s7 := by
        have hI7 := HI6.out.keep hb7
        refine ⟨dvIn_box hI7.dv hf8 hX7.ans, hI7.rel, hI7.good, ?_, ?_, Nat.le_trans HLOW.out hB8.size⟩
        · show Gs K.G W8 v (P.ahead zs.place).l
          rw [(ahead_rest P zs.place).2.1]
          exact HCK.out.below hB8 (Nat.le_refl _)
        · have e : setL (({ P.ahead zs.place with D := (P.ahead zs.place).D.write zk zs.b } : Po).inl n) (zk, { zs with dirty := false }) = (P.wrote zk zs).inl n := setL_inl _ HKN.out _
          rw [e] at hrow7
          exact shRow_box hrow7 hf8 hX7.ans
      have HS8 := hide hst8
      have HB8 := hide hb8
      have HBB := hide hB8
      have HSAY : Hid (RpSays K n tot (m + 4) (P.wrote zk zs) (rV d2 L2 v P.h s7 (P.ahead zs.place).sy) W8) := ⟨d2, L2, v, s7, by rw [HHH.out, show (P.wrote zk zs).sy = (P.ahead zs.place).sy from rfl], hI8⟩
      clear hb7 hrow7 hX7 hst8 hb8 hB8 hf8 hI8 y0 y1 y2 y3
      unfold rV at HS8
      go_wp2_with (refine wpList_store _ rfl rfl 43 (.tmp 4) (.tmp 40) rfl (.pointer (some ⟨w.heap.size + 1, 0, none⟩)) _ rfl rfl W8 HS8.out ?_)
      refine bodyPost_ret (rp_results rfl HB8.out _ rfl) rfl ?_
      exact ⟨HBB.out, _, rfl, HSAY.out⟩

end Go.Proofs.YtcaaiihjolnkgaaGreat

namespace Go.Proofs.YtcaaiihjolnkgaaGreat
open Go.RowKit
set_option maxRecDepth 100000
set_option linter.unusedVariables false
variable {K : Home}

theorem Pl.fieldV {P : Program} {ops : Array Oper} {S : World → Prop} {n : Nat} {f : Nat → Value} (i : Nat) (t : TypeId) (x : Operand) (k : Nat) (v : Value) (h : (Pl.op ops i).op = .field t x k) (hx : Pl.inB n x = true) (hv : ∀ w, (Instr.field t (Pl.ev f x) k).run P w = .ok v w) :
    ∀ A, Pl.At n A f → ∀ w, S w → (execOp A.eval (Pl.op ops i)).run P w = .ok (.value v) w := by
  intro A hA w _
  have e : execOp A.eval (Pl.op ops i) = (do pure (.value (← Instr.field t (A.eval x) k))) := by
    unfold execOp
    rw [h]
  rw [e, hA.ev x hx]
  simp [hv]
theorem fldDk0 (x : Dk) (p s : Sl) (w : World) : (Instr.field 34 (x.val p s) 0).run Tryz.prog w = .ok p.val w := by
  unfold Dk.val Sl.val
  simp [go_sem, Instr.field, asAgg]
theorem fdRp0 (g : Nat) (w : World) : (Instr.fieldAt 43 (.pointer (some ⟨g, 0, none⟩)) 0).run Tryz.prog w = .ok (.pointer (some ⟨g, 0, none⟩)) w := by simp [go_sem, Instr.fieldAt]
theorem mul512 (k : Nat) (h : k ≤ 1000) (x y : Operand) (w : World) : (do eqGuard .mul 3 x y (.int .i64 512) (.int .i64 ((k : Nat) : Int)); binOp .mul 3 (.int .i64 512) (.int .i64 ((k : Nat) : Int)) : Sem Value).run Tryz.prog w = .ok (.int .i64 ((512 * k : Nat) : Int)) w := by
  have e : IntKind.i64.wrap (512 * ((k : Nat) : Int)) = ((512 * k : Nat) : Int) := by rw [IntKind.wrap_i64]; omega
  simp only [go_sem, eqGuard] at *
  simp [go_sem]
  rw [e]
  omega
theorem add512 (k : Nat) (h : k ≤ 1000) (x y : Operand) (w : World) : (do eqGuard .add 3 x y (.int .i64 ((512 * k : Nat) : Int)) (.int .i64 512); binOp .add 3 (.int .i64 ((512 * k : Nat) : Int)) (.int .i64 512) : Sem Value).run Tryz.prog w = .ok (.int .i64 ((512 * k + 512 : Nat) : Int)) w := by
  have e : IntKind.i64.wrap (((512 * k : Nat) : Int) + 512) = ((512 * k + 512 : Nat) : Int) := by rw [IntKind.wrap_i64]; omega
  simp [go_sem, eqGuard]
  first | exact e | (rw [← e]; congr 1)
theorem buildSh2 (k : Nat) (q : Sl) (w : World) : (Instr.build 94 #[(0, .int .i64 ((k : Nat) : Int)), (1, q.val)]).run Tryz.prog w = .ok (.agg #[.int .i64 ((k : Nat) : Int), q.val, .bool false, .int .i64 0]) w := by
  unfold Sl.val
  simp [go_sem, Instr.build]
theorem entSeen : ∀ args w, (callFunc 31 args).run Tryz.prog w = .ok (.enter 31 args) w := Pl.enters Tryz.func31 (by kernel_rfl) (by kernel_rfl)
theorem entRset : ∀ args w, (callFunc 38 args).run Tryz.prog w = .ok (.enter 38 args) w := Pl.enters Tryz.func38 (by kernel_rfl) (by kernel_rfl)

set_option maxHeartbeats 2000000 in
set_option maxRecDepth 100000 in
theorem let8 (w : World) (g r k : Nat) (dd : Dv) (Ld : DvL) (v : Sl) (h : Int) (s : Sl) (sy : Int) (hk : k ≤ 1000) (hcap : 512 * k + 512 ≤ Ld.np.cap) (R1 : World → Prop) (R2 : Value → World → Prop) (R3 : World → Prop) (h0 : (fun (w' : World) => RBlk w' g dd Ld v h s sy) w) (hseen : Calls Tryz.prog 31 #[dd.val Ld] w.drew fun e w2 => e = .returned (dd.now.val Ld.np Ld.ns) ∧ R1 w2) (hR1S : ∀ w2, R1 w2 → (fun (w' : World) => RBlk w' g dd Ld v h s sy) w2) (hset : ∀ w2, R1 w2 → Calls Tryz.prog 38 #[rV dd Ld v h s sy, .agg #[.int .i64 ((k : Nat) : Int), (Ld.np.mid (512 * k) (512 * k + 512)).val, .bool false, .int .i64 0]] w2 fun e w3 => ∃ x, e = .returned x ∧ R2 x w3) (hR2S : ∀ x w3, R2 x w3 → (fun (w' : World) => RBlk w' g dd Ld v h s sy) w3) (hstore : ∀ x w3, R2 x w3 → ∃ W, (Instr.storeAt 43 (.pointer (some ⟨r, 0, none⟩)) x).run Tryz.prog w3 = .ok () W ∧ (fun (w' : World) => RBlk w' g dd Ld v h s sy) W ∧ R3 W)
    {Q : Exit → Act → World → Prop} {A : Act} (hsz : A.tmps.size = 46) (hdf : A.defers = []) (s1 : A.tmps.getD 1 undef = .int .i64 ((k : Nat) : Int)) (s2 : A.tmps.getD 2 undef = .pointer (some ⟨g, 0, none⟩)) (s4 : A.tmps.getD 4 undef = .pointer (some ⟨r, 0, none⟩))
    (hend : ∀ (u : Nat → Value) w', R3 w' → Q .normal (((((((((((((((A).put (some 32) (u 32)).put (some 33) (u 33)).put (some 34) (u 34)).put (some 35) (u 35)).put (some 38) (u 38)).put (some 39) (u 39)).put (some 40) (u 40)).put (some 41) (u 41)).put (some 42) (u 42)).put (some 36) (u 36)).put (some 37) (u 37)).put (some 43) (u 43)).put (some 44) (u 44)).put (some 45) (u 45)) w') :
    (Code.region 8 (Pl.find 8 ((Tryz.f36.body).getD .skip)) true).wp Tryz.prog Q A w := by
  have hA := Pl.At.same (v := .pointer (some ⟨r, 0, none⟩)) (d := 4) (Pl.At.same (v := .pointer (some ⟨g, 0, none⟩)) (d := 2) (Pl.At.same (v := .int .i64 ((k : Nat) : Int)) (d := 1) (Pl.At.here hsz hdf) s1) s2) s4
  refine Pl.H.start (S := fun w' => RBlk w' g dd Ld v h s sy) (by kernel_rfl) hA (show (fun w' => RBlk w' g dd Ld v h s sy) w.drew from h0) ?_
  rw [show (Pl.find 8 ((Tryz.f36.body).getD .skip)).size = 15 by kernel_rfl]
  refine Pl.H.take 0 32 (rV dd Ld v h s sy) (by kernel_rfl) (by kernel_rfl) (by kernel_rfl) (Pl.free 0 (by kernel_rfl)) (Pl.load 0 43 (.tmp 2) _ (by kernel_rfl) (by decide) (fun w' hS => ldR hS)) (show (fun w' => RBlk w' g dd Ld v h s sy) w.drew from h0) ?_
  refine Pl.H.take 1 33 (.int .i64 ((k : Nat) : Int)) (by kernel_rfl) (by kernel_rfl) (by kernel_rfl) (Pl.free 1 (by kernel_rfl)) (Pl.move 1 (.tmp 1) (by kernel_rfl) (by decide)) (show (fun w' => RBlk w' g dd Ld v h s sy) w.drew from h0) ?_
  refine Pl.H.take 2 34 (.pointer (some ⟨g, 0, none⟩)) (by kernel_rfl) (by kernel_rfl) (by kernel_rfl) (Pl.free 2 (by kernel_rfl)) (Pl.field 2 43 (.tmp 2) 0 _ (by kernel_rfl) (by decide) (fdRp0 g)) (show (fun w' => RBlk w' g dd Ld v h s sy) w.drew from h0) ?_
  refine Pl.H.take 3 35 (dd.val Ld) (by kernel_rfl) (by kernel_rfl) (by kernel_rfl) (Pl.free 3 (by kernel_rfl)) (Pl.load 3 37 (.tmp 34) _ (by kernel_rfl) (by decide) (fun w' hS => ldRD hS)) (show (fun w' => RBlk w' g dd Ld v h s sy) w.drew from h0) ?_
  refine Pl.H.take 6 38 (.int .i64 ((k : Nat) : Int)) (by kernel_rfl) (by kernel_rfl) (by kernel_rfl) (Pl.free 6 (by kernel_rfl)) (Pl.move 6 (.tmp 1) (by kernel_rfl) (by decide)) (show (fun w' => RBlk w' g dd Ld v h s sy) w.drew from h0) ?_
  refine Pl.H.take 7 39 (.int .i64 ((512 * k : Nat) : Int)) (by kernel_rfl) (by kernel_rfl) (by kernel_rfl) (Pl.free 7 (by kernel_rfl)) (Pl.binV 7 .mul 3 3 (.const (.int .i64 512)) (.tmp 38) (.int .i64 512) (.int .i64 ((k : Nat) : Int)) _ (by kernel_rfl) (by decide) (by decide) rfl rfl (fun w => mul512 k hk _ _ w)) (show (fun w' => RBlk w' g dd Ld v h s sy) w.drew from h0) ?_
  refine Pl.H.take 8 40 (.int .i64 ((k : Nat) : Int)) (by kernel_rfl) (by kernel_rfl) (by kernel_rfl) (Pl.free 8 (by kernel_rfl)) (Pl.move 8 (.tmp 1) (by kernel_rfl) (by decide)) (show (fun w' => RBlk w' g dd Ld v h s sy) w.drew from h0) ?_
  refine Pl.H.take 9 41 (.int .i64 ((512 * k : Nat) : Int)) (by kernel_rfl) (by kernel_rfl) (by kernel_rfl) (Pl.free 9 (by kernel_rfl)) (Pl.binV 9 .mul 3 3 (.const (.int .i64 512)) (.tmp 40) (.int .i64 512) (.int .i64 ((k : Nat) : Int)) _ (by kernel_rfl) (by decide) (by decide) rfl rfl (fun w => mul512 k hk _ _ w)) (show (fun w' => RBlk w' g dd Ld v h s sy) w.drew from h0) ?_
  refine Pl.H.take 10 42 (.int .i64 ((512 * k + 512 : Nat) : Int)) (by kernel_rfl) (by kernel_rfl) (by kernel_rfl) (Pl.free 10 (by kernel_rfl)) (Pl.binV 10 .add 3 3 (.tmp 41) (.const (.int .i64 512)) (.int .i64 ((512 * k : Nat) : Int)) (.int .i64 512) _ (by kernel_rfl) (by decide) (by decide) rfl rfl (fun w => add512 k hk _ _ w)) (show (fun w' => RBlk w' g dd Ld v h s sy) w.drew from h0) ?_
  refine Pl.H.call 4 36 31 [(.tmp 35)] #[37] (by kernel_rfl) (by kernel_rfl) (by kernel_rfl) (Pl.free 4 (by kernel_rfl)) (by kernel_rfl) (by decide) entSeen (Calls.mono (hseen) ?_)
  rintro e w2 ⟨rfl, hr1⟩
  refine ⟨dd.now.val Ld.np Ld.ns, rfl, (hR1S w2 hr1), ?_⟩
  refine Pl.H.take 5 37 (Ld.np.val) (by kernel_rfl) (by kernel_rfl) (by kernel_rfl) (Pl.free 5 (by kernel_rfl)) (Pl.fieldV 5 34 (.tmp 36) 0 _ (by kernel_rfl) (by decide) (fldDk0 dd.now Ld.np Ld.ns)) (hR1S w2 hr1) ?_
  refine Pl.H.take 11 43 ((Ld.np.mid (512 * k) (512 * k + 512)).val) (by kernel_rfl) (by kernel_rfl) (by kernel_rfl) (Pl.free 11 (by kernel_rfl)) (Pl.slice 11 32 (.tmp 37) (some (.tmp 39)) (some (.tmp 42)) _ (by kernel_rfl) (by decide) (by decide) (by decide) (slice_midS Ld.np (512 * k) (512 * k + 512) (by omega) hcap)) (hR1S w2 hr1) ?_
  refine Pl.H.take 12 44 (.agg #[.int .i64 ((k : Nat) : Int), (Ld.np.mid (512 * k) (512 * k + 512)).val, .bool false, .int .i64 0]) (by kernel_rfl) (by kernel_rfl) (by kernel_rfl) (Pl.free 12 (by kernel_rfl)) (Pl.buildV 12 94 [(0, .tmp 33), (1, .tmp 43)] _ (by kernel_rfl) (by decide) (fun w => buildSh2 k _ w)) (hR1S w2 hr1) ?_
  refine Pl.H.call 13 45 38 [(.tmp 32), (.tmp 44)] #[43, 94] (by kernel_rfl) (by kernel_rfl) (by kernel_rfl) (Pl.free 13 (by kernel_rfl)) (by kernel_rfl) (by decide) entRset (Calls.mono (hset w2 hr1) ?_)
  rintro e w3 ⟨x, rfl, hr2⟩
  obtain ⟨W4, hst, hS4, hr3⟩ := hstore x w3 hr2
  refine ⟨x, rfl, (hR2S x w3 hr2), ?_⟩
  refine Pl.H.store 14 W4 (by kernel_rfl) (by kernel_rfl) (by kernel_rfl) (Pl.free 14 (by kernel_rfl)) (Pl.storeV 14 43 (.tmp 4) (.tmp 45) W4 (by kernel_rfl) (by decide) (by decide) hst) hS4 ?_
  refine Pl.H.done (by kernel_rfl) (fun A' hA' => ?_)
  rw [Pl.At.ext hA' ((((((((((((((hA.put 32 _).put 33 _).put 34 _).put 35 _).put 38 _).put 39 _).put 40 _).put 41 _).put 42 _).put 36 _).put 37 _).put 43 _).put 44 _).put 45 _)]
  exact hend (fun d => if d = 32 then rV dd Ld v h s sy else if d = 33 then .int .i64 ((k : Nat) : Int) else if d = 34 then .pointer (some ⟨g, 0, none⟩) else if d = 35 then dd.val Ld else if d = 38 then .int .i64 ((k : Nat) : Int) else if d = 39 then .int .i64 ((512 * k : Nat) : Int) else if d = 40 then .int .i64 ((k : Nat) : Int) else if d = 41 then .int .i64 ((512 * k : Nat) : Int) else if d = 42 then .int .i64 ((512 * k + 512 : Nat) : Int) else if d = 36 then dd.now.val Ld.np Ld.ns else if d = 37 then Ld.np.val else if d = 43 then (Ld.np.mid (512 * k) (512 * k + 512)).val else if d = 44 then .agg #[.int .i64 ((k : Nat) : Int), (Ld.np.mid (512 * k) (512 * k + 512)).val, .bool false, .int .i64 0] else if d = 45 then x else undef) _ hr3
theorem mem_inl {P : Po} {n k : Nat} {sh : Sh} (hk : k < n) (h : P.m k = some sh) : (k, sh) ∈ P.inl n := List.mem_of_getElem? (inl_at P hk h).1
/-- Frames lie in no box. -/
theorem gs_box {D : Nat → Prop} {w W : World} {g : Nat} {v : Sl} {l : List Sp} (h : Gs D w v l) (hf : Frm (fun i => i = g) w W) (k : ∃ d' Ld' v' h' s' sy', RBlk w g d' Ld' v' h' s' sy') : Gs D W v l := by
  obtain ⟨_, _, _, _, _, _, k⟩ := k
  have hb : ∀ ad, v.a = some ad → 0 < v.len → W.heap[ad.block]? = w.heap[ad.block]? := fun ad ha hl => by
    obtain ⟨C, fz, hc⟩ := h.ty ad ha hl
    refine hf.block _ (Array.getElem?_eq_some_iff.1 hc).1 (fun e => ?_)
    rw [e] at hc
    unfold RBlk at k
    rw [hc] at k
    simp only [Option.some.injEq, Obj.cells.injEq] at k
    exact absurd k.2.1 (by decide)
  refine ⟨h.len, h.nil, h.le, h.big, h.home, fun i hi => ?_, fun ad ha hl => ?_⟩
  · obtain ⟨b, off, ha, c0, c1, c2⟩ := h.cell i hi
    have e := hb _ ha (by omega)
    have hc : ∀ o, W.cell? ⟨b, o, none⟩ = w.cell? ⟨b, o, none⟩ := fun o => by simp only [World.cell?, e]
    exact ⟨b, off, ha, (hc _).trans c0, (hc _).trans c1, (hc _).trans c2⟩
  · obtain ⟨C, fz, hc⟩ := h.ty ad ha hl
    exact ⟨C, fz, (hb ad ha hl).trans hc⟩
theorem let8_walk {w w6 : World} {n tot m : Nat} {P : Po} {d : Dv} {Ld : DvL} {v s : Sl} (hI : RpIn K w6 n tot m P d Ld v s) (hX : Rx w w6 (w.heap.size + 1) d Ld v P.h s P.sy) {k : Nat} (hmn : P.m k = none) (hk : k < n) (hn : n ≤ 64) (ht : tot ≤ 600)
    {Q : Exit → Act → World → Prop} {A : Act} (a1 : A.tmps.size = 46) (a2 : A.defers = []) (a3 : A.tmps.getD 1 undef = .int .i64 ((k : Nat) : Int)) (a4 : A.tmps.getD 2 undef = .pointer (some ⟨w.heap.size, 0, none⟩)) (a5 : A.tmps.getD 4 undef = .pointer (some ⟨w.heap.size + 1, 0, none⟩))
    (hend : ∀ (u : Nat → Value) (w8 : World), (∃ D8 L8 v8 s8, RBlk w8 (w.heap.size + 1) D8 L8 v8 P.h s8 P.sy ∧ Below w.heap.size w w8 ∧ RpIn K w8 n tot m (P.put k (some ⟨P.D.page k, false, 0⟩)) D8 L8 v8 s8) → Q .normal ((((((((((((((((A).put (some 32) (u 32)).put (some 33) (u 33)).put (some 34) (u 34)).put (some 35) (u 35)).put (some 38) (u 38)).put (some 39) (u 39)).put (some 40) (u 40)).put (some 41) (u 41)).put (some 42) (u 42)).put (some 36) (u 36)).put (some 37) (u 37)).put (some 43) (u 43)).put (some 44) (u 44)).put (some 45) (u 45))) w8) :
    (Code.region 8 (Pl.find 8 ((Tryz.f36.body).getD .skip)) true).wp Tryz.prog Q A w6 := by
  have hI6 := hI.keep (below_drew w6)
  have hnp : Ld.np.len = 512 * n := by rw [← hI.dv.now.pg.len]; exact hI.good.np
  have hbs := hI6.dv.now.pg.mid (512 * k) (512 * k + 512) (by omega) (by omega)
  have hpg : (d.now.pg.drop (512 * k)).take (512 * k + 512 - 512 * k) = P.D.page k := by
    unfold Ds.page
    rw [hI.rel.sp, show 512 * k + 512 - 512 * k = 512 by omega]
    rfl
  rw [hpg] at hbs
  have hseen := refSeen_any d Ld w6.drew
  refine let8 w6 w.heap.size (w.heap.size + 1) k d Ld v P.h s P.sy (by omega) (Nat.le_trans (by omega) hI.dv.now.pg.le) (fun w2 => Below w6.drew.heap.size w6.drew w2) (fun x w3 => Below w6.drew.heap.size w6.drew w3 ∧ ∃ s', x = rV d Ld v P.h s' P.sy ∧ ShRow K w3 s' (setL (P.inl n) (k, ⟨P.D.page k, false, 0⟩))) (fun w8 => ∃ D8 L8 v8 s8, RBlk w8 (w.heap.size + 1) D8 L8 v8 P.h s8 P.sy ∧ Below w.heap.size w w8 ∧ RpIn K w8 n tot m (P.put k (some ⟨P.D.page k, false, 0⟩)) D8 L8 v8 s8) hX.b (hseen.mono (fun e w2 h2 => ⟨h2.2, h2.1⟩)) (fun w2 h2 => hX.b.below ((below_drew w6).trans (h2.mono (below_drew w6).size))) (fun w2 h2 => ?_) (fun x w3 h3 => hX.b.below ((below_drew w6).trans (h3.1.mono (below_drew w6).size))) (fun x w3 h3 => ?_) a1 a2 a3 a4 a5 hend
  · have h1 := rpset_any (hI6.sh.keep h2) (Nat.le_trans (inl_len P n) (by omega)) d Ld v P.h P.sy ((k, ⟨P.D.page k, false, 0⟩), Ld.np.mid (512 * k) (512 * k + 512)) (hbs.keep h2 (Nat.le_refl _)) (by show 512 * k + 512 - 512 * k = 512; omega)
    refine h1.mono ?_
    rintro e w3 ⟨hb3, s', rfl, hrow⟩
    exact ⟨_, rfl, h2.trans (hb3.mono h2.size), s', rfl, hrow⟩
  · obtain ⟨hb3, s', rfl, hrow⟩ := h3
    have hX3 := (hX.keep (below_drew w6)).keep hb3
    have hI3 := hI6.keep hb3
    obtain ⟨W, hst, hb, hB, hf⟩ := hX3.tell d Ld v P.h s' P.sy
    have hlt := hX.lt
    refine ⟨W, hst, hX3.b.keep (hf.block _ hX3.b.lt (by omega)), d, Ld, v, s', hb, hB, ?_⟩
    rw [setL_inl P hk] at hrow
    exact ⟨dvIn_box hI3.dv hf hX3.ans, hI3.rel, hI3.good, gs_box hI3.ck hf hX3.ans, shRow_box hrow hf hX3.ans, Nat.le_trans hI3.low hf.size⟩


set_option maxHeartbeats 16000000 in
set_option maxRecDepth 100000 in
theorem rlet_any {w : World} {n tot m c : Nat} {P : Po} {d : Dv} {Ld : DvL} {v s : Sl} (hI : RpIn K w n tot m P d Ld v s) (hF : P.Fine n c) (ht : tot ≤ 600) (hm : m ≤ 890) (k : Nat) (hk : k < n) : Calls Tryz.prog 36 #[rV d Ld v P.h s P.sy, .int .i64 ((k : Nat) : Int)] w fun e w' => Below w.heap.size w w' ∧ ∃ x, e = .returned x ∧ RpSays K n tot (m + 4) (P.letIn k) x w' := by
  have hn64 := hF.wet.dev.n2
  obtain ⟨W0, hW0⟩ : ∃ W, W = ((w.alloc (.cells (rCells d Ld v P.h s P.sy) 43)).alloc (.cells (rCells dv0 dvl0 Sl.nil 0 Sl.nil 0) 43)) := ⟨_, rfl⟩
  have hX : Rx w W0 (w.heap.size + 1) d Ld v P.h s P.sy := by rw [hW0]; exact rx_new w d Ld v P.h s P.sy
  have hI0 := hI.keep hX.e
  have HTC := hide (rtouch_any W0 v P.h P.l hI0.ck ((k : Nat) : Int) hF.ok.may)
  have c9 := hX.b.c9
  have c10 := hX.b.c10
  rw [hW0, r0_is] at c9 c10
  rw [r0_is] at hW0
  have HW0 := hide hW0
  have HX0 := hide hX
  have HI := hide hI
  have HLOW : Hid (K.low ≤ W0.heap.size) := hI0.low
  have HE : Hid (P.letIn k = ((P.clock (touch P.l P.h ((k : Nat) : Int)).l (touch P.l P.h ((k : Nat) : Int)).h).left (touch P.l P.h ((k : Nat) : Int)).was).fetch k) := rfl
  have HWET := hide hF.wet
  have HKN := hide hk
  have HN := hide hn64
  have HT := hide ht
  have HM := hide hm
  rw [HE.out]
  clear hX hI hI0 hW0 hF ht hm hk hn64 HE
  generalize touch P.l P.h ((k : Nat) : Int) = tc at *
  obtain ⟨va, vl, vc⟩ := v
  simp only [ckV, Sl.val] at *
  unfold rV
  by_cases hin : 0 ≤ tc.was ∧ (P.m tc.was.toNat).isSome = true
  · -- one leaves
    obtain ⟨x, hx⟩ : ∃ x : Nat, tc.was = ((x : Nat) : Int) := ⟨tc.was.toNat, by omega⟩
    have hxm : (P.m x).isSome = true := by have := hin.2; rw [hx, Int.toNat_natCast] at this; exact this
    have HLEFT : Hid ((P.clock tc.l tc.h).left tc.was = (P.clock tc.l tc.h).out x) := by
      show _ = _
      unfold Po.left
      rw [hx, Int.toNat_natCast]
      exact if_pos ⟨by omega, hxm⟩
    obtain ⟨P5, hP5⟩ : ∃ P5, P5 = (P.clock tc.l tc.h).out x := ⟨_, rfl⟩
    rw [HLEFT.out, ← hP5]
    have HP5 := hide hP5
    clear hP5
    rw [hx] at HTC
    obtain ⟨xsh, hxs⟩ := Option.isSome_iff_exists.1 hxm
    have hxn := (HWET.out.sh x xsh hxs).1
    have HXS := hide hxs
    have HXN := hide hxn
    clear hin hx hxm hxs hxn HLEFT
    go_enter Tryz.func36, Tryz.ntmps36
    go_wp2_with fail
    rw [← HW0.out]
    refine HTC.out.mono ?_
    rintro e w1 ⟨hb1, ⟨na, nl, nc⟩, rfl, hg1⟩
    simp only
    have hX1 := HX0.out.keep hb1
    have hI1 := (HI.out.keep HX0.out.e).keep hb1
    obtain ⟨W2, hst2, hblk2, hf2, hs2⟩ := stRC hX1.b ⟨na, nl, nc⟩ tc.h
    have HX2 := hide (hX1.turn hblk2 hf2)
    have hgK : Gs K.G w1 ⟨na, nl, nc⟩ tc.l := hg1.mono (fun q hq _ => hq.elim id (fun e => K.all q (Nat.le_trans HLOW.out e)))
    have HI2 : Hid (RpIn K W2 n tot m (P.clock tc.l tc.h) d Ld ⟨na, nl, nc⟩ s) := ⟨dvIn_box hI1.dv hf2 ⟨_, _, _, _, _, _, hX1.b⟩, hI1.rel, hI1.good, gs_box hgK hf2 ⟨_, _, _, _, _, _, hX1.b⟩, shRow_box hI1.sh hf2 ⟨_, _, _, _, _, _, hX1.b⟩, Nat.le_trans hI1.low hf2.size⟩
    have HS2 := hide hst2
    have HL2 := hide (ldR hblk2)
    simp only [ckV, Sl.val, rV] at HS2 HL2
    clear hb1 hX1 hI1 hst2 hblk2 hf2 hs2 hgK hg1 c9 c10
    have hAT := rAt_any HI2.out.sh d Ld ⟨na, nl, nc⟩ tc.h P.sy ((x : Nat) : Int)
    have HAT := hide hAT
    unfold rV at HAT
    clear hAT
    go_wp2_with (first | refine wpList_store _ rfl rfl 40 (.tmp 16) (.tmp 12) rfl (.pointer (some ⟨w.heap.size, 9, none⟩)) (.agg #[.slice na nl nc, .int .i64 tc.h]) rfl rfl W2 HS2.out ?_ | refine wpList_load _ rfl 43 (.tmp 2) rfl (.pointer (some ⟨w.heap.size, 0, none⟩)) _ rfl HL2.out ?_)
    refine HAT.out.mono ?_
    rintro e w3 ⟨hb3, z3, rfl, hz3⟩
    have HX3 := hide (HX2.out.keep hb3)
    have HI3 := hide (HI2.out.keep hb3)
    rcases hz3 with ⟨_, hno⟩ | ⟨i3, x3, rfl, hx3, he3⟩
    · exact absurd rfl (hno (x, xsh) (mem_inl HXN.out HXS.out))
    have hx3' : ((P.clock tc.l tc.h).inl n)[i3]? = some (x, xsh) := by
      have h1 := from_mem (List.mem_of_getElem? hx3)
      have h2 : x3.1 = x := by omega
      have h3 : P.m x3.1 = some x3.2 := h1.2.2
      rw [h2, HXS.out] at h3
      rw [hx3]
      exact congrArg some (Prod.ext h2 (Option.some.inj h3).symm)
    have HW3 := hide (rwrite_any HI3.out HN.out HT.out HM.out (fun q sh hq => HWET.out.sh q sh hq) i3 x xsh hx3')
    have HL3 := hide (ldR HX3.out.b)
    unfold rV at HW3 HL3
    have h0i : (0 : Int) ≤ ((i3 : Nat) : Int) := by omega
    clear hb3 hx3 he3 hx3' HL2 HS2 HX2 HI2 HAT
    go_wp2_with (refine wpList_load _ rfl 43 (.tmp 2) rfl (.pointer (some ⟨w.heap.size, 0, none⟩)) _ rfl HL3.out ?_)
    refine HW3.out.mono ?_
    rintro e w4 ⟨hb4, x4, rfl, D4, L4, v4, s4, rfl, hI4⟩
    have HX4 := hide (HX3.out.keep hb4)
    have HOUT := hide (rout_any hI4.sh (Nat.le_trans (inl_len _ n) (by have := HN.out; omega)) D4 L4 v4 ((P.clock tc.l tc.h).write x).h ((P.clock tc.l tc.h).write x).sy x)
    have HI4 := hide hI4
    unfold rV at HOUT
    unfold rV
    clear hb4 hI4 HX3 HI3 HL3 HW3
    go_wp2_with fail
    refine HOUT.out.mono ?_
    rintro e w5 ⟨hb5, s5, rfl, hrow5⟩
    have hX5 := HX4.out.keep hb5
    obtain ⟨W5, hst5, hblk5, hf5, hs5⟩ := stR hX5.b D4 L4 v4 ((P.clock tc.l tc.h).write x).h s5 ((P.clock tc.l tc.h).write x).sy
    have hI5 := HI4.out.keep hb5
    have HX5 : Hid (Rx w W5 (w.heap.size + 1) D4 L4 v4 P5.h s5 P5.sy) := by rw [HP5.out]; exact hX5.turn hblk5 hf5
    have HI5 : Hid (RpIn K W5 n tot (m + 4) P5 D4 L4 v4 s5) := by
      rw [HP5.out]
      have hrow : ShRow K w5 s5 (((P.clock tc.l tc.h).out x).inl n) := by
        have e := outL_inl ((P.clock tc.l tc.h).write x) HXN.out
        rw [e] at hrow5
        exact hrow5
      exact ⟨dvIn_box hI5.dv hf5 ⟨_, _, _, _, _, _, hX5.b⟩, hI5.rel, hI5.good, gs_box hI5.ck hf5 ⟨_, _, _, _, _, _, hX5.b⟩, shRow_box hrow hf5 ⟨_, _, _, _, _, _, hX5.b⟩, Nat.le_trans hI5.low hf5.size⟩
    have HS5 := hide hst5
    unfold rV at HS5
    clear hb5 hrow5 hX5 hst5 hblk5 hf5 hs5 hI5 HX4 HI4 HOUT h0i
    -- region 6: is it in?
    have hAT6 := rAt_any HI5.out.sh D4 L4 v4 P5.h P5.sy ((k : Nat) : Int)
    have HAT6 := hide hAT6
    have HL5 := hide (ldR HX5.out.b)
    unfold rV at HAT6 HL5
    clear hAT6
    go_wp2_with (first | refine wpList_store _ rfl rfl 43 (.tmp 2) (.tmp 26) rfl (.pointer (some ⟨w.heap.size, 0, none⟩)) _ rfl rfl W5 HS5.out ?_ | refine wpList_load _ rfl 43 (.tmp 2) rfl (.pointer (some ⟨w.heap.size, 0, none⟩)) _ rfl HL5.out ?_)
    refine HAT6.out.mono ?_
    rintro e w6 ⟨hb6, z6, rfl, hz6⟩
    have HX6 := hide (HX5.out.keep hb6)
    have HI6 := hide (HI5.out.keep hb6)
    clear hb6
    rcases hz6 with ⟨rfl, hno⟩ | ⟨i6, x6, rfl, hx6, he6⟩
    · -- it is not in
      have hmn : P5.m k = none := by
        cases e : P5.m k with
        | none => rfl
        | some sh => exact absurd rfl (hno (k, sh) (mem_inl HKN.out e))
      have HMN := hide hmn
      clear hno hmn
      have HR8 : Hid (∀ {Q : Exit → Act → World → Prop} {A : Act}, A.tmps.size = 46 → A.defers = [] → A.tmps.getD 1 undef = .int .i64 ((k : Nat) : Int) → A.tmps.getD 2 undef = .pointer (some ⟨w.heap.size, 0, none⟩) → A.tmps.getD 4 undef = .pointer (some ⟨w.heap.size + 1, 0, none⟩) → _ → (Code.region 8 (Pl.find 8 ((Tryz.f36.body).getD .skip)) true).wp Tryz.prog Q A w6) := fun {Q A} a1 a2 a3 a4 a5 hend => let8_walk HI6.out HX6.out HMN.out HKN.out HN.out HT.out a1 a2 a3 a4 a5 hend
      go_wp2_with fail
      refine Pl.region_is (ops := Pl.find 8 ((Tryz.f36.body).getD .skip)) (by kernel_rfl) ?_
      refine HR8.out (by rfl) rfl (by rfl) (by rfl) (by rfl) ?_
      intro u8 w8 hw8
      obtain ⟨D8, L8, v8, s8, hb8, hB8, hI8⟩ := hw8
      simp only [Act.put, List.setIfInBounds_toArray, List.set_cons_zero, List.set_cons_succ]
      have HB8 := hide hb8
      have HBB := hide hB8
      have hfe : P5.fetch k = P5.put k (some ⟨P5.D.page k, false, 0⟩) := by unfold Po.fetch; rw [HMN.out]; rfl
      have HSAY : Hid (RpSays K n tot (m + 4) (P5.fetch k) (rV D8 L8 v8 P5.h s8 P5.sy) w8) := by rw [hfe]; exact ⟨D8, L8, v8, s8, rfl, hI8⟩
      clear hb8 hB8 hI8 hfe
      go_wp2_with fail
      refine bodyPost_ret (rp_results rfl HB8.out _ rfl) rfl ?_
      exact ⟨HBB.out, _, rfl, HSAY.out⟩
    · -- it is in
      have hms : (P5.m k).isSome = true := by
        have h1 := from_mem (List.mem_of_getElem? hx6)
        have h2 : x6.1 = k := by omega
        rw [← h2, h1.2.2]
        rfl
      have hfe : P5.fetch k = P5 := by unfold Po.fetch; rw [if_pos hms]
      obtain ⟨W7, hst7, hb7, hB7, hf7⟩ := HX6.out.tell D4 L4 v4 P5.h s5 P5.sy
      have HL6 := hide (ldR HX6.out.b)
      have HS7 := hide hst7
      have HB7 := hide hb7
      have HBB := hide hB7
      have HSAY : Hid (RpSays K n tot (m + 4) (P5.fetch k) (rV D4 L4 v4 P5.h s5 P5.sy) W7) := by
        rw [hfe]
        have h6 := HI6.out
        exact ⟨D4, L4, v4, s5, rfl, dvIn_box h6.dv hf7 HX6.out.ans, h6.rel, h6.good, gs_box h6.ck hf7 HX6.out.ans, shRow_box h6.sh hf7 HX6.out.ans, Nat.le_trans h6.low hf7.size⟩
      unfold rV at HL6 HS7
      have h0i : (0 : Int) ≤ ((i6 : Nat) : Int) := by omega
      clear hst7 hb7 hB7 hf7 hms hfe hx6 he6
      go_wp2_with (first | refine wpList_load _ rfl 43 (.tmp 2) rfl (.pointer (some ⟨w.heap.size, 0, none⟩)) _ rfl HL6.out ?_ | refine wpList_store _ rfl rfl 43 (.tmp 4) (.tmp 31) rfl (.pointer (some ⟨w.heap.size + 1, 0, none⟩)) _ rfl rfl W7 HS7.out ?_)
      refine bodyPost_ret (rp_results rfl HB7.out _ rfl) rfl ?_
      exact ⟨HBB.out, _, rfl, HSAY.out⟩
  · -- none leaves
    have HLEFT : Hid ((P.clock tc.l tc.h).left tc.was = P.clock tc.l tc.h) := by
      show _ = _
      unfold Po.left
      exact if_neg hin
    obtain ⟨P5, hP5⟩ : ∃ P5, P5 = P.clock tc.l tc.h := ⟨_, rfl⟩
    rw [HLEFT.out, ← hP5]
    have HP5 := hide hP5
    have HIN := hide hin
    clear hP5 hin HLEFT
    go_enter Tryz.func36, Tryz.ntmps36
    go_wp2_with fail
    rw [← HW0.out]
    refine HTC.out.mono ?_
    rintro e w1 ⟨hb1, ⟨na, nl, nc⟩, rfl, hg1⟩
    simp only
    have hX1 := HX0.out.keep hb1
    have hI1 := (HI.out.keep HX0.out.e).keep hb1
    obtain ⟨W2, hst2, hblk2, hf2, hs2⟩ := stRC hX1.b ⟨na, nl, nc⟩ tc.h
    have HX2 := hide (hX1.turn hblk2 hf2)
    have hgK : Gs K.G w1 ⟨na, nl, nc⟩ tc.l := hg1.mono (fun q hq _ => hq.elim id (fun e => K.all q (Nat.le_trans HLOW.out e)))
    have HI2 : Hid (RpIn K W2 n tot m (P.clock tc.l tc.h) d Ld ⟨na, nl, nc⟩ s) := ⟨dvIn_box hI1.dv hf2 ⟨_, _, _, _, _, _, hX1.b⟩, hI1.rel, hI1.good, gs_box hgK hf2 ⟨_, _, _, _, _, _, hX1.b⟩, shRow_box hI1.sh hf2 ⟨_, _, _, _, _, _, hX1.b⟩, Nat.le_trans hI1.low hf2.size⟩
    have HS2 := hide hst2
    have HL2 := hide (ldR hblk2)
    simp only [ckV, Sl.val, rV] at HS2 HL2
    clear hb1 hX1 hI1 hst2 hblk2 hf2 hs2 hgK hg1 c9 c10
    have hAT := rAt_any HI2.out.sh d Ld ⟨na, nl, nc⟩ tc.h P.sy tc.was
    have HAT := hide hAT
    unfold rV at HAT
    clear hAT
    go_wp2_with (first | refine wpList_store _ rfl rfl 40 (.tmp 16) (.tmp 12) rfl (.pointer (some ⟨w.heap.size, 9, none⟩)) (.agg #[.slice na nl nc, .int .i64 tc.h]) rfl rfl W2 HS2.out ?_ | refine wpList_load _ rfl 43 (.tmp 2) rfl (.pointer (some ⟨w.heap.size, 0, none⟩)) _ rfl HL2.out ?_)
    refine HAT.out.mono ?_
    rintro e w3 ⟨hb3, z3, rfl, hz3⟩
    rcases hz3 with ⟨rfl, _⟩ | ⟨i3, x3, rfl, hx3, he3⟩
    case inr =>
      have h1 := from_mem (List.mem_of_getElem? hx3)
      have h3 : P.m x3.1 = some x3.2 := h1.2.2
      refine absurd ⟨by omega, ?_⟩ HIN.out
      rw [← he3, Int.toNat_natCast, h3]
      rfl
    have HX5 : Hid (Rx w w3 (w.heap.size + 1) d Ld ⟨na, nl, nc⟩ P5.h s P5.sy) := by rw [HP5.out]; exact HX2.out.keep hb3
    have HI5 : Hid (RpIn K w3 n tot (m + 4) P5 d Ld ⟨na, nl, nc⟩ s) := by
      rw [HP5.out]
      have h2 := HI2.out.keep hb3
      exact ⟨h2.dv, h2.rel, h2.good.more (by omega), h2.ck, h2.sh, h2.low⟩
    clear hb3 HX2 HI2 HS2 HL2 HAT
    -- region 6: is it in?
    have hAT6 := rAt_any HI5.out.sh d Ld ⟨na, nl, nc⟩ P5.h P5.sy ((k : Nat) : Int)
    have HAT6 := hide hAT6
    have HL5 := hide (ldR HX5.out.b)
    unfold rV at HAT6 HL5
    clear hAT6
    go_wp2_with (first | refine wpList_load _ rfl 43 (.tmp 2) rfl (.pointer (some ⟨w.heap.size, 0, none⟩)) _ rfl HL5.out ?_)
    refine HAT6.out.mono ?_
    rintro e w6 ⟨hb6, z6, rfl, hz6⟩
    have HX6 := hide (HX5.out.keep hb6)
    have HI6 := hide (HI5.out.keep hb6)
    clear hb6
    rcases hz6 with ⟨rfl, hno⟩ | ⟨i6, x6, rfl, hx6, he6⟩
    · -- it is not in
      have hmn : P5.m k = none := by
        cases e : P5.m k with
        | none => rfl
        | some sh => exact absurd rfl (hno (k, sh) (mem_inl HKN.out e))
      have HMN := hide hmn
      clear hno hmn
      have HR8 : Hid (∀ {Q : Exit → Act → World → Prop} {A : Act}, A.tmps.size = 46 → A.defers = [] → A.tmps.getD 1 undef = .int .i64 ((k : Nat) : Int) → A.tmps.getD 2 undef = .pointer (some ⟨w.heap.size, 0, none⟩) → A.tmps.getD 4 undef = .pointer (some ⟨w.heap.size + 1, 0, none⟩) → _ → (Code.region 8 (Pl.find 8 ((Tryz.f36.body).getD .skip)) true).wp Tryz.prog Q A w6) := fun {Q A} a1 a2 a3 a4 a5 hend => let8_walk HI6.out HX6.out HMN.out HKN.out HN.out HT.out a1 a2 a3 a4 a5 hend
      go_wp2_with fail
      refine Pl.region_is (ops := Pl.find 8 ((Tryz.f36.body).getD .skip)) (by kernel_rfl) ?_
      refine HR8.out (by rfl) rfl (by rfl) (by rfl) (by rfl) ?_
      intro u8 w8 hw8
      obtain ⟨D8, L8, v8, s8, hb8, hB8, hI8⟩ := hw8
      simp only [Act.put, List.setIfInBounds_toArray, List.set_cons_zero, List.set_cons_succ]
      have HB8 := hide hb8
      have HBB := hide hB8
      have hfe : P5.fetch k = P5.put k (some ⟨P5.D.page k, false, 0⟩) := by unfold Po.fetch; rw [HMN.out]; rfl
      have HSAY : Hid (RpSays K n tot (m + 4) (P5.fetch k) (rV D8 L8 v8 P5.h s8 P5.sy) w8) := by rw [hfe]; exact ⟨D8, L8, v8, s8, rfl, hI8⟩
      clear hb8 hB8 hI8 hfe
      go_wp2_with fail
      refine bodyPost_ret (rp_results rfl HB8.out _ rfl) rfl ?_
      exact ⟨HBB.out, _, rfl, HSAY.out⟩
    · -- it is in
      have hms : (P5.m k).isSome = true := by
        have h1 := from_mem (List.mem_of_getElem? hx6)
        have h2 : x6.1 = k := by omega
        rw [← h2, h1.2.2]
        rfl
      have hfe : P5.fetch k = P5 := by unfold Po.fetch; rw [if_pos hms]
      obtain ⟨W7, hst7, hb7, hB7, hf7⟩ := HX6.out.tell d Ld ⟨na, nl, nc⟩ P5.h s P5.sy
      have HL6 := hide (ldR HX6.out.b)
      have HS7 := hide hst7
      have HB7 := hide hb7
      have HBB := hide hB7
      have HSAY : Hid (RpSays K n tot (m + 4) (P5.fetch k) (rV d Ld ⟨na, nl, nc⟩ P5.h s P5.sy) W7) := by
        rw [hfe]
        have h6 := HI6.out
        exact ⟨d, Ld, ⟨na, nl, nc⟩, s, rfl, dvIn_box h6.dv hf7 HX6.out.ans, h6.rel, h6.good, gs_box h6.ck hf7 HX6.out.ans, shRow_box h6.sh hf7 HX6.out.ans, Nat.le_trans h6.low hf7.size⟩
      unfold rV at HL6 HS7
      have h0i : (0 : Int) ≤ ((i6 : Nat) : Int) := by omega
      clear hst7 hb7 hB7 hf7 hms hfe hx6 he6
      go_wp2_with (first | refine wpList_load _ rfl 43 (.tmp 2) rfl (.pointer (some ⟨w.heap.size, 0, none⟩)) _ rfl HL6.out ?_ | refine wpList_store _ rfl rfl 43 (.tmp 4) (.tmp 31) rfl (.pointer (some ⟨w.heap.size + 1, 0, none⟩)) _ rfl rfl W7 HS7.out ?_)
      refine bodyPost_ret (rp_results rfl HB7.out _ rfl) rfl ?_
      exact ⟨HBB.out, _, rfl, HSAY.out⟩
end Go.Proofs.YtcaaiihjolnkgaaGreat

namespace Go.Proofs.YtcaaiihjolnkgaaGreat
open Go.RowKit
set_option maxRecDepth 100000
set_option linter.unusedVariables false
variable {K : Home}

theorem RpIn.box {w W : World} {g n tot m : Nat} {P : Po} {d : Dv} {Ld : DvL} {v s : Sl} (h : RpIn K w n tot m P d Ld v s) (hf : Frm (fun i => i = g) w W) (k : ∃ d' Ld' v' h' s' sy', RBlk w g d' Ld' v' h' s' sy') : RpIn K W n tot m P d Ld v s :=
  ⟨dvIn_box h.dv hf k, h.rel, h.good, gs_box h.ck hf k, shRow_box h.sh hf k, Nat.le_trans h.low hf.size⟩
theorem RpIn.kpl {w : World} {n tot m : Nat} {P : Po} {d : Dv} {Ld : DvL} {v s : Sl} (h : RpIn K w n tot m P d Ld v s) : Ld.kp.len = 512 * n := by
  rw [← h.dv.kept.pg.len]
  exact h.good.kp
theorem buildSh4 (k : Nat) (a : Option Addr) (l c : Nat) (z : Int) (w : World) : (Instr.build 94 #[(0, .int .i64 ((k : Nat) : Int)), (1, .slice a l c), (2, .bool true), (3, .int .i64 z)]).run Tryz.prog w = .ok (.agg #[.int .i64 ((k : Nat) : Int), .slice a l c, .bool true, .int .i64 z]) w := by simp [go_sem, Instr.build]

set_option maxHeartbeats 8000000 in
set_option maxRecDepth 100000 in
theorem rPut_none {w : World} {n tot m : Nat} {P : Po} {d : Dv} {Ld : DvL} {v s : Sl} (hI : RpIn K w n tot m P d Ld v s) (hn : n ≤ 64) (k : Int) (x y : Value) (hk : ¬ (0 ≤ k ∧ k < ((n : Nat) : Int))) : Calls Tryz.prog 14 #[rV d Ld v P.h s P.sy, .int .i64 k, x, y] w fun e w' => Below w.heap.size w w' ∧ ∃ x, e = .returned (.tuple #[x, .int .i64 3]) ∧ RpSays K n tot m P x w' := by
  obtain ⟨W0, hW0⟩ : ∃ W, W = ((w.alloc (.cells (rCells d Ld v P.h s P.sy) 43)).alloc (.cells (rCells dv0 dvl0 Sl.nil 0 Sl.nil 0) 43)) := ⟨_, rfl⟩
  have hX : Rx w W0 (w.heap.size + 1) d Ld v P.h s P.sy := by rw [hW0]; exact rx_new w d Ld v P.h s P.sy
  have HPG := hide (rPages_any W0 d Ld v P.h s P.sy n hI.kpl hn)
  have c0 := hX.b.c0
  have c1 := hX.b.c1
  have c2 := hX.b.c2
  have c3 := hX.b.c3
  have c4 := hX.b.c4
  have c5 := hX.b.c5
  have c6 := hX.b.c6
  have c7 := hX.b.c7
  have c8 := hX.b.c8
  have c9 := hX.b.c9
  have c10 := hX.b.c10
  have c11 := hX.b.c11
  have c12 := hX.b.c12
  rw [hW0, r0_is] at c0 c1 c2 c3 c4 c5 c6 c7 c8 c9 c10 c11 c12
  rw [r0_is] at hW0
  simp only [Sl.val] at c0 c2 c3 c5 c6 c9 c11
  have HW0 := hide hW0
  have HX0 := hide hX
  have HI := hide hI
  simp only [rV, rCells, Sl.val] at HPG
  by_cases h0 : k < 0
  · have HX1 := HX0
    obtain ⟨W2, hst2, hb2, hB2, hf2⟩ := HX1.out.tell d Ld v P.h s P.sy
    have HL1 := hide (ldR HX1.out.b)
    have HS2 := hide hst2
    have HB2 := hide hb2
    have HBB := hide hB2
    have HSAY : Hid (RpSays K n tot m P (rV d Ld v P.h s P.sy) W2) := ⟨d, Ld, v, s, rfl, HI.out.keep hB2⟩
    unfold rV at HL1 HS2
    clear hst2 hb2 hB2 hf2
    rw [HW0.out] at HL1 HS2
    clear hX hI hW0
    unfold rV
    go_enter Tryz.func14, Tryz.ntmps14
    go_wp2_with (first | refine wpList_load _ rfl 43 (.tmp 4) rfl (.pointer (some ⟨w.heap.size, 0, none⟩)) _ rfl HL1.out ?_ | refine wpList_store _ rfl rfl 43 (.tmp 8) (.tmp 18) rfl (.pointer (some ⟨w.heap.size + 1, 0, none⟩)) _ rfl rfl W2 HS2.out ?_)
    refine bodyPost_ret (rp_results1 rfl HB2.out _ rfl rfl) rfl ?_
    exact ⟨HBB.out, _, rfl, HSAY.out⟩
  · have hge : ((n : Nat) : Int) ≤ k := by omega
    have h1 : ¬ k < 0 := h0
    clear hX hI hW0 hk h0
    unfold rV
    go_enter Tryz.func14, Tryz.ntmps14
    go_wp2_with fail
    rw [← HW0.out]
    refine HPG.out.mono ?_
    rintro e w1 ⟨hb1, rfl⟩
    have HX1 := hide (HX0.out.keep hb1)
    obtain ⟨W2, hst2, hb2, hB2, hf2⟩ := HX1.out.tell d Ld v P.h s P.sy
    have HL1 := hide (ldR HX1.out.b)
    have HS2 := hide hst2
    have HB2 := hide hb2
    have HBB := hide hB2
    have HSAY : Hid (RpSays K n tot m P (rV d Ld v P.h s P.sy) W2) := ⟨d, Ld, v, s, rfl, HI.out.keep hB2⟩
    unfold rV at HL1 HS2
    clear hst2 hb2 hB2 hf2
    clear hb1
    clear c0 c1 c2 c3 c4 c5 c6 c7 c8 c9 c10 c11 c12
    go_wp2_with (first | refine wpList_load _ rfl 43 (.tmp 4) rfl (.pointer (some ⟨w.heap.size, 0, none⟩)) _ rfl HL1.out ?_ | refine wpList_store _ rfl rfl 43 (.tmp 8) (.tmp 18) rfl (.pointer (some ⟨w.heap.size + 1, 0, none⟩)) _ rfl rfl W2 HS2.out ?_)
    refine bodyPost_ret (rp_results1 rfl HB2.out _ rfl rfl) rfl ?_
    exact ⟨HBB.out, _, rfl, HSAY.out⟩

set_option maxHeartbeats 8000000 in
set_option maxRecDepth 100000 in
theorem rPut_arg {w : World} {n tot m : Nat} {P : Po} {d : Dv} {Ld : DvL} {v s : Sl} (hI : RpIn K w n tot m P d Ld v s) (hn : n ≤ 64) (k : Nat) (hk : k < n) (a : Option Addr) (len cap : Nat) (y : Value) (hl : len ≠ 512) : Calls Tryz.prog 14 #[rV d Ld v P.h s P.sy, .int .i64 ((k : Nat) : Int), .slice a len cap, y] w fun e w' => Below w.heap.size w w' ∧ ∃ x, e = .returned (.tuple #[x, .int .i64 1]) ∧ RpSays K n tot m P x w' := by
  obtain ⟨W0, hW0⟩ : ∃ W, W = ((w.alloc (.cells (rCells d Ld v P.h s P.sy) 43)).alloc (.cells (rCells dv0 dvl0 Sl.nil 0 Sl.nil 0) 43)) := ⟨_, rfl⟩
  have hX : Rx w W0 (w.heap.size + 1) d Ld v P.h s P.sy := by rw [hW0]; exact rx_new w d Ld v P.h s P.sy
  have HPG := hide (rPages_any W0 d Ld v P.h s P.sy n hI.kpl hn)
  have c0 := hX.b.c0
  have c1 := hX.b.c1
  have c2 := hX.b.c2
  have c3 := hX.b.c3
  have c4 := hX.b.c4
  have c5 := hX.b.c5
  have c6 := hX.b.c6
  have c7 := hX.b.c7
  have c8 := hX.b.c8
  have c9 := hX.b.c9
  have c10 := hX.b.c10
  have c11 := hX.b.c11
  have c12 := hX.b.c12
  rw [hW0, r0_is] at c0 c1 c2 c3 c4 c5 c6 c7 c8 c9 c10 c11 c12
  rw [r0_is] at hW0
  simp only [Sl.val] at c0 c2 c3 c5 c6 c9 c11
  have HW0 := hide hW0
  have HX0 := hide hX
  have HI := hide hI
  simp only [rV, rCells, Sl.val] at HPG
  have hlt : ¬ ((n : Nat) : Int) ≤ ((k : Nat) : Int) := by omega
  have hne : (((len : Nat) : Int) != 512) = true := by simp; omega
  have hne' : ¬ ((len : Nat) : Int) = 512 := by omega
  clear hX hI hW0 hk
  unfold rV
  go_enter Tryz.func14, Tryz.ntmps14
  go_wp2_with fail
  rw [← HW0.out]
  refine HPG.out.mono ?_
  rintro e w1 ⟨hb1, rfl⟩
  have HX1 := hide (HX0.out.keep hb1)
  obtain ⟨W2, hst2, hb2, hB2, hf2⟩ := HX1.out.tell d Ld v P.h s P.sy
  have HL1 := hide (ldR HX1.out.b)
  have HS2 := hide hst2
  have HB2 := hide hb2
  have HBB := hide hB2
  have HSAY : Hid (RpSays K n tot m P (rV d Ld v P.h s P.sy) W2) := ⟨d, Ld, v, s, rfl, HI.out.keep hB2⟩
  unfold rV at HL1 HS2
  clear hst2 hb2 hB2 hf2
  clear hb1
  clear c0 c1 c2 c3 c4 c5 c6 c7 c8 c9 c10 c11 c12
  go_wp2_with (first | refine wpList_load _ rfl 43 (.tmp 4) rfl (.pointer (some ⟨w.heap.size, 0, none⟩)) _ rfl HL1.out ?_ | refine wpList_store _ rfl rfl 43 (.tmp 8) (.tmp 22) rfl (.pointer (some ⟨w.heap.size + 1, 0, none⟩)) _ rfl rfl W2 HS2.out ?_)
  refine bodyPost_ret (rp_results1 rfl HB2.out _ rfl rfl) rfl ?_
  exact ⟨HBB.out, _, rfl, HSAY.out⟩

set_option maxHeartbeats 8000000 in
set_option maxRecDepth 100000 in
theorem rPut_ok {w : World} {n tot m c : Nat} {P : Po} {d : Dv} {Ld : DvL} {v s : Sl} (hI : RpIn K w n tot m P d Ld v s) (hF : P.Fine n c) (ht : tot ≤ 600) (hm : m ≤ 890) (k : Nat) (hk : k < n) (q : Sl) (ys : List Nat) (hq : BsS K w q ys) (hql : q.len = 512) (z : Int) : Calls Tryz.prog 14 #[rV d Ld v P.h s P.sy, .int .i64 ((k : Nat) : Int), q.val, .int .i64 z] w fun e w' => Below w.heap.size w w' ∧ ∃ x, e = .returned (.tuple #[x, .int .i64 0]) ∧ RpSays K n tot (m + 4) (P.set k ys z) x w' := by
  have hn := hF.wet.dev.n2
  obtain ⟨W0, hW0⟩ : ∃ W, W = ((w.alloc (.cells (rCells d Ld v P.h s P.sy) 43)).alloc (.cells (rCells dv0 dvl0 Sl.nil 0 Sl.nil 0) 43)) := ⟨_, rfl⟩
  have hX : Rx w W0 (w.heap.size + 1) d Ld v P.h s P.sy := by rw [hW0]; exact rx_new w d Ld v P.h s P.sy
  have HPG := hide (rPages_any W0 d Ld v P.h s P.sy n hI.kpl hn)
  have c0 := hX.b.c0
  have c1 := hX.b.c1
  have c2 := hX.b.c2
  have c3 := hX.b.c3
  have c4 := hX.b.c4
  have c5 := hX.b.c5
  have c6 := hX.b.c6
  have c7 := hX.b.c7
  have c8 := hX.b.c8
  have c9 := hX.b.c9
  have c10 := hX.b.c10
  have c11 := hX.b.c11
  have c12 := hX.b.c12
  rw [hW0, r0_is] at c0 c1 c2 c3 c4 c5 c6 c7 c8 c9 c10 c11 c12
  rw [r0_is] at hW0
  simp only [Sl.val] at c0 c2 c3 c5 c6 c9 c11
  have HW0 := hide hW0
  have HX0 := hide hX
  have HI := hide hI
  simp only [rV, rCells, Sl.val] at HPG
  have hlt : ¬ ((n : Nat) : Int) ≤ ((k : Nat) : Int) := by omega
  have HLET : Hid (∀ W, Below w.heap.size w W → Calls Tryz.prog 36 #[rV d Ld v P.h s P.sy, .int .i64 ((k : Nat) : Int)] W fun e w' => Below W.heap.size W w' ∧ ∃ x, e = .returned x ∧ RpSays K n tot (m + 4) (P.letIn k) x w') := fun W hb => rlet_any (hI.keep hb) hF ht hm k hk
  have HQ := hide hq
  have HKN := hide hk
  have HN := hide hn
  obtain ⟨qa, ql, qc⟩ := q
  simp only at hql
  subst hql
  simp only [Sl.val]
  have hbd := buildSh4
  clear hX hI hW0 hk hF ht hm hq hn
  unfold rV
  go_enter Tryz.func14, Tryz.ntmps14
  go_wp2_with fail
  rw [← HW0.out]
  refine HPG.out.mono ?_
  rintro e w1 ⟨hb1, rfl⟩
  have HX1 := hide (HX0.out.keep hb1)
  have HLT := hide (HLET.out w1 HX1.out.e)
  have HL1 := hide (ldR HX1.out.b)
  unfold rV at HLT HL1
  clear hb1
  clear c0 c1 c2 c3 c4 c5 c6 c7 c8 c9 c10 c11 c12
  go_wp2_with (refine wpList_load _ rfl 43 (.tmp 4) rfl (.pointer (some ⟨w.heap.size, 0, none⟩)) _ rfl HL1.out ?_)
  refine HLT.out.mono ?_
  rintro e w2 ⟨hb2, x2, rfl, D2, L2, v2, s2, rfl, hI2⟩
  have HX2 := hide (HX1.out.keep hb2)
  have HST := hide (rpset_any hI2.sh (Nat.le_trans (inl_len _ n) (by have := HN.out; omega)) D2 L2 v2 (P.letIn k).h (P.letIn k).sy ((k, ⟨ys, true, z⟩), ⟨qa, 512, qc⟩) (HQ.out.keep HX2.out.e (Nat.le_refl _)) rfl)
  have HI2 := hide hI2
  simp only [SS.val, SS.cells, Sl.val] at HST
  unfold rV at HST
  unfold rV
  clear hb2 hI2
  go_wp2_with fail
  refine HST.out.mono ?_
  rintro e w3 ⟨hb3, s3, rfl, hrow3⟩
  have hX3 := HX2.out.keep hb3
  obtain ⟨W4, hst4, hb4, hB4, hf4⟩ := hX3.tell D2 L2 v2 (P.letIn k).h s3 (P.letIn k).sy
  have HS4 := hide hst4
  have HB4 := hide hb4
  have HBB := hide hB4
  have HSAY : Hid (RpSays K n tot (m + 4) (P.set k ys z) (rV D2 L2 v2 (P.letIn k).h s3 (P.letIn k).sy) W4) := by
    have h3 := HI2.out.keep hb3
    rw [setL_inl _ HKN.out] at hrow3
    exact ⟨D2, L2, v2, s3, rfl, dvIn_box h3.dv hf4 hX3.ans, h3.rel, h3.good, gs_box h3.ck hf4 hX3.ans, shRow_box hrow3 hf4 hX3.ans, Nat.le_trans h3.low hf4.size⟩
  unfold rV at HS4
  clear hb3 hrow3 hX3 hst4 hb4 hB4 hf4
  go_wp2_with (refine wpList_store _ rfl rfl 43 (.tmp 8) (.tmp 30) rfl (.pointer (some ⟨w.heap.size + 1, 0, none⟩)) _ rfl rfl W4 HS4.out ?_)
  refine bodyPost_ret (rp_results1 rfl HB4.out _ rfl rfl) rfl ?_
  exact ⟨HBB.out, _, rfl, HSAY.out⟩
end Go.Proofs.YtcaaiihjolnkgaaGreat
