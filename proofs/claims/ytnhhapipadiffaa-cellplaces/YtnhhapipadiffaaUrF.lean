/-
  Which undoing bytes are: undorec's Decode, and the document's.
-/
import Derived.Test.YtnhhapipadiffaaUrE
namespace Go.Proofs.Ytnhhapipadiffaa
open Go.RowKit

/-- What a Decode tells. -/
def UnTold (xs : List Nat) (bad good : Value) (w : World) (e : Ending) (w' : World) : Prop :=
  Below w.heap.size w w' ∧ (decU xs = none → e = .returned (.tuple #[zeroU.val (.slice none 0 0), bad])) ∧
    (∀ u, decU xs = some u → u.fits ∧ ∃ a len cap, e = .returned (.tuple #[u.val (.slice a len cap), good]) ∧ Fs w' a len cap u.row.xs ∧ OwnsV 23 w' w.heap.size (.slice a len cap) (fVals u.row.xs))

theorem UnTold.no {xs : List Nat} {bad good : Value} {w w' : World} (hd : decU xs = none) (hb : Below w.heap.size w w') : UnTold xs bad good w (.returned (.tuple #[zeroU.val (.slice none 0 0), bad])) w' :=
  ⟨hb, fun _ => rfl, fun r h => by rw [hd] at h; cases h⟩

theorem UnTold.yes {xs : List Nat} {bad good : Value} {w w' : World} {u : Un} {a : Option Addr} {len cap : Nat} (hd : decU xs = some u) (hf : u.fits) (hb : Below w.heap.size w w') (ho : OwnsV 23 w' w.heap.size (.slice a len cap) (fVals u.row.xs)) : UnTold xs bad good w (.returned (.tuple #[u.val (.slice a len cap), good])) w' := by
  refine ⟨hb, (fun h => by rw [hd] at h; cases h), fun u' h => ?_⟩
  rw [hd] at h
  simp only [Option.some.injEq] at h
  subst h
  exact ⟨hf, a, len, cap, rfl, ho.fsO hf.row.xs, ho⟩

theorem OwnsV.setUn {w : World} {base g : Nat} {v : Value} {vs : List Value} {u0 : Un} {c0 : Value} (h : OwnsV 23 w base v vs) (hg : UnBlk w g u0 c0) (u : Un) (c : Value) : OwnsV 23 (setUn w g u c) base v vs := by
  refine ⟨h.1, ?_⟩
  rcases h.2 with hn | ⟨k, cap, cur, hv, hb, hk, rest⟩
  · exact .inl hn
  · refine .inr ⟨k, cap, cur, hv, hb, (setUn_other w g u c k ?_).trans hk, rest⟩
    rintro rfl
    unfold UnBlk at hg
    rw [hk] at hg
    simp only [Option.some.injEq, Obj.cells.injEq] at hg
    exact absurd hg.2.1 (by decide)

theorem undo_small {xs : List Nat} (hx : Bytes xs) {l : List It} {q : Nat} (h : tks xs undoK [] 0 = some (l, q)) : (l.getD 6 itD).s.size ≤ xs.length := by
  have hc := tks_canon5 hx undoK [] 0 _ undoK_mem (Nat.zero_le _) (by simp [putB]) h
  obtain ⟨n0, n1, n2, n3, n4, n5, s, rfl⟩ := undo_form h
  have e := congrArg List.length hc.1
  simp only [putB, List.flatMap_cons, List.flatMap_nil, List.append_nil, List.length_append, List.length_take] at e
  have h5 : (It.bytes ⟨5, 0, 0, s⟩).length = 1 + s.size := by simp [It.bytes, strB_length]; omega
  rw [h5] at e
  show s.size ≤ _
  omega

theorem undoOf_fits {l : List It} (hl : ∀ i ∈ l, i.fits) (h7 : l.length = 7) {r : Rw} (hr : r.fits) : (undoOf l r).fits := by
  have g : ∀ j, j < 7 → (l.getD j itD).fits := fun j hj => by
    have hj' : j < l.length := by omega
    have := hl _ (List.getElem_mem hj')
    simpa [List.getD, hj'] using this
  exact ⟨(g 1 (by omega)).2.1, (g 2 (by omega)).2.1, (g 3 (by omega)).2.1, (g 0 (by omega)).2.1, (g 4 (by omega)).2.1, (g 5 (by omega)).2.1, hr⟩

/-- The zero undoing is laid into its box. -/
theorem zero_st (w : World) (g : Nat) (u0 : Un) (c0 : Value) (h : UnBlk w g u0 c0) : (Instr.storeAt 30 (.pointer (some ⟨g, 0, none⟩)) (.agg #[.int .i64 0, .int .i64 0, .int .i64 0, .int .i64 0, .int .i64 0, .int .i64 0, .float .f64 0, .bool false, .slice none 0 0, .int .i64 0, .int .i64 0, .int .i64 0])).run Try.prog w = .ok () (setUn w g zeroU (.slice none 0 0)) := st_un w g u0 c0 h zeroU none 0 0

set_option maxHeartbeats 4000000 in
set_option maxRecDepth 100000 in
theorem decodeU_any (a : Option Addr) (len cap : Nat) (xs : List Nat) (w : World) (h : Came w a len cap xs) (hl : len ≤ 100000) :
    Calls Try.prog 36 #[.slice a len cap] w (UnTold xs (.int .i64 4) (.int .i64 0) w) := by
  have H := hide h
  have HLL := hide hl
  have HXL := hide h.bs.1
  have HXB := hide h.bs.2.1
  have HZ := hide (unBlk_new w zeroU (.slice none 0 0))
  have HW := hide (below_alloc w (.cells #[.int .i64 0, .int .i64 0, .int .i64 0, .int .i64 0, .int .i64 0, .int .i64 0, .float .f64 0, .bool false, .slice none 0 0, .int .i64 0, .int .i64 0, .int .i64 0] 30))
  have HH := hide kindsU_any
  clear h hl
  unfold zeroU zeroR at HZ
  simp only at HZ
  go_enter Try.func36, Try.ntmps36
  go_wp2_with fail
  refine (HH.out _).mono ?_
  rintro e w1 ⟨rfl, hk1, hb1⟩
  have HW1 := hide (rBelow HW.out hb1)
  have HZ1 := hide (HZ.out.keep hb1)
  have hg1 : (w.alloc (.cells #[.int .i64 0, .int .i64 0, .int .i64 0, .int .i64 0, .int .i64 0, .int .i64 0, .float .f64 0, .bool false, .slice none 0 0, .int .i64 0, .int .i64 0, .int .i64 0] 30)).heap.size = w.heap.size + 1 := by simp
  rw [hg1] at hk1 ⊢
  have hks := ks_blk hk1
  have hT := take_any a len cap xs _ 7 7 undoK w1 (H.out.keep HW1.out (Nat.le_refl _)) hks HLL.out (by decide)
  unfold TookIs at hT
  rw [out_good undoK_good] at hT
  have HT := hide hT
  clear hk1 hb1 hks hT HZ HH hg1
  cases hT1 : tks xs undoK [] 0 with
  | none =>
    rw [hT1] at HT
    simp only at HT
    have HN : Hid (decU xs = none) := by show _ = _; unfold decU; rw [hT1]
    clear hT1
    go_wp2_with fail
    refine HT.out.mono ?_
    rintro e w2 ⟨v2, rfl, hb2, _, _⟩
    have HW2 := hide (rBelow HW1.out hb2)
    have HZ2 := hide (HZ1.out.keep hb2)
    clear hb2
    have HST := hide (zero_st w2 w.heap.size _ _ HZ2.out)
    have HSB := hide (setUn_blk HZ2.out zeroU (.slice none 0 0))
    have HSW := hide (setUn_below HW2.out (Nat.le_refl _) zeroU (.slice none 0 0))
    generalize setUn w2 w.heap.size zeroU (.slice none 0 0) = WE at *
    go_wp2_with (refine wpList_store _ rfl rfl 30 (.tmp 2) (.tmp 18) rfl (.pointer (some ⟨w.heap.size, 0, none⟩)) (.agg #[.int .i64 0, .int .i64 0, .int .i64 0, .int .i64 0, .int .i64 0, .int .i64 0, .float .f64 0, .bool false, .slice none 0 0, .int .i64 0, .int .i64 0, .int .i64 0]) rfl rfl WE HST.out ?_)
    refine bodyPost_ret (un_results2 rfl HSB.out _ (.int .i64 4) rfl rfl ⟨_, _, _, rfl⟩) rfl ?_
    exact UnTold.no HN.out HSW.out
  | some lq =>
    obtain ⟨l, q⟩ := lq
    rw [hT1] at HT
    simp only at HT
    have h7 : l.length = 7 := by have := tks_len _ _ _ _ _ hT1; simpa [undoK] using this
    have hq : q ≤ len := by
      have := tks_le HXB.out (by rw [HXL.out]; have := HLL.out; omega) _ _ _ _ undoK_mem (Nat.zero_le _) hT1
      rw [HXL.out] at this
      exact this
    have hsm : (l.getD 6 itD).s.size ≤ 100000 := Nat.le_trans (undo_small HXB.out hT1) (by rw [HXL.out]; exact HLL.out)
    have HT1 := hide hT1
    have H7 := hide h7
    have HQ := hide hq
    have HSM := hide hsm
    clear hT1 h7 hq hsm
    go_wp2_with fail
    refine HT.out.mono ?_
    rintro e w2 ⟨v2, rfl, hb2, ho2, hf2⟩
    have HW2 := hide (rBelow HW1.out hb2)
    have HZ2 := hide (HZ1.out.keep hb2)
    obtain ⟨p2, c2, hv2, is2, _⟩ := ho2.is hf2
    rw [H7.out] at hv2 is2
    obtain ⟨b, off, rfl, _⟩ := is2.2.2 0 (by omega)
    subst hv2
    have HIS := hide is2
    have HF2 := hide hf2
    have hat : ∀ j, j < 7 → ItAt w2 b (off + j * 4) (l.getD j itD) := fun j hj => by
      obtain ⟨_, _, e, h⟩ := HIS.out.2.2 j hj
      simp only [Option.some.injEq, Addr.mk.injEq, and_true] at e
      obtain ⟨rfl, rfl⟩ := e
      exact h
    have HAT := hide hat
    clear hb2 ho2 hf2 is2 hat HT
    go_wp2_with fail
    refine Pl.region_is (ops := Pl.find 4 ((Try.f36.body).getD .skip)) (by kernel_rfl) ?_
    cases hT2 : rowT (l.getD 0 itD).n (l.getD 6 itD).s with
    | none =>
      have HND : Hid (decU xs = none) := by
        show _ = _
        unfold decU
        rw [HT1.out]
        simp only
        rw [hT2]
      refine ud4a w2 w2 b off c2 _ _ (HAT.out 0 (by omega)) (HAT.out 6 (by omega)) HSM.out hT2 (Below.refl _ _) (by rfl) (by rfl) (by rfl) ?_
      intro u w3 g3 hb3
      simp only [Act.put, List.setIfInBounds_toArray, List.set_cons_zero, List.set_cons_succ]
      have HW3 := hide (rBelow HW2.out hb3)
      have HZ3 := hide (HZ2.out.keep hb3)
      clear hb3 hT2 HAT HIS
      have HST := hide (zero_st w3 w.heap.size _ _ HZ3.out)
      have HSB := hide (setUn_blk HZ3.out zeroU (.slice none 0 0))
      have HSW := hide (setUn_below HW3.out (Nat.le_refl _) zeroU (.slice none 0 0))
      generalize setUn w3 w.heap.size zeroU (.slice none 0 0) = WE at *
      go_wp2_with (refine wpList_store _ rfl rfl 30 (.tmp 2) (.tmp 34) rfl (.pointer (some ⟨w.heap.size, 0, none⟩)) (.agg #[.int .i64 0, .int .i64 0, .int .i64 0, .int .i64 0, .int .i64 0, .int .i64 0, .float .f64 0, .bool false, .slice none 0 0, .int .i64 0, .int .i64 0, .int .i64 0]) rfl rfl WE HST.out ?_)
      refine bodyPost_ret (un_results2 rfl HSB.out _ (.int .i64 4) rfl rfl ⟨_, _, _, rfl⟩) rfl ?_
      exact UnTold.no HND.out HSW.out
    | some r =>
      have HD : Hid (decU xs = if q < xs.length ∨ (undoOf l r).may = false then none else some (undoOf l r)) := by
        show _ = _
        unfold decU
        rw [HT1.out]
        simp only
        rw [hT2]
      refine ud4b w2 w2 b off c2 _ _ (HAT.out 0 (by omega)) (HAT.out 6 (by omega)) HSM.out r hT2 (Below.refl _ _) (by rfl) (by rfl) (by rfl) ?_
      intro u w3 g3 ca cl cc ⟨hin, hrf⟩
      simp only [Act.put, List.setIfInBounds_toArray, List.set_cons_zero, List.set_cons_succ]
      have hb3 := hin.below
      have HIN := hide hin
      have HW3 := hide (rBelow HW2.out hb3)
      have HZ3 := hide (HZ2.out.keep hb3)
      have HA3 := hide (fun j hj => keep_item (HAT.out j hj) hb3)
      have HUF := hide (undoOf_fits HF2.out H7.out hrf)
      clear hb3 hT2 hin hrf HIS HAT
      go_wp2_with fail
      refine Pl.region_is (ops := Pl.find 7 ((Try.f36.body).getD .skip)) (by kernel_rfl) ?_
      refine ud7 w3 w3 b off c2 g3 _ _ _ _ _ _ (HA3.out 0 (by omega)) (HA3.out 1 (by omega)) (HA3.out 2 (by omega)) (HA3.out 3 (by omega)) (HA3.out 4 (by omega)) (HA3.out 5 (by omega)) r ca cl cc HIN.out.blk (Below.refl _ _) (by rfl) (by rfl) (by rfl) (by rfl) ?_
      intro u' w4 g4 hin4
      simp only [Act.put, List.setIfInBounds_toArray, List.set_cons_zero, List.set_cons_succ]
      obtain ⟨hb4, hx4, _⟩ := hin4
      have hx4' : UnBlk w4 g4 (undoOf l r) (.slice ca cl cc) := hx4
      have HRX : Hid ((undoOf l r).row = r) := rfl
      have HW4 := hide (rBelow HW3.out hb4)
      have HZ4 := hide (HZ3.out.keep hb4)
      have ho4 := HIN.out.own.keep hb4 (Nat.le_refl _)
      have HO4 : Hid (OwnsV 23 w4 w.heap.size (.slice ca cl cc) (fVals (undoOf l r).row.xs)) := ho4.lower HW2.out.size
      have HX4 := hide hx4'
      have HCK := hide (checkU_any (undoOf l r) ca cl cc w4 (HO4.out.fsO HUF.out.row.xs) HUF.out.row)
      generalize undoOf l r = X at *
      clear hb4 hx4 hx4' ho4 HA3 HIN HRX
      have x0 := HX4.out.c0
      have x1 := HX4.out.c1
      have x2 := HX4.out.c2
      have x3 := HX4.out.c3
      have x4 := HX4.out.c4
      have x5 := HX4.out.c5
      have x6 := HX4.out.c6
      have x7 := HX4.out.c7
      have x8 := HX4.out.c8
      have x9 := HX4.out.c9
      have x10 := HX4.out.c10
      have x11 := HX4.out.c11
      unfold Un.val at HCK
      by_cases h1 : q < len
      · have i1 : (q : Int) < (len : Int) := by omega
        have HND : Hid (decU xs = none) := by
          show _ = _
          rw [HD.out, if_pos (.inl (by rw [HXL.out]; exact h1))]
        clear HCK
        have HST := hide (zero_st w4 w.heap.size _ _ HZ4.out)
        have HSB := hide (setUn_blk HZ4.out zeroU (.slice none 0 0))
        have HSW := hide (setUn_below HW4.out (Nat.le_refl _) zeroU (.slice none 0 0))
        generalize setUn w4 w.heap.size zeroU (.slice none 0 0) = WE at *
        go_wp2_with (refine wpList_store _ rfl rfl 30 (.tmp 2) (.tmp 71) rfl (.pointer (some ⟨w.heap.size, 0, none⟩)) (.agg #[.int .i64 0, .int .i64 0, .int .i64 0, .int .i64 0, .int .i64 0, .int .i64 0, .float .f64 0, .bool false, .slice none 0 0, .int .i64 0, .int .i64 0, .int .i64 0]) rfl rfl WE HST.out ?_)
        refine bodyPost_ret (un_results2 rfl HSB.out _ (.int .i64 4) rfl rfl ⟨_, _, _, rfl⟩) rfl ?_
        exact UnTold.no HND.out HSW.out
      · have i1 : ¬ (q : Int) < (len : Int) := by omega
        cases hm : X.may
        · have HND : Hid (decU xs = none) := by
            show _ = _
            rw [HD.out, if_pos (.inr hm)]
          rw [hm] at HCK
          unfold chk at HCK
          go_wp2_with fail
          refine HCK.out.mono ?_
          rintro e w5 ⟨rfl, hb5⟩
          have HW5 := hide (rBelow HW4.out hb5)
          have HZ5 := hide (HZ4.out.keep hb5)
          clear hb5 x0 x1 x2 x3 x4 x5 x6 x7 x8 x9 x10 x11
          have HST := hide (zero_st w5 w.heap.size _ _ HZ5.out)
          have HSB := hide (setUn_blk HZ5.out zeroU (.slice none 0 0))
          have HSW := hide (setUn_below HW5.out (Nat.le_refl _) zeroU (.slice none 0 0))
          generalize setUn w5 w.heap.size zeroU (.slice none 0 0) = WE at *
          go_wp2_with (refine wpList_store _ rfl rfl 30 (.tmp 2) (.tmp 71) rfl (.pointer (some ⟨w.heap.size, 0, none⟩)) (.agg #[.int .i64 0, .int .i64 0, .int .i64 0, .int .i64 0, .int .i64 0, .int .i64 0, .float .f64 0, .bool false, .slice none 0 0, .int .i64 0, .int .i64 0, .int .i64 0]) rfl rfl WE HST.out ?_)
          refine bodyPost_ret (un_results2 rfl HSB.out _ (.int .i64 4) rfl rfl ⟨_, _, _, rfl⟩) rfl ?_
          exact UnTold.no HND.out HSW.out
        · have HSD : Hid (decU xs = some X) := by
            show _ = _
            rw [HD.out, if_neg]
            rintro (h | h)
            · rw [HXL.out] at h
              omega
            · rw [hm] at h; cases h
          rw [hm] at HCK
          unfold chk at HCK
          go_wp2_with fail
          refine HCK.out.mono ?_
          rintro e w5 ⟨rfl, hb5⟩
          have HW5 := hide (rBelow HW4.out hb5)
          have HZ5 := hide (HZ4.out.keep hb5)
          have HX5 := hide (HX4.out.keep hb5)
          have HO5 := hide (HO4.out.keep hb5 (Nat.le_refl _))
          have HLD := hide (load_un _ _ _ ⟨_, _, _, rfl⟩ _ HX5.out)
          have HST := hide (st_un w5 w.heap.size _ _ HZ5.out X ca cl cc)
          have HSB := hide (setUn_blk HZ5.out X (.slice ca cl cc))
          have HSW := hide (setUn_below HW5.out (Nat.le_refl _) X (.slice ca cl cc))
          have HSO := hide (HO5.out.setUn HZ5.out X (.slice ca cl cc))
          generalize setUn w5 w.heap.size X (.slice ca cl cc) = WE at *
          clear hb5 x0 x1 x2 x3 x4 x5 x6 x7 x8 x9 x10 x11
          go_wp2_with (first | refine wpList_load _ rfl 30 (.tmp 8) rfl (.pointer (some ⟨g4, 0, none⟩)) (X.val (.slice ca cl cc)) rfl HLD.out ?_ | refine wpList_store _ rfl rfl 30 (.tmp 2) (.tmp 72) rfl (.pointer (some ⟨w.heap.size, 0, none⟩)) (X.val (.slice ca cl cc)) rfl rfl WE HST.out ?_)
          refine bodyPost_ret (un_results2 rfl HSB.out _ (.int .i64 0) rfl rfl ⟨_, _, _, rfl⟩) rfl ?_
          exact UnTold.yes HSD.out HUF.out HSW.out HSO.out

/-- A row is laid into an undoing. -/
theorem st_unRow (w : World) (g : Nat) (u : Un) (c0 : Value) (h : UnBlk w g u c0) (r : Rw) (a : Option Addr) (len cap : Nat) :
    ∃ W, (Instr.storeAt 28 (.pointer (some ⟨g, 6, none⟩)) (r.val (.slice a len cap))).run Try.prog w = .ok () W ∧ UnBlk W g ⟨u.tx, u.no, u.prev, u.kind, u.page, u.slot, r⟩ (.slice a len cap) ∧ (∀ k, k ≠ g → W.heap[k]? = w.heap[k]?) ∧ ∀ (B : Nat) (w0 : World), Below B w0 w → B ≤ g → Below B w0 W := by
  have hsf : ∀ (w : World) (a : Addr) (m : Mode) (x : Nat), (store a (.float .f64 x) m).run Try.prog w = stored Try.prog w a (.float .f64 x) m := fun w a m x => run_store Try.prog w a _ m rfl
  have z6 := h.c6
  have z7 := h.c7
  have z8 := h.c8
  have z9 := h.c9
  have z10 := h.c10
  have z11 := h.c11
  have f0 := h.fz
  refine ⟨(((((w.setCell ⟨g, 6, none⟩ (.float .f64 r.key)).setCell ⟨g, 7, none⟩ (.bool r.dead)).setCell ⟨g, 8, none⟩ (.slice a len cap)).setCell ⟨g, 9, none⟩ (.int .i64 r.wr)).setCell ⟨g, 10, none⟩ (.int .i64 r.cell)).setCell ⟨g, 11, none⟩ (.int .i64 r.no), ?_, ?_, ?_, ?_⟩
  · simp [go_sem, Instr.storeAt, hsf, stored, z6, z7, z8, z9, z10, z11, f0, Rw.val]
  · have h1 := heap_setCell_same w g 6 _ 30 (.float .f64 r.key) h
    have h2 := heap_setCell_same _ g 7 _ 30 (.bool r.dead) h1
    have h3 := heap_setCell_same _ g 8 _ 30 (.slice a len cap) h2
    have h4 := heap_setCell_same _ g 9 _ 30 (.int .i64 r.wr) h3
    have h5 := heap_setCell_same _ g 10 _ 30 (.int .i64 r.cell) h4
    have h6 := heap_setCell_same _ g 11 _ 30 (.int .i64 r.no) h5
    unfold UnBlk
    rw [h6]
    simp
  · intro k hk
    rw [Below.heap_setCell _ ⟨g, 11, none⟩ _ k hk, Below.heap_setCell _ ⟨g, 10, none⟩ _ k hk, Below.heap_setCell _ ⟨g, 9, none⟩ _ k hk, Below.heap_setCell _ ⟨g, 8, none⟩ _ k hk, Below.heap_setCell _ ⟨g, 7, none⟩ _ k hk, Below.heap_setCell _ ⟨g, 6, none⟩ _ k hk]
  · intro B w0 hb hg
    exact (((((hb.setCell (p := ⟨g, 6, none⟩) hg _).setCell (p := ⟨g, 7, none⟩) hg _).setCell (p := ⟨g, 8, none⟩) hg _).setCell (p := ⟨g, 9, none⟩) hg _).setCell (p := ⟨g, 10, none⟩) hg _).setCell (p := ⟨g, 11, none⟩) hg _

theorem OwnsV.other {w W : World} {base g : Nat} {v : Value} {vs : List Value} {u0 : Un} {c0 : Value} (h : OwnsV 23 w base v vs) (hg : UnBlk w g u0 c0) (ho : ∀ k, k ≠ g → W.heap[k]? = w.heap[k]?) : OwnsV 23 W base v vs := by
  refine ⟨h.1, ?_⟩
  rcases h.2 with hn | ⟨k, cap, cur, hv, hb, hk, rest⟩
  · exact .inl hn
  · refine .inr ⟨k, cap, cur, hv, hb, (ho k ?_).trans hk, rest⟩
    rintro rfl
    unfold UnBlk at hg
    rw [hk] at hg
    simp only [Option.some.injEq, Obj.cells.injEq] at hg
    exact absurd hg.2.1 (by decide)

/-- The document's Decode of a row, whatever the bytes. -/
theorem refRow_any (a : Option Addr) (len cap : Nat) (xs : List Nat) (w : World) (h : Came w a len cap xs) (hl : len ≤ 100000) :
    Calls Try.prog 42 #[.slice a len cap] w (RefTold xs w) := by
  by_cases h20 : len < 20
  · exact refDecode_short a len cap xs w h h20
  · by_cases h4 : 4 < xs.getD 19 0
    · exact refDecode_many a len cap xs w h (by omega) h4
    · exact refDecode_any a len cap xs w h (by omega) (by omega) hl

/-- What it tells, with the zero row for none. -/
theorem refRowD_any (a : Option Addr) (len cap : Nat) (s : ByteArray) (w : World) (h : Came w a len cap (strB s)) (hl : len ≤ 100000) :
    Calls Try.prog 42 #[.slice a len cap] w fun e w' => Below w.heap.size w w' ∧ (rowD s).fits ∧ ∃ (k : Bool) (a : Option Addr) (len cap : Nat), e = .returned (.tuple #[(rowD s).val (.slice a len cap), .bool k]) ∧ OwnsV 23 w' w.heap.size (.slice a len cap) (fVals (rowD s).xs) := by
  refine (refRow_any a len cap _ w h hl).mono ?_
  rintro e w' ⟨hb, hn, hs⟩
  unfold rowD
  cases hd : decB (strB s) with
  | none => exact ⟨hb, zeroR_fits, false, none, 0, 0, hn hd, OwnsV.nil _ _ _⟩
  | some r =>
    obtain ⟨hf, a', len', cap', he, _, ho⟩ := hs r hd
    exact ⟨hb, hf, true, a', len', cap', he, ho⟩

set_option maxHeartbeats 4000000 in
set_option maxRecDepth 100000 in
theorem refDecodeU_any (a : Option Addr) (len cap : Nat) (xs : List Nat) (w : World) (h : Came w a len cap xs) (hl : len ≤ 100000) :
    Calls Try.prog 27 #[.slice a len cap] w (UnTold xs (.bool false) (.bool true) w) := by
  have H := hide h
  have HLL := hide hl
  have HXL := hide h.bs.1
  have HXB := hide h.bs.2.1
  have HZ := hide (unBlk_new w zeroU (.slice none 0 0))
  obtain ⟨w1, hw1⟩ : ∃ w1, w1 = (w.alloc (.cells #[.int .i64 0, .int .i64 0, .int .i64 0, .int .i64 0, .int .i64 0, .int .i64 0, .float .f64 0, .bool false, .slice none 0 0, .int .i64 0, .int .i64 0, .int .i64 0] 30)).alloc (.cells #[.int .i64 1, .int .i64 3, .int .i64 3, .int .i64 2, .int .i64 1, .int .i64 1, .int .i64 5] 3) := ⟨_, rfl⟩
  have hba := below_alloc w (.cells #[.int .i64 0, .int .i64 0, .int .i64 0, .int .i64 0, .int .i64 0, .int .i64 0, .float .f64 0, .bool false, .slice none 0 0, .int .i64 0, .int .i64 0, .int .i64 0] 30)
  have hbb := below_alloc (w.alloc (.cells #[.int .i64 0, .int .i64 0, .int .i64 0, .int .i64 0, .int .i64 0, .int .i64 0, .float .f64 0, .bool false, .slice none 0 0, .int .i64 0, .int .i64 0, .int .i64 0] 30)) (.cells #[.int .i64 1, .int .i64 3, .int .i64 3, .int .i64 2, .int .i64 1, .int .i64 1, .int .i64 5] 3)
  have HW1 : Hid (Below w.heap.size w w1) := by rw [hw1]; exact rBelow hba hbb
  have HZ1 : Hid (UnBlk w1 w.heap.size zeroU (.slice none 0 0)) := by rw [hw1]; exact HZ.out.keep hbb
  have hk1 : w1.heap[w.heap.size + 1]? = some (Obj.cells (kVals undoK).toArray 3 (0, 0)) := by
    have := heap_alloc_new (w.alloc (.cells #[.int .i64 0, .int .i64 0, .int .i64 0, .int .i64 0, .int .i64 0, .int .i64 0, .float .f64 0, .bool false, .slice none 0 0, .int .i64 0, .int .i64 0, .int .i64 0] 30)) (.cells (kVals undoK).toArray 3)
    have hsz : (w.alloc (.cells #[.int .i64 0, .int .i64 0, .int .i64 0, .int .i64 0, .int .i64 0, .int .i64 0, .float .f64 0, .bool false, .slice none 0 0, .int .i64 0, .int .i64 0, .int .i64 0] 30)).heap.size = w.heap.size + 1 := by simp
    rw [hsz] at this
    rw [hw1]
    exact this
  have hks := ks_blk hk1
  have hT := refTake_any a len cap xs _ 7 7 undoK w1 (H.out.keep HW1.out (Nat.le_refl _)) hks HLL.out (by decide)
  unfold TookIs at hT
  rw [out_good undoK_good] at hT
  have HT := hide hT
  have HE1 := hide hw1
  clear h hl hk1 hks hT hba hbb HZ
  cases hT1 : tks xs undoK [] 0 with
  | none =>
    rw [hT1] at HT
    simp only at HT
    have HN : Hid (decU xs = none) := by show _ = _; unfold decU; rw [hT1]
    rw [hw1] at HT
    clear hT1 hw1
    go_enter Try.func27, Try.ntmps27
    go_wp2_with fail
    refine HT.out.mono ?_
    rw [← HE1.out]
    rintro e w2 ⟨v2, rfl, hb2, _, _⟩
    have HW2 := hide (rBelow HW1.out hb2)
    have HZ2 := hide (HZ1.out.keep hb2)
    clear hb2 HT
    have HST := hide (zero_st w2 w.heap.size _ _ HZ2.out)
    have HSB := hide (setUn_blk HZ2.out zeroU (.slice none 0 0))
    have HSW := hide (setUn_below HW2.out (Nat.le_refl _) zeroU (.slice none 0 0))
    generalize setUn w2 w.heap.size zeroU (.slice none 0 0) = WE at *
    go_wp2_with (refine wpList_store _ rfl rfl 30 (.tmp 2) (.tmp 17) rfl (.pointer (some ⟨w.heap.size, 0, none⟩)) (.agg #[.int .i64 0, .int .i64 0, .int .i64 0, .int .i64 0, .int .i64 0, .int .i64 0, .float .f64 0, .bool false, .slice none 0 0, .int .i64 0, .int .i64 0, .int .i64 0]) rfl rfl WE HST.out ?_)
    refine bodyPost_ret (un_results2 rfl HSB.out _ (.bool false) rfl rfl ⟨_, _, _, rfl⟩) rfl ?_
    exact UnTold.no HN.out HSW.out
  | some lq =>
    obtain ⟨l, q⟩ := lq
    rw [hT1] at HT
    simp only at HT
    have h7 : l.length = 7 := by have := tks_len _ _ _ _ _ hT1; simpa [undoK] using this
    have hsm : (l.getD 6 itD).s.size ≤ 100000 := Nat.le_trans (undo_small HXB.out hT1) (by rw [HXL.out]; exact HLL.out)
    have HT1 := hide hT1
    have H7 := hide h7
    have HSM := hide hsm
    rw [hw1] at HT
    clear hT1 h7 hsm hw1
    go_enter Try.func27, Try.ntmps27
    go_wp2_with fail
    refine HT.out.mono ?_
    rw [← HE1.out]
    rintro e w2 ⟨v2, rfl, hb2, ho2, hf2⟩
    have HW2 := hide (rBelow HW1.out hb2)
    have HZ2 := hide (HZ1.out.keep hb2)
    obtain ⟨p2, c2, hv2, is2, _⟩ := ho2.is hf2
    rw [H7.out] at hv2 is2
    obtain ⟨b, off, rfl, _⟩ := is2.2.2 0 (by omega)
    subst hv2
    have HIS := hide is2
    have HF2 := hide hf2
    have hat : ∀ j, j < 7 → ItAt w2 b (off + j * 4) (l.getD j itD) := fun j hj => by
      obtain ⟨_, _, e, h⟩ := HIS.out.2.2 j hj
      simp only [Option.some.injEq, Addr.mk.injEq, and_true] at e
      obtain ⟨rfl, rfl⟩ := e
      exact h
    have HAT := hide hat
    clear hb2 ho2 hf2 is2 hat HT
    go_wp2_with fail
    refine Pl.region_is (ops := Pl.find 4 ((Try.f27.body).getD .skip)) (by kernel_rfl) ?_
    refine rud4 w2 w2 b off c2 _ _ _ _ _ _ (HAT.out 0 (by omega)) (HAT.out 1 (by omega)) (HAT.out 2 (by omega)) (HAT.out 3 (by omega)) (HAT.out 4 (by omega)) (HAT.out 5 (by omega)) (Below.refl _ _) (by rfl) (by rfl) (by rfl) ?_
    intro u w3 g3 hin3
    simp only [Act.put, List.setIfInBounds_toArray, List.set_cons_zero, List.set_cons_succ]
    obtain ⟨hb3, hx3, hg3⟩ := hin3
    have hx3' : UnBlk w3 g3 (undoOf l zeroR) (.slice none 0 0) := hx3
    have HW3 := hide (rBelow HW2.out hb3)
    have HZ3 := hide (HZ2.out.keep hb3)
    have HX3 := hide hx3'
    have HG3 : Hid (w.heap.size ≤ g3 ∧ w.heap.size ≠ g3) := ⟨Nat.le_trans HW2.out.size hg3, fun e => by have := HZ2.out.lt; omega⟩
    have i6 := (keep_item (HAT.out 6 (by omega)) hb3).2.2.2
    obtain ⟨s, hs⟩ : ∃ s, s = (l.getD 6 itD).s := ⟨_, rfl⟩
    rw [← hs] at i6 HSM
    obtain ⟨c4, w4, hcv, hcm, hb4⟩ := bytes_str w3 s HSM.out
    obtain ⟨n4, hn4⟩ : ∃ n, s.size = n := ⟨_, rfl⟩
    rw [hn4] at hcv hcm HSM
    have HW4 := hide (rBelow HW3.out hb4)
    have HZ4 := hide (HZ3.out.keep hb4)
    have HX4 := hide (HX3.out.keep hb4)
    have HD := hide (refRowD_any _ n4 c4 s w4 hcm HSM.out)
    have HS := hide hs
    have HCV := hide hcv
    simp only [Nat.reduceMul] at i6
    clear hb3 hx3 hx3' hg3 hs hcm hb4 hn4 hcv
    go_wp2_with (refine wpList_conv _ rfl 9 32 (.tmp 47) rfl (.string s) (.slice (some ⟨w3.heap.size, 0, none⟩) n4 c4) rfl _ HCV.out ?_)
    refine HD.out.mono ?_
    rintro e w5 ⟨hb5, hrf, kk, ca, cl, cc, rfl, ho5⟩
    have HW5 := hide (rBelow HW4.out hb5)
    have HZ5 := hide (HZ4.out.keep hb5)
    have hx5 := HX4.out.keep hb5
    obtain ⟨w6, hst6, hx6, hot6, hbl6⟩ := st_unRow w5 g3 _ _ hx5 (rowD s) ca cl cc
    have HX6 : Hid (UnBlk w6 g3 (undoOf l (rowD s)) (.slice ca cl cc)) := hx6
    have HW6 := hide (hbl6 _ _ HW5.out HG3.out.1)
    have HZ6 := hide ((hot6 _ HG3.out.2).trans HZ5.out)
    have HO6 := hide ((ho5.lower HW4.out.size).other hx5 hot6)
    have HUF := hide (undoOf_fits HF2.out H7.out hrf)
    have HRX : Hid ((undoOf l (rowD s)).row = rowD s) := rfl
    have HFS : Hid (Fs w6 ca cl cc (undoOf l (rowD s)).row.xs) := by rw [HRX.out]; exact HO6.out.fsO hrf.xs
    have HST6 := hide hst6
    have HDR : Hid (decU xs = if (undoOf l (rowD s)).may = true ∧ (undoOf l (rowD s)).bytes = xs then some (undoOf l (rowD s)) else none) := by
      have := dec_ref HXB.out HT1.out (by rw [← HS.out]; exact HUF.out)
      rw [← HS.out] at this
      exact this
    have HCM := hide (H.out.keep HW6.out (Nat.le_refl _))
    rw [← HRX.out] at HO6
    generalize undoOf l (rowD s) = X at *
    generalize rowD s = RR at *
    clear hb5 hrf ho5 hx5 hst6 hx6 hot6 hbl6 i6 HD HCV HS HRX HAT HIS
    go_wp2_with (refine wpList_store _ rfl rfl 28 (.tmp 52) (.tmp 50) rfl (.pointer (some ⟨g3, 6, none⟩)) (RR.val (.slice ca cl cc)) rfl rfl w6 HST6.out ?_)
    refine Pl.region_is (ops := Pl.find 6 ((Try.f27.body).getD .skip)) (by kernel_rfl) ?_
    cases hmay : X.may
    · have HND : Hid (decU xs = none) := by show _ = _; rw [HDR.out, if_neg (fun h => by rw [hmay] at h; cases h.1)]
      refine rud6a w6 w6 g3 X ca cl cc HX6.out HFS.out HUF.out _ len cap xs HCM.out hmay (Below.refl _ _) (by rfl) (by rfl) (by rfl) (by rfl) ?_
      intro u2 w7 hb7
      simp only [Act.put, List.setIfInBounds_toArray, List.set_cons_zero, List.set_cons_succ]
      have HW7 := hide (rBelow HW6.out hb7)
      have HZ7 := hide (UnBlk.keep HZ6.out hb7)
      clear hb7 hmay HST6
      have HST := hide (zero_st w7 w.heap.size _ _ HZ7.out)
      have HSB := hide (setUn_blk HZ7.out zeroU (.slice none 0 0))
      have HSW := hide (setUn_below HW7.out (Nat.le_refl _) zeroU (.slice none 0 0))
      generalize setUn w7 w.heap.size zeroU (.slice none 0 0) = WE at *
      go_wp2_with (refine wpList_store _ rfl rfl 30 (.tmp 2) (.tmp 64) rfl (.pointer (some ⟨w.heap.size, 0, none⟩)) (.agg #[.int .i64 0, .int .i64 0, .int .i64 0, .int .i64 0, .int .i64 0, .int .i64 0, .float .f64 0, .bool false, .slice none 0 0, .int .i64 0, .int .i64 0, .int .i64 0]) rfl rfl WE HST.out ?_)
      refine bodyPost_ret (un_results2 rfl HSB.out _ (.bool false) rfl rfl ⟨_, _, _, rfl⟩) rfl ?_
      exact UnTold.no HND.out HSW.out
    · by_cases hbx : X.bytes = xs
      · have HSD : Hid (decU xs = some X) := by show _ = _; rw [HDR.out, if_pos ⟨hmay, hbx⟩]
        refine rud6c w6 w6 g3 X ca cl cc HX6.out HFS.out HUF.out _ len cap xs HCM.out hmay hbx (Below.refl _ _) (by rfl) (by rfl) (by rfl) (by rfl) ?_
        intro u2 w7 hb7
        simp only [Act.put, List.setIfInBounds_toArray, List.set_cons_zero, List.set_cons_succ]
        have HW7 := hide (rBelow HW6.out hb7)
        have HZ7 := hide (UnBlk.keep HZ6.out hb7)
        have HX7 := hide (HX6.out.keep hb7)
        have HO7 := hide (HO6.out.keep hb7 (Nat.le_refl _))
        have HLD := hide (load_un _ _ _ ⟨_, _, _, rfl⟩ _ HX7.out)
        have HST := hide (st_un w7 w.heap.size _ _ HZ7.out X ca cl cc)
        have HSB := hide (setUn_blk HZ7.out X (.slice ca cl cc))
        have HSW := hide (setUn_below HW7.out (Nat.le_refl _) X (.slice ca cl cc))
        have HSO := hide (HO7.out.setUn HZ7.out X (.slice ca cl cc))
        generalize setUn w7 w.heap.size X (.slice ca cl cc) = WE at *
        clear hb7 hmay hbx HST6
        go_wp2_with (first | refine wpList_load _ rfl 30 (.tmp 7) rfl (.pointer (some ⟨g3, 0, none⟩)) (X.val (.slice ca cl cc)) rfl HLD.out ?_ | refine wpList_store _ rfl rfl 30 (.tmp 2) (.tmp 65) rfl (.pointer (some ⟨w.heap.size, 0, none⟩)) (X.val (.slice ca cl cc)) rfl rfl WE HST.out ?_)
        refine bodyPost_ret (un_results2 rfl HSB.out _ (.bool true) rfl rfl ⟨_, _, _, rfl⟩) rfl ?_
        exact UnTold.yes HSD.out HUF.out HSW.out HSO.out
      · have HND : Hid (decU xs = none) := by show _ = _; rw [HDR.out, if_neg (fun h => hbx h.2)]
        have hne : ¬ (bstr X.bytes).toList = (bstr xs).toList := beq_eq_false_iff_ne.1 (str_ne (Un.bytes_bytes hmay) HXB.out hbx)
        refine rud6b w6 w6 g3 X ca cl cc HX6.out HFS.out HUF.out _ len cap xs HCM.out hmay hne (Below.refl _ _) (by rfl) (by rfl) (by rfl) (by rfl) ?_
        intro u2 w7 hb7
        simp only [Act.put, List.setIfInBounds_toArray, List.set_cons_zero, List.set_cons_succ]
        have HW7 := hide (rBelow HW6.out hb7)
        have HZ7 := hide (UnBlk.keep HZ6.out hb7)
        clear hb7 hmay hbx hne HST6
        have HST := hide (zero_st w7 w.heap.size _ _ HZ7.out)
        have HSB := hide (setUn_blk HZ7.out zeroU (.slice none 0 0))
        have HSW := hide (setUn_below HW7.out (Nat.le_refl _) zeroU (.slice none 0 0))
        generalize setUn w7 w.heap.size zeroU (.slice none 0 0) = WE at *
        go_wp2_with (refine wpList_store _ rfl rfl 30 (.tmp 2) (.tmp 64) rfl (.pointer (some ⟨w.heap.size, 0, none⟩)) (.agg #[.int .i64 0, .int .i64 0, .int .i64 0, .int .i64 0, .int .i64 0, .int .i64 0, .float .f64 0, .bool false, .slice none 0 0, .int .i64 0, .int .i64 0, .int .i64 0]) rfl rfl WE HST.out ?_)
        refine bodyPost_ret (un_results2 rfl HSB.out _ (.bool false) rfl rfl ⟨_, _, _, rfl⟩) rfl ?_
        exact UnTold.no HND.out HSW.out

end Go.Proofs.Ytnhhapipadiffaa
