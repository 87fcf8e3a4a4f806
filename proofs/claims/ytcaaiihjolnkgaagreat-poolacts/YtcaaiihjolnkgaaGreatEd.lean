/-
  The document's pool: Evict, Flush.
  The document's pool: Read.
  The document's pool: Lists.
-/
import Derived.Test.YtcaaiihjolnkgaaGreatEc
namespace Go.Proofs.YtcaaiihjolnkgaaGreat
open Go.RowKit
set_option maxRecDepth 100000
set_option linter.unusedVariables false
variable {K : Home}

set_option maxHeartbeats 8000000 in
set_option maxRecDepth 100000 in
theorem rEvict_none {w : World} {n tot m : Nat} {P : Po} {d : Dv} {Ld : DvL} {v s : Sl} (hI : RpIn K w n tot m P d Ld v s) (k : Int) (hk : ¬ (0 ≤ k ∧ (P.m k.toNat).isSome = true)) : Calls Tryz.prog 19 #[rV d Ld v P.h s P.sy, .int .i64 k] w fun e w' => Below w.heap.size w w' ∧ ∃ x, e = .returned (.tuple #[x, .int .i64 3]) ∧ RpSays K n tot m P x w' := by
  obtain ⟨W0, hW0⟩ : ∃ W, W = ((w.alloc (.cells (rCells d Ld v P.h s P.sy) 43)).alloc (.cells (rCells dv0 dvl0 Sl.nil 0 Sl.nil 0) 43)) := ⟨_, rfl⟩
  have hX : Rx w W0 (w.heap.size + 1) d Ld v P.h s P.sy := by rw [hW0]; exact rx_new w d Ld v P.h s P.sy
  have HAT := hide (rAt_any (hI.sh.keep hX.e) d Ld v P.h P.sy k)
  have HL0 := hide (ldR hX.b)
  rw [r0_is] at hW0
  rw [hW0] at HL0
  have HW0 := hide hW0
  have HX0 := hide hX
  have HI := hide hI
  have HK := hide hk
  unfold rV at HAT HL0
  clear hX hI hW0 hk
  unfold rV
  go_enter Tryz.func19, Tryz.ntmps19
  go_wp2_with (refine wpList_load _ rfl 43 (.tmp 2) rfl (.pointer (some ⟨w.heap.size, 0, none⟩)) _ rfl HL0.out ?_)
  rw [← HW0.out]
  refine HAT.out.mono ?_
  rintro e w1 ⟨hb1, z1, rfl, hz1⟩
  rcases hz1 with ⟨rfl, _⟩ | ⟨i3, x3, rfl, hx3, he3⟩
  case inr =>
    have h1 := from_mem (List.mem_of_getElem? hx3)
    have h3 : P.m x3.1 = some x3.2 := h1.2.2
    refine absurd ⟨by omega, ?_⟩ HK.out
    rw [← he3, Int.toNat_natCast, h3]
    rfl
  have HX1 := hide (HX0.out.keep hb1)
  obtain ⟨W2, hst2, hb2, hB2, hf2⟩ := HX1.out.tell d Ld v P.h s P.sy
  have HL1 := hide (ldR HX1.out.b)
  have HS2 := hide hst2
  have HB2 := hide hb2
  have HBB := hide hB2
  have HSAY : Hid (RpSays K n tot m P (rV d Ld v P.h s P.sy) W2) := ⟨d, Ld, v, s, rfl, HI.out.keep hB2⟩
  unfold rV at HL1 HS2
  clear hst2 hb2 hB2 hf2
  clear hb1
  go_wp2_with (first | refine wpList_load _ rfl 43 (.tmp 2) rfl (.pointer (some ⟨w.heap.size, 0, none⟩)) _ rfl HL1.out ?_ | refine wpList_store _ rfl rfl 43 (.tmp 4) (.tmp 12) rfl (.pointer (some ⟨w.heap.size + 1, 0, none⟩)) _ rfl rfl W2 HS2.out ?_)
  refine bodyPost_ret (rp_results1 rfl HB2.out _ rfl rfl) rfl ?_
  exact ⟨HBB.out, _, rfl, HSAY.out⟩

set_option maxHeartbeats 8000000 in
set_option maxRecDepth 100000 in
theorem rEvict_ok {w : World} {n tot m c : Nat} {P : Po} {d : Dv} {Ld : DvL} {v s : Sl} (hI : RpIn K w n tot m P d Ld v s) (hF : P.Fine n c) (ht : tot ≤ 600) (hm : m ≤ 890) (k : Nat) (hk : (P.m k).isSome = true) : Calls Tryz.prog 19 #[rV d Ld v P.h s P.sy, .int .i64 ((k : Nat) : Int)] w fun e w' => Below w.heap.size w w' ∧ ∃ x, e = .returned (.tuple #[x, .int .i64 0]) ∧ RpSays K n tot (m + 4) (P.evict k) x w' := by
  have hn := hF.wet.dev.n2
  obtain ⟨ksh, hks⟩ := Option.isSome_iff_exists.1 hk
  have hkn := (hF.wet.sh k ksh hks).1
  obtain ⟨W0, hW0⟩ : ∃ W, W = ((w.alloc (.cells (rCells d Ld v P.h s P.sy) 43)).alloc (.cells (rCells dv0 dvl0 Sl.nil 0 Sl.nil 0) 43)) := ⟨_, rfl⟩
  have hX : Rx w W0 (w.heap.size + 1) d Ld v P.h s P.sy := by rw [hW0]; exact rx_new w d Ld v P.h s P.sy
  have HAT := hide (rAt_any (hI.sh.keep hX.e) d Ld v P.h P.sy ((k : Nat) : Int))
  have HL0 := hide (ldR hX.b)
  rw [r0_is] at hW0
  rw [hW0] at HL0
  have HW0 := hide hW0
  have HX0 := hide hX
  have HI := hide hI
  have HWET := hide hF.wet
  have HN := hide hn
  have HT := hide ht
  have HM := hide hm
  have HKS := hide hks
  have HKN := hide hkn
  have HOR := hide (out_rest P k)
  unfold rV at HAT HL0
  clear hX hI hW0 hk hF ht hm hn hks hkn
  unfold rV
  go_enter Tryz.func19, Tryz.ntmps19
  go_wp2_with (refine wpList_load _ rfl 43 (.tmp 2) rfl (.pointer (some ⟨w.heap.size, 0, none⟩)) _ rfl HL0.out ?_)
  rw [← HW0.out]
  refine HAT.out.mono ?_
  rintro e w3 ⟨hb3, z3, rfl, hz3⟩
  have HX3 := hide (HX0.out.keep hb3)
  have HI3 := hide ((HI.out.keep HX0.out.e).keep hb3)
  rcases hz3 with ⟨_, hno⟩ | ⟨i3, x3, rfl, hx3, he3⟩
  · exact absurd rfl (hno (k, ksh) (mem_inl HKN.out HKS.out))
  have hx3' : (P.inl n)[i3]? = some (k, ksh) := by
    have h1 := from_mem (List.mem_of_getElem? hx3)
    have h2 : x3.1 = k := by omega
    have h3 : P.m x3.1 = some x3.2 := h1.2.2
    rw [h2, HKS.out] at h3
    rw [hx3]
    exact congrArg some (Prod.ext h2 (Option.some.inj h3).symm)
  have HW3 := hide (rwrite_any HI3.out HN.out HT.out HM.out (fun q sh hq => HWET.out.sh q sh hq) i3 k ksh hx3')
  have HL3 := hide (ldR HX3.out.b)
  unfold rV at HW3 HL3
  have h0i : ¬ ((i3 : Nat) : Int) < 0 := by omega
  clear hb3 hx3 he3 hx3' HAT HL0
  go_wp2_with (refine wpList_load _ rfl 43 (.tmp 2) rfl (.pointer (some ⟨w.heap.size, 0, none⟩)) _ rfl HL3.out ?_)
  refine HW3.out.mono ?_
  rintro e w4 ⟨hb4, x4, rfl, D4, L4, v4, s4, rfl, hI4⟩
  have HX4 := hide (HX3.out.keep hb4)
  have HOUT := hide (rout_any hI4.sh (Nat.le_trans (inl_len _ n) (by have := HN.out; omega)) D4 L4 v4 (P.write k).h (P.write k).sy k)
  have HI4 := hide hI4
  unfold rV at HOUT
  unfold rV
  clear hb4 hI4 HX3 HI3 HL3 HW3
  go_wp2_with fail
  refine HOUT.out.mono ?_
  rintro e w5 ⟨hb5, s5, rfl, hrow5⟩
  have hX5 := HX4.out.keep hb5
  obtain ⟨W5, hst5, hblk5, hf5, hs5⟩ := stR hX5.b D4 L4 v4 (P.write k).h s5 (P.write k).sy
  have hX6 := hX5.turn hblk5 hf5
  have hI5 := HI4.out.keep hb5
  have hI6 : RpIn K W5 n tot (m + 4) (P.out k) D4 L4 v4 s5 := by
    have hrow : ShRow K w5 s5 ((P.out k).inl n) := by
      have e := outL_inl (P.write k) HKN.out
      rw [e] at hrow5
      exact hrow5
    exact ⟨dvIn_box hI5.dv hf5 ⟨_, _, _, _, _, _, hX5.b⟩, hI5.rel, hI5.good, gs_box hI5.ck hf5 ⟨_, _, _, _, _, _, hX5.b⟩, shRow_box hrow hf5 ⟨_, _, _, _, _, _, hX5.b⟩, Nat.le_trans hI5.low hf5.size⟩
  have HDR := hide (rdrop_any W5 v4 (P.write k).h (P.out k).l hI6.ck ((k : Nat) : Int))
  rw [HOR.out.1] at HDR
  have d9 := hX6.b.c9
  have d10 := hX6.b.c10
  have HS5 := hide hst5
  have HX6 := hide hX6
  have HI6 := hide hI6
  obtain ⟨va, vl, vc⟩ := v4
  simp only [ckV, Sl.val] at HDR d9 d10
  unfold rV at HS5
  clear hb5 hrow5 hX5 hst5 hblk5 hf5 hs5 hX6 hI5 hI6 HX4 HI4 HOUT
  go_wp2_with (refine wpList_store _ rfl rfl 43 (.tmp 2) (.tmp 17) rfl (.pointer (some ⟨w.heap.size, 0, none⟩)) _ rfl rfl W5 HS5.out ?_)
  refine HDR.out.mono ?_
  rintro e w7 ⟨hb7, ⟨na, nl, nc⟩, rfl, hg7⟩
  simp only
  have hX7 := HX6.out.keep hb7
  have hI7 := HI6.out.keep hb7
  obtain ⟨W8, hst8, hblk8, hf8, hs8⟩ := stRC hX7.b ⟨na, nl, nc⟩ (P.write k).h
  have hX8 := hX7.turn hblk8 hf8
  have hgK : Gs K.G w7 ⟨na, nl, nc⟩ (dropC P.l ((k : Nat) : Int)).l := hg7.mono (fun q hq _ => hq.elim id (fun e => K.all q (Nat.le_trans HI6.out.low e)))
  have hI8 : RpIn K W8 n tot (m + 4) (P.evict k) D4 L4 ⟨na, nl, nc⟩ s5 := ⟨dvIn_box hI7.dv hf8 ⟨_, _, _, _, _, _, hX7.b⟩, hI7.rel, hI7.good, gs_box hgK hf8 ⟨_, _, _, _, _, _, hX7.b⟩, shRow_box hI7.sh hf8 ⟨_, _, _, _, _, _, hX7.b⟩, Nat.le_trans hI7.low hf8.size⟩
  obtain ⟨W9, hst9, hb9, hB9, hf9⟩ := hX8.tell D4 L4 ⟨na, nl, nc⟩ (P.write k).h s5 (P.write k).sy
  have HS8 := hide hst8
  have HL8 := hide (ldR hblk8)
  have HS9 := hide hst9
  have HB9 := hide hb9
  have HBB := hide hB9
  have HSAY : Hid (RpSays K n tot (m + 4) (P.evict k) (rV D4 L4 ⟨na, nl, nc⟩ (P.write k).h s5 (P.write k).sy) W9) := ⟨D4, L4, ⟨na, nl, nc⟩, s5, by rw [show (P.evict k).h = (P.write k).h from HOR.out.2.symm, show (P.evict k).sy = (P.write k).sy from rfl], RpIn.box hI8 hf9 hX8.ans⟩
  simp only [ckV, Sl.val, rV] at HS8 HL8 HS9
  clear hb7 hg7 hX7 hI7 hst8 hblk8 hf8 hs8 hX8 hgK hI8 hst9 hb9 hB9 hf9 d9 d10
  go_wp2_with (first | refine wpList_store _ rfl rfl 40 (.tmp 25) (.tmp 23) rfl (.pointer (some ⟨w.heap.size, 9, none⟩)) _ rfl rfl W8 HS8.out ?_ | refine wpList_load _ rfl 43 (.tmp 2) rfl (.pointer (some ⟨w.heap.size, 0, none⟩)) _ rfl HL8.out ?_ | refine wpList_store _ rfl rfl 43 (.tmp 4) (.tmp 26) rfl (.pointer (some ⟨w.heap.size + 1, 0, none⟩)) _ rfl rfl W9 HS9.out ?_)
  refine bodyPost_ret (rp_results1 rfl HB9.out _ rfl rfl) rfl ?_
  exact ⟨HBB.out, _, rfl, HSAY.out⟩

theorem writes_h : ∀ (l : List Nat) (P : Po), (l.foldl Po.write P).h = P.h
  | [], P => rfl
  | k :: l, P => by rw [List.foldl_cons, writes_h l, (write_rest P k).2]
theorem writes_inn {n : Nat} : ∀ (l : List Nat) (P : Po), P.Dev n → (l.foldl Po.write P).Dev n ∧ (l.foldl Po.write P).inn n = P.inn n
  | [], P, h => ⟨h, rfl⟩
  | k :: l, P, h => by
    obtain ⟨h1, h2⟩ := writes_inn l (P.write k) (h.write k).dev
    exact ⟨h1, h2.trans (write_inn h k)⟩

set_option maxHeartbeats 8000000 in
set_option maxRecDepth 100000 in
theorem rFlush_any {w : World} {n tot m c : Nat} {P : Po} {d : Dv} {Ld : DvL} {v s : Sl} (hI : RpIn K w n tot m P d Ld v s) (hF : P.Fine n c) (ht : tot ≤ 600) (hm : m + 4 * (P.inn n).length ≤ 890) (hfew : (P.inn n).length ≤ 64) : Calls Tryz.prog 17 #[rV d Ld v P.h s P.sy] w fun e w' => Below w.heap.size w w' ∧ ∃ x, e = .returned x ∧ RpSays K n tot (m + 4 * (P.inn n).length) (P.flush n) x w' := by
  have hn := hF.wet.dev.n2
  rw [flush_inn hF.ok.toDev]
  obtain ⟨W0, hW0⟩ : ∃ W, W = ((w.alloc (.cells (rCells d Ld v P.h s P.sy) 43)).alloc (.cells (rCells dv0 dvl0 Sl.nil 0 Sl.nil 0) 43)) := ⟨_, rfl⟩
  have hX : Rx w W0 (w.heap.size + 1) d Ld v P.h s P.sy := by rw [hW0]; exact rx_new w d Ld v P.h s P.sy
  rw [r0_is] at hW0
  have HW0 := hide hW0
  have HX0 := hide hX
  have HI0 := hide (hI.keep hX.e)
  have HWET := hide hF.wet
  have HDEV := hide hF.ok.toDev
  have HN := hide hn
  have HT := hide ht
  have HM := hide hm
  have HTK : Hid ((P.inn n).foldl Po.write P = ((P.inn n).take (P.inn n).length).foldl Po.write P) := by show _ = _; rw [List.take_length]
  rw [HTK.out]
  have HPG : Hid (∀ j, j < (P.inn n).length → ∃ sh, (((P.inn n).take j).foldl Po.write P).m ((P.inn n).getD j 0) = some sh ∧ ((((P.inn n).take j).foldl Po.write P).inl n)[j]? = some ((P.inn n).getD j 0, sh)) := by
    intro j hj
    obtain ⟨hdv, hinn⟩ := writes_inn (n := n) ((P.inn n).take j) P hF.ok.toDev
    have hpg := inl_pages (((P.inn n).take j).foldl Po.write P) n
    rw [hinn] at hpg
    have hlj : j < ((((P.inn n).take j).foldl Po.write P).inl n).length := by
      have := congrArg List.length hpg
      rw [List.length_map] at this
      omega
    have hx := congrArg (fun l => l[j]?) hpg
    simp only [List.getElem?_map, List.getElem?_eq_getElem hlj, List.getElem?_eq_getElem hj, Option.map_some, Option.some.injEq] at hx
    have hm1 := (from_mem (List.getElem_mem hlj)).2.2
    have e0 : (P.inn n).getD j 0 = (P.inn n)[j] := by simp [List.getD, hj]
    refine ⟨((((P.inn n).take j).foldl Po.write P).inl n)[j].2, ?_, ?_⟩
    · rw [e0, ← hx]; exact hm1
    · rw [e0, List.getElem?_eq_getElem hlj]
      exact congrArg some (Prod.ext hx rfl)
  have HLEN : Hid (∀ (W : World) (Q : Po) (t : Sl), ShRow K W t (Q.inl n) → Q.inn n = P.inn n → t.len = (P.inn n).length) := by
    intro W Q t hr hq
    obtain ⟨ls, e, hc, _⟩ := hr
    have h1 := inl_pages Q n
    rw [hq] at h1
    rw [← hc.len, ← h1, ← e, List.length_map, List.length_map]
  have HINN : Hid (∀ j, (((P.inn n).take j).foldl Po.write P).inn n = P.inn n) := fun j => (writes_inn (n := n) ((P.inn n).take j) P hF.ok.toDev).2
  have HWW : Hid (∀ j, (((P.inn n).take j).foldl Po.write P).Wet n (c + 4 * (((P.inn n).take j).length))) := fun j => Po.Wet.writes _ P c hF.wet
  have hL64 := hfew
  clear hX hI hW0 hF ht hm hn HTK
  generalize hlen : (P.inn n).length = N at *
  have HNL := hide hlen
  clear hlen
  unfold rV
  go_enter Tryz.func17, Tryz.ntmps17
  go_wp2_with fail
  rw [← HW0.out]
  go_loopw [3] (fun i wr => ∃ (j : Nat) (D2 : Dv) (L2 : DvL) (v2 s2 : Sl), j ≤ N ∧ i = .int .i64 j ∧ Hid (Rx w wr (w.heap.size + 1) D2 L2 v2 P.h s2 (((P.inn n).take j).foldl Po.write P).sy) ∧ Hid (RpIn K wr n tot (m + 4 * j) (((P.inn n).take j).foldl Po.write P) D2 L2 v2 s2)) (fun i _ => N - (intOf i).toNat)
  case atStart => exact ⟨0, d, Ld, v, s, by omega, rfl, HX0, HI0⟩
  case round =>
    obtain ⟨j, D2, L2, v2, s2, hj, rfl, hX2, hI2⟩ := hrel
    have hsl := HLEN.out _ _ _ hI2.out.sh (HINN.out j)
    have c11 := hX2.out.b.c11
    obtain ⟨sa, sl, sc⟩ := s2
    simp only [Sl.val] at hsl c11
    subst hsl
    by_cases hlt : j < sl
    · have i1 : ((j : Nat) : Int) < ((sl : Nat) : Int) := by omega
      obtain ⟨sh, h1, h2⟩ := HPG.out j hlt
      have HW := hide (rwrite_any hI2.out HN.out HT.out (by have := HM.out; omega) (fun q sh hq => (HWW.out j).sh q sh hq) j _ sh h2)
      rw [writes_h] at HW
      have HL := hide (ldR hX2.out.b)
      unfold rV at HW HL
      have HT1 : Hid (((P.inn n).take (j + 1)).foldl Po.write P = (((P.inn n).take j).foldl Po.write P).write ((P.inn n).getD j 0)) := by
        show _ = _
        have hjl : j < (P.inn n).length := by rw [HNL.out]; exact hlt
        rw [List.take_succ_eq_append_getElem hjl, List.foldl_append]
        simp [List.getD, hjl]
      clear h1 h2
      go_wp2_with (refine wpList_load _ rfl 43 (.tmp 1) rfl (.pointer (some ⟨w.heap.size, 0, none⟩)) _ rfl HL.out ?_)
      refine HW.out.mono ?_
      rintro e w3 ⟨hb3, x3, rfl, D3, L3, v3, s3, rfl, hI3⟩
      have hX3 := hX2.out.keep hb3
      rw [← HT1.out] at hI3
      obtain ⟨W4, hst4, hblk4, hf4, hs4⟩ := stR hX3.b D3 L3 v3 P.h s3 (((P.inn n).take (j + 1)).foldl Po.write P).sy
      have HX4 := hide (hX3.turn hblk4 hf4)
      have HI4 := hide (RpIn.box hI3 hf4 ⟨_, _, _, _, _, _, hX3.b⟩)
      have HS4 := hide hst4
      unfold rV at HS4
      rw [← HT1.out, writes_h]
      unfold rV
      clear hb3 hI3 hX3 hst4 hblk4 hf4 hs4 c11
      go_wp2_with (refine wpList_store _ rfl rfl 43 (.tmp 1) (.tmp 13) rfl (.pointer (some ⟨w.heap.size, 0, none⟩)) _ rfl rfl W4 HS4.out ?_)
      go_roundw
      case rel => exact ⟨j + 1, D3, L3, v3, s3, by omega, by go_num, HX4, HI4⟩
      case measure => simp only [intOf]; omega
    · have i1 : ¬ ((j : Nat) : Int) < ((sl : Nat) : Int) := by omega
      have hjs : j = sl := by omega
      obtain ⟨W4, hst4, hb4, hB4, hf4⟩ := hX2.out.tell D2 L2 v2 P.h ⟨sa, sl, sc⟩ (((P.inn n).take j).foldl Po.write P).sy
      have HL := hide (ldR hX2.out.b)
      have HS4 := hide hst4
      have HB4 := hide hb4
      have HBB := hide hB4
      have HSAY : Hid (RpSays K n tot (m + 4 * sl) (((P.inn n).take sl).foldl Po.write P) (rV D2 L2 v2 P.h ⟨sa, sl, sc⟩ (((P.inn n).take j).foldl Po.write P).sy) W4) := by
        rw [hjs] at hI2 ⊢
        exact ⟨D2, L2, v2, _, by rw [writes_h], RpIn.box hI2.out hf4 hX2.out.ans⟩
      unfold rV at HL HS4
      clear hst4 hb4 hB4 hf4 hjs
      go_wp2_with (first | refine wpList_load _ rfl 43 (.tmp 1) rfl (.pointer (some ⟨w.heap.size, 0, none⟩)) _ rfl HL.out ?_ | refine wpList_store _ rfl rfl 43 (.tmp 2) (.tmp 14) rfl (.pointer (some ⟨w.heap.size + 1, 0, none⟩)) _ rfl rfl W4 HS4.out ?_)
      refine bodyPost_ret (rp_results rfl HB4.out _ rfl) rfl ?_
      exact ⟨HBB.out, _, rfl, HSAY.out⟩
end Go.Proofs.YtcaaiihjolnkgaaGreat

namespace Go.Proofs.YtcaaiihjolnkgaaGreat
open Go.RowKit
set_option maxRecDepth 100000
set_option linter.unusedVariables false
variable {K : Home}

theorem fdSh1 (p o : Nat) (w : World) : (Instr.fieldAt 94 (.pointer (some ⟨p, o, none⟩)) 1).run Tryz.prog w = .ok (.pointer (some ⟨p, o + 1, none⟩)) w := by simp [go_sem, Instr.fieldAt]
theorem entRat : ∀ args w, (callFunc 37 args).run Tryz.prog w = .ok (.enter 37 args) w := Pl.enters Tryz.func37 (by kernel_rfl) (by kernel_rfl)

set_option maxHeartbeats 2000000 in
set_option maxRecDepth 100000 in
theorem read4 (w : World) (g r k i b off sl sc : Nat) (dd : Dv) (Ld : DvL) (v : Sl) (h : Int) (sy : Int) (qa : Option Addr) (ql qc : Nat) (hi : i < sl) (R1 R3 : World → Prop) (h0 : (fun (w' : World) => RBlk w' g dd Ld v h ⟨some ⟨b, off, none⟩, sl, sc⟩ sy ∧ w'.cell? ⟨b, off + i * 4 + 1, none⟩ = some (.slice qa ql qc)) w) (hat : Calls Tryz.prog 37 #[rV dd Ld v h ⟨some ⟨b, off, none⟩, sl, sc⟩ sy, .int .i64 ((k : Nat) : Int)] w.drew fun e w2 => e = .returned (.int .i64 ((i : Nat) : Int)) ∧ R1 w2) (hR1S : ∀ w2, R1 w2 → (fun (w' : World) => RBlk w' g dd Ld v h ⟨some ⟨b, off, none⟩, sl, sc⟩ sy ∧ w'.cell? ⟨b, off + i * 4 + 1, none⟩ = some (.slice qa ql qc)) w2) (hstore : ∀ w2, R1 w2 → ∃ W, (Instr.storeAt 43 (.pointer (some ⟨r, 0, none⟩)) (rV dd Ld v h ⟨some ⟨b, off, none⟩, sl, sc⟩ sy)).run Tryz.prog w2 = .ok () W ∧ (fun (w' : World) => RBlk w' g dd Ld v h ⟨some ⟨b, off, none⟩, sl, sc⟩ sy ∧ w'.cell? ⟨b, off + i * 4 + 1, none⟩ = some (.slice qa ql qc)) W ∧ R3 W)
    {Q : Exit → Act → World → Prop} {A : Act} (hsz : A.tmps.size = 28) (hdf : A.defers = []) (s1 : A.tmps.getD 1 undef = .int .i64 ((k : Nat) : Int)) (s2 : A.tmps.getD 2 undef = .pointer (some ⟨g, 0, none⟩)) (s4 : A.tmps.getD 4 undef = .pointer (some ⟨r, 0, none⟩))
    (hend : ∀ (u : Nat → Value) w', R3 w' → Q .normal ((((((((((((A).put (some 19) (u 19)).put (some 20) (u 20)).put (some 21) (u 21)).put (some 22) (u 22)).put (some 23) (u 23)).put (some 24) (u 24)).put (some 25) (u 25)).put (some 26) (u 26)).put (some 27) (u 27)).put (some 5) (.slice qa ql qc)).put (some 6) (.int .i64 0)) w') :
    (Code.region 4 (Pl.find 4 ((Tryz.f11.body).getD .skip)) true).wp Tryz.prog Q A w := by
  have hA := Pl.At.same (v := .pointer (some ⟨r, 0, none⟩)) (d := 4) (Pl.At.same (v := .pointer (some ⟨g, 0, none⟩)) (d := 2) (Pl.At.same (v := .int .i64 ((k : Nat) : Int)) (d := 1) (Pl.At.here hsz hdf) s1) s2) s4
  refine Pl.H.start (S := fun w' => RBlk w' g dd Ld v h ⟨some ⟨b, off, none⟩, sl, sc⟩ sy ∧ w'.cell? ⟨b, off + i * 4 + 1, none⟩ = some (.slice qa ql qc)) (by kernel_rfl) hA (show (fun w' => RBlk w' g dd Ld v h ⟨some ⟨b, off, none⟩, sl, sc⟩ sy ∧ w'.cell? ⟨b, off + i * 4 + 1, none⟩ = some (.slice qa ql qc)) w.drew from h0) ?_
  rw [show (Pl.find 4 ((Tryz.f11.body).getD .skip)).size = 12 by kernel_rfl]
  refine Pl.H.take 0 19 (rV dd Ld v h ⟨some ⟨b, off, none⟩, sl, sc⟩ sy) (by kernel_rfl) (by kernel_rfl) (by kernel_rfl) (Pl.free 0 (by kernel_rfl)) (Pl.load 0 43 (.tmp 2) _ (by kernel_rfl) (by decide) (fun w' hS => ldR hS.1)) (show (fun w' => RBlk w' g dd Ld v h ⟨some ⟨b, off, none⟩, sl, sc⟩ sy ∧ w'.cell? ⟨b, off + i * 4 + 1, none⟩ = some (.slice qa ql qc)) w.drew from h0) ?_
  refine Pl.H.take 1 20 (.pointer (some ⟨g, 11, none⟩)) (by kernel_rfl) (by kernel_rfl) (by kernel_rfl) (Pl.free 1 (by kernel_rfl)) (Pl.field 1 43 (.tmp 2) 2 _ (by kernel_rfl) (by decide) (fdRp2 g)) (show (fun w' => RBlk w' g dd Ld v h ⟨some ⟨b, off, none⟩, sl, sc⟩ sy ∧ w'.cell? ⟨b, off + i * 4 + 1, none⟩ = some (.slice qa ql qc)) w.drew from h0) ?_
  refine Pl.H.take 2 21 (.slice (some ⟨b, off, none⟩) sl sc) (by kernel_rfl) (by kernel_rfl) (by kernel_rfl) (Pl.free 2 (by kernel_rfl)) (Pl.load 2 41 (.tmp 20) _ (by kernel_rfl) (by decide) (fun w' hS => ldRI hS.1)) (show (fun w' => RBlk w' g dd Ld v h ⟨some ⟨b, off, none⟩, sl, sc⟩ sy ∧ w'.cell? ⟨b, off + i * 4 + 1, none⟩ = some (.slice qa ql qc)) w.drew from h0) ?_
  refine Pl.H.take 3 22 (rV dd Ld v h ⟨some ⟨b, off, none⟩, sl, sc⟩ sy) (by kernel_rfl) (by kernel_rfl) (by kernel_rfl) (Pl.free 3 (by kernel_rfl)) (Pl.load 3 43 (.tmp 2) _ (by kernel_rfl) (by decide) (fun w' hS => ldR hS.1)) (show (fun w' => RBlk w' g dd Ld v h ⟨some ⟨b, off, none⟩, sl, sc⟩ sy ∧ w'.cell? ⟨b, off + i * 4 + 1, none⟩ = some (.slice qa ql qc)) w.drew from h0) ?_
  refine Pl.H.take 4 23 (.int .i64 ((k : Nat) : Int)) (by kernel_rfl) (by kernel_rfl) (by kernel_rfl) (Pl.free 4 (by kernel_rfl)) (Pl.move 4 (.tmp 1) (by kernel_rfl) (by decide)) (show (fun w' => RBlk w' g dd Ld v h ⟨some ⟨b, off, none⟩, sl, sc⟩ sy ∧ w'.cell? ⟨b, off + i * 4 + 1, none⟩ = some (.slice qa ql qc)) w.drew from h0) ?_
  refine Pl.H.call 5 24 37 [(.tmp 22), (.tmp 23)] #[43, 3] (by kernel_rfl) (by kernel_rfl) (by kernel_rfl) (Pl.free 5 (by kernel_rfl)) (by kernel_rfl) (by decide) entRat (Calls.mono (hat) ?_)
  rintro e w2 ⟨rfl, hr1⟩
  obtain ⟨W4, hst, hS4, hr3⟩ := hstore w2 hr1
  refine ⟨.int .i64 ((i : Nat) : Int), rfl, (hR1S w2 hr1), ?_⟩
  refine Pl.H.take 6 25 (.pointer (some ⟨b, off + i * 4, none⟩)) (by kernel_rfl) (by kernel_rfl) (by kernel_rfl) (Pl.free 6 (by kernel_rfl)) (Pl.index 6 41 (.tmp 21) (.tmp 24) _ (by kernel_rfl) (by decide) (by decide) (ixSh b off sl sc i hi)) (hR1S w2 hr1) ?_
  refine Pl.H.take 7 26 (.pointer (some ⟨b, off + i * 4 + 1, none⟩)) (by kernel_rfl) (by kernel_rfl) (by kernel_rfl) (Pl.free 7 (by kernel_rfl)) (Pl.field 7 94 (.tmp 25) 1 _ (by kernel_rfl) (by decide) (fdSh1 b (off + i * 4))) (hR1S w2 hr1) ?_
  refine Pl.H.take 8 27 (.slice qa ql qc) (by kernel_rfl) (by kernel_rfl) (by kernel_rfl) (Pl.free 8 (by kernel_rfl)) (Pl.load 8 32 (.tmp 26) _ (by kernel_rfl) (by decide) (fun w' hS => ldBs b _ _ _ _ w' hS.2)) (hR1S w2 hr1) ?_
  refine Pl.H.store 9 W4 (by kernel_rfl) (by kernel_rfl) (by kernel_rfl) (Pl.free 9 (by kernel_rfl)) (Pl.storeV 9 43 (.tmp 4) (.tmp 19) W4 (by kernel_rfl) (by decide) (by decide) hst) hS4 ?_
  refine Pl.H.take 10 5 (.slice qa ql qc) (by kernel_rfl) (by kernel_rfl) (by kernel_rfl) (Pl.free 10 (by kernel_rfl)) (Pl.assign 10 (.tmp 27) (by kernel_rfl) (by decide)) hS4 ?_
  refine Pl.H.take 11 6 (.int .i64 0) (by kernel_rfl) (by kernel_rfl) (by kernel_rfl) (Pl.free 11 (by kernel_rfl)) (Pl.assign 11 (.const (.int .i64 0)) (by kernel_rfl) (by decide)) hS4 ?_
  refine Pl.H.done (by kernel_rfl) (fun A' hA' => ?_)
  rw [Pl.At.ext hA' (((((((((((hA.put 19 _).put 20 _).put 21 _).put 22 _).put 23 _).put 24 _).put 25 _).put 26 _).put 27 _).put 5 _).put 6 _)]
  exact hend (fun d => if d = 19 then rV dd Ld v h ⟨some ⟨b, off, none⟩, sl, sc⟩ sy else if d = 20 then .pointer (some ⟨g, 11, none⟩) else if d = 21 then .slice (some ⟨b, off, none⟩) sl sc else if d = 22 then rV dd Ld v h ⟨some ⟨b, off, none⟩, sl, sc⟩ sy else if d = 23 then .int .i64 ((k : Nat) : Int) else if d = 24 then .int .i64 ((i : Nat) : Int) else if d = 25 then .pointer (some ⟨b, off + i * 4, none⟩) else if d = 26 then .pointer (some ⟨b, off + i * 4 + 1, none⟩) else if d = 27 then .slice qa ql qc else undef) _ hr3

set_option maxHeartbeats 8000000 in
set_option maxRecDepth 100000 in
theorem rRead_none {w : World} {n tot m : Nat} {P : Po} {d : Dv} {Ld : DvL} {v s : Sl} (hI : RpIn K w n tot m P d Ld v s) (hn : n ≤ 64) (k : Int) (hk : ¬ (0 ≤ k ∧ k < ((n : Nat) : Int))) : Calls Tryz.prog 11 #[rV d Ld v P.h s P.sy, .int .i64 k] w fun e w' => Below w.heap.size w w' ∧ ∃ x, e = .returned (.tuple #[x, .slice none 0 0, .int .i64 3]) ∧ RpSays K n tot m P x w' := by
  obtain ⟨W0, hW0⟩ : ∃ W, W = ((w.alloc (.cells (rCells d Ld v P.h s P.sy) 43)).alloc (.cells (rCells dv0 dvl0 Sl.nil 0 Sl.nil 0) 43)) := ⟨_, rfl⟩
  have hX : Rx w W0 (w.heap.size + 1) d Ld v P.h s P.sy := by rw [hW0]; exact rx_new w d Ld v P.h s P.sy
  have HPG := hide (rPages_any W0 d Ld v P.h s P.sy n hI.kpl hn)
  have c0 := hX.b.c0
  have c1 := hX.b.c1
  have c2 := hX.b.c2
  have c3 := hX.b.c3
  have c4 := hX.b.c4
  have c5 := hX.b.c5
  have c6 := hX.b.c6
  have c7 := hX.b.c7
  have c8 := hX.b.c8
  have c9 := hX.b.c9
  have c10 := hX.b.c10
  have c11 := hX.b.c11
  have c12 := hX.b.c12
  rw [hW0, r0_is] at c0 c1 c2 c3 c4 c5 c6 c7 c8 c9 c10 c11 c12
  rw [r0_is] at hW0
  simp only [Sl.val] at c0 c2 c3 c5 c6 c9 c11
  have HW0 := hide hW0
  have HX0 := hide hX
  have HI := hide hI
  simp only [rV, rCells, Sl.val] at HPG
  by_cases h0 : k < 0
  · have HX1 := HX0
    obtain ⟨W2, hst2, hb2, hB2, hf2⟩ := HX1.out.tell d Ld v P.h s P.sy
    have HL1 := hide (ldR HX1.out.b)
    have HS2 := hide hst2
    have HB2 := hide hb2
    have HBB := hide hB2
    have HSAY : Hid (RpSays K n tot m P (rV d Ld v P.h s P.sy) W2) := ⟨d, Ld, v, s, rfl, HI.out.keep hB2⟩
    unfold rV at HL1 HS2
    clear hst2 hb2 hB2 hf2
    rw [HW0.out] at HL1 HS2
    clear hX hI hW0
    unfold rV
    go_enter Tryz.func11, Tryz.ntmps11
    go_wp2_with (first | refine wpList_load _ rfl 43 (.tmp 2) rfl (.pointer (some ⟨w.heap.size, 0, none⟩)) _ rfl HL1.out ?_ | refine wpList_store _ rfl rfl 43 (.tmp 4) (.tmp 15) rfl (.pointer (some ⟨w.heap.size + 1, 0, none⟩)) _ rfl rfl W2 HS2.out ?_)
    refine bodyPost_ret (rp_results2 rfl HB2.out _ rfl rfl rfl) rfl ?_
    exact ⟨HBB.out, _, rfl, HSAY.out⟩
  · have hge : ((n : Nat) : Int) ≤ k := by omega
    have h1 : ¬ k < 0 := h0
    clear hX hI hW0 hk h0
    unfold rV
    go_enter Tryz.func11, Tryz.ntmps11
    go_wp2_with fail
    rw [← HW0.out]
    refine HPG.out.mono ?_
    rintro e w1 ⟨hb1, rfl⟩
    have HX1 := hide (HX0.out.keep hb1)
    obtain ⟨W2, hst2, hb2, hB2, hf2⟩ := HX1.out.tell d Ld v P.h s P.sy
    have HL1 := hide (ldR HX1.out.b)
    have HS2 := hide hst2
    have HB2 := hide hb2
    have HBB := hide hB2
    have HSAY : Hid (RpSays K n tot m P (rV d Ld v P.h s P.sy) W2) := ⟨d, Ld, v, s, rfl, HI.out.keep hB2⟩
    unfold rV at HL1 HS2
    clear hst2 hb2 hB2 hf2
    clear hb1
    clear c0 c1 c2 c3 c4 c5 c6 c7 c8 c9 c10 c11 c12
    go_wp2_with (first | refine wpList_load _ rfl 43 (.tmp 2) rfl (.pointer (some ⟨w.heap.size, 0, none⟩)) _ rfl HL1.out ?_ | refine wpList_store _ rfl rfl 43 (.tmp 4) (.tmp 15) rfl (.pointer (some ⟨w.heap.size + 1, 0, none⟩)) _ rfl rfl W2 HS2.out ?_)
    refine bodyPost_ret (rp_results2 rfl HB2.out _ rfl rfl rfl) rfl ?_
    exact ⟨HBB.out, _, rfl, HSAY.out⟩

set_option maxHeartbeats 8000000 in
set_option maxRecDepth 100000 in
theorem rRead_ok {w : World} {n tot m c : Nat} {P : Po} {d : Dv} {Ld : DvL} {v s : Sl} (hI : RpIn K w n tot m P d Ld v s) (hF : P.Fine n c) (ht : tot ≤ 600) (hm : m ≤ 890) (k : Nat) (hk : k < n) : Calls Tryz.prog 11 #[rV d Ld v P.h s P.sy, .int .i64 ((k : Nat) : Int)] w fun e w' => Below w.heap.size w w' ∧ ∃ (x : Value) (q : Sl), e = .returned (.tuple #[x, q.val, .int .i64 0]) ∧ RpSays K n tot (m + 4) (P.letIn k) x w' ∧ BsS K w' q ((P.letIn k).con k) := by
  have hn := hF.wet.dev.n2
  have hlet := hF.ok.letIn hk
  obtain ⟨W0, hW0⟩ : ∃ W, W = ((w.alloc (.cells (rCells d Ld v P.h s P.sy) 43)).alloc (.cells (rCells dv0 dvl0 Sl.nil 0 Sl.nil 0) 43)) := ⟨_, rfl⟩
  have hX : Rx w W0 (w.heap.size + 1) d Ld v P.h s P.sy := by rw [hW0]; exact rx_new w d Ld v P.h s P.sy
  have HPG := hide (rPages_any W0 d Ld v P.h s P.sy n hI.kpl hn)
  have c0 := hX.b.c0
  have c1 := hX.b.c1
  have c2 := hX.b.c2
  have c3 := hX.b.c3
  have c4 := hX.b.c4
  have c5 := hX.b.c5
  have c6 := hX.b.c6
  have c7 := hX.b.c7
  have c8 := hX.b.c8
  have c9 := hX.b.c9
  have c10 := hX.b.c10
  have c11 := hX.b.c11
  have c12 := hX.b.c12
  rw [hW0, r0_is] at c0 c1 c2 c3 c4 c5 c6 c7 c8 c9 c10 c11 c12
  rw [r0_is] at hW0
  simp only [Sl.val] at c0 c2 c3 c5 c6 c9 c11
  have HW0 := hide hW0
  have HX0 := hide hX
  simp only [rV, rCells, Sl.val] at HPG
  have hlt : ¬ ((n : Nat) : Int) ≤ ((k : Nat) : Int) := by omega
  have HLET : Hid (∀ W, Below w.heap.size w W → Calls Tryz.prog 36 #[rV d Ld v P.h s P.sy, .int .i64 ((k : Nat) : Int)] W fun e w' => Below W.heap.size W w' ∧ ∃ x, e = .returned x ∧ RpSays K n tot (m + 4) (P.letIn k) x w') := fun W hb => rlet_any (hI.keep hb) hF ht hm k hk
  have HKN := hide hk
  have HIN := hide hlet.inn
  clear hX hI hW0 hk hF ht hm hn hlet
  generalize P.letIn k = Q5 at *
  unfold rV
  go_enter Tryz.func11, Tryz.ntmps11
  go_wp2_with fail
  rw [← HW0.out]
  refine HPG.out.mono ?_
  rintro e w1 ⟨hb1, rfl⟩
  have HX1 := hide (HX0.out.keep hb1)
  have HLT := hide (HLET.out w1 HX1.out.e)
  have HL1 := hide (ldR HX1.out.b)
  unfold rV at HLT HL1
  clear hb1
  clear c0 c1 c2 c3 c4 c5 c6 c7 c8 c9 c10 c11 c12
  go_wp2_with (refine wpList_load _ rfl 43 (.tmp 2) rfl (.pointer (some ⟨w.heap.size, 0, none⟩)) _ rfl HL1.out ?_)
  refine HLT.out.mono ?_
  rintro e w2 ⟨hb2, x2, rfl, D2, L2, v2, s2, rfl, hI2⟩
  have hX2 := HX1.out.keep hb2
  obtain ⟨W3, hst3, hblk3, hf3, hs3⟩ := stR hX2.b D2 L2 v2 Q5.h s2 Q5.sy
  have hX3 := hX2.turn hblk3 hf3
  have hI3 := RpIn.box hI2 hf3 ⟨_, _, _, _, _, _, hX2.b⟩
  have HR4 : Hid (∀ {Q : Exit → Act → World → Prop} {A : Act}, A.tmps.size = 28 → A.defers = [] → A.tmps.getD 1 undef = .int .i64 ((k : Nat) : Int) → A.tmps.getD 2 undef = .pointer (some ⟨w.heap.size, 0, none⟩) → A.tmps.getD 4 undef = .pointer (some ⟨w.heap.size + 1, 0, none⟩) → (∀ (q : Sl) (u : Nat → Value) (w' : World), (RBlk w' (w.heap.size + 1) D2 L2 v2 Q5.h s2 Q5.sy ∧ Below w.heap.size w w' ∧ RpIn K w' n tot (m + 4) Q5 D2 L2 v2 s2 ∧ BsS K w' q (Q5.con k)) → Q .normal (((((((((((((A).put (some 19) (u 19)).put (some 20) (u 20)).put (some 21) (u 21)).put (some 22) (u 22)).put (some 23) (u 23)).put (some 24) (u 24)).put (some 25) (u 25)).put (some 26) (u 26)).put (some 27) (u 27)).put (some 5) (q.val)).put (some 6) (.int .i64 0))) w') → (Code.region 4 (Pl.find 4 ((Tryz.f11.body).getD .skip)) true).wp Tryz.prog Q A W3) := by
    intro Q A a1 a2 a3 a4 a5 hend
    obtain ⟨sh, hsh⟩ := Option.isSome_iff_exists.1 HIN.out
    have hmem := mem_inl HKN.out hsh
    obtain ⟨ls, hls, hc, hz⟩ := hI3.sh
    obtain ⟨hat1, hat2⟩ := inl_at Q5 HKN.out hsh
    have hi0 : ∃ z, ls[(Q5.from_ 0 k).length]? = some z ∧ z.1 = (k, sh) := by
      rw [← hls, List.getElem?_map] at hat1
      cases e : ls[(Q5.from_ 0 k).length]? with
      | none => rw [e] at hat1; cases hat1
      | some z => rw [e] at hat1; exact ⟨z, rfl, by simpa using hat1⟩
    obtain ⟨z, hzi, hzk⟩ := hi0
    obtain ⟨b, off, ha, k0, k1, k2, k3, hrt⟩ := hc.at_ _ z hzi
    obtain ⟨hq, hql⟩ := hz z (List.mem_of_getElem? hzi)
    have hil : (Q5.from_ 0 k).length < s2.len := by rw [← hc.len]; exact (List.getElem?_eq_some_iff.1 hzi).1
    have hcon : Q5.con k = sh.b := by unfold Po.con; rw [hsh]
    rw [hzk] at hq
    obtain ⟨sa, sl, sc⟩ := s2
    simp only at ha hil
    subst ha
    have hX3' := hX3.keep (below_drew W3)
    have hI3' := hI3.keep (below_drew W3)
    have hAT := rAt_any hI3'.sh D2 L2 v2 Q5.h Q5.sy ((k : Nat) : Int)
    refine read4 W3 w.heap.size (w.heap.size + 1) k (Q5.from_ 0 k).length b off sl sc D2 L2 v2 Q5.h Q5.sy z.2.a z.2.len z.2.cap hil (fun w2 => Below W3.drew.heap.size W3.drew w2) (fun w' => RBlk w' (w.heap.size + 1) D2 L2 v2 Q5.h ⟨some ⟨b, off, none⟩, sl, sc⟩ Q5.sy ∧ Below w.heap.size w w' ∧ RpIn K w' n tot (m + 4) Q5 D2 L2 v2 ⟨some ⟨b, off, none⟩, sl, sc⟩ ∧ BsS K w' z.2 (Q5.con k)) ⟨hX3.b, k1⟩ (hAT.mono ?_) (fun w2 h2 => ⟨hX3'.b.below h2, ?_⟩) (fun w2 h2 => ?_) a1 a2 a3 a4 a5 (fun u w' hw' => hend z.2 u w' hw')
    · rintro e w2 ⟨hb, zz, rfl, hzz⟩
      refine ⟨?_, hb⟩
      rcases hzz with ⟨_, hno⟩ | ⟨i3, x3, rfl, hx3, he3⟩
      · exact absurd rfl (hno (k, sh) hmem)
      · have h2 : x3.1 = k := by omega
        rcases Nat.lt_trichotomy i3 (Q5.from_ 0 k).length with hlt | heq | hgt
        · exact absurd h2 (hat2 i3 x3 hlt hx3)
        · rw [heq]
        · exfalso
          have hp : (Q5.inn n).Pairwise (· < ·) := List.Pairwise.filter _ List.pairwise_lt_range
          have hpg := inl_pages Q5 n
          have e1 : (Q5.inn n)[(Q5.from_ 0 k).length]? = some k := by rw [← hpg, List.getElem?_map, hat1]; rfl
          have e2 : (Q5.inn n)[i3]? = some k := by rw [← hpg, List.getElem?_map, hx3]; simp [h2]
          obtain ⟨l1, g1⟩ := List.getElem?_eq_some_iff.1 e1
          obtain ⟨l2, g2⟩ := List.getElem?_eq_some_iff.1 e2
          have := List.pairwise_iff_getElem.1 hp _ _ l1 l2 hgt
          omega
    · have hblk := h2.block b (by exact hrt.lt)
      simp only [World.cell?] at k1 ⊢
      rw [show W3.drew.heap[b]? = W3.heap[b]? from rfl] at hblk
      rw [hblk]
      exact k1
    · have hX4 := hX3'.keep h2
      have hI4 := hI3'.keep h2
      obtain ⟨W, hst, hb, hB, hf⟩ := hX4.tell D2 L2 v2 Q5.h ⟨some ⟨b, off, none⟩, sl, sc⟩ Q5.sy
      have hlt := hX4.lt
      have hq2 : BsS K w2 z.2 (Q5.con k) := by rw [hcon]; exact (hq.keep (below_drew W3) (Nat.le_refl _)).keep h2 (Nat.le_refl _)
      have hbx : Bxs w2 W (fun i => i = w.heap.size + 1) := ⟨fun i hi hl => hf.block i hl hi, fun i hi => by
        rw [hi]
        obtain ⟨_, _, _, _, _, _, kk⟩ := hX4.ans
        exact kk.box, hf.size⟩
      refine ⟨W, hst, ⟨hX4.b.keep (hf.block _ hX4.b.lt (by omega)), ?_⟩, hb, hB, RpIn.box hI4 hf hX4.ans, hbx.bs hq2⟩
      have hb4 := h2.block b (by exact hrt.lt)
      rw [show W3.drew.heap[b]? = W3.heap[b]? from rfl] at hb4
      obtain ⟨C, fz, hC⟩ := hrt
      have hne : b ≠ w.heap.size + 1 := fun e => by
        obtain ⟨_, _, _, _, _, _, kk⟩ := hX4.ans
        unfold RBlk at kk
        rw [← e, hb4, hC] at kk
        simp only [Option.some.injEq, Obj.cells.injEq] at kk
        exact absurd kk.2.1 (by decide)
      have hb5 := hf.block b (Array.getElem?_eq_some_iff.1 (hb4.trans hC)).1 hne
      simp only [World.cell?] at k1 ⊢
      rw [hb5, hb4]
      exact k1
  have HS3 := hide hst3
  unfold rV at HS3
  unfold rV
  clear hb2 hI2 hX2 hst3 hblk3 hf3 hs3 hX3 hI3
  go_wp2_with (refine wpList_store _ rfl rfl 43 (.tmp 2) (.tmp 18) rfl (.pointer (some ⟨w.heap.size, 0, none⟩)) _ rfl rfl W3 HS3.out ?_)
  refine Pl.region_is (ops := Pl.find 4 ((Tryz.f11.body).getD .skip)) (by kernel_rfl) ?_
  refine HR4.out (by rfl) rfl (by rfl) (by rfl) (by rfl) ?_
  intro q u4 w4 hw4
  obtain ⟨h1, h2, h3, h4⟩ := hw4
  simp only [Act.put, List.setIfInBounds_toArray, List.set_cons_zero, List.set_cons_succ]
  have HB4 := hide h1
  have HBB := hide h2
  have HSAY : Hid (RpSays K n tot (m + 4) Q5 (rV D2 L2 v2 Q5.h s2 Q5.sy) w4) := ⟨D2, L2, v2, s2, rfl, h3⟩
  have HQ4 := hide h4
  clear h1 h2 h3 h4
  go_wp2_with fail
  refine bodyPost_ret (rp_results2 rfl HB4.out _ rfl rfl rfl) rfl ?_
  exact ⟨HBB.out, _, q, rfl, HSAY.out, HQ4.out⟩
end Go.Proofs.YtcaaiihjolnkgaaGreat

namespace Go.Proofs.YtcaaiihjolnkgaaGreat
open Go.RowKit
set_option maxRecDepth 100000
set_option linter.unusedVariables false
variable {K : Home}

theorem infoInt : (Tryz.prog.info? 3).map (fun i => (i.zero, i.size, i.bytes)) = some (some (.int .i64 0), 1, 8) := by kernel_rfl
/-- Numbers that are built: each in a row of its own. -/
structure Two (w W : World) (a b : Sl) (xs ys : List Nat) : Prop where
  oa : Own 3 1 W a (ivals xs)
  ob : Own 3 1 W b (ivals ys)
  fa : ∀ k, a.blk = some k → w.heap.size < k
  fb : ∀ k, b.blk = some k → w.heap.size < k
  ne : ∀ k, a.blk = some k → b.blk ≠ some k
  e : Below w.heap.size w W
theorem ivals_one (xs : List Nat) : ∀ u ∈ ivals xs, u.oneCell' = true := by
  intro u hu
  obtain ⟨k, _, rfl⟩ := List.mem_map.1 hu
  rfl
theorem int_app {W : World} {a : Sl} {xs : List Nat} (h : Own 3 1 W a (ivals xs)) (k : Nat) (hl : xs.length + 1 ≤ 1000000) : ∃ a' W', (∀ ty, (Builtin.append_ #[57, 57] ty #[a.val, .slice (some ⟨W.heap.size, 0, none⟩) 1 1]).run Tryz.prog (W.alloc (.cells #[.int .i64 ((k : Nat) : Int)] 3)) = .ok a'.val W') ∧ Own 3 1 W' a' (ivals (xs ++ [k])) ∧ Frm (fun i => a.blk = some i) W W' ∧ (a'.blk = a.blk ∨ ∃ q, a'.blk = some q ∧ W.heap.size ≤ q) := by
  have hA := below_alloc W (.cells #[.int .i64 ((k : Nat) : Int)] 3)
  have ho : Own 3 1 (W.alloc (.cells #[.int .i64 ((k : Nat) : Int)] 3)) a (ivals xs) := Own.frame h (fun i hi => hA.block i (Own.lt h hi))
  have h1 : Own 3 1 (W.alloc (.cells #[.int .i64 ((k : Nat) : Int)] 3)) ⟨some ⟨W.heap.size, 0, none⟩, 1, 1⟩ [.int .i64 ((k : Nat) : Int)] := ⟨rfl, .inr ⟨W.heap.size, 0, _, rfl, heap_alloc_new W _, by simp, Nat.le_refl _, (by unfold maxLen; show 1 ≤ _; omega), by simp⟩⟩
  have hs := Own.src (S := 57) h1 Tryz.underlying57 (fun u hu => by rw [List.mem_singleton.1 hu]; rfl)
  have hal : a.len = xs.length := by
    have := h.1
    simp [ivals] at this
    exact this.symm
  obtain ⟨a', W', hrun, ho', _, hfr, hbk⟩ := own_append Tryz.underlying57 infoInt rfl (by omega) _ a _ ho (ivals_one xs) _ 1 _ hs (by omega) 0
  refine ⟨a', W', fun ty => hrun, ?_, (Frm.ofBelow (F := fun i => a.blk = some i) hA).trans hfr (fun _ _ e => e), hbk.imp id (fun e => ⟨_, e.1, hA.size⟩)⟩
  unfold ivals at *
  rw [List.map_append]
  exact ho'
theorem Two.appA {w W : World} {a b : Sl} {xs ys : List Nat} (t : Two w W a b xs ys) (hw : w.heap.size < W.heap.size) (k : Nat) (hl : xs.length + 1 ≤ 1000000) : ∃ a' W', (∀ ty, (Builtin.append_ #[57, 57] ty #[a.val, .slice (some ⟨W.heap.size, 0, none⟩) 1 1]).run Tryz.prog (W.alloc (.cells #[.int .i64 ((k : Nat) : Int)] 3)) = .ok a'.val W') ∧ Two w W' a' b (xs ++ [k]) ys ∧ Frm (fun i => w.heap.size < i) W W' := by
  obtain ⟨a', W', hrun, ho, hfr, hbk⟩ := int_app t.oa k hl
  have hfr2 : Frm (fun i => w.heap.size < i) W W' := hfr.mono (fun i _ e => t.fa i e)
  refine ⟨a', W', hrun, ⟨ho, Own.frame t.ob (fun i hi => hfr.block i (Own.lt t.ob hi) (fun e => t.ne i e hi)), fun i hi => ?_, t.fb, fun i hi hb => ?_, t.e.trans (hfr2.below t.e.size (fun i e => by omega))⟩, hfr2⟩
  · rcases hbk with e | ⟨q, e, hq⟩
    · rw [e] at hi; exact t.fa i hi
    · rw [e] at hi; obtain rfl := Option.some.inj hi; omega
  · rcases hbk with e | ⟨q, e, hq⟩
    · rw [e] at hi; exact t.ne i hi hb
    · rw [e] at hi
      obtain rfl := Option.some.inj hi
      have := Own.lt t.ob hb
      omega
theorem Two.appB {w W : World} {a b : Sl} {xs ys : List Nat} (t : Two w W a b xs ys) (hw : w.heap.size < W.heap.size) (k : Nat) (hl : ys.length + 1 ≤ 1000000) : ∃ b' W', (∀ ty, (Builtin.append_ #[57, 57] ty #[b.val, .slice (some ⟨W.heap.size, 0, none⟩) 1 1]).run Tryz.prog (W.alloc (.cells #[.int .i64 ((k : Nat) : Int)] 3)) = .ok b'.val W') ∧ Two w W' a b' xs (ys ++ [k]) ∧ Frm (fun i => w.heap.size < i) W W' := by
  obtain ⟨b', W', hrun, ho, hfr, hbk⟩ := int_app t.ob k hl
  have hfr2 : Frm (fun i => w.heap.size < i) W W' := hfr.mono (fun i _ e => t.fb i e)
  refine ⟨b', W', hrun, ⟨Own.frame t.oa (fun i hi => hfr.block i (Own.lt t.oa hi) (fun e => t.ne i hi e)), ho, t.fa, fun i hi => ?_, fun i hi hb => ?_, t.e.trans (hfr2.below t.e.size (fun i e => by omega))⟩, hfr2⟩
  · rcases hbk with e | ⟨q, e, hq⟩
    · rw [e] at hi; exact t.fb i hi
    · rw [e] at hi; obtain rfl := Option.some.inj hi; omega
  · rcases hbk with e | ⟨q, e, hq⟩
    · rw [e] at hb; exact t.ne i hi hb
    · rw [e] at hb
      obtain rfl := Option.some.inj hb
      have := Own.lt t.oa hi
      omega

set_option maxHeartbeats 8000000 in
set_option maxRecDepth 100000 in
theorem rLists_any {w : World} {s : Sl} {l : List (Nat × Sh)} (hs : ShRow K w s l) (hl : l.length ≤ 1000) (d : Dv) (Ld : DvL) (v : Sl) (h : Int) (sy : Int) : Calls Tryz.prog 15 #[rV d Ld v h s sy] w fun e w' => Below w.heap.size w w' ∧ ∃ a b : Sl, e = .returned (.tuple #[a.val, b.val]) ∧ Own 3 1 w' a (ivals (l.map Prod.fst)) ∧ Own 3 1 w' b (ivals ((l.filter (fun z => z.2.dirty)).map Prod.fst)) ∧ (∀ k, a.blk = some k → w.heap.size ≤ k) ∧ ∀ k, b.blk = some k → w.heap.size ≤ k := by
  obtain ⟨ls, rfl, hc, hz⟩ := hs
  obtain ⟨W0, hW0⟩ : ∃ W, W = ((w.alloc (.cells (rCells d Ld v h s sy) 43)).alloc (.cells #[] 3)).alloc (.cells #[] 3) := ⟨_, rfl⟩
  have b1 := below_alloc w (.cells (rCells d Ld v h s sy) 43)
  have b2 := below_alloc (w.alloc (.cells (rCells d Ld v h s sy) 43)) (.cells #[] 3)
  have b3 := below_alloc ((w.alloc (.cells (rCells d Ld v h s sy) 43)).alloc (.cells #[] 3)) (.cells #[] 3)
  have hBK : RBlk W0 w.heap.size d Ld v h s sy := by rw [hW0]; exact ((rBlk_new w d Ld v h s sy).below b2).below b3
  have n1 := heap_alloc_new (w.alloc (.cells (rCells d Ld v h s sy) 43)) (.cells #[] 3)
  have n2 := heap_alloc_new ((w.alloc (.cells (rCells d Ld v h s sy) 43)).alloc (.cells #[] 3)) (.cells #[] 3)
  rw [show (w.alloc (.cells (rCells d Ld v h s sy) 43)).heap.size = w.heap.size + 1 by simp] at n1
  rw [show ((w.alloc (.cells (rCells d Ld v h s sy) 43)).alloc (.cells #[] 3)).heap.size = w.heap.size + 2 by simp, ← hW0] at n2
  have n1' : W0.heap[w.heap.size + 1]? = some (.cells #[] 3 (0, 0)) := by rw [hW0]; exact (b3.block _ (by simp)).trans n1
  have hT : Two w W0 ⟨some ⟨w.heap.size + 1, 0, none⟩, 0, 0⟩ ⟨some ⟨w.heap.size + 2, 0, none⟩, 0, 0⟩ [] [] := by
    refine ⟨⟨rfl, .inr ⟨_, 0, _, rfl, n1', by simp, Nat.le_refl _, by simp, rfl⟩⟩, ⟨rfl, .inr ⟨_, 0, _, rfl, n2, by simp, Nat.le_refl _, by simp, rfl⟩⟩, fun k hk => ?_, fun k hk => ?_, fun k hk hb => ?_, ?_⟩
    · have : w.heap.size + 1 = k := by simpa [Sl.blk] using hk
      omega
    · have : w.heap.size + 2 = k := by simpa [Sl.blk] using hk
      omega
    · have : w.heap.size + 1 = k := by simpa [Sl.blk] using hk
      have : w.heap.size + 2 = k := by simpa [Sl.blk] using hb
      omega
    · rw [hW0]; exact rBelow (rBelow b1 b2) b3
  have HT := hide hT
  have HBK := hide hBK
  have HC := hide hc
  have hlen := hc.len
  rw [List.length_map] at hl
  have HLS := hide hl
  have HW0 := hide hW0
  clear hT hBK hc hz hW0 b1 b2 b3 n1 n2 n1'
  obtain ⟨sa, sl, sc⟩ := s
  simp only at hlen
  have HL : Hid (ls.length = sl) := hlen
  have hsb : sl ≤ 1000 := by omega
  clear hlen hl
  have HE1 : Hid ((ls.map Prod.fst).map Prod.fst = ls.map (fun z => z.1.1)) := by show _ = _; rw [List.map_map]; rfl
  have HE2 : Hid (((ls.map Prod.fst).filter (fun z => z.2.dirty)).map Prod.fst = (ls.filter (fun z => z.1.2.dirty)).map (fun z => z.1.1)) := by show _ = _; rw [List.filter_map, List.map_map]; rfl
  rw [HE1.out, HE2.out]
  clear HE1 HE2
  unfold rV
  go_enter Tryz.func15, Tryz.ntmps15
  go_wp2_with fail
  rw [← HW0.out]
  go_loopw [4, 5, 6] (fun t4 t5 i wr => ∃ (j : Nat) (a b : Sl), j ≤ sl ∧ i = .int .i64 j ∧ t4 = .slice a.a a.len a.cap ∧ t5 = .slice b.a b.len b.cap ∧ Hid (RBlk wr w.heap.size d Ld v h ⟨sa, sl, sc⟩ sy) ∧ Hid (Two w wr a b ((ls.take j).map (fun z => z.1.1)) (((ls.take j).filter (fun z => z.1.2.dirty)).map (fun z => z.1.1)))) (fun _ _ i _ => sl - (intOf i).toNat)
  case atStart => exact ⟨0, ⟨some ⟨w.heap.size + 1, 0, none⟩, 0, 0⟩, ⟨some ⟨w.heap.size + 2, 0, none⟩, 0, 0⟩, by omega, rfl, rfl, rfl, HBK, HT⟩
  case round =>
    obtain ⟨j, ⟨aa, al, ac⟩, ⟨ba, bl, bc⟩, hj, rfl, rfl, rfl, hBr, hTr⟩ := hrel
    simp only at *
    have c11 := hBr.out.c11
    simp only [Sl.val] at c11
    have hcr := HC.out.keep hTr.out.e
    by_cases hlt : j < sl
    · have i1 : ((j : Nat) : Int) < ((sl : Nat) : Int) := by omega
      have hjl : j < ls.length := by rw [HL.out]; exact hlt
      obtain ⟨b, off, ha, k0, k1, k2, k3, hrt⟩ := hcr.at_ j ls[j] (List.getElem?_eq_getElem hjl)
      simp only at ha
      subst ha
      have HTA : Hid ((ls.take (j + 1)).map (fun z => z.1.1) = (ls.take j).map (fun z => z.1.1) ++ [ls[j].1.1]) := by show _ = _; rw [List.take_succ_eq_append_getElem hjl, List.map_append]; rfl
      have HTD0 : Hid (((ls.take (j + 1)).filter (fun z => z.1.2.dirty)).map (fun z => z.1.1) = ((ls.take j).filter (fun z => z.1.2.dirty)).map (fun z => z.1.1) ++ (if ls[j].1.2.dirty = true then [ls[j].1.1] else [])) := by
        show _ = _
        rw [List.take_succ_eq_append_getElem hjl, List.filter_append, List.map_append]
        cases hd : ls[j].1.2.dirty <;> simp [hd]
      obtain ⟨⟨ca, cl, cc⟩, W3, hrun3, hT3, hf3⟩ := hTr.out.appA (by have := hBr.out.lt; omega) ls[j].1.1 (by rw [List.length_map, List.length_take]; have := HLS.out; omega)
      have BK3 : Hid (RBlk W3 w.heap.size d Ld v h ⟨some ⟨b, off, none⟩, sl, sc⟩ sy) := hBr.out.keep (hf3.block _ hBr.out.lt (by omega))
      have T3 : Hid (Two w W3 ⟨ca, cl, cc⟩ ⟨ba, bl, bc⟩ ((ls.take (j + 1)).map (fun z => z.1.1)) (((ls.take j).filter (fun z => z.1.2.dirty)).map (fun z => z.1.1))) := by rw [HTA.out]; exact hT3
      obtain ⟨b', off', ha', q0, q1, q2, q3, _⟩ := (HC.out.keep T3.out.e).at_ j ls[j] (List.getElem?_eq_getElem hjl)
      cases ha'
      have d11 := BK3.out.c11
      have HRUN3 := hide hrun3
      simp only [Sl.val] at HRUN3 d11
      generalize hpg : ls[j].1.1 = pg at *
      clear hrun3 hT3 hf3 hcr k1 k2 k3 q1 q3 hpg hrt
      cases hd : ls[j].1.2.dirty with
      | false =>
        rw [hd] at q2
        have HTD : Hid (((ls.take (j + 1)).filter (fun z => z.1.2.dirty)).map (fun z => z.1.1) = ((ls.take j).filter (fun z => z.1.2.dirty)).map (fun z => z.1.1)) := by show _ = _; have hTt := HTD0.out; rw [hd] at hTt; simpa using hTt
        have T4 : Hid (Two w W3 ⟨ca, cl, cc⟩ ⟨ba, bl, bc⟩ ((ls.take (j + 1)).map (fun z => z.1.1)) (((ls.take (j + 1)).filter (fun z => z.1.2.dirty)).map (fun z => z.1.1))) := by rw [HTD.out]; exact T3
        clear hd
        go_wp2_with (refine wpList_app _ rfl 57 (.tmp 16) (.tmp 23) rfl (.slice aa al ac) (.slice (some ⟨wr.heap.size, 0, none⟩) 1 1) rfl rfl (.slice ca cl cc) W3 HRUN3.out ?_)
        go_roundw
        case rel => exact ⟨j + 1, ⟨ca, cl, cc⟩, ⟨ba, bl, bc⟩, by omega, by go_num, rfl, rfl, BK3, T4⟩
        case measure => simp only [intOf]; omega
      | true =>
        rw [hd] at q2
        have HTD : Hid (((ls.take (j + 1)).filter (fun z => z.1.2.dirty)).map (fun z => z.1.1) = ((ls.take j).filter (fun z => z.1.2.dirty)).map (fun z => z.1.1) ++ [pg]) := by show _ = _; have hTt := HTD0.out; rw [hd] at hTt; simpa using hTt
        obtain ⟨⟨ea, el, ec⟩, W4, hrun4, hT4, hf4⟩ := T3.out.appB (by have := BK3.out.lt; omega) pg (by
          have h1 := List.length_filter_le (fun z : SS => z.1.2.dirty) (ls.take j)
          rw [List.length_take] at h1
          rw [List.length_map]
          have := HLS.out
          omega)
        have BK4 : Hid (RBlk W4 w.heap.size d Ld v h ⟨some ⟨b, off, none⟩, sl, sc⟩ sy) := BK3.out.keep (hf4.block _ BK3.out.lt (by omega))
        have T4 : Hid (Two w W4 ⟨ca, cl, cc⟩ ⟨ea, el, ec⟩ ((ls.take (j + 1)).map (fun z => z.1.1)) (((ls.take (j + 1)).filter (fun z => z.1.2.dirty)).map (fun z => z.1.1))) := by
          rw [HTD.out]
          exact hT4
        have HRUN4 := hide hrun4
        simp only [Sl.val] at HRUN4
        clear hrun4 hT4 hf4
        clear hd
        go_wp2_with (first | refine wpList_app _ rfl 57 (.tmp 16) (.tmp 23) rfl (.slice aa al ac) (.slice (some ⟨wr.heap.size, 0, none⟩) 1 1) rfl rfl (.slice ca cl cc) W3 HRUN3.out ?_ | refine wpList_app _ rfl 57 (.tmp 31) (.tmp 38) rfl (.slice ba bl bc) (.slice (some ⟨W3.heap.size, 0, none⟩) 1 1) rfl rfl (.slice ea el ec) W4 HRUN4.out ?_)
        go_roundw
        case rel => exact ⟨j + 1, ⟨ca, cl, cc⟩, ⟨ea, el, ec⟩, by omega, by go_num, rfl, rfl, BK4, T4⟩
        case measure => simp only [intOf]; omega
    · have i1 : ¬ ((j : Nat) : Int) < ((sl : Nat) : Int) := by omega
      have hje : (ls.take j) = ls := List.take_of_length_le (by rw [HL.out]; omega)
      rw [hje] at hTr
      clear hje
      go_wp2_with fail
      go_ret2
      exact ⟨hTr.out.e, ⟨aa, al, ac⟩, ⟨ba, bl, bc⟩, rfl, hTr.out.oa, hTr.out.ob, fun k hk => Nat.le_of_lt (hTr.out.fa k hk), fun k hk => Nat.le_of_lt (hTr.out.fb k hk)⟩
end Go.Proofs.YtcaaiihjolnkgaaGreat
