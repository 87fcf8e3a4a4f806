/-
  Which cells a page is, by the document.
-/
import Derived.Test.YtnhhapipadiffaaCeE
import Derived.Test.YtnhhapipadiffaaUrG
namespace Go.Proofs.Ytnhhapipadiffaa
open Go.RowKit

/-- The document's Decode of a cell's bytes: what is none is the empty undoing. -/
theorem refCell_any (c : List Nat) (a : Option Addr) (cap : Nat) (w : World) (h : Came w a (c.getD 0 0) cap ((c.drop 1).take (c.getD 0 0))) (hl : c.getD 0 0 ≤ 71) :
    Calls Try.prog 27 #[.slice a (c.getD 0 0) cap] w fun e w' => Below w.heap.size w w' ∧ ∃ (x : Ux) (k : Bool), e = .returned (.tuple #[x.val, .bool k]) ∧ x.u = cellD c ∧ x.u.fits ∧ ∀ w0, Col w0 w' x := by
  refine (refDecodeU_any a _ cap _ w h (by omega)).mono ?_
  rintro e w' ⟨hb, hn, hs⟩
  refine ⟨hb, ?_⟩
  unfold cellD
  cases hd : decU ((c.drop 1).take (c.getD 0 0)) with
  | none => exact ⟨Ux.zero, false, hn hd, rfl, zeroU_fits, fun w0 => Col.zero _ _⟩
  | some u =>
    obtain ⟨hf, xa, xn, xc, he, hfs, ho⟩ := hs u hd
    exact ⟨⟨u, xa, xn, xc⟩, true, he, rfl, hf, fun w0 => Col.owns ho hfs⟩

/-- The first k cells, as the document reads them. -/
def cellsD (t : List Nat) (k : Nat) : List Un := (List.range k).map fun j => cellD (pieceC t j)

theorem cellsD_succ (t : List Nat) (k : Nat) : cellsD t (k + 1) = cellsD t k ++ [cellD (pieceC t k)] := by
  unfold cellsD
  rw [List.range_succ, List.map_append]
  rfl

theorem cellsD_get (t : List Nat) (j k : Nat) (h : j < k) : (cellsD t k).getD j zeroU = cellD (pieceC t j) := by
  unfold cellsD
  simp [List.getD, h]

theorem ReadC.isD {t : List Nat} {l : List Un} (h : ReadC t l) : l = cellsD t 6 := by
  rw [six_form h.six, six_form (l := cellsD t 6) (by simp [cellsD])]
  have e : ∀ i, i < 6 → l.getD i zeroU = (cellsD t 6).getD i zeroU := fun i hi => by
    rw [cellsD_get t i 6 hi]
    exact (cellR_D (h.cell i hi)).1
  rw [e 0 (by omega), e 1 (by omega), e 2 (by omega), e 3 (by omega), e 4 (by omega), e 5 (by omega)]

theorem piece_at {xs : List Nat} (i : Nat) : pieceC (xs.drop 4) i = (xs.drop (5 + 72 * i)).take 72 := by
  unfold pieceC
  rw [List.drop_drop, show 4 + (1 + 72 * i) = 5 + 72 * i by omega]

theorem sealed_text {xs : List Nat} {t : List Nat} (h : fourB (Ta.sum t) ++ t = xs) : xs.drop 4 = t := by
  rw [← h]
  rfl

set_option maxHeartbeats 8000000 in
set_option maxRecDepth 100000 in
theorem refDecodeC_any (pa : Option Addr) (pl pc : Nat) (xs : List Nat) (w : World) (hc : Came w pa pl pc xs) (hl : pl ≤ 100000) :
    Calls Try.prog 13 #[.slice pa pl pc] w (CeTold xs w) := by
  have HC := hide hc
  have HXL := hide hc.bs.1
  have HXB : Hid (Bytes xs) := hc.bs.2.1
  have HLE := hide hc.le
  by_cases h512 : pl = 512
  · subst h512
    have HL512 : Hid (xs.length = 512) := HXL.out
    clear hc hl
    go_enter Try.func13, Try.ntmps13
    go_wp2_with fail
    refine Pl.region_is (ops := Pl.find 3 ((Try.f13.body).getD .skip)) (by kernel_rfl) ?_
    by_cases hz : xs = nul512
    · refine rdc3a w w pa 512 pc xs HC.out hz (Below.refl _ _) (by rfl) (by rfl) (by rfl) ?_
      intro u w1 hb1
      simp only [Act.put, List.setIfInBounds_toArray, List.set_cons_zero, List.set_cons_succ]
      have HU := hide (Ud.six w w1 hb1)
      have HMk := hide (make_six w1)
      have HP : Hid (PgSays xs (uns (List.replicate 6 Ux.zero)) 0) := PgSays.none hz
      clear hb1 hz
      generalize w1.alloc (.cells (cellsU (List.replicate 6 Ux.zero)).toArray 30) = W at *
      go_wp2_with (refine wpList_make _ rfl 22 (.const (.int .i64 6)) (.const (.int .i64 6)) rfl (.int .i64 6) (.int .i64 6) (.slice (some ⟨w1.heap.size, 0, none⟩) 6 6) rfl rfl W HMk.out ?_)
      go_ret2
      exact ⟨⟨some ⟨w1.heap.size, 0, none⟩, 6, 6⟩, _, 0, rfl, HU.out, HP.out⟩
    · have hne : ¬ (bstr xs).toList = (bstr nul512).toList := beq_eq_false_iff_ne.1 (str_ne HXB.out nul512_bytes hz)
      have HNZ := hide hz
      refine rdc3b w w pa 512 pc xs HC.out hne (Below.refl _ _) (by rfl) (by rfl) (by rfl) ?_
      intro u w1 hb1
      simp only [Act.put, List.setIfInBounds_toArray, List.set_cons_zero, List.set_cons_succ]
      have HW1 := hide hb1
      clear hb1 hne hz
      go_wp2_with fail
      refine Pl.region_is (ops := Pl.find 5 ((Try.f13.body).getD .skip)) (by kernel_rfl) ?_
      have hdb : Ta.Bytes (xs.drop 4) := fun x hx => HXB.out x (List.mem_of_mem_drop hx)
      by_cases hsl : Sealed xs
      · refine rdc5a w1 w1 pa 512 pc xs (HC.out.keep HW1.out (Nat.le_refl _)) (by decide) (by decide) hdb hsl (Below.refl _ _) (by rfl) (by rfl) (by rfl) ?_
        intro u2 w2 hb2
        simp only [Act.put, List.setIfInBounds_toArray, List.set_cons_zero, List.set_cons_succ]
        have HW2 := hide (rBelow HW1.out hb2)
        have HSL := hide hsl
        have HDB := hide hdb
        have HU0 := hide (Ud.new0 w w2 HW2.out)
        obtain ⟨t, ht⟩ : ∃ t, t = xs.drop 4 := ⟨_, rfl⟩
        have HTX := hide ht
        have HTL : Hid (t.length = 508) := by show _ = _; rw [ht, List.length_drop, HL512.out]
        have HTB : Hid (Bytes t) := by show Bytes t; rw [ht]; exact hdb
        clear hb2 hsl hdb ht
        go_wp2_with fail
        go_loopw [4, 5] (fun v iv wr => ∃ (i : Nat) (s : Sl) (l : List Ux), i ≤ 6 ∧ iv = .int .i64 (i : Nat) ∧ v = .slice s.a s.len s.cap ∧ Hid (Ud w wr s l) ∧ Hid (uns l = cellsD t i) ∧ Hid (∀ j, j < i → (pieceC t j).getD 0 0 ≤ 71)) (fun _ iv _ => 6 - (intOf iv).toNat)
        case atStart => exact ⟨0, _, [], Nat.zero_le _, rfl, rfl, HU0, rfl, fun j hj => by omega⟩
        case round =>
          obtain ⟨i, s, l, hi, rfl, rfl, hud, hul, hsm⟩ := hrel
          rcases Nat.lt_or_ge i 6 with hlt | hge
          · have j1 : ((i : Nat) : Int) < 6 := by omega
            have hcw := HC.out.keep hud.out.below (Nat.le_refl _)
            have hbm := hcw.bs.mid (k := 5 + 72 * i) (j := 77 + 72 * i) (cap := pc) (by omega) (by omega) HLE.out
            rw [show 77 + 72 * i - (5 + 72 * i) = 72 by omega, ← piece_at, ← HTX.out] at hbm
            have hsl1 := slice_mid pa 512 pc (5 + 72 * i) (77 + 72 * i) (by omega) (by omega) HLE.out wr
            rw [show 77 + 72 * i - (5 + 72 * i) = 72 by omega, show ((5 + 72 * i : Nat) : Int) = 5 + 72 * (i : Int) by omega, show ((77 + 72 * i : Nat) : Int) = 77 + 72 * (i : Int) by omega] at hsl1
            obtain ⟨ca, hca⟩ : ∃ ca, ca = fromA pa pc (5 + 72 * i) := ⟨_, rfl⟩
            obtain ⟨cc, hcc⟩ : ∃ cc, cc = pc - (5 + 72 * i) := ⟨_, rfl⟩
            rw [← hca] at hbm hsl1
            rw [← hcc] at hsl1
            have hcc72 : 72 ≤ cc := by have := HLE.out; omega
            obtain ⟨c, hce⟩ : ∃ c, c = pieceC t i := ⟨_, rfl⟩
            rw [← hce] at hbm
            obtain ⟨cb, co, rfl, hcell0⟩ := hbm.2.2 0 (by omega)
            rw [Nat.add_zero] at hcell0
            have hc256 : c.getD 0 0 < 256 := getD_lt hbm.2.1 0
            have HBM := hide hbm
            have HSL1 := hide hsl1
            have HCE := hide hce
            obtain ⟨n, hn⟩ : ∃ n, n = c.getD 0 0 := ⟨_, rfl⟩
            rw [← hn] at hcell0 hc256
            have HN := hide hn
            clear hcw hbm hsl1 hca hcc hce hn
            by_cases h71 : 71 < n
            · have j2 : (71 : Int) < ((n : Nat) : Int) := by omega
              have HP : Hid (PgSays xs (uns []) 4) := PgSays.text HL512.out HNZ.out HSL.out (fun L hL => by
                rw [← HTX.out] at hL
                have := (cellR_D (hL.cell i hlt)).2
                rw [← HCE.out, ← HN.out] at this
                omega)
              have HBW := hide hud.out.below
              clear hud hul hsm
              go_wp2_with (refine wpList_slice _ rfl 32 (.tmp 30) (some (.tmp 33)) (some (.tmp 36)) rfl (.slice (some ⟨cb, co, none⟩) 72 cc) HSL1.out ?_)
              go_ret2
              exact ⟨Sl.nil, [], 4, rfl, Ud.nil _ _ HBW.out, HP.out⟩
            · have j2 : ¬ (71 : Int) < ((n : Nat) : Int) := by omega
              have hn71 : n ≤ 71 := by omega
              have hcm : Came wr (some ⟨cb, co, none⟩) 72 cc c := ⟨HBM.out, (fun e => by cases e), hcc72, by decide⟩
              have hsl2 := slice_mid (some ⟨cb, co, none⟩) 72 cc 1 (1 + n) (by omega) (by omega) hcc72 wr
              have hbm2 := HBM.out.mid (k := 1) (j := 1 + n) (cap := cc) (by omega) (by omega) hcc72
              rw [show 1 + n - 1 = n by omega] at hsl2 hbm2
              rw [show ((1 + n : Nat) : Int) = 1 + (n : Int) by omega] at hsl2
              have hcm2 : Came wr (fromA (some ⟨cb, co, none⟩) cc 1) n (cc - 1) ((c.drop 1).take n) := ⟨hbm2, (fun e => by unfold fromA at e; split at e <;> cases e), by omega, by omega⟩
              obtain ⟨da, hda⟩ : ∃ da, da = fromA (some ⟨cb, co, none⟩) cc 1 := ⟨_, rfl⟩
              obtain ⟨dc, hdc⟩ : ∃ dc, dc = cc - 1 := ⟨_, rfl⟩
              rw [← hda, ← hdc] at hsl2 hcm2
              have HDC := hide (refCell_any c da dc wr (by rw [← HN.out]; exact hcm2) (by rw [← HN.out]; exact hn71))
              rw [← HN.out] at HDC
              have hsl2' : (Instr.sliceAt 32 (.slice (some ⟨cb, co, none⟩) 72 cc) (some (.int .i64 1)) (some (.int .i64 (1 + (n : Int)))) none).run Try.prog wr = .ok (.slice da n dc) wr := hsl2
              have HSL2 := hide hsl2'
              clear hcm hsl2 hbm2 hcm2 hda hdc hsl2'
              go_wp2_with (first | refine wpList_slice _ rfl 32 (.tmp 30) (some (.tmp 33)) (some (.tmp 36)) rfl (.slice (some ⟨cb, co, none⟩) 72 cc) HSL1.out ?_ | refine wpList_slice _ rfl 32 (.tmp 43) (some (.const (.int .i64 1))) (some (.tmp 48)) rfl (.slice da n dc) HSL2.out ?_)
              refine HDC.out.mono ?_
              rintro e w4 ⟨hb4, x, kk, rfl, hxu, hxf, hxc⟩
              have hud4 := hud.out.keep hb4
              obtain ⟨w5, hst5, hx5, hb5⟩ := box_un w4 x.u x.a x.n x.c
              have hud5 := hud4.keep hb5
              have hlen : l.length ≤ 6 := by
                have := congrArg List.length hul.out
                rw [uns_len] at this
                simp [cellsD] at this
                omega
              obtain ⟨s6, w6, hr6, hud6⟩ := hud5.one x ((hxc w).keep hb5) hxf (by omega)
              have HST5 := hide hst5
              have HLD5 := hide (load_un _ _ _ ⟨_, _, _, rfl⟩ _ hx5)
              have HR6 := hide hr6
              have HU6 := hide hud6
              have HUL6 : Hid (uns (l ++ [x]) = cellsD t (i + 1)) := by
                show _ = _
                rw [cellsD_succ, ← hul.out, ← HCE.out, ← hxu]
                simp [uns]
              have HSM6 : Hid (∀ j, j < i + 1 → (pieceC t j).getD 0 0 ≤ 71) := fun j hj => by
                by_cases e : j = i
                · rw [e, ← HCE.out, ← HN.out]; exact hn71
                · exact hsm.out j (by omega)
              obtain ⟨sa, sn, sc⟩ := s
              obtain ⟨sa6, sn6, sc6⟩ := s6
              unfold Sl.val at HR6
              unfold Un.val at HLD5
              simp only at HR6 HLD5
              have hxv : x.u.val (.slice x.a x.n x.c) = x.val := rfl
              rw [hxv] at HST5
              clear hb4 hxu hxf hxc hud4 hst5 hx5 hb5 hud5 hlen hr6 hud6 hud hul hsm HDC HSL1 HSL2 hxv
              go_wp2_with (first | refine wpList_alloc _ rfl 30 rfl (.pointer (some ⟨w4.heap.size, 0, none⟩)) (w4.alloc (.cells #[.int .i64 0, .int .i64 0, .int .i64 0, .int .i64 0, .int .i64 0, .int .i64 0, .float .f64 0, .bool false, .slice none 0 0, .int .i64 0, .int .i64 0, .int .i64 0] 30)) (alloc_un w4) ?_ | refine wpList_store _ rfl rfl 30 (.tmp 7) (.tmp 51) rfl (.pointer (some ⟨w4.heap.size, 0, none⟩)) x.val rfl rfl w5 HST5.out ?_ | refine wpList_load _ rfl 30 (.tmp 7) rfl (.pointer (some ⟨w4.heap.size, 0, none⟩)) (.agg #[.int .i64 x.u.tx, .int .i64 x.u.no, .int .i64 x.u.prev, .int .i64 x.u.kind, .int .i64 x.u.page, .int .i64 x.u.slot, .float .f64 x.u.row.key, .bool x.u.row.dead, .slice x.a x.n x.c, .int .i64 x.u.row.wr, .int .i64 x.u.row.cell, .int .i64 x.u.row.no]) rfl HLD5.out ?_ | (at_builtin; refine wpList_append_run _ rfl 22 (.tmp 53) (.tmp 55) rfl (.slice sa sn sc) (.slice (some ⟨w5.heap.size, 0, none⟩) 1 1) (.slice sa6 sn6 sc6) rfl rfl w6 HR6.out ?_))
              go_roundw
              case rel => exact ⟨i + 1, ⟨sa6, sn6, sc6⟩, _, by omega, by go_num, rfl, HU6, HUL6, HSM6⟩
              case measure => simp only [intOf]; omega
          · have e6 : i = 6 := by omega
            have hul6 := hul.out
            rw [e6] at hul6
            have hs6 : s.len = 6 := by
              rw [← hud.out.len]
              have := congrArg List.length hul6
              rw [uns_len] at this
              simpa [cellsD] using this
            obtain ⟨sa, sn, sc⟩ := s
            simp only at hs6
            subst hs6
            have hus := hud.out.us
            have hcw := HC.out.keep hud.out.below (Nat.le_refl _)
            have HUD := hide hud.out
            have HUL6 := hide hul6
            have HFits : Hid (∀ v ∈ uns l, v.fits) := fun v hv => by
              obtain ⟨y, hy, rfl⟩ := List.mem_map.1 hv
              exact HUD.out.fits y hy
            have j1 : ¬ ((i : Nat) : Int) < 6 := by omega
            have HUS := hide hus
            have HCW := hide hcw
            clear hud hul hsm hul6 hus hcw e6
            go_wp2_with fail
            refine Pl.region_is (ops := Pl.find 16 ((Try.f13.body).getD .skip)) (by kernel_rfl) ?_
            cases hm : MayC (uns l)
            · have HP : Hid (PgSays xs (uns []) 4) := PgSays.text HL512.out HNZ.out HSL.out (fun L hL => by
                rw [← HTX.out] at hL
                have h1 := (hL.text HTB.out HTL.out).2.1
                rw [hL.isD, ← HUL6.out, hm] at h1
                cases h1)
              refine rdc16a wr wr pa 512 pc xs HCW.out sa sc l HUS.out hm (Below.refl _ _) (by rfl) (by rfl) (by rfl) (by rfl) ?_
              intro u3 w7 hb7
              simp only [Act.put, List.setIfInBounds_toArray, List.set_cons_zero, List.set_cons_succ]
              have HB7 := hide (rBelow HUD.out.below hb7)
              clear hb7 hm
              go_wp2_with fail
              go_ret2
              exact ⟨Sl.nil, [], 4, rfl, Ud.nil _ _ HB7.out, HP.out⟩
            · by_cases hpx : fourB (Ta.sum (textC (uns l))) ++ textC (uns l) = xs
              · have HP : Hid (PgSays xs (uns l) 0) := PgSays.some HL512.out HNZ.out HSL.out (uns l) (by
                  rw [sealed_text hpx]
                  exact text_read hm HFits.out)
                refine rdc16c wr wr pa 512 pc xs HCW.out sa sc l HUS.out hm hpx (Below.refl _ _) (by rfl) (by rfl) (by rfl) (by rfl) ?_
                intro u3 w7 hb7
                simp only [Act.put, List.setIfInBounds_toArray, List.set_cons_zero, List.set_cons_succ]
                have HU7 := hide (HUD.out.keep hb7)
                clear hb7 hm hpx
                go_wp2_with fail
                go_ret2
                exact ⟨⟨sa, 6, sc⟩, l, 0, rfl, HU7.out, HP.out⟩
              · have HP : Hid (PgSays xs (uns []) 4) := PgSays.text HL512.out HNZ.out HSL.out (fun L hL => by
                  have hL' := hL
                  rw [← HTX.out] at hL'
                  have h1 := (hL'.text HTB.out HTL.out).1
                  rw [hL'.isD, ← HUL6.out] at h1
                  apply hpx
                  rw [h1, HTX.out]
                  exact HSL.out)
                have hne : ¬ (bstr (fourB (Ta.sum (textC (uns l))) ++ textC (uns l))).toList = (bstr xs).toList := beq_eq_false_iff_ne.1 (str_ne (sealed_bytes (textC_bytes hm)) HXB.out hpx)
                refine rdc16b wr wr pa 512 pc xs HCW.out sa sc l HUS.out hm hne (Below.refl _ _) (by rfl) (by rfl) (by rfl) (by rfl) ?_
                intro u3 w7 hb7
                simp only [Act.put, List.setIfInBounds_toArray, List.set_cons_zero, List.set_cons_succ]
                have HB7 := hide (rBelow HUD.out.below hb7)
                clear hb7 hm hpx hne
                go_wp2_with fail
                go_ret2
                exact ⟨Sl.nil, [], 4, rfl, Ud.nil _ _ HB7.out, HP.out⟩
      · have HP : Hid (PgSays xs (uns []) 5) := PgSays.sum HL512.out HNZ.out hsl
        have hne : ¬ (bstr (fourB (Ta.sum (xs.drop 4)) ++ xs.drop 4)).toList = (bstr xs).toList := beq_eq_false_iff_ne.1 (str_ne (sealed_bytes hdb) HXB.out hsl)
        refine rdc5b w1 w1 pa 512 pc xs (HC.out.keep HW1.out (Nat.le_refl _)) (by decide) (by decide) hdb hne (Below.refl _ _) (by rfl) (by rfl) (by rfl) ?_
        intro u2 w2 hb2
        simp only [Act.put, List.setIfInBounds_toArray, List.set_cons_zero, List.set_cons_succ]
        have HB2 := hide (rBelow HW1.out hb2)
        clear hb2 hsl hne hdb
        go_wp2_with fail
        go_ret2
        exact ⟨Sl.nil, [], 5, rfl, Ud.nil _ _ HB2.out, HP.out⟩
  · have HP : Hid (PgSays xs (uns []) 1) := PgSays.arg (by rw [HXL.out]; exact h512)
    have i1 : (((pl : Nat) : Int) != 512) = true := by simp; omega
    have i2 : ¬ ((pl : Nat) : Int) = 512 := by omega
    clear hc
    go_enter Try.func13, Try.ntmps13
    go_wp2_with fail
    go_ret2
    exact ⟨Sl.nil, [], 1, rfl, Ud.nil _ _ (Below.refl _ _), HP.out⟩

end Go.Proofs.Ytnhhapipadiffaa
