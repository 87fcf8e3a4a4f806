/-
  Layer 6: images behind a group, by the document.
-/
import Derived.Test.YtjgeiooblcpiaaaApF
namespace Go.Proofs.Ytjgeiooblcpiaaa
open Go.RowKit

/-- What the document's Apply leaves. -/
def RApplyPost (w : World) (g : List Im) (e : Ending) (w' : World) : Prop := ∃ (v : Sl) (l : List Ix), e = .returned v.val ∧ Gr (fun _ => True) w' v l ∧ ims l = g ∧ Below w.heap.size w w'

theorem ims_put : ∀ (l : List Ix) (m : Ix), ims (Ap.put Ix.page l m) = Ap.put Im.page (ims l) m.im
  | [], _ => rfl
  | x :: r, m => by
    have ih := ims_put r m
    show ims (if m.page ≤ x.page then (if x.page = m.page then m :: r else m :: x :: r) else x :: Ap.put Ix.page r m) = (if m.page ≤ x.page then (if x.page = m.page then m.im :: ims r else m.im :: x.im :: ims r) else x.im :: Ap.put Im.page (ims r) m.im)
    split
    · split
      · rfl
      · rfl
    · show x.im :: ims (Ap.put Ix.page r m) = _
      rw [ih]
theorem ims_foldput : ∀ (g s : List Ix), ims (g.foldl (Ap.put Ix.page) s) = (ims g).foldl (Ap.put Im.page) (ims s)
  | [], _ => rfl
  | m :: r, s => by
    rw [List.foldl_cons, ims_foldput r, ims_put]
    rfl
theorem steep_ims : ∀ {l : List Ix}, Ap.Steep Im.page (ims l) → Ap.Steep Ix.page l
  | [], _ => trivial
  | _ :: _, h => ⟨fun y hy => h.1 y.im (List.mem_map.2 ⟨y, hy, rfl⟩), steep_ims h.2⟩

set_option maxHeartbeats 8000000 in
set_option maxRecDepth 100000 in
theorem rapply_any {D E : Nat → Prop} (w : World) (v1 v2 : Sl) (l1 l2 : List Ix) (h1 : Gr D w v1 l1) (h2 : Gr E w v2 l2) (hm : v1.len + v2.len ≤ 1000) (hs : Ap.Steep Ix.page l1) :
    Calls Try.prog 20 #[v1.val, v2.val] w fun e w' => RApplyPost w ((ims l2).foldl (Ap.put Im.page) (ims l1)) e w' := by
  obtain ⟨a1, n1, k1⟩ := v1
  obtain ⟨a2, n2, k2⟩ := v2
  replace hm : n1 + n2 ≤ 1000 := hm
  have hl1 : l1.length = n1 := h1.len
  have hl2 : l2.length = n2 := h2.len
  have HL2 := hide hl2
  have HG1 : Hid (Gr (fun _ => True) w ⟨a1, n1, k1⟩ l1) := h1.mono (fun _ _ _ => trivial)
  have HG2 : Hid (Gr (fun _ => True) w ⟨a2, n2, k2⟩ l2) := h2.mono (fun _ _ _ => trivial)
  have HS := hide hs
  have HL1 := hide hl1
  have HR := hide (Below.refl w.heap.size w)
  clear h1 h2 hl1 hl2 hs
  unfold Sl.val
  simp only
  go_enter Try.func20, Try.ntmps20
  go_wp2_with fail
  go_loopw [0, 5] (fun pv iv wr => ∃ (i : Nat) (v : Sl), i ≤ n2 ∧ iv = .int .i64 (i : Nat) ∧ pv = v.val ∧ Hid (Gr (fun _ => True) wr v ((l2.take i).foldl (Ap.put Ix.page) l1)) ∧ Hid (Below w.heap.size w wr)) (fun _ iv _ => 2000 - (intOf iv).toNat)
  case atStart => exact ⟨0, ⟨a1, n1, k1⟩, by omega, rfl, rfl, HG1, HR⟩
  case round =>
    obtain ⟨i, ⟨va, vl, vc⟩, hi, rfl, rfl, hgv, hW⟩ := hrel
    unfold Sl.val
    simp only
    rcases Nat.lt_or_ge i n2 with hlti | hge
    · have i1 : ((i : Nat) : Int) < ((n2 : Nat) : Int) := by omega
      have hil : i < l2.length := by rw [HL2.out]; exact hlti
      obtain ⟨l, hl⟩ : ∃ l, l = (l2.take i).foldl (Ap.put Ix.page) l1 := ⟨_, rfl⟩
      obtain ⟨x, hx⟩ : ∃ x, x = l2.getD i Ix.zero := ⟨_, rfl⟩
      have HV : Hid (Gr (fun _ => True) wr ⟨va, vl, vc⟩ l) := by rw [hl]; exact hgv.out
      have HV2 := hide (HG2.out.below hW.out (Nat.le_refl _))
      have HLN : Hid (l.length = vl) := HV.out.len
      have hvl : vl ≤ 1000 := by
        have h9 := Ap.fold_len Ix.page (l2.take i) l1
        rw [← hl, HLN.out, HL1.out, List.length_take, HL2.out] at h9
        omega
      have HSP : Hid (Ap.Steep Ix.page l) := by rw [hl]; exact Ap.fold_steep Ix.page _ HS.out
      have HX := hide hx
      have HCX : Hid (Cm (fun _ => True) wr x.s x.bs) := by rw [hx]; exact HV2.out.at (i := i) hlti
      have HNL : Hid (Ap.put Ix.page l x = (l2.take (i + 1)).foldl (Ap.put Ix.page) l1) := by
        show _ = _
        have e : l2.getD i Ix.zero = l2[i] := by simp [List.getD, hil]
        rw [List.take_succ_eq_append_getElem hil, List.foldl_append, ← hl, hx, e]
        rfl
      have HP0 : Hid (PutInv wr (wr.alloc (.cells #[] 28)) ⟨some ⟨wr.heap.size, 0, none⟩, 0, 0⟩ []) := ⟨GI.new _ _ wr (Nat.le_refl _), below_alloc wr _⟩
      clear hgv hl hx hil
      go_wp2_with fail
      rename World => wo
      go_loopw [6, 7, 8] (fun ov pv kv wz => ∃ (k : Nat) (o : Sl) (lo : List Ix) (pb : Bool), k ≤ vl ∧ ov = o.val ∧ pv = .bool pb ∧ kv = .int .i64 (k : Nat) ∧ Hid (PutInv wo wz o lo) ∧ Hid (PutAt l x pb lo k) ∧ o.len ≤ 2 * k + 1) (fun _ _ kv _ => 2000 - (intOf kv).toNat)
      case atStart => exact ⟨0, ⟨some ⟨wo.heap.size, 0, none⟩, 0, 0⟩, [], false, by omega, rfl, rfl, rfl, HP0, hide (PutAt.start l x), by show 0 ≤ 2 * 0 + 1; omega⟩
      case round =>
        obtain ⟨k, ⟨oa, ol, oc⟩, lo, pb, hk, rfl, rfl, rfl, HPI, HPA, hol⟩ := hrel
        replace hol : ol ≤ 2 * k + 1 := hol
        unfold Sl.val
        simp only
        rcases Nat.lt_or_ge k vl with hlt | hge
        · skip
          have hlt2 : i < n2 := by omega
          have hyk : k < l.length := by rw [HLN.out]; exact hlt
          have i2 : ((k : Nat) : Int) < ((vl : Nat) : Int) := by omega
          obtain ⟨y, hy⟩ : ∃ y, y = l.getD k Ix.zero := ⟨_, rfl⟩
          have HCY : Hid (Cm (fun _ => True) wo y.s y.bs) := by rw [hy]; exact HV.out.at (i := k) hlt
          have HCL : Hid (∀ wx, Below wo.heap.size wo wx → ∃ b o c z, va = some ⟨b, o, none⟩ ∧ a2 = some ⟨c, z, none⟩ ∧ wx.cell? ⟨b, o + k * 2, none⟩ = some (.int .i64 y.page) ∧ wx.cell? ⟨b, o + k * 2 + 1, none⟩ = some y.s.val ∧ wx.cell? ⟨c, z + i * 2, none⟩ = some (.int .i64 x.page) ∧ wx.cell? ⟨c, z + i * 2 + 1, none⟩ = some x.s.val) := by
            intro wx hbx
            obtain ⟨b, o, e1, c0, c1⟩ := (HV.out.below hbx (Nat.le_refl _)).cell k hlt
            obtain ⟨c, z, e2, d0, d1⟩ := (HV2.out.below hbx (Nat.le_refl _)).cell i hlt2
            rw [← hy] at c0 c1
            rw [← HX.out] at d0 d1
            exact ⟨b, o, c, z, e1, e2, c0, c1, d0, d1⟩
          obtain ⟨b, o, c, z, e1, e2, _, _, _, _⟩ := HCL.out wr HPI.out.2
          subst e1
          subst e2
          replace HCL : Hid (∀ wx, Below wo.heap.size wo wx → (wx.cell? ⟨b, o + k * 2, none⟩ = some (.int .i64 y.page) ∧ wx.cell? ⟨b, o + k * 2 + 1, none⟩ = some y.s.val) ∧ (wx.cell? ⟨c, z + i * 2, none⟩ = some (.int .i64 x.page) ∧ wx.cell? ⟨c, z + i * 2 + 1, none⟩ = some x.s.val)) := by
            intro wx hbx
            obtain ⟨b', o', c', z', e1, e2, h1, h2, h3, h4⟩ := HCL.out wx hbx
            simp only [Option.some.injEq, Addr.mk.injEq, and_true] at e1 e2
            obtain ⟨rfl, rfl⟩ := e1
            obtain ⟨rfl, rfl⟩ := e2
            exact ⟨⟨h1, h2⟩, h3, h4⟩
          have hTP : ∀ wx, Below wo.heap.size wo wx → TwoP b o c z k i x y wx := fun wx hbx => ⟨(HCL.out wx hbx).1.1, (HCL.out wx hbx).2.1⟩
          have HTP := hide hTP
          have HYK := hide (And.intro hyk hy)
          clear hTP hy hyk
          cases pb
          · by_cases hc : x.page ≤ y.page
            · have HR9 := hide (fun Q A => @rap9B wr b o c z vl vc n2 k2 k i x y (HTP.out _ (rBelow HPI.out.2 (below_drew wr))) hlt hlt2 hc Q A)
              go_wp2_with fail
              refine Pl.region_is (ops := Pl.find 9 ((Try.f20.body).getD .skip)) (by kernel_rfl) ?_
              refine HR9.out _ _ (by rfl) rfl (by rfl) (by rfl) (by rfl) (by rfl) (by rfl) ?_
              rintro uu w5 hw5
              simp only [Act.put, List.setIfInBounds_toArray, List.set_cons_zero, List.set_cons_succ]
              have HPI5 : Hid (PutInv wo w5 ⟨oa, ol, oc⟩ lo) := by rw [hw5]; exact HPI.out.step (below_drew wr)
              clear hw5 HR9 HPI
              obtain ⟨⟨_, _⟩, d0, d1⟩ := HCL.out w5 HPI5.out.2
              obtain ⟨q, ⟨xa, xl, xc⟩, xb⟩ := x
              replace d0 : w5.cell? ⟨c, z + i * 2, none⟩ = some (.int .i64 q) := d0
              replace d1 : w5.cell? ⟨c, z + i * 2 + 1, none⟩ = some (.slice xa xl xc) := d1
              have i3 : ((i : Nat) : Int) < ((n2 : Nat) : Int) := by omega
              go_wp2_with (at_builtin; refine wpList_append_im w5 ⟨q, ⟨xa, xl, xc⟩, xb⟩ rfl (.tmp 37) (.tmp 42) rfl ⟨oa, ol, oc⟩ lo rfl rfl HPI5.out.own (by show ol + 1 ≤ 1000000; omega) ?_)
              intro o6 w6 ho6 hl6 hf6 hb6
              have HPI6 : Hid (PutInv wo w6 o6 (lo ++ [⟨q, ⟨xa, xl, xc⟩, xb⟩])) := HPI5.out.add (x := ⟨q, ⟨xa, xl, xc⟩, xb⟩) HCX.out ho6 hf6 hb6
              obtain ⟨oa6, ol6, oc6⟩ := o6
              replace hl6 : ol6 = ol + 1 := hl6
              have hol6 : ol6 ≤ 2 * k + 2 := by omega
              clear ho6 hf6 hb6 HPI5 d0 d1 hl6
              unfold Sl.val
              simp only
              by_cases hne : y.page ≠ q
              · have HR12 := hide (fun Q A => @rap12A w6 b o c z vl vc n2 k2 k i ⟨q, ⟨xa, xl, xc⟩, xb⟩ y (HTP.out _ (rBelow HPI6.out.2 (below_drew w6))) hlt hlt2 hne Q A)
                have HPN : Hid (PutAt l ⟨q, ⟨xa, xl, xc⟩, xb⟩ true (lo ++ [⟨q, ⟨xa, xl, xc⟩, xb⟩] ++ [y]) (k + 1)) := by
                  have h9 := HPA.out.over HSP.out HYK.out.1 (by rw [← HYK.out.2]; show q < y.page; have : q ≤ y.page := hc; omega)
                  rw [← HYK.out.2] at h9
                  exact h9
                go_wp2_with fail
                refine Pl.region_is (ops := Pl.find 12 ((Try.f20.body).getD .skip)) (by kernel_rfl) ?_
                refine HR12.out _ _ (by rfl) rfl (by rfl) (by rfl) (by rfl) (by rfl) ?_
                rintro u3 w7 hw7
                simp only [Act.put, List.setIfInBounds_toArray, List.set_cons_zero, List.set_cons_succ]
                have HPI7 : Hid (PutInv wo w7 ⟨oa6, ol6, oc6⟩ (lo ++ [⟨q, ⟨xa, xl, xc⟩, xb⟩])) := by rw [hw7]; exact HPI6.out.step (below_drew w6)
                clear hw7 HR12 HPI6
                obtain ⟨⟨c0, c1⟩, _, _⟩ := HCL.out w7 HPI7.out.2
                obtain ⟨r, ⟨ya, yl, yc⟩, yb⟩ := y
                replace c0 : w7.cell? ⟨b, o + k * 2, none⟩ = some (.int .i64 r) := c0
                replace c1 : w7.cell? ⟨b, o + k * 2 + 1, none⟩ = some (.slice ya yl yc) := c1
                go_wp2_with (at_builtin; refine wpList_append_im w7 ⟨r, ⟨ya, yl, yc⟩, yb⟩ rfl (.tmp 55) (.tmp 60) rfl ⟨oa6, ol6, oc6⟩ (lo ++ [⟨q, ⟨xa, xl, xc⟩, xb⟩]) rfl rfl HPI7.out.own (by show ol6 + 1 ≤ 1000000; omega) ?_)
                intro o8 w8 ho8 hl8 hf8 hb8
                have HPI8 := hide (HPI7.out.add (x := ⟨r, ⟨ya, yl, yc⟩, yb⟩) HCY.out (by rw [List.append_assoc]; exact ho8) hf8 hb8)
                obtain ⟨oa8, ol8, oc8⟩ := o8
                replace hl8 : ol8 = ol6 + 1 := hl8
                clear ho8 hf8 hb8 HPI7 c0 c1
                unfold Sl.val
                simp only
                go_wp2_with fail
                go_roundw
                case rel => exact ⟨k + 1, ⟨oa8, ol8, oc8⟩, _, true, by omega, rfl, rfl, by go_num, HPI8, HPN, by show ol8 ≤ 2 * (k + 1) + 1; omega⟩
                case measure => simp only [intOf]; omega
              · have HR12 := hide (fun Q A => @rap12B w6 b o c z vl vc n2 k2 k i ⟨q, ⟨xa, xl, xc⟩, xb⟩ y (HTP.out _ (rBelow HPI6.out.2 (below_drew w6))) hlt hlt2 hne Q A)
                have HPN : Hid (PutAt l ⟨q, ⟨xa, xl, xc⟩, xb⟩ true (lo ++ [⟨q, ⟨xa, xl, xc⟩, xb⟩]) (k + 1)) := by
                  have h9 := HPA.out.same HSP.out HYK.out.1 (by rw [← HYK.out.2]; exact Classical.not_not.1 hne)
                  exact h9
                go_wp2_with fail
                refine Pl.region_is (ops := Pl.find 12 ((Try.f20.body).getD .skip)) (by kernel_rfl) ?_
                refine HR12.out _ _ (by rfl) rfl (by rfl) (by rfl) (by rfl) (by rfl) ?_
                rintro u3 w7 hw7
                simp only [Act.put, List.setIfInBounds_toArray, List.set_cons_zero, List.set_cons_succ]
                have HPI7 : Hid (PutInv wo w7 ⟨oa6, ol6, oc6⟩ (lo ++ [⟨q, ⟨xa, xl, xc⟩, xb⟩])) := by rw [hw7]; exact HPI6.out.step (below_drew w6)
                clear hw7 HR12 HPI6
                go_wp2_with fail
                go_roundw
                case rel => exact ⟨k + 1, ⟨oa6, ol6, oc6⟩, _, true, by omega, rfl, rfl, by go_num, HPI7, HPN, by show ol6 ≤ 2 * (k + 1) + 1; omega⟩
                case measure => simp only [intOf]; omega
            · have HR9 := hide (fun Q A => @rap9C wr b o c z vl vc n2 k2 k i x y (HTP.out _ (rBelow HPI.out.2 (below_drew wr))) hlt hlt2 hc Q A)
              have HPN : Hid (PutAt l x false (lo ++ [y]) (k + 1)) := by
                have h9 := HPA.out.ahead HYK.out.1 (by rw [← HYK.out.2]; exact hc)
                rw [← HYK.out.2] at h9
                exact h9
              have hne : y.page ≠ x.page := by omega
              go_wp2_with fail
              refine Pl.region_is (ops := Pl.find 9 ((Try.f20.body).getD .skip)) (by kernel_rfl) ?_
              refine HR9.out _ _ (by rfl) rfl (by rfl) (by rfl) (by rfl) (by rfl) (by rfl) ?_
              rintro uu w5 hw5
              simp only [Act.put, List.setIfInBounds_toArray, List.set_cons_zero, List.set_cons_succ]
              have HPI5 : Hid (PutInv wo w5 ⟨oa, ol, oc⟩ lo) := by rw [hw5]; exact HPI.out.step (below_drew wr)
              clear hw5 HR9 HPI
              have HR12 := hide (fun Q A => @rap12A w5 b o c z vl vc n2 k2 k i x y (HTP.out _ (rBelow HPI5.out.2 (below_drew w5))) hlt hlt2 hne Q A)
              go_wp2_with fail
              refine Pl.region_is (ops := Pl.find 12 ((Try.f20.body).getD .skip)) (by kernel_rfl) ?_
              refine HR12.out _ _ (by rfl) rfl (by rfl) (by rfl) (by rfl) (by rfl) ?_
              rintro u3 w7 hw7
              simp only [Act.put, List.setIfInBounds_toArray, List.set_cons_zero, List.set_cons_succ]
              have HPI7 : Hid (PutInv wo w7 ⟨oa, ol, oc⟩ lo) := by rw [hw7]; exact HPI5.out.step (below_drew w5)
              clear hw7 HR12 HPI5
              obtain ⟨⟨c0, c1⟩, _, _⟩ := HCL.out w7 HPI7.out.2
              obtain ⟨r, ⟨ya, yl, yc⟩, yb⟩ := y
              replace c0 : w7.cell? ⟨b, o + k * 2, none⟩ = some (.int .i64 r) := c0
              replace c1 : w7.cell? ⟨b, o + k * 2 + 1, none⟩ = some (.slice ya yl yc) := c1
              go_wp2_with (at_builtin; refine wpList_append_im w7 ⟨r, ⟨ya, yl, yc⟩, yb⟩ rfl (.tmp 55) (.tmp 60) rfl ⟨oa, ol, oc⟩ lo rfl rfl HPI7.out.own (by show ol + 1 ≤ 1000000; omega) ?_)
              intro o8 w8 ho8 hl8 hf8 hb8
              have HPI8 := hide (HPI7.out.add (x := ⟨r, ⟨ya, yl, yc⟩, yb⟩) HCY.out ho8 hf8 hb8)
              obtain ⟨oa8, ol8, oc8⟩ := o8
              replace hl8 : ol8 = ol + 1 := hl8
              clear ho8 hf8 hb8 HPI7 c0 c1
              unfold Sl.val
              simp only
              go_wp2_with fail
              go_roundw
              case rel => exact ⟨k + 1, ⟨oa8, ol8, oc8⟩, _, false, by omega, rfl, rfl, by go_num, HPI8, HPN, by show ol8 ≤ 2 * (k + 1) + 1; omega⟩
              case measure => simp only [intOf]; omega
          · have HR9 := hide (fun Q A => @rap9A wr b o c z vl vc n2 k2 k i x y (HTP.out _ (rBelow HPI.out.2 (below_drew wr))) Q A)
            have h9 := HPA.out.behind HYK.out.1
            rw [← HYK.out.2] at h9
            have HPN := hide h9.1
            have hne : y.page ≠ x.page := by have := h9.2; omega
            clear h9
            go_wp2_with fail
            refine Pl.region_is (ops := Pl.find 9 ((Try.f20.body).getD .skip)) (by kernel_rfl) ?_
            refine HR9.out _ _ (by rfl) rfl (by rfl) (by rfl) (by rfl) (by rfl) (by rfl) ?_
            rintro uu w5 hw5
            simp only [Act.put, List.setIfInBounds_toArray, List.set_cons_zero, List.set_cons_succ]
            have HPI5 : Hid (PutInv wo w5 ⟨oa, ol, oc⟩ lo) := by rw [hw5]; exact HPI.out.step (below_drew wr)
            clear hw5 HR9 HPI
            have HR12 := hide (fun Q A => @rap12A w5 b o c z vl vc n2 k2 k i x y (HTP.out _ (rBelow HPI5.out.2 (below_drew w5))) hlt hlt2 hne Q A)
            go_wp2_with fail
            refine Pl.region_is (ops := Pl.find 12 ((Try.f20.body).getD .skip)) (by kernel_rfl) ?_
            refine HR12.out _ _ (by rfl) rfl (by rfl) (by rfl) (by rfl) (by rfl) ?_
            rintro u3 w7 hw7
            simp only [Act.put, List.setIfInBounds_toArray, List.set_cons_zero, List.set_cons_succ]
            have HPI7 : Hid (PutInv wo w7 ⟨oa, ol, oc⟩ lo) := by rw [hw7]; exact HPI5.out.step (below_drew w5)
            clear hw7 HR12 HPI5
            obtain ⟨⟨c0, c1⟩, _, _⟩ := HCL.out w7 HPI7.out.2
            obtain ⟨r, ⟨ya, yl, yc⟩, yb⟩ := y
            replace c0 : w7.cell? ⟨b, o + k * 2, none⟩ = some (.int .i64 r) := c0
            replace c1 : w7.cell? ⟨b, o + k * 2 + 1, none⟩ = some (.slice ya yl yc) := c1
            go_wp2_with (at_builtin; refine wpList_append_im w7 ⟨r, ⟨ya, yl, yc⟩, yb⟩ rfl (.tmp 55) (.tmp 60) rfl ⟨oa, ol, oc⟩ lo rfl rfl HPI7.out.own (by show ol + 1 ≤ 1000000; omega) ?_)
            intro o8 w8 ho8 hl8 hf8 hb8
            have HPI8 := hide (HPI7.out.add (x := ⟨r, ⟨ya, yl, yc⟩, yb⟩) HCY.out ho8 hf8 hb8)
            obtain ⟨oa8, ol8, oc8⟩ := o8
            replace hl8 : ol8 = ol + 1 := hl8
            clear ho8 hf8 hb8 HPI7 c0 c1
            unfold Sl.val
            simp only
            go_wp2_with fail
            go_roundw
            case rel => exact ⟨k + 1, ⟨oa8, ol8, oc8⟩, _, true, by omega, rfl, rfl, by go_num, HPI8, HPN, by show ol8 ≤ 2 * (k + 1) + 1; omega⟩
            case measure => simp only [intOf]; omega
        · have hkl : k = l.length := by rw [HLN.out]; omega
          have hdn := HPA.out
          rw [hkl] at hdn
          have HDN := hide hdn.done
          have i2 : ¬ ((k : Nat) : Int) < ((vl : Nat) : Int) := by omega
          clear hkl hdn HPA
          cases pb
          · have HD2 := hide (HDN.out.2 rfl)
            clear HDN
            obtain ⟨c, z, e2, d0, d1⟩ := (HV2.out.below HPI.out.2 (Nat.le_refl _)).cell i hlti
            simp only at e2
            subst e2
            rw [← HX.out] at d0 d1
            obtain ⟨q, ⟨xa, xl, xc⟩, xb⟩ := x
            replace d0 : wr.cell? ⟨c, z + i * 2, none⟩ = some (.int .i64 q) := d0
            replace d1 : wr.cell? ⟨c, z + i * 2 + 1, none⟩ = some (.slice xa xl xc) := d1
            go_wp2_with (at_builtin; refine wpList_append_im wr ⟨q, ⟨xa, xl, xc⟩, xb⟩ rfl (.tmp 64) (.tmp 69) rfl ⟨oa, ol, oc⟩ lo rfl rfl HPI.out.own (by show ol + 1 ≤ 1000000; omega) ?_)
            intro o6 w6 ho6 hl6 hf6 hb6
            have hP6 := HPI.out.add (x := ⟨q, ⟨xa, xl, xc⟩, xb⟩) HCX.out ho6 hf6 hb6
            rw [HD2.out, HNL.out] at hP6
            have HG6 : Hid (Gr (fun _ => True) w6 o6 ((l2.take (i + 1)).foldl (Ap.put Ix.page) l1)) := (hP6.1.gr (by rw [hl6]; show ol + 1 ≤ 1000000; omega)).mono (fun _ _ _ => trivial)
            have HB6 := hide (rBelow hW.out hP6.2)
            clear ho6 hl6 hf6 hb6 hP6 HPI d0 d1
            obtain ⟨oa6, ol6, oc6⟩ := o6
            unfold Sl.val
            simp only
            go_wp2_with fail
            go_roundw
            case rel => exact ⟨i + 1, ⟨oa6, ol6, oc6⟩, by omega, by go_num, rfl, HG6, HB6⟩
            case measure => simp only [intOf]; omega
          · have hP6 := HPI.out
            rw [HDN.out.1 rfl, HNL.out] at hP6
            have HG6 : Hid (Gr (fun _ => True) wr ⟨oa, ol, oc⟩ ((l2.take (i + 1)).foldl (Ap.put Ix.page) l1)) := (hP6.1.gr (by show ol ≤ 1000000; omega)).mono (fun _ _ _ => trivial)
            have HB6 := hide (rBelow hW.out hP6.2)
            clear hP6 HPI
            go_wp2_with fail
            go_roundw
            case rel => exact ⟨i + 1, ⟨oa, ol, oc⟩, by omega, by go_num, rfl, HG6, HB6⟩
            case measure => simp only [intOf]; omega
    · have i1 : ¬ ((i : Nat) : Int) < ((n2 : Nat) : Int) := by omega
      have HGF : Hid (Gr (fun _ => True) wr ⟨va, vl, vc⟩ (l2.foldl (Ap.put Ix.page) l1)) := by
        have h9 := hgv.out
        rw [List.take_of_length_le (by rw [HL2.out]; exact hge)] at h9
        exact h9
      go_wp2_with fail
      go_ret
      exact ⟨⟨va, vl, vc⟩, _, rfl, HGF.out, ims_foldput _ _, hW.out⟩
end Go.Proofs.Ytjgeiooblcpiaaa
