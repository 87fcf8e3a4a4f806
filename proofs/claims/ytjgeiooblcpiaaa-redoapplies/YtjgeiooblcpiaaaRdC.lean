/-
  Layer 6: which images are a group, by the program and by the document; which groups are alike.
-/
import Derived.Test.YtjgeiooblcpiaaaRdB
namespace Go.Proofs.Ytjgeiooblcpiaaa
open Go.RowKit

open Classical in
/-- What Check tells. -/
noncomputable def chk (g : List Im) : Int := if May g then 0 else 1
theorem chk_ok {g : List Im} (h : May g) : chk g = 0 := if_pos h
theorem chk_no {g : List Im} (h : ¬ May g) : chk g = 1 := if_neg h
open Classical in
noncomputable def mayB (g : List Im) : Bool := decide (May g)
open Classical in
theorem mayB_ok {g : List Im} (h : May g) : mayB g = true := by unfold mayB; exact decide_eq_true h
open Classical in
theorem mayB_no {g : List Im} (h : ¬ May g) : mayB g = false := by unfold mayB; exact decide_eq_false h

set_option maxHeartbeats 2000000 in
set_option maxRecDepth 100000 in
theorem check_any {D : Nat → Prop} (w : World) (v : Sl) (l : List Ix) (h : Gr D w v l) : Calls Try.prog 11 #[v.val] w fun e w' => e = .returned (.int .i64 (chk (ims l))) ∧ Below w.heap.size w w' := by
  obtain ⟨a, len, cap⟩ := v
  have hl : l.length = len := h.len
  unfold Sl.val
  simp only
  have HR := hide (Below.refl w.heap.size w)
  by_cases h1 : len < 1
  · have e : chk (ims l) = 1 := chk_no (fun m => by have := m.1; rw [ims_length] at this; omega)
    rw [e]
    have i1 : ((len : Nat) : Int) < 1 := by omega
    clear h e hl
    go_enter Try.func11, Try.ntmps11
    go_wp2_with fail
    go_ret
    exact ⟨rfl, HR.out⟩
  by_cases h6 : 6 < len
  · have e : chk (ims l) = 1 := chk_no (fun m => by have := m.2.1; rw [ims_length] at this; omega)
    rw [e]
    have i1 : ¬ ((len : Nat) : Int) < 1 := by omega
    have i2 : (6 : Int) < ((len : Nat) : Int) := by omega
    clear h e hl
    go_enter Try.func11, Try.ntmps11
    go_wp2_with fail
    go_ret
    exact ⟨rfl, HR.out⟩
  have i1 : ¬ ((len : Nat) : Int) < 1 := by omega
  have i2 : ¬ (6 : Int) < ((len : Nat) : Int) := by omega
  have H := hide h
  have HL := hide hl
  clear h hl
  go_enter Try.func11, Try.ntmps11
  go_wp2_with fail
  go_loopw [3, 16] (fun p i wr => ∃ k : Nat, k ≤ len ∧ i = .int .i64 k ∧ p = .int .i64 (prevP (ims l) k) ∧ Hid (∀ j, j < k → okAt (ims l) j) ∧ Hid (Below w.heap.size w wr)) (fun _ i _ => len - (intOf i).toNat)
  case atStart => exact ⟨0, by omega, rfl, rfl, hide (fun j hj => absurd hj (Nat.not_lt_zero j)), HR⟩
  case round =>
    obtain ⟨k, hk, rfl, rfl, hok, hW⟩ := hrel
    rcases Nat.lt_or_ge k len with hlt | hge
    · obtain ⟨b, off, ha, c0, c1⟩ := (H.out.below hW.out (Nat.le_refl _)).cell k hlt
      simp only at ha
      subst ha
      have hat := H.out.at (i := k) hlt
      have hbl := hat.len
      obtain ⟨x, hx⟩ : ∃ x, x = l.getD k Ix.zero := ⟨_, rfl⟩
      rw [← hx] at c0 c1 hbl
      have hpr := prev_ge hok.out
      have hgt : (ims l).getD k Im.zero = x.im := by rw [ims_getD, hx]
      obtain ⟨q, ⟨sa, sl, sc⟩, bs⟩ := x
      replace c1 : wr.cell? ⟨b, off + k * 2 + 1, none⟩ = some (.slice sa sl sc) := c1
      replace c0 : wr.cell? ⟨b, off + k * 2, none⟩ = some (.int .i64 q) := c0
      replace hbl : bs.length = sl := hbl
      obtain ⟨pv, hpv⟩ : ∃ pv, pv = prevP (ims l) k := ⟨_, rfl⟩
      rw [← hpv] at hpr ⊢
      have hoki : okAt (ims l) k ↔ 0 ≤ q ∧ pv < q ∧ q ≤ 63 ∧ sl = 512 := by
        unfold okAt
        rw [hgt, ← hpv]
        show 0 ≤ q ∧ pv < q ∧ q ≤ 63 ∧ bs.length = 512 ↔ _
        rw [hbl]
      have HNO : Hid (¬ okAt (ims l) k → chk (ims l) = 1) := fun hn => chk_no (fun m => hn (m.2.2 k (by rw [ims_length, HL.out]; exact hlt)))
      have HOK := hide hoki
      have HNX : Hid (prevP (ims l) (k + 1) = q) := by
        show _ = _
        unfold prevP
        rw [if_neg (by omega), Nat.add_sub_cancel, hgt]
        rfl
      have HB := hide (rBelow hW.out ((below_alloc wr (.cells #[.int .i64 q, .slice sa sl sc] 28))))
      have i3 : ((k : Nat) : Int) < ((len : Nat) : Int) := by omega
      clear hx hpv hat hgt hoki hbl
      by_cases c1' : q ≤ pv
      · have HE : Hid (chk (ims l) = 1) := HNO.out (fun o => by have := (HOK.out.1 o).2.1; omega)
        go_wp2_with fail
        go_ret
        exact ⟨by rw [HE.out]; rfl, HB.out⟩
      by_cases c2' : (64 : Int) ≤ q
      · have HE : Hid (chk (ims l) = 1) := HNO.out (fun o => by have := (HOK.out.1 o).2.2.1; omega)
        go_wp2_with fail
        go_ret
        exact ⟨by rw [HE.out]; rfl, HB.out⟩
      by_cases c3' : sl = 512
      · subst c3'
        have HY : Hid (okAt (ims l) k) := HOK.out.2 ⟨by omega, by omega, by omega, rfl⟩
        go_wp2_with fail
        go_roundw
        case rel => exact ⟨k + 1, by omega, by go_num, by rw [HNX.out], hide (fun j hj => by
          rcases Nat.lt_or_ge j k with h | h
          · exact hok.out j h
          · obtain rfl : j = k := by omega
            exact HY.out), HB⟩
        case measure => simp only [intOf]; omega
      · have i4 : ((sl : Nat) : Int) ≠ 512 := by omega
        have HE : Hid (chk (ims l) = 1) := HNO.out (fun o => by have := (HOK.out.1 o).2.2.2; omega)
        go_wp2_with fail
        go_ret
        exact ⟨by rw [HE.out]; rfl, HB.out⟩
    · have hkl : k = len := by omega
      subst hkl
      have HE : Hid (chk (ims l) = 0) := chk_ok ⟨by rw [ims_length, HL.out]; omega, by rw [ims_length, HL.out]; omega, fun j hj => hok.out j (by rw [ims_length, HL.out] at hj; exact hj)⟩
      have i3 : ¬ ((k : Nat) : Int) < ((k : Nat) : Int) := by omega
      go_wp2_with fail
      go_ret
      exact ⟨by rw [HE.out]; rfl, hW.out⟩

set_option maxHeartbeats 2000000 in
set_option maxRecDepth 100000 in
theorem rmay_any {D : Nat → Prop} (w : World) (v : Sl) (l : List Ix) (h : Gr D w v l) : Calls Try.prog 12 #[v.val] w fun e w' => e = .returned (.bool (mayB (ims l))) ∧ Below w.heap.size w w' := by
  obtain ⟨a, len, cap⟩ := v
  have hl : l.length = len := h.len
  have hbig : len ≤ 1000000 := h.big
  unfold Sl.val
  simp only
  have HR := hide (Below.refl w.heap.size w)
  have H := hide h
  have HL := hide hl
  clear h hl
  go_enter Try.func12, Try.ntmps12
  go_wp2_with fail
  go_loopw [3] (fun i wr => ∃ k : Nat, k ≤ len ∧ i = .int .i64 k ∧ Hid (∀ j, j < k → okAt (ims l) j) ∧ Hid (Below w.heap.size w wr)) (fun i _ => len - (intOf i).toNat)
  case atStart => exact ⟨0, by omega, rfl, hide (fun j hj => absurd hj (Nat.not_lt_zero j)), HR⟩
  case round =>
    obtain ⟨k, hk, rfl, hok, hW⟩ := hrel
    rcases Nat.lt_or_ge k len with hlt | hge
    · obtain ⟨b, off, ha, c0, c1⟩ := (H.out.below hW.out (Nat.le_refl _)).cell k hlt
      simp only at ha
      subst ha
      have hat := H.out.at (i := k) hlt
      have hbl := hat.len
      obtain ⟨x, hx⟩ : ∃ x, x = l.getD k Ix.zero := ⟨_, rfl⟩
      rw [← hx] at c0 c1 hbl
      obtain ⟨qp, hqp⟩ : ∃ qp, qp = prevP (ims l) k := ⟨_, rfl⟩
      have hS : MayS b off k x qp wr := by
        refine ⟨c0, c1, fun hp => ?_⟩
        obtain ⟨b', off', ha', d0, _⟩ := (H.out.below hW.out (Nat.le_refl _)).cell (k - 1) (by show k - 1 < len; omega)
        simp only [Option.some.injEq, Addr.mk.injEq, and_true] at ha'
        obtain ⟨rfl, rfl⟩ := ha'
        rw [d0, hqp]
        unfold prevP
        rw [if_neg (by omega), ims_getD]
        rfl
      have hgt : (ims l).getD k Im.zero = x.im := by rw [ims_getD, hx]
      have hoki : okAt (ims l) k ↔ 0 ≤ x.page ∧ qp < x.page ∧ x.page ≤ 63 ∧ x.s.len = 512 := by
        unfold okAt
        rw [hgt, ← hqp, ← hbl]
        exact Iff.rfl
      have HNO : Hid (¬ okAt (ims l) k → mayB (ims l) = false) := fun hn => mayB_no (fun m => hn (m.2.2 k (by rw [ims_length, HL.out]; exact hlt)))
      have HP0 : Hid (k = 0 → qp = -1) := fun e => by rw [hqp, e]; rfl
      have HOK := hide hoki
      have HS := hide hS
      have HB := hide (hW.out.drew)
      have i3 : ((k : Nat) : Int) < ((len : Nat) : Int) := by omega
      clear hx hqp hat hgt hoki hbl hS c0 c1
      go_wp2_with fail
      refine Pl.region_is (ops := Pl.find 4 ((Try.f12.body).getD .skip)) (by kernel_rfl) ?_
      by_cases q1 : x.page < 0
      · have HE : Hid (mayB (ims l) = false) := HNO.out (fun o => by have := (HOK.out.1 o).1; omega)
        refine may4A wr b off len cap k x qp HS.out hlt q1 (by rfl) rfl (by rfl) (by rfl) ?_
        rintro uu w9 rfl
        simp only [Act.put, List.setIfInBounds_toArray, List.set_cons_zero, List.set_cons_succ]
        generalize wr.drew = w9 at HB ⊢
        go_wp2_with fail
        go_ret
        exact ⟨by rw [HE.out]; rfl, HB.out⟩
      by_cases q2 : (63 : Int) < x.page
      · have HE : Hid (mayB (ims l) = false) := HNO.out (fun o => by have := (HOK.out.1 o).2.2.1; omega)
        refine may4B wr b off len cap k x qp HS.out hlt q1 q2 (by rfl) rfl (by rfl) (by rfl) ?_
        rintro uu w9 rfl
        simp only [Act.put, List.setIfInBounds_toArray, List.set_cons_zero, List.set_cons_succ]
        generalize wr.drew = w9 at HB ⊢
        go_wp2_with fail
        go_ret
        exact ⟨by rw [HE.out]; rfl, HB.out⟩
      by_cases q3 : ((x.s.len : Nat) : Int) ≠ 512
      · have HE : Hid (mayB (ims l) = false) := HNO.out (fun o => by have := (HOK.out.1 o).2.2.2; omega)
        refine may4C wr b off len cap k x qp HS.out hlt q1 q2 q3 (by rfl) rfl (by rfl) (by rfl) ?_
        rintro uu w9 rfl
        simp only [Act.put, List.setIfInBounds_toArray, List.set_cons_zero, List.set_cons_succ]
        generalize wr.drew = w9 at HB ⊢
        go_wp2_with fail
        go_ret
        exact ⟨by rw [HE.out]; rfl, HB.out⟩
      by_cases q4 : (0 : Int) < ((k : Nat) : Int)
      · by_cases q5 : x.page ≤ qp
        · have HE : Hid (mayB (ims l) = false) := HNO.out (fun o => by have := (HOK.out.1 o).2.1; omega)
          refine may4E wr b off len cap k x qp HS.out hlt hbig (by omega) q1 q2 q3 q4 q5 (by rfl) rfl (by rfl) (by rfl) ?_
          rintro uu w9 rfl
          simp only [Act.put, List.setIfInBounds_toArray, List.set_cons_zero, List.set_cons_succ]
          generalize wr.drew = w9 at HB ⊢
          go_wp2_with fail
          go_ret
          exact ⟨by rw [HE.out]; rfl, HB.out⟩
        · have HY : Hid (okAt (ims l) k) := HOK.out.2 ⟨by omega, by omega, by omega, by omega⟩
          refine may4F wr b off len cap k x qp HS.out hlt hbig (by omega) q1 q2 q3 q4 q5 (by rfl) rfl (by rfl) (by rfl) ?_
          rintro uu w9 rfl
          simp only [Act.put, List.setIfInBounds_toArray, List.set_cons_zero, List.set_cons_succ]
          generalize wr.drew = w9 at HB ⊢
          go_wp2_with fail
          go_roundw
          case rel => exact ⟨k + 1, by omega, by go_num, hide (fun j hj => by
            rcases Nat.lt_or_ge j k with h | h
            · exact hok.out j h
            · obtain rfl : j = k := by omega
              exact HY.out), HB⟩
          case measure => simp only [intOf]; omega
      · have HY : Hid (okAt (ims l) k) := HOK.out.2 ⟨by omega, by have := HP0.out (by omega); omega, by omega, by omega⟩
        refine may4D wr b off len cap k x qp HS.out hlt q1 q2 q3 q4 (by rfl) rfl (by rfl) (by rfl) ?_
        rintro uu w9 rfl
        simp only [Act.put, List.setIfInBounds_toArray, List.set_cons_zero, List.set_cons_succ]
        generalize wr.drew = w9 at HB ⊢
        go_wp2_with fail
        go_roundw
        case rel => exact ⟨k + 1, by omega, by go_num, hide (fun j hj => by
          rcases Nat.lt_or_ge j k with h | h
          · exact hok.out j h
          · obtain rfl : j = k := by omega
            exact HY.out), HB⟩
        case measure => simp only [intOf]; omega
    · have hkl : k = len := by omega
      subst hkl
      have i3 : ¬ ((k : Nat) : Int) < ((k : Nat) : Int) := by omega
      by_cases q1 : (1 : Int) ≤ ((k : Nat) : Int)
      · by_cases q2 : ((k : Nat) : Int) ≤ 6
        · have HE : Hid (mayB (ims l) = true) := mayB_ok ⟨by rw [ims_length, HL.out]; omega, by rw [ims_length, HL.out]; omega, fun j hj => hok.out j (by rw [ims_length, HL.out] at hj; exact hj)⟩
          go_wp2_with fail
          go_ret
          exact ⟨by rw [HE.out]; rfl, hW.out⟩
        · have HE : Hid (mayB (ims l) = false) := mayB_no (fun m => by have := m.2.1; rw [ims_length, HL.out] at this; omega)
          go_wp2_with fail
          go_ret
          exact ⟨by rw [HE.out]; rfl, hW.out⟩
      · have HE : Hid (mayB (ims l) = false) := mayB_no (fun m => by have := m.1; rw [ims_length, HL.out] at this; omega)
        go_wp2_with fail
        go_ret
        exact ⟨by rw [HE.out]; rfl, hW.out⟩

open Classical in
noncomputable def sameB (g h : List Im) : Bool := decide (g = h)
open Classical in
theorem sameB_ok {g h : List Im} (e : g = h) : sameB g h = true := by unfold sameB; exact decide_eq_true e
open Classical in
theorem sameB_no {g h : List Im} (e : g ≠ h) : sameB g h = false := by unfold sameB; exact decide_eq_false e

set_option maxHeartbeats 2000000 in
set_option maxRecDepth 100000 in
theorem rsame_any {D E : Nat → Prop} (w : World) (v u : Sl) (l m : List Ix) (h : Gr D w v l) (h2 : Gr E w u m) : Calls Try.prog 15 #[v.val, u.val] w fun e w' => e = .returned (.bool (sameB (ims l) (ims m))) ∧ Below w.heap.size w w' := by
  obtain ⟨a, len, cap⟩ := v
  obtain ⟨a2, len2, cap2⟩ := u
  have hl : l.length = len := h.len
  have hl2 : m.length = len2 := h2.len
  have hbig : len ≤ 1000000 := h.big
  unfold Sl.val
  simp only
  have HR := hide (Below.refl w.heap.size w)
  by_cases hne : len = len2
  · subst hne
    have H := hide h
    have H2 := hide h2
    have HL := hide hl
    have HL2 := hide hl2
    clear h hl h2 hl2
    go_enter Try.func15, Try.ntmps15
    go_wp2_with fail
    go_loopw [5] (fun i wr => ∃ k : Nat, k ≤ len ∧ i = .int .i64 k ∧ Hid (∀ j, j < k → (ims l).getD j Im.zero = (ims m).getD j Im.zero) ∧ Hid (Below w.heap.size w wr)) (fun i _ => len - (intOf i).toNat)
    case atStart => exact ⟨0, by omega, rfl, hide (fun j hj => absurd hj (Nat.not_lt_zero j)), HR⟩
    case round =>
      obtain ⟨k, hk, rfl, hok, hW⟩ := hrel
      rcases Nat.lt_or_ge k len with hlt | hge
      · have g1 := H.out.below hW.out (Nat.le_refl _)
        have g2 := H2.out.below hW.out (Nat.le_refl _)
        obtain ⟨b, off, ha, c0, c1⟩ := g1.cell k hlt
        obtain ⟨b2, off2, ha2, d0, d1⟩ := g2.cell k hlt
        simp only at ha ha2
        subst ha
        subst ha2
        have hx1 := (g1.at (i := k) hlt).came.bs
        have hx2 := (g2.at (i := k) hlt).came.bs
        obtain ⟨x, hx⟩ : ∃ x, x = l.getD k Ix.zero := ⟨_, rfl⟩
        obtain ⟨y, hy⟩ : ∃ y, y = m.getD k Ix.zero := ⟨_, rfl⟩
        rw [← hx] at c0 c1 hx1
        rw [← hy] at d0 d1 hx2
        have hS : SameS b off b2 off2 k x y wr := ⟨c0, c1, d0, d1, hx1, hx2⟩
        have hgt : (ims l).getD k Im.zero = x.im := by rw [ims_getD, hx]
        have hgt2 : (ims m).getD k Im.zero = y.im := by rw [ims_getD, hy]
        have HNO : Hid (x.im ≠ y.im → sameB (ims l) (ims m) = false) := fun hn => sameB_no (fun e => hn (by rw [← hgt, ← hgt2, e]))
        have HYE : Hid (x.im = y.im → (ims l).getD k Im.zero = (ims m).getD k Im.zero) := fun e => by rw [hgt, hgt2, e]
        have HS := hide hS
        have HX := hide hx1.2.1
        have HY := hide hx2.2.1
        have HB := hide (hW.out.drew)
        have i3 : ((k : Nat) : Int) < ((len : Nat) : Int) := by omega
        clear hx hy hgt hgt2 hS c0 c1 d0 d1 hx1 hx2 g1 g2
        go_wp2_with fail
        refine Pl.region_is (ops := Pl.find 6 ((Try.f15.body).getD .skip)) (by kernel_rfl) ?_
        by_cases q1 : x.page ≠ y.page
        · have HE : Hid (sameB (ims l) (ims m) = false) := HNO.out (fun e => q1 (congrArg Im.page e))
          refine same6A wr b off b2 off2 len cap cap2 k x y HS.out hlt q1 (by rfl) rfl (by rfl) (by rfl) (by rfl) ?_
          rintro uu w9 rfl
          simp only [Act.put, List.setIfInBounds_toArray, List.set_cons_zero, List.set_cons_succ]
          generalize wr.drew = w9 at HB ⊢
          go_wp2_with fail
          go_ret
          exact ⟨by rw [HE.out]; rfl, HB.out⟩
        by_cases q2 : x.bs = y.bs
        · have HE : Hid (x.im = y.im) := by
            show _ = _
            unfold Ix.im
            rw [q2, Classical.not_not.1 q1]
          refine same6C wr b off b2 off2 len cap cap2 k x y HS.out hlt q1 q2 (by rfl) rfl (by rfl) (by rfl) (by rfl) ?_
          rintro uu w9 rfl
          simp only [Act.put, List.setIfInBounds_toArray, List.set_cons_zero, List.set_cons_succ]
          generalize wr.drew = w9 at HB ⊢
          go_wp2_with fail
          go_roundw
          case rel => exact ⟨k + 1, by omega, by go_num, hide (fun j hj => by
            rcases Nat.lt_or_ge j k with h | h
            · exact hok.out j h
            · obtain rfl : j = k := by omega
              exact HYE.out HE.out), HB⟩
          case measure => simp only [intOf]; omega
        · have HE : Hid (sameB (ims l) (ims m) = false) := HNO.out (fun e => q2 (congrArg Im.bs e))
          refine same6B wr b off b2 off2 len cap cap2 k x y HS.out hlt q1 q2 HX.out HY.out (by rfl) rfl (by rfl) (by rfl) (by rfl) ?_
          rintro uu w9 rfl
          simp only [Act.put, List.setIfInBounds_toArray, List.set_cons_zero, List.set_cons_succ]
          generalize wr.drew = w9 at HB ⊢
          go_wp2_with fail
          go_ret
          exact ⟨by rw [HE.out]; rfl, HB.out⟩
      · have hkl : k = len := by omega
        subst hkl
        have i3 : ¬ ((k : Nat) : Int) < ((k : Nat) : Int) := by omega
        have HE : Hid (sameB (ims l) (ims m) = true) := by
          refine sameB_ok (List.ext_getElem (by rw [ims_length, ims_length, HL.out, HL2.out]) (fun j h1 h2 => ?_))
          have := hok.out j (by rw [ims_length, HL.out] at h1; exact h1)
          simpa [List.getD, h1, h2] using this
        go_wp2_with fail
        go_ret
        exact ⟨by rw [HE.out]; rfl, hW.out⟩
  · have HE : Hid (sameB (ims l) (ims m) = false) := sameB_no (fun e => hne (by have := congrArg List.length e; rw [ims_length, ims_length] at this; omega))
    have i1 : ((len : Nat) : Int) ≠ ((len2 : Nat) : Int) := by omega
    clear h h2 hl hl2
    go_enter Try.func15, Try.ntmps15
    go_wp2_with fail
    go_ret
    exact ⟨by rw [HE.out]; rfl, HR.out⟩
end Go.Proofs.Ytjgeiooblcpiaaa
