/-
  Layer 8, the landed leaf: Check, Room, isRow, stands.
-/
import Derived.Test.YtgieigpbbkeonaaLgA
namespace Go.Proofs.Ytgieigpbbkeonaa
open Go.RowKit

theorem mayL_iff {t : List Int} {s : List (List Nat)} : MayL ⟨t, s⟩ ↔ ItlOk t ∧ SlotsOk s ∧ need s ≤ 508 := ⟨fun h => ⟨h.itl, h.slots, h.need⟩, fun h => ⟨h.1, h.2.1, h.2.2⟩⟩
/-- What Check tells. -/
def CkSays (t : List Int) (s : List (List Nat)) (e : Ending) : Prop := (MayL ⟨t, s⟩ ∧ e = .returned (.int .i64 0)) ∨ (¬ MayL ⟨t, s⟩ ∧ e = .returned (.int .i64 1))

set_option maxHeartbeats 4000000 in
theorem check_says {D : Nat → Prop} (w : World) (u v : Sl) (t : List Int) (l : List Sb) (hi : Gi D w u t) (hg : Gb D w v l) :
    Calls Try.prog 12 #[lfV u v] w fun e w' => CkSays t (bss l) e ∧ Below w.heap.size w w' := by
  have hA := below_alloc w (.cells #[u.val, v.val] 25)
  have HW := hide (mayWrite_any _ u t (hi.below hA (Nat.le_refl _)))
  have HS := hide (mayStand_any _ v l (hg.below hA (Nat.le_refl _)))
  have HN := hide (need_any _ v l (hg.below hA (Nat.le_refl _)))
  have HA := hide hA
  have HM := hide (mayL_iff (t := t) (s := bss l))
  obtain ⟨n, hn⟩ : ∃ n, n = need (bss l) := ⟨_, rfl⟩
  rw [← hn] at HN HM
  clear hn hi hg hA
  obtain ⟨a, len, cap⟩ := v
  obtain ⟨ua, ul, uc⟩ := u
  unfold lfV Sl.val at *
  simp only at *
  go_enter Try.func12, Try.ntmps12
  go_wp2_with fail
  refine HW.out.mono ?_
  rintro e w1 ⟨⟨r1, rfl, hr1⟩, hw⟩
  obtain rfl := hw
  cases r1 with
  | false =>
    have HX : Hid (¬ MayL ⟨t, bss l⟩) := fun h => absurd (hr1.2 (HM.out.1 h).1) Bool.false_ne_true
    clear hr1
    go_wp2_with fail
    go_ret
    exact ⟨.inr ⟨HX.out, rfl⟩, HA.out⟩
  | true =>
    have HR1 := hide (hr1.1 rfl)
    clear hr1
    go_wp2_with fail
    refine HS.out.mono ?_
    rintro e w1 ⟨⟨r2, rfl, hr2⟩, hw⟩
    obtain rfl := hw
    cases r2 with
    | false =>
      have HX : Hid (¬ MayL ⟨t, bss l⟩) := fun h => absurd (hr2.2 (HM.out.1 h).2.1) Bool.false_ne_true
      clear hr2
      go_wp2_with fail
      go_ret
      exact ⟨.inr ⟨HX.out, rfl⟩, HA.out⟩
    | true =>
      have HR2 := hide (hr2.1 rfl)
      clear hr2
      go_wp2_with fail
      refine HN.out.mono ?_
      rintro e w1 ⟨rfl, hw⟩
      obtain rfl := hw
      by_cases h5 : 508 < n
      · have i5 : (508 : Int) < ((n : Nat) : Int) := by omega
        go_wp2_with fail
        go_ret
        exact ⟨.inr ⟨fun h => by have := (HM.out.1 h).2.2; omega, rfl⟩, HA.out⟩
      · have i5 : ¬ (508 : Int) < ((n : Nat) : Int) := by omega
        go_wp2_with fail
        go_ret
        exact ⟨.inl ⟨HM.out.2 ⟨HR1.out, HR2.out, by omega⟩, rfl⟩, HA.out⟩
theorem check_yes {D : Nat → Prop} (w : World) (u v : Sl) (t : List Int) (l : List Sb) (hi : Gi D w u t) (hg : Gb D w v l) (h : MayL ⟨t, bss l⟩) :
    Calls Try.prog 12 #[lfV u v] w fun e w' => e = .returned (.int .i64 0) ∧ Below w.heap.size w w' := by
  refine (check_says w u v t l hi hg).mono ?_
  rintro e w' ⟨h1 | h1, hb⟩
  · exact ⟨h1.2, hb⟩
  · exact absurd h h1.1
theorem check_no {D : Nat → Prop} (w : World) (u v : Sl) (t : List Int) (l : List Sb) (hi : Gi D w u t) (hg : Gb D w v l) (h : ¬ MayL ⟨t, bss l⟩) :
    Calls Try.prog 12 #[lfV u v] w fun e w' => e = .returned (.int .i64 1) ∧ Below w.heap.size w w' := by
  refine (check_says w u v t l hi hg).mono ?_
  rintro e w' ⟨h1 | h1, hb⟩
  · exact absurd h1.1 h
  · exact ⟨h1.2, hb⟩

set_option maxHeartbeats 4000000 in
theorem room_yes {D : Nat → Prop} (w : World) (u v : Sl) (t : List Int) (l : List Sb) (hi : Gi D w u t) (hg : Gb D w v l) (h : MayL ⟨t, bss l⟩) :
    Calls Try.prog 13 #[lfV u v] w fun e w' => e = .returned (.int .i64 (508 - ((need (bss l) : Nat) : Int))) ∧ Below w.heap.size w w' := by
  have hA := below_alloc w (.cells #[u.val, v.val] 25)
  have HK := hide (lfBlk_new w u.val v.val)
  have HC := hide (check_yes _ u v t l (hi.below hA (Nat.le_refl _)) (hg.below hA (Nat.le_refl _)) h)
  have HN : Hid (∀ W, Below w.heap.size w W → Calls Try.prog 30 #[v.val] W fun e w' => e = .returned (.int .i64 ((need (bss l) : Nat) : Int)) ∧ w' = W) := fun W hW => need_any _ v l (hg.below hW (Nat.le_refl _))
  have HA := hide hA
  have hn5 : need (bss l) ≤ 508 := h.need
  obtain ⟨n, hn⟩ : ∃ n, n = need (bss l) := ⟨_, rfl⟩
  rw [← hn] at HN hn5
  rw [← hn]
  clear hn hi hg hA h
  obtain ⟨a, len, cap⟩ := v
  obtain ⟨ua, ul, uc⟩ := u
  unfold lfV Sl.val at *
  simp only at *
  go_enter Try.func13, Try.ntmps13
  go_wp2_with fail
  refine HC.out.mono ?_
  rintro e w1 ⟨rfl, hb⟩
  have HB := hide (rBelow HA.out hb)
  have k := HK.out.below hb
  have c0 := k.c0
  have c1 := k.c1
  have HN' := hide (HN.out w1 HB.out)
  clear k hb HK HN HC
  go_wp2_with fail
  refine HN'.out.mono ?_
  rintro e w2 ⟨rfl, hw⟩
  obtain rfl := hw
  go_wp2_with fail
  go_ret
  exact ⟨rfl, HB.out⟩

set_option maxHeartbeats 4000000 in
theorem room_no {D : Nat → Prop} (w : World) (u v : Sl) (t : List Int) (l : List Sb) (hi : Gi D w u t) (hg : Gb D w v l) (h : ¬ MayL ⟨t, bss l⟩) :
    Calls Try.prog 13 #[lfV u v] w fun e w' => e = .returned (.int .i64 (-1)) ∧ Below w.heap.size w w' := by
  have hA := below_alloc w (.cells #[u.val, v.val] 25)
  have HC := hide (check_no _ u v t l (hi.below hA (Nat.le_refl _)) (hg.below hA (Nat.le_refl _)) h)
  have HA := hide hA
  clear hi hg hA h
  obtain ⟨a, len, cap⟩ := v
  obtain ⟨ua, ul, uc⟩ := u
  unfold lfV Sl.val at *
  simp only at *
  go_enter Try.func13, Try.ntmps13
  go_wp2_with fail
  refine HC.out.mono ?_
  rintro e w1 ⟨rfl, hb⟩
  have HB := hide (rBelow HA.out hb)
  clear hb HC
  go_wp2_with fail
  go_ret
  exact ⟨rfl, HB.out⟩

/-- Is it a row? -/
def isRowB (n : Nat) : Bool := decide (1 ≤ n) && decide (n ≤ 255)

set_option maxHeartbeats 4000000 in
theorem isRow_any (w : World) (s : Sl) : Calls Try.prog 43 #[s.val] w fun e w' => e = .returned (.bool (isRowB s.len)) ∧ w' = w := by
  obtain ⟨a, n, cap⟩ := s
  unfold Sl.val isRowB
  simp only
  by_cases h1 : 1 ≤ n
  · have i1 : (1 : Int) ≤ ((n : Nat) : Int) := by omega
    by_cases h2 : n ≤ 255
    · have i2 : ((n : Nat) : Int) ≤ 255 := by omega
      rw [decide_eq_true h1, decide_eq_true h2]
      go_enter Try.func43, Try.ntmps43
      go_wp2_with fail
      go_ret
      exact ⟨rfl, rfl⟩
    · have i2 : ¬ ((n : Nat) : Int) ≤ 255 := by omega
      rw [decide_eq_true h1, decide_eq_false h2]
      go_enter Try.func43, Try.ntmps43
      go_wp2_with fail
      go_ret
      exact ⟨rfl, rfl⟩
  · have i1 : ¬ (1 : Int) ≤ ((n : Nat) : Int) := by omega
    rw [decide_eq_false h1]
    go_enter Try.func43, Try.ntmps43
    go_wp2_with fail
    go_ret
    exact ⟨rfl, rfl⟩

set_option maxHeartbeats 4000000 in
theorem stands_any {D : Nat → Prop} (w : World) (u v : Sl) (l : List Sb) (hg : Gb D w v l) (i : Int) :
    Calls Try.prog 42 #[lfV u v, .int .i64 i] w fun e w' => e = .returned (.bool (standsB (bss l) i)) ∧ Below w.heap.size w w' := by
  obtain ⟨a, len, cap⟩ := v
  obtain ⟨ua, ul, uc⟩ := u
  have hl : l.length = len := hg.len
  have hbig : len ≤ 1000 := hg.big
  have hA := below_alloc w (.cells #[.slice ua ul uc, .slice a len cap] 25)
  have HG := hide (hg.below hA (Nat.le_refl _))
  have HA := hide hA
  have HL : Hid ((bss l).length = len) := by show _ = _; rw [bss_length]; exact hl
  clear hg hl hA
  unfold lfV Sl.val
  simp only
  by_cases h0 : 0 ≤ i
  · obtain ⟨k, rfl⟩ := Int.eq_ofNat_of_zero_le h0
    by_cases h1 : k < len
    · have i1 : ((k : Nat) : Int) < ((len : Nat) : Int) := by omega
      obtain ⟨bb, oo, ha, c0⟩ := HG.out.cell k h1
      replace ha : a = some ⟨bb, oo, none⟩ := ha
      subst ha
      obtain ⟨_, hsl, h1000⟩ := HG.out.at h1
      obtain ⟨⟨sa, sn, sc⟩, hsb⟩ : ∃ s, s = (l.getD k Sb.zero).s := ⟨_, rfl⟩
      rw [← hsb] at c0 hsl
      unfold Sl.val at c0
      simp only at c0 hsl
      have e : standsB (bss l) ((k : Nat) : Int) = decide (0 < sn) := by
        unfold standsB
        rw [HL.out, decide_eq_true h0, decide_eq_true i1, Bool.true_and, Bool.true_and, Int.toNat_natCast, ← hsl]
      have HE := hide e
      by_cases h2 : 0 < sn
      · have i2 : (0 : Int) < ((sn : Nat) : Int) := by omega
        clear e hsb hsl h1000
        go_enter Try.func42, Try.ntmps42
        go_wp2_with fail
        go_ret
        exact ⟨by rw [HE.out, decide_eq_true h2]; rfl, HA.out⟩
      · have i2 : ¬ (0 : Int) < ((sn : Nat) : Int) := by omega
        clear e hsb hsl h1000
        go_enter Try.func42, Try.ntmps42
        go_wp2_with fail
        go_ret
        exact ⟨by rw [HE.out, decide_eq_false h2]; rfl, HA.out⟩
    · have i1 : ¬ ((k : Nat) : Int) < ((len : Nat) : Int) := by omega
      have HE : Hid (standsB (bss l) ((k : Nat) : Int) = false) := by
        show _ = _
        unfold standsB
        rw [HL.out, decide_eq_false i1]
        simp
      go_enter Try.func42, Try.ntmps42
      go_wp2_with fail
      go_ret
      exact ⟨by rw [HE.out]; rfl, HA.out⟩
  · have HE : Hid (standsB (bss l) i = false) := by
      show _ = _
      unfold standsB
      rw [decide_eq_false h0]
      rfl
    go_enter Try.func42, Try.ntmps42
    go_wp2_with fail
    go_ret
    exact ⟨by rw [HE.out]; rfl, HA.out⟩
end Go.Proofs.Ytgieigpbbkeonaa
