/-
  The landed view: isCount, Check, Of, Sees, All, Same; viewS_holds.
-/
import Derived.Test.YtehmemfeagjagaaVwS
import Derived.Test.YtehmemfeagjagaaVwT
import Derived.Test.YtehmemfeagjagaaVwK
namespace Go.Proofs.Ytehmemfeagjagaa
open Go.RowKit
set_option maxRecDepth 100000
set_option linter.unusedVariables false

set_option maxHeartbeats 4000000 in
theorem zsame_any (w : World) (s t : Sl) (v u : Vw) (h : Gi (fun _ => True) w s v.act) (k : Gi (fun _ => True) w t u.act) (hs : s.len ≤ 200) (ht : t.len ≤ 200) :
    Calls Try.prog 17 #[vwV v s, vwV u t] w fun e w' => e = .returned (.bool (sameV v u)) ∧ Below w.heap.size w w' := by
  obtain ⟨vs, vn, vt⟩ := v
  obtain ⟨us, un, ut⟩ := u
  have hA := rBelow (below_alloc w (.cells #[.int .i64 vs, .int .i64 vn, s.val] 25)) (below_alloc (w.alloc (.cells #[.int .i64 vs, .int .i64 vn, s.val] 25)) (.cells #[.int .i64 us, .int .i64 un, t.val] 25))
  have HI := hide (equalI_any _ s t vt ut (h.below hA (Nat.le_refl _)) (k.below hA (Nat.le_refl _)))
  have HA := hide hA
  have k0 := vwBlk_new w ⟨vs, vn, vt⟩ s
  have K0 := k0.keep (below_alloc _ (.cells #[.int .i64 us, .int .i64 un, t.val] 25))
  have c0 := K0.c0
  have c1 := K0.c1
  have c2 := K0.c2
  obtain ⟨a, len, cap⟩ := s
  obtain ⟨b, len2, cap2⟩ := t
  obtain ⟨r, hr⟩ : ∃ r, r = sameV ⟨vs, vn, vt⟩ ⟨us, un, ut⟩ := ⟨_, rfl⟩
  rw [← hr]
  have HR := hide hr
  clear h k hA hr k0 K0 hs ht
  obtain ⟨c, hc⟩ : ∃ c, c = decide (vt = ut) := ⟨_, rfl⟩
  rw [← hc] at HI
  have HC := hide hc
  clear hc
  unfold vwV Sl.val at *
  simp only at *
  go_enter Try.func17, Try.ntmps17
  by_cases h0 : vs = us
  · by_cases h1 : vn = un
    · have HQ : Hid (r = c) := by show _ = _; rw [HR.out, HC.out]; unfold sameV; simp [h0, h1]
      obtain rfl := h0.symm
      obtain rfl := h1.symm
      go_wp2_with fail
      refine HI.out.mono ?_
      rintro e w2 ⟨rfl, hb⟩
      have HB := hide (rBelow HA.out hb)
      clear hb HI
      go_wp2_with fail
      go_ret
      exact ⟨by rw [HQ.out]; rfl, HB.out⟩
    · have HQ : Hid (r = false) := by show _ = _; rw [HR.out]; unfold sameV; simp [h1]
      obtain rfl := h0.symm
      clear HC HR
      go_wp2_with fail
      go_ret
      exact ⟨by rw [HQ.out]; rfl, HA.out⟩
  · have HQ : Hid (r = false) := by show _ = _; rw [HR.out]; unfold sameV; simp [h0]
    go_wp2_with fail
    go_ret
    exact ⟨by rw [HQ.out]; rfl, HA.out⟩

/-- The number ahead of number i; 0: there is none. -/
def lastV (t : List Int) (i : Nat) : Int := if i = 0 then 0 else t.getD (i - 1) 0
theorem lastV_succ (t : List Int) (i : Nat) : lastV t (i + 1) = t.getD i 0 := by simp [lastV]

theorem isCountV_any (w : World) (n : Int) :
    Calls Try.prog 22 #[.int .i64 n] w fun e w' => e = .returned (.bool (decide (0 ≤ n ∧ n ≤ 2147483647))) ∧ w' = w := by
  go_enter Try.func22, Try.ntmps22
  by_cases h0 : 0 ≤ n
  · by_cases h1 : n ≤ 2147483647
    · rw [decide_eq_true (show 0 ≤ n ∧ n ≤ 2147483647 from ⟨h0, h1⟩)]
      go_wp2_with fail
      go_ret
      exact ⟨rfl, rfl⟩
    · rw [decide_eq_false (show ¬ (0 ≤ n ∧ n ≤ 2147483647) from fun h => h1 h.2)]
      go_wp2_with fail
      go_ret
      exact ⟨rfl, rfl⟩
  · rw [decide_eq_false (show ¬ (0 ≤ n ∧ n ≤ 2147483647) from fun h => h0 h.1)]
    go_wp2_with fail
    go_ret
    exact ⟨rfl, rfl⟩

set_option maxHeartbeats 8000000 in
theorem zcheck_any (w : World) (s : Sl) (v : Vw) (h : Gi (fun _ => True) w s v.act) (hs : s.len ≤ 200) :
    Calls Try.prog 11 #[vwV v s] w fun e w' => e = .returned (.int .i64 (errV (decide (MayV v)))) ∧ Below w.heap.size w w' := by
  obtain ⟨a, len, cap⟩ := s
  obtain ⟨vs, vn, t⟩ := v
  have hA := below_alloc w (.cells #[.int .i64 vs, .int .i64 vn, .slice a len cap] 25)
  have H := hide (h.below hA (Nat.le_refl _))
  have HL : Hid (t.length = len) := h.len
  have hbig : len ≤ 1000000 := h.big
  have HA := hide hA
  obtain ⟨r, hr⟩ : ∃ r, r = errV (decide (MayV ⟨vs, vn, t⟩)) := ⟨_, rfl⟩
  rw [← hr]
  have HR := hide hr
  have HN : Hid (¬ MayV ⟨vs, vn, t⟩ → r = 1) := fun hm => by rw [hr, decide_eq_false hm]; rfl
  have HY : Hid (MayV ⟨vs, vn, t⟩ → r = 0) := fun hm => by rw [hr, decide_eq_true hm]; rfl
  clear h hA hr hs
  unfold vwV Sl.val
  simp only at H ⊢
  go_enter Try.func11, Try.ntmps11
  have HC1 := hide (fun W => isCountV_any W vs)
  have HC2 := hide (fun W => isCountV_any W vn)
  by_cases hc : (0 ≤ vs ∧ vs ≤ 2147483647) ∧ (0 ≤ vn ∧ vn ≤ 2147483647) ∧ len ≤ 64
  · obtain ⟨p1, p3, p5⟩ := hc
    have q5 : ¬ (64 : Int) < ((len : Nat) : Int) := by omega
    rw [decide_eq_true p1] at HC1
    rw [decide_eq_true p3] at HC2
    go_wp2_with fail
    refine (HC1.out _).mono ?_
    rintro e w1 ⟨rfl, rfl⟩
    go_wp2_with fail
    refine (HC2.out _).mono ?_
    rintro e w1 ⟨rfl, rfl⟩
    go_wp2_with fail
    clear HC1 HC2
    go_loopw [3, 25] (fun lv iv wr => wr = w.alloc (.cells #[.int .i64 vs, .int .i64 vn, .slice a len cap] 25) ∧ ∃ i : Nat, i ≤ len ∧ iv = .int .i64 (i : Nat) ∧ lv = .int .i64 (lastV t i) ∧ Hid (0 ≤ lastV t i) ∧ Hid (∀ j, j < i → (1 ≤ t.getD j 0 ∧ t.getD j 0 < vn ∧ t.getD j 0 ≠ vs) ∧ (0 < j → t.getD (j - 1) 0 < t.getD j 0))) (fun _ iv _ => len - (intOf iv).toNat)
    case atStart => exact ⟨rfl, 0, Nat.zero_le _, rfl, rfl, Int.le_refl _, fun j hj => absurd hj (Nat.not_lt_zero _)⟩
    case round =>
      obtain ⟨rfl, i, hi, rfl, rfl, hl0, hix⟩ := hrel
      rcases Nat.lt_or_ge i len with hlt | hge
      · have i1 : ((i : Nat) : Int) < ((len : Nat) : Int) := by omega
        obtain ⟨bb, oo, ha, c0⟩ := H.out.cell i hlt
        replace ha : a = some ⟨bb, oo, none⟩ := ha
        subst ha
        have hls := lastV_succ t i
        obtain ⟨y, hy⟩ : ∃ y, y = t.getD i 0 := ⟨_, rfl⟩
        rw [← hy] at c0 hls
        have HLS := hide hls
        obtain ⟨l, hl⟩ : ∃ l, l = lastV t i := ⟨_, rfl⟩
        rw [← hl] at hl0 ⊢
        have HYY := hide hy
        have HLV := hide hl
        clear hls hy hl
        by_cases hg : l < y ∧ y < vn ∧ y ≠ vs
        · obtain ⟨g1, g2, g3⟩ := hg
          have q6 : ¬ y ≤ l := by omega
          have q7 : ¬ y ≥ vn := by omega
          have q8 : (y == vs) = false := beq_eq_false_iff_ne.2 g3
          have HNX : Hid (∀ j, j < i + 1 → (1 ≤ t.getD j 0 ∧ t.getD j 0 < vn ∧ t.getD j 0 ≠ vs) ∧ (0 < j → t.getD (j - 1) 0 < t.getD j 0)) := by
            intro j hj
            by_cases e : j = i
            · subst e
              have := hl0.out
              refine ⟨⟨by rw [← HYY.out]; omega, by rw [← HYY.out]; exact g2, by rw [← HYY.out]; exact g3⟩, fun h0 => ?_⟩
              have h9 := HLV.out
              unfold lastV at h9
              rw [if_neg (by omega)] at h9
              rw [← h9, ← HYY.out]
              exact g1
            · exact hix.out j (by omega)
          have HL2 : Hid (0 ≤ lastV t (i + 1)) := by show 0 ≤ _; rw [HLS.out]; have := hl0.out; omega
          clear hix hl0 g3
          go_wp2_with fail
          go_roundw
          case rel => exact ⟨trivial, i + 1, by omega, by go_num, by rw [HLS.out], HL2, HNX⟩
          case measure => simp only [intOf]; omega
        · have HQ : Hid (r = 1) := HN.out (fun m => by
            have m1 := m.2.2.2.1 i (by show i < t.length; rw [HL.out]; exact hlt)
            have m2 := m.2.2.2.2 i (by show i < t.length; rw [HL.out]; exact hlt)
            simp only [← HYY.out] at m1 m2
            refine hg ⟨?_, m1.2.1, m1.2.2⟩
            have h9 := HLV.out
            unfold lastV at h9
            split at h9
            · omega
            · have := m2 (by omega)
              omega)
          by_cases e1 : y ≤ l
          · clear hg hix
            go_wp2_with fail
            go_ret
            exact ⟨by rw [HQ.out]; rfl, HA.out⟩
          · by_cases e2 : y ≥ vn
            · clear hg hix
              go_wp2_with fail
              go_ret
              exact ⟨by rw [HQ.out]; rfl, HA.out⟩
            · have e3 : (y == vs) = true := by
                have : y = vs := by omega
                rw [this]; exact beq_self_eq_true _
              clear hg hix
              go_wp2_with fail
              go_ret
              exact ⟨by rw [HQ.out]; rfl, HA.out⟩
      · have i1 : ¬ ((i : Nat) : Int) < ((len : Nat) : Int) := by omega
        have HQ : Hid (r = 0) := HY.out (by
          show (0 ≤ vs ∧ vs ≤ 2147483647) ∧ (0 ≤ vn ∧ vn ≤ 2147483647) ∧ t.length ≤ 64 ∧ (∀ i, i < t.length → 1 ≤ t.getD i 0 ∧ t.getD i 0 < vn ∧ t.getD i 0 ≠ vs) ∧ ∀ i, i < t.length → 0 < i → t.getD (i - 1) 0 < t.getD i 0
          have hl := HL.out
          exact ⟨p1, p3, by omega, fun j hj => (hix.out j (by omega)).1, fun j hj h0 => (hix.out j (by omega)).2 h0⟩)
        clear hix
        go_wp2_with fail
        go_ret
        exact ⟨by rw [HQ.out]; rfl, HA.out⟩
  · have HQ : Hid (r = 1) := HN.out (fun m => hc ⟨m.1, m.2.1, by have := HL.out; have : t.length ≤ 64 := m.2.2.1; omega⟩)
    by_cases p1 : 0 ≤ vs ∧ vs ≤ 2147483647
    · rw [decide_eq_true p1] at HC1
      by_cases p3 : 0 ≤ vn ∧ vn ≤ 2147483647
      · have q5 : (64 : Int) < ((len : Nat) : Int) := by omega
        rw [decide_eq_true p3] at HC2
        clear hc
        go_wp2_with fail
        refine (HC1.out _).mono ?_
        rintro e w1 ⟨rfl, rfl⟩
        go_wp2_with fail
        refine (HC2.out _).mono ?_
        rintro e w1 ⟨rfl, rfl⟩
        go_wp2_with fail
        go_ret
        exact ⟨by rw [HQ.out]; rfl, HA.out⟩
      · rw [decide_eq_false p3] at HC2
        clear hc
        go_wp2_with fail
        refine (HC1.out _).mono ?_
        rintro e w1 ⟨rfl, rfl⟩
        go_wp2_with fail
        refine (HC2.out _).mono ?_
        rintro e w1 ⟨rfl, rfl⟩
        go_wp2_with fail
        go_ret
        exact ⟨by rw [HQ.out]; rfl, HA.out⟩
    · rw [decide_eq_false p1] at HC1
      clear hc
      go_wp2_with fail
      refine (HC1.out _).mono ?_
      rintro e w1 ⟨rfl, rfl⟩
      go_wp2_with fail
      go_ret
      exact ⟨by rw [HQ.out]; rfl, HA.out⟩

set_option maxHeartbeats 4000000 in
theorem zsees_any (w : World) (s : Sl) (v : Vw) (h : Gi (fun _ => True) w s v.act) (hs : s.len ≤ 200) (x : Int) :
    Calls Try.prog 14 #[vwV v s, .int .i64 x] w fun e w' => e = .returned (.bool (seesA v x)) ∧ Below w.heap.size w w' := by
  obtain ⟨vs, vn, t⟩ := v
  have hA := below_alloc w (.cells #[.int .i64 vs, .int .i64 vn, s.val] 25)
  have HG := hide (h.below hA (Nat.le_refl _))
  have HC := hide (zcheck_any _ s ⟨vs, vn, t⟩ HG.out hs)
  have HK := hide (vwBlk_new w ⟨vs, vn, t⟩ s)
  have HA := hide hA
  have HI := hide (fun (W : World) (hb : Below (w.alloc (.cells #[.int .i64 vs, .int .i64 vn, s.val] 25)).heap.size (w.alloc (.cells #[.int .i64 vs, .int .i64 vn, s.val] 25)) W) => containsI_any W s t (HG.out.below hb (Nat.le_refl _)) x)
  obtain ⟨r, hr⟩ : ∃ r, r = seesA ⟨vs, vn, t⟩ x := ⟨_, rfl⟩
  rw [← hr]
  obtain ⟨m, hm⟩ : ∃ m, m = decide (MayV ⟨vs, vn, t⟩) := ⟨_, rfl⟩
  rw [← hm] at HC
  obtain ⟨c, hc⟩ : ∃ c, c = t.contains x := ⟨_, rfl⟩
  rw [← hc] at HI
  have HR : Hid (r = (m && ((x == 0) || ((decide (0 < x) && (x == vs)) || (decide (0 < x) && (decide (x < vn) && !c)))))) := by show _ = _; rw [hr, hm, hc]; rfl
  obtain ⟨a, len, cap⟩ := s
  clear h hs hA hr hm hc HG
  unfold vwV Sl.val at *
  simp only at *
  go_enter Try.func14, Try.ntmps14
  go_wp2_with fail
  generalize w.alloc (.cells #[.int .i64 vs, .int .i64 vn, .slice a len cap] 25) = W0 at *
  refine HC.out.mono ?_
  rintro e w1 ⟨rfl, hb⟩
  have HB := hide (rBelow HA.out hb)
  have HI1 := hide (HI.out w1 hb)
  have hk := HK.out.keep hb
  have c0 := hk.c0
  have c1 := hk.c1
  have c2 := hk.c2
  unfold Sl.val at c2
  simp only at c0 c1 c2
  clear hb hk HC HI HK
  cases m with
  | false =>
    have HQ : Hid (r = false) := by show _ = _; rw [HR.out]; rfl
    unfold errV
    simp only [Bool.false_eq_true, if_false]
    go_wp2_with fail
    go_ret
    exact ⟨by rw [HQ.out]; rfl, HB.out⟩
  | true =>
    unfold errV
    simp only [if_true]
    by_cases h0 : x < 0
    · have HQ : Hid (r = false) := by
        show _ = _
        rw [HR.out, decide_eq_false (by omega : ¬ 0 < x), beq_eq_false_iff_ne.2 (by omega : x ≠ 0)]
        rfl
      go_wp2_with fail
      go_ret
      exact ⟨by rw [HQ.out]; rfl, HB.out⟩
    · by_cases h1 : x = 0
      · have HQ : Hid (r = true) := by show _ = _; rw [HR.out, h1]; rfl
        subst h1
        go_wp2_with fail
        go_ret
        exact ⟨by rw [HQ.out]; rfl, HB.out⟩
      · have b1 : (x == 0) = false := beq_eq_false_iff_ne.2 h1
        have hp : 0 < x := by omega
        by_cases h2 : x = vs
        · have HQ : Hid (r = true) := by
            show _ = _
            rw [HR.out, decide_eq_true hp, ← h2]
            simp
          subst h2
          clear HR
          go_wp2_with fail
          go_ret
          exact ⟨by rw [HQ.out]; rfl, HB.out⟩
        · have b2 : (x == vs) = false := beq_eq_false_iff_ne.2 h2
          by_cases h3 : x < vn
          · have HQ : Hid (r = !c) := by
              show _ = _
              rw [HR.out, decide_eq_true hp, decide_eq_true h3, b1, b2]
              simp
            clear HR
            go_wp2_with fail
            refine HI1.out.mono ?_
            rintro e w2 ⟨rfl, hb2⟩
            have HB2 := hide (rBelow HB.out hb2)
            clear hb2 HI1
            cases c with
            | true =>
              go_wp2_with fail
              go_ret
              exact ⟨by rw [HQ.out]; rfl, HB2.out⟩
            | false =>
              go_wp2_with fail
              go_ret
              exact ⟨by rw [HQ.out]; rfl, HB2.out⟩
          · have HQ : Hid (r = false) := by
              show _ = _
              rw [HR.out, decide_eq_true hp, decide_eq_false h3, b1, b2]
              simp
            clear HR
            go_wp2_with fail
            go_ret
            exact ⟨by rw [HQ.out]; rfl, HB.out⟩

set_option maxHeartbeats 4000000 in
theorem zall_any (w : World) (s : Sl) (L : List Vx) (h : Gv w s L) (hl2 : ∀ y ∈ L, y.s.len ≤ 200) (x : Int) :
    Calls Try.prog 16 #[s.val, .int .i64 x] w fun e w' => e = .returned (.bool (allV (vws L) x)) ∧ Below w.heap.size w w' := by
  obtain ⟨a, len, cap⟩ := s
  have H := hide h
  have HL2 := hide hl2
  have HL : Hid ((vws L).length = len) := by show _ = _; unfold vws; rw [List.length_map]; exact h.len
  have HLL : Hid (L.length = len) := h.len
  have H0 := hide (Below.refl w.heap.size w)
  have hl' : len ≤ 1000000 := h.big
  obtain ⟨r, hr⟩ : ∃ r, r = allV (vws L) x := ⟨_, rfl⟩
  rw [← hr]
  have HR := hide hr
  clear h hr hl2
  unfold Sl.val
  simp only
  go_enter Try.func16, Try.ntmps16
  go_wp2_with fail
  go_loopw [9] (fun iv wr => ∃ i : Nat, i ≤ len ∧ iv = .int .i64 (i : Nat) ∧ Hid (∀ j, j < i → seesA ((vws L).getD j Vw.zero) x = true) ∧ Hid (Below w.heap.size w wr)) (fun iv _ => len - (intOf iv).toNat)
  case atStart => exact ⟨0, Nat.zero_le _, rfl, fun j hj => absurd hj (Nat.not_lt_zero _), H0⟩
  case round =>
    obtain ⟨i, hi, rfl, hix, hbr⟩ := hrel
    rcases Nat.lt_or_ge i len with hlt | hge
    · have i1 : ((i : Nat) : Int) < ((len : Nat) : Int) := by omega
      have hg := H.out.keep hbr.out
      obtain ⟨bb, oo, ha, c0, c1, c2⟩ := hg.cell i hlt
      replace ha : a = some ⟨bb, oo, none⟩ := ha
      subst ha
      have hat := hg.at (i := i) hlt
      have hix2 := vws_at L i
      have hle := HL2.out _ (vx_mem (L := L) (i := i) (by rw [HLL.out]; exact hlt))
      obtain ⟨y, hy⟩ : ∃ y, y = L.getD i Vx.zero := ⟨_, rfl⟩
      rw [← hy] at c0 c1 c2 hat hix2 hle
      obtain ⟨W, hst, hk, hbW⟩ := box_vw wr y.v y.s
      have HST := hide hst
      have HBW := hide (rBelow hbr.out hbW)
      have HS := hide (zsees_any W y.s y.v (hat.below hbW (Nat.le_refl _)) hle x)
      have k0 := hk.c0
      have k1 := hk.c1
      have k2 := hk.c2
      obtain ⟨q, hq⟩ : ∃ q, q = seesA y.v x := ⟨_, rfl⟩
      rw [← hq] at HS
      have HSA : Hid (seesA ((vws L).getD i Vw.zero) x = q) := by show _ = _; rw [hix2, hq]
      clear hg hat hy hix2 hst hk hbW hq hle
      obtain ⟨⟨ys, yn, yt⟩, ⟨ya, yl, yc⟩⟩ := y
      unfold vwV Sl.val at HST HS
      unfold Sl.val at c2 k2
      simp only at HST HS c0 c1 c2 k0 k1 k2
      go_wp2_with (first | refine wpList_store _ rfl rfl 25 (.tmp 6) (.tmp 12) rfl (.pointer (some ⟨wr.heap.size, 0, none⟩)) (.agg #[.int .i64 ys, .int .i64 yn, .slice ya yl yc]) rfl rfl W HST.out ?_)
      refine HS.out.mono ?_
      rintro e w2 ⟨rfl, hb2⟩
      have HB2 := hide (rBelow HBW.out hb2)
      clear hb2 HS c0 c1 c2 k0 k1 k2
      cases q with
      | false =>
        have HNO : Hid (r = false) := HR.out.trans (allV_no (i := i) (by rw [HL.out]; exact hlt) HSA.out)
        clear hix
        go_wp2_with fail
        go_ret
        exact ⟨by rw [HNO.out]; rfl, HB2.out⟩
      | true =>
        have HN : Hid (∀ j, j < i + 1 → seesA ((vws L).getD j Vw.zero) x = true) := by
          intro j hj
          by_cases e : j = i
          · rw [e]; exact HSA.out
          · exact hix.out j (by omega)
        clear hix
        go_wp2_with fail
        go_roundw
        case rel => exact ⟨i + 1, by omega, by go_num, HN, HB2⟩
        case measure => simp only [intOf]; omega
    · have i1 : ¬ ((i : Nat) : Int) < ((len : Nat) : Int) := by omega
      have HY : Hid (r = true) := HR.out.trans (allV_take hix.out (by rw [HL.out]; exact hge))
      clear hix
      go_wp2_with fail
      go_ret
      exact ⟨by rw [HY.out]; rfl, hbr.out⟩

/-- The numbers that stay. -/
def leftV (me next : Int) (live : List Int) : List Int := live.filter fun t => decide (t < next) && decide (t ≠ me)
theorem leftV_mem {me next : Int} {live : List Int} {x : Int} : x ∈ leftV me next live ↔ x ∈ live ∧ x < next ∧ x ≠ me := by
  unfold leftV
  rw [List.mem_filter]
  simp
theorem leftV_take {me next : Int} {live : List Int} {i : Nat} (h : i < live.length) : leftV me next (live.take (i + 1)) = leftV me next (live.take i) ++ (if live.getD i 0 < next ∧ live.getD i 0 ≠ me then [live.getD i 0] else []) := by
  have e : live.getD i 0 = live[i] := by simp [List.getD, h]
  unfold leftV
  rw [List.take_succ_eq_append_getElem h, List.filter_append, e]
  congr 1
  by_cases h1 : live[i] < next ∧ live[i] ≠ me
  · rw [if_pos h1]
    simp [h1.1, h1.2]
  · rw [if_neg h1]
    simp only [List.filter_cons, List.filter_nil]
    rw [if_neg]
    simpa using h1
theorem leftV_len (me next : Int) (live : List Int) : (leftV me next live).length ≤ live.length := List.length_filter_le _ _
/-- What stands between two rounds. -/
structure OwI (w wr : World) (me next : Int) (live : List Int) (i : Nat) (s8 : Sl) : Prop where
  row : Nq (w.alloc (.cells #[.int .i64 0, .int .i64 0, .slice none 0 0] 25)) wr s8 (leftV me next (live.take i))
  pos : ∀ j, j < i → 1 ≤ live.getD j 0

theorem OwI.res {w wr : World} {me next : Int} {live : List Int} {i : Nat} {s8 : Sl} (h : OwI w wr me next live i s8) : VwBlk wr w.heap.size Vw.zero Sl.nil := (vwBlk_new w Vw.zero Sl.nil).keep h.row.below
theorem OwI.below {w wr : World} {me next : Int} {live : List Int} {i : Nat} {s8 : Sl} (h : OwI w wr me next live i s8) : Below w.heap.size w wr := rBelow (below_alloc w (.cells #[.int .i64 0, .int .i64 0, .slice none 0 0] 25)) h.row.below

set_option maxHeartbeats 16000000 in
set_option maxRecDepth 100000 in
theorem zof_any (w : World) (s : Sl) (live : List Int) (h : Gi (fun _ => True) w s live) (hlen : s.len ≤ 200) (me next : Int) :
    Calls Try.prog 8 #[.int .i64 me, .int .i64 next, s.val] w (OfTold w (ofV me next live) (fun x ok => .tuple #[x, .int .i64 (errV ok)])) := by
  obtain ⟨a, len, cap⟩ := s
  have hl : len ≤ 200 := hlen
  have HL : Hid (live.length = len) := h.len
  have H := hide h
  obtain ⟨o, ho⟩ : ∃ o, o = ofV me next live := ⟨_, rfl⟩
  rw [← ho]
  have HO := hide ho
  have hA1 := below_alloc w (.cells #[.int .i64 0, .int .i64 0, .slice none 0 0] 25)
  have hI : OwI w (w.alloc (.cells #[.int .i64 0, .int .i64 0, .slice none 0 0] 25)) me next live 0 Sl.nil :=
    ⟨⟨Own.nil _ _ _, fun k hk => (by cases hk), Below.refl _ _⟩, fun j hj => absurd hj (Nat.not_lt_zero _)⟩
  have HI := hide hI
  clear h hlen ho hA1 hI
  unfold Sl.val
  simp only
  go_enter Try.func8, Try.ntmps8
  go_wp2_with fail
  go_loopw [8, 15] (fun sv iv wr => ∃ (i : Nat) (s8 : Sl), i ≤ len ∧ sv = .slice s8.a s8.len s8.cap ∧ iv = .int .i64 (i : Nat) ∧ Hid (OwI w wr me next live i s8)) (fun _ iv _ => len - (intOf iv).toNat)
  case atStart => exact ⟨0, Sl.nil, Nat.zero_le _, rfl, rfl, HI⟩
  case round =>
    obtain ⟨i, ⟨s8a, s8n, s8c⟩, hi, rfl, rfl, hoi⟩ := hrel
    simp only
    clear HI
    have hl8 : s8n ≤ i := by
      have h1 : (leftV me next (live.take i)).length = s8n := hoi.out.row.own.len
      have h2 := leftV_len me next (live.take i)
      rw [List.length_take] at h2
      omega
    rcases Nat.lt_or_ge i len with hlt | hge
    · have i1 : ((i : Nat) : Int) < ((len : Nat) : Int) := by omega
      have HGW := hide (H.out.below hoi.out.below (Nat.le_refl _))
      obtain ⟨bb, oo, ha, c0⟩ := HGW.out.cell i hlt
      replace ha : a = some ⟨bb, oo, none⟩ := ha
      subst ha
      have htk := leftV_take (me := me) (next := next) (live := live) (i := i) (by rw [HL.out]; exact hlt)
      obtain ⟨t, ht⟩ : ∃ t, t = live.getD i 0 := ⟨_, rfl⟩
      rw [← ht] at c0 htk
      have HT := hide ht
      have HTK := hide htk
      have HIL : Hid (i < live.length) := by show _ < _; rw [HL.out]; exact hlt
      clear ht HGW htk
      by_cases hlow : t < 1
      · obtain ⟨W, hst, hk, hf, hz⟩ := stVw hoi.out.res Vw.zero Sl.nil
        have HST := hide hst
        have HOT : Hid (OfTold w o (fun x ok => .tuple #[x, .int .i64 (errV ok)]) (.returned (.tuple #[.agg #[.int .i64 0, .int .i64 0, .slice none 0 0], .int .i64 1])) W) := by
          refine OfTold.no (mk := fun x ok => .tuple #[x, .int .i64 (errV ok)]) ?_ (hoi.out.below.trans (hf.below hoi.out.below.size (fun k hk => by rw [hk]; exact Nat.le_refl _)))
          rw [HO.out]
          exact ofV_low (x := t) (by rw [HT.out]; exact mem_getD0 HIL.out) hlow
        have HKW := hide hk
        unfold Vw.zero Sl.nil vwV Sl.val at HST
        simp only at HST
        clear hst hk hf hz hoi HO
        go_wp2_with (first | refine wpList_store _ rfl rfl 25 (.tmp 6) (.tmp 21) rfl (.pointer (some ⟨w.heap.size, 0, none⟩)) (.agg #[.int .i64 0, .int .i64 0, .slice none 0 0]) rfl rfl W HST.out ?_)
        refine bodyPost_ret (vw_results2 rfl HKW.out _ _ rfl rfl) rfl ?_
        exact HOT.out
      · have HP : Hid (1 ≤ t) := by show _ ≤ _; omega
        have HPS : Hid (∀ j, j < i + 1 → 1 ≤ live.getD j 0) := by
          intro j hj
          by_cases e : j = i
          · rw [e, ← HT.out]; exact HP.out
          · exact hoi.out.pos j (by omega)
        by_cases hst : t < next ∧ t ≠ me
        · obtain ⟨hn, hne⟩ := hst
          have bne : (t == me) = false := beq_eq_false_iff_ne.2 hne
          have hB := below_alloc wr (.cells #[.int .i64 t] 3)
          have h1 := hoi.out.row.keep hB
          obtain ⟨⟨s9a, s9n, s9c⟩, W', hrun, hnq, hfr, hln⟩ := h1.app ((gi_lit1 wr t).src) (by show s8n + 1 ≤ _; omega)
          have HRUN := hide hrun
          have HNX : Hid (OwI w W' me next live (i + 1) ⟨s9a, s9n, s9c⟩) := ⟨by rw [HTK.out, if_pos ⟨hn, hne⟩]; exact hnq, HPS.out⟩
          unfold Sl.val at HRUN
          simp only at HRUN
          clear hB h1 hrun hnq hfr hln hoi hne
          go_wp2_with (first | refine wpList_app _ rfl (.tmp 30) (.tmp 32) rfl (.slice s8a s8n s8c) (.slice (some ⟨wr.heap.size, 0, none⟩) 1 1) _ rfl rfl W' HRUN.out ?_)
          go_roundw
          case rel => exact ⟨i + 1, ⟨s9a, s9n, s9c⟩, by omega, rfl, by go_num, HNX⟩
          case measure => simp only [intOf]; omega
        · have HNX : Hid (OwI w wr me next live (i + 1) ⟨s8a, s8n, s8c⟩) := by
            have e : leftV me next (live.take (i + 1)) = leftV me next (live.take i) := by rw [HTK.out, if_neg hst, List.append_nil]
            exact ⟨by rw [e]; exact hoi.out.row, HPS.out⟩
          by_cases hn : t < next
          · have bne : (t == me) = true := by
              have : t = me := by omega
              rw [this]; exact beq_self_eq_true _
            clear hoi hst
            go_wp2_with fail
            go_roundw
            case rel => exact ⟨i + 1, ⟨s8a, s8n, s8c⟩, by omega, rfl, by go_num, HNX⟩
            case measure => simp only [intOf]; omega
          · clear hoi hst
            go_wp2_with fail
            go_roundw
            case rel => exact ⟨i + 1, ⟨s8a, s8n, s8c⟩, by omega, rfl, by go_num, HNX⟩
            case measure => simp only [intOf]; omega
    · have i1 : ¬ ((i : Nat) : Int) < ((len : Nat) : Int) := by omega
      have hrow := hoi.out.row
      rw [List.take_of_length_le (by rw [HL.out]; exact hge)] at hrow
      have HW1 := hide hrow.below
      have HPOS : Hid (∀ y ∈ live, 1 ≤ y) := by
        intro y hy
        obtain ⟨j, hj, e⟩ := List.mem_iff_getElem.1 hy
        have := hoi.out.pos j (by rw [HL.out] at hj; omega)
        rw [← e]
        simpa [List.getD, hj] using this
      have HSO := hide (sortN_any wr ⟨s8a, s8n, s8c⟩ _ hrow.hd (by show s8n ≤ _; omega))
      have HAC : Hid (cmpct (srt (leftV me next live)) = actsV me next live) := sorted_acts (fun y => leftV_mem)
      unfold Sl.val at HSO
      simp only at HSO
      clear hrow hoi
      go_wp2_with fail
      refine HSO.out.mono ?_
      rintro e w2 ⟨rfl, hd2⟩
      have HCO := hide (compactN_any w2 ⟨s8a, s8n, s8c⟩ _ hd2 (by show s8n ≤ _; omega))
      rw [HAC.out] at HCO
      unfold Sl.val at HCO
      simp only at HCO
      clear hd2 HSO
      go_wp2_with fail
      refine HCO.out.mono ?_
      rintro e w3 ⟨⟨s9a, s9n, s9c⟩, rfl, hl9, hd3⟩
      have hl9' : s9n ≤ s8n := hl9
      obtain ⟨acc, hac⟩ : ∃ acc, acc = actsV me next live := ⟨_, rfl⟩
      rw [← hac] at hd3
      have HACC := hide hac
      have hgi := hd3.gi (by show s9n ≤ _; omega)
      obtain ⟨W4, hst, hk4, hbW⟩ := box_vw w3 ⟨me, next, acc⟩ ⟨s9a, s9n, s9c⟩
      have HST := hide hst
      have HK4 := hide hk4
      have HG4 := hide (hgi.below hbW (Nat.le_refl _))
      have HB4 := hide (rBelow hd3.below hbW)
      have HCK := hide (zcheck_any W4 ⟨s9a, s9n, s9c⟩ ⟨me, next, acc⟩ (HG4.out.wide (fun _ _ => trivial)) (by show s9n ≤ 200; omega))
      obtain ⟨m, hm⟩ : ∃ m, m = decide (MayV ⟨me, next, acc⟩) := ⟨_, rfl⟩
      rw [← hm] at HCK
      have HM := hide hm
      have k0 := hk4.c0
      have k1 := hk4.c1
      have k2 := hk4.c2
      unfold vwV Sl.val at HST HCK
      unfold Sl.val at k2
      simp only at HST HCK k0 k1 k2 ⊢
      clear hl9 hd3 hac hgi hst hk4 hbW hm HCO
      go_wp2_with (first | refine wpList_store _ rfl rfl 25 (.tmp 11) (.tmp 41) rfl (.pointer (some ⟨w3.heap.size, 0, none⟩)) (.agg #[.int .i64 me, .int .i64 next, .slice s9a s9n s9c]) rfl rfl W4 HST.out ?_)
      refine HCK.out.mono ?_
      rintro e w5 ⟨rfl, hb5⟩
      have HB5 := hide (rBelow HB4.out hb5)
      have HBB := hide (rBelow (below_alloc w (.cells #[.int .i64 0, .int .i64 0, .slice none 0 0] 25)) HB5.out)
      have HR5 := hide ((vwBlk_new w Vw.zero Sl.nil).keep HB5.out)
      have HG5 := hide (HG4.out.below hb5 (Nat.le_refl _))
      have hk5 := HK4.out.keep hb5
      have k0 := hk5.c0
      have k1 := hk5.c1
      have k2 := hk5.c2
      unfold Sl.val at k2
      simp only at k0 k1 k2
      clear hb5 hk5 HCK
      cases m with
      | false =>
        obtain ⟨W, hst, hk, hf, hz⟩ := stVw HR5.out Vw.zero Sl.nil
        have HST := hide hst
        have HOT : Hid (OfTold w o (fun x ok => .tuple #[x, .int .i64 (errV ok)]) (.returned (.tuple #[.agg #[.int .i64 0, .int .i64 0, .slice none 0 0], .int .i64 1])) W) := by
          refine OfTold.no (mk := fun x ok => .tuple #[x, .int .i64 (errV ok)]) ?_ (HBB.out.trans (hf.below HBB.out.size (fun k hk => by rw [hk]; exact Nat.le_refl _)))
          rw [HO.out]
          exact ofV_not (fun e => by rw [← HACC.out] at e; have := HM.out; rw [decide_eq_true e] at this; cases this)
        have HKW := hide hk
        unfold Vw.zero Sl.nil vwV Sl.val at HST
        unfold errV
        simp only [Bool.false_eq_true, if_false] at HST ⊢
        clear hst hk hf hz HO
        go_wp2_with (first | refine wpList_store _ rfl rfl 25 (.tmp 6) (.tmp 46) rfl (.pointer (some ⟨w.heap.size, 0, none⟩)) (.agg #[.int .i64 0, .int .i64 0, .slice none 0 0]) rfl rfl W HST.out ?_)
        refine bodyPost_ret (vw_results2 rfl HKW.out _ _ rfl rfl) rfl ?_
        exact HOT.out
      | true =>
        obtain ⟨W, hst, hk, hf, hz⟩ := stVw HR5.out ⟨me, next, acc⟩ ⟨s9a, s9n, s9c⟩
        have HST := hide hst
        have HOT : Hid (OfTold w o (fun x ok => .tuple #[x, .int .i64 (errV ok)]) (.returned (.tuple #[.agg #[.int .i64 me, .int .i64 next, .slice s9a s9n s9c], .int .i64 0])) W) := by
          refine ⟨HBB.out.trans (hf.below HBB.out.size (fun k hk => by rw [hk]; exact Nat.le_refl _)), ⟨me, next, acc⟩, ⟨s9a, s9n, s9c⟩, true, rfl, ?_, .inl ⟨?_, rfl⟩⟩
          · refine (HG5.out.keep (Kept.frm hf (fun k h1 e => ?_))).wide (fun k hk => ?_)
            · rw [alloc_size] at h1; omega
            · rw [alloc_size] at hk; omega
          · rw [HO.out, HACC.out]
            exact ofV_some HPOS.out (by rw [← HACC.out]; exact of_decide_eq_true HM.out.symm)
        have HKW := hide hk
        unfold vwV Sl.val at HST
        unfold errV
        simp only [if_true] at HST ⊢
        clear hst hk hf hz HO
        go_wp2_with (first | refine wpList_store _ rfl rfl 25 (.tmp 6) (.tmp 48) rfl (.pointer (some ⟨w.heap.size, 0, none⟩)) (.agg #[.int .i64 me, .int .i64 next, .slice s9a s9n s9c]) rfl rfl W HST.out ?_)
        refine bodyPost_ret (vw_results2 rfl HKW.out _ _ rfl rfl) rfl ?_
        exact HOT.out

theorem viewS_holds : ViewS where
  check := fun w s v h hs => zcheck_any w s v h hs
  of := fun w s live h hs me next => zof_any w s live h hs me next
  sees := fun w s v h hs x => zsees_any w s v h hs x
  all := fun w s L h _ hl x => zall_any w s L h hl x
  same := fun w s t v u h k hs ht => zsame_any w s t v u h k hs ht

end Go.Proofs.Ytehmemfeagjagaa
