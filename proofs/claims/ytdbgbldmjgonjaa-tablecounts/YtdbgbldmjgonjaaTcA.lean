/-
  Layer 11, the landed table: isNext, mayStand, clash; slices.IndexFunc and slices.ContainsFunc of entries; Check; entryOf, Find.
-/
import Derived.Test.YtdbgbldmjgonjaaTbD
namespace Go.Proofs.Ytdbgbldmjgonjaa
open Go.RowKit
set_option linter.unusedVariables false

set_option maxHeartbeats 1000000 in
theorem isNextT_b (n : Int) (b : Bool) (w : World) (hb : b = decide (1 ≤ n ∧ n ≤ 2147483647)) : Calls Try.prog 38 #[.int .i64 n] w fun e w' => e = .returned (.bool b) ∧ w' = w := by
  by_cases h1 : 1 ≤ n
  · by_cases h2 : n ≤ 2147483647
    · have h : b = true := hb.trans (decide_eq_true ⟨h1, h2⟩)
      clear hb
      subst h
      go_enter Try.func38, Try.ntmps38
      go_wp2_with fail
      go_ret
      exact ⟨rfl, rfl⟩
    · have h : b = false := hb.trans (decide_eq_false (fun k => h2 k.2))
      clear hb
      subst h
      go_enter Try.func38, Try.ntmps38
      go_wp2_with fail
      go_ret
      exact ⟨rfl, rfl⟩
  · have h : b = false := hb.trans (decide_eq_false (fun k => h1 k.1))
    clear hb
    subst h
    go_enter Try.func38, Try.ntmps38
    go_wp2_with fail
    go_ret
    exact ⟨rfl, rfl⟩
theorem isNextT_any (n : Int) (w : World) : Calls Try.prog 38 #[.int .i64 n] w fun e w' => e = .returned (.bool (decide (1 ≤ n ∧ n ≤ 2147483647))) ∧ w' = w := isNextT_b n _ w rfl

/-- May an entry stand, as far as others do not count? -/
def Stand (t : Tb) (x : En) : Prop := (x.st = 0 ∧ x = En.zero) ∨ ((x.st = 1 ∨ x.st = 2) ∧ (1 ≤ x.tx ∧ x.tx < t.nx) ∧ (0 ≤ x.last ∧ x.last ≤ 65535) ∧ (x.st = 1 → x.com = 0) ∧ (x.st = 2 → 1 ≤ x.com ∧ x.com ≤ t.cm))
instance (t : Tb) (x : En) : Decidable (Stand t x) := by unfold Stand; infer_instance
/-- Have entries a number in common? -/
def clashB (x y : En) : Bool := (x.tx != 0 && x.tx == y.tx) || (x.com != 0 && x.com == y.com)

theorem entOk_iff (t : Tb) (i : Nat) : EntOk t i ↔ Stand t (t.en i) ∧ ∀ k, k < i → clashB (t.en i) (t.en k) = false := by
  constructor
  · intro h
    have hs := h.st
    constructor
    · by_cases h0 : (t.en i).st = 0
      · exact .inl ⟨h0, h.free h0⟩
      · exact .inr ⟨by omega, h.tx h0, h.last h0, h.act, h.done⟩
    · intro k hk
      by_cases h0 : (t.en i).st = 0
      · rw [h.free h0]; rfl
      · have h1 := h.one h0 k hk
        have h2 := h.tx h0
        have h3 : (t.en i).com = 0 ∨ 0 < (t.en i).com := by
          by_cases h1 : (t.en i).st = 1
          · exact .inl (h.act h1)
          · have := h.done (by omega)
            exact .inr (by omega)
        unfold clashB
        rw [show ((t.en i).tx == (t.en k).tx) = false from beq_eq_false_iff_ne.2 (fun e => h1.1 e.symm), Bool.and_false, Bool.false_or]
        rcases h3 with h3 | h3
        · rw [h3]; rfl
        · rw [show ((t.en i).com == (t.en k).com) = false from beq_eq_false_iff_ne.2 (fun e => h1.2 h3 e.symm), Bool.and_false]
  · rintro ⟨h, hc⟩
    rcases h with ⟨h0, he⟩ | ⟨hs, htx, hla, hac, hdo⟩
    · have z0 : En.zero.st = 0 := rfl
      constructor <;> rw [he]
      · decide
      · exact fun _ => rfl
      · exact fun h => absurd z0 h
      · exact fun h => absurd z0 h
      · exact fun _ => rfl
      · exact fun h => by cases h
      · exact fun h => absurd z0 h
    · refine ⟨by omega, fun h => by omega, fun _ => htx, fun _ => hla, hac, hdo, fun _ k hk => ?_⟩
      have h1 := hc k hk
      unfold clashB at h1
      simp only [Bool.or_eq_false_iff, Bool.and_eq_false_iff, bne_eq_false_iff_eq, beq_eq_false_iff_ne] at h1
      refine ⟨fun e => ?_, fun h0 e => ?_⟩
      · rcases h1.1 with k1 | k1
        · omega
        · exact k1 e.symm
      · rcases h1.2 with k1 | k1
        · omega
        · exact k1 e.symm

theorem boxes_te (w : World) (t : Tb) (v : Sl) (x : En) : Below w.heap.size w ((w.alloc (.cells #[.int .i64 t.nx, .int .i64 t.no, .int .i64 t.cm, .slice v.a v.len v.cap] 24)).alloc (.cells #[.int .i64 x.tx, .int .i64 x.st, .int .i64 x.last, .int .i64 x.com] 58)) := rBelow (below_alloc _ _) (below_alloc _ _)
theorem boxes_ee (w : World) (x y : En) : Below w.heap.size w ((w.alloc (.cells #[.int .i64 x.tx, .int .i64 x.st, .int .i64 x.last, .int .i64 x.com] 58)).alloc (.cells #[.int .i64 y.tx, .int .i64 y.st, .int .i64 y.last, .int .i64 y.com] 58)) := rBelow (below_alloc _ _) (below_alloc _ _)

set_option maxHeartbeats 8000000 in
set_option maxRecDepth 100000 in
theorem standT_b (t : Tb) (v : Sl) (xt xs xl xc : Int) (b : Bool) (w : World) (hb : b = decide (Stand t ⟨xt, xs, xl, xc⟩)) :
    Calls Try.prog 39 #[.agg #[.int .i64 t.nx, .int .i64 t.no, .int .i64 t.cm, .slice v.a v.len v.cap], .agg #[.int .i64 xt, .int .i64 xs, .int .i64 xl, .int .i64 xc]] w fun e w' => e = .returned (.bool b) ∧ Below w.heap.size w w' := by
  have HW := boxes_te w t v ⟨xt, xs, xl, xc⟩
  simp only at HW
  replace HW := hide HW
  by_cases h0 : xs = 0
  · by_cases h1 : xt = 0
    · by_cases h2 : xl = 0
      · by_cases h3 : xc = 0
        · have h : b = true := hb.trans (decide_eq_true (.inl ⟨h0, by rw [h0, h1, h2, h3]; rfl⟩))
          clear hb
          subst h
          subst h0
          subst h1
          subst h2
          subst h3
          go_enter Try.func39, Try.ntmps39
          go_wp2_with fail
          go_ret
          exact ⟨by first | rfl | simp [*], HW.out⟩
        · have h : b = false := hb.trans (decide_eq_false (fun k => k.elim (fun k => h3 (congrArg En.com k.2)) (fun k => by have := k.1; simp only at this; omega)))
          clear hb
          subst h
          subst h0
          subst h1
          subst h2
          go_enter Try.func39, Try.ntmps39
          go_wp2_with fail
          go_ret
          exact ⟨by first | rfl | simp [*], HW.out⟩
      · have h : b = false := hb.trans (decide_eq_false (fun k => k.elim (fun k => h2 (congrArg En.last k.2)) (fun k => by have := k.1; simp only at this; omega)))
        clear hb
        subst h
        subst h0
        subst h1
        go_enter Try.func39, Try.ntmps39
        go_wp2_with fail
        go_ret
        exact ⟨by first | rfl | simp [*], HW.out⟩
    · have h : b = false := hb.trans (decide_eq_false (fun k => k.elim (fun k => h1 (congrArg En.tx k.2)) (fun k => by have := k.1; simp only at this; omega)))
      clear hb
      subst h
      subst h0
      go_enter Try.func39, Try.ntmps39
      go_wp2_with fail
      go_ret
      exact ⟨by first | rfl | simp [*], HW.out⟩
  by_cases v0 : xt < 1
  · have h : b = false := hb.trans (decide_eq_false (fun k => k.elim (fun k => h0 k.1) (fun k => by have := k.2.1; simp only at this; omega)))
    clear hb
    subst h
    go_enter Try.func39, Try.ntmps39
    go_wp2_with fail
    go_ret
    exact ⟨by first | rfl | simp [*], HW.out⟩
  by_cases v1 : t.nx ≤ xt
  · have h : b = false := hb.trans (decide_eq_false (fun k => k.elim (fun k => h0 k.1) (fun k => by have := k.2.1; simp only at this; omega)))
    clear hb
    subst h
    go_enter Try.func39, Try.ntmps39
    go_wp2_with fail
    go_ret
    exact ⟨by first | rfl | simp [*], HW.out⟩
  by_cases v2 : xl < 0
  · have h : b = false := hb.trans (decide_eq_false (fun k => k.elim (fun k => h0 k.1) (fun k => by have := k.2.2.1; simp only at this; omega)))
    clear hb
    subst h
    go_enter Try.func39, Try.ntmps39
    go_wp2_with fail
    go_ret
    exact ⟨by first | rfl | simp [*], HW.out⟩
  by_cases v3 : 65535 < xl
  · have h : b = false := hb.trans (decide_eq_false (fun k => k.elim (fun k => h0 k.1) (fun k => by have := k.2.2.1; simp only at this; omega)))
    clear hb
    subst h
    go_enter Try.func39, Try.ntmps39
    go_wp2_with fail
    go_ret
    exact ⟨by first | rfl | simp [*], HW.out⟩
  by_cases s1 : xs = 1
  · by_cases c0 : xc = 0
    · have h : b = true := hb.trans (decide_eq_true (.inr ⟨.inl s1, by simp only; omega, by simp only; omega, fun _ => c0, fun k => by simp only at k; omega⟩))
      clear hb
      subst h
      subst s1
      subst c0
      go_enter Try.func39, Try.ntmps39
      go_wp2_with fail
      go_ret
      exact ⟨by first | rfl | simp [*], HW.out⟩
    · have h : b = false := hb.trans (decide_eq_false (fun k => k.elim (fun k => h0 k.1) (fun k => c0 (k.2.2.2.1 s1))))
      clear hb
      subst h
      subst s1
      go_enter Try.func39, Try.ntmps39
      go_wp2_with fail
      go_ret
      exact ⟨by first | rfl | simp [*], HW.out⟩
  by_cases s2 : xs = 2
  · by_cases c0 : 1 ≤ xc
    · by_cases c1 : xc ≤ t.cm
      · have h : b = true := hb.trans (decide_eq_true (.inr ⟨.inr s2, by simp only; omega, by simp only; omega, fun k => by simp only at k; omega, fun _ => ⟨c0, c1⟩⟩))
        clear hb
        subst h
        subst s2
        go_enter Try.func39, Try.ntmps39
        go_wp2_with fail
        go_ret
        exact ⟨by first | rfl | simp [*], HW.out⟩
      · have h : b = false := hb.trans (decide_eq_false (fun k => k.elim (fun k => h0 k.1) (fun k => c1 (k.2.2.2.2 s2).2)))
        clear hb
        subst h
        subst s2
        go_enter Try.func39, Try.ntmps39
        go_wp2_with fail
        go_ret
        exact ⟨by first | rfl | simp [*], HW.out⟩
    · have h : b = false := hb.trans (decide_eq_false (fun k => k.elim (fun k => h0 k.1) (fun k => c0 (k.2.2.2.2 s2).1)))
      clear hb
      subst h
      subst s2
      go_enter Try.func39, Try.ntmps39
      go_wp2_with fail
      go_ret
      exact ⟨by first | rfl | simp [*], HW.out⟩
  have h : b = false := hb.trans (decide_eq_false (fun k => k.elim (fun k => h0 k.1) (fun k => by have := k.1; simp only at this; omega)))
  clear hb
  subst h
  go_enter Try.func39, Try.ntmps39
  go_wp2_with fail
  go_ret
  exact ⟨by first | rfl | simp [*], HW.out⟩
theorem standT_any (t : Tb) (v : Sl) (x : En) (w : World) :
    Calls Try.prog 39 #[t.val v, x.val] w fun e w' => e = .returned (.bool (decide (Stand t x))) ∧ Below w.heap.size w w' := standT_b t v x.tx x.st x.last x.com _ w rfl

set_option maxHeartbeats 8000000 in
set_option maxRecDepth 100000 in
theorem clashT_b (xt xs xl xc yt ys yl yc : Int) (b : Bool) (w : World) (hb : b = ((xt != 0 && xt == yt) || (xc != 0 && xc == yc))) :
    Calls Try.prog 42 #[.agg #[.int .i64 xt, .int .i64 xs, .int .i64 xl, .int .i64 xc], .agg #[.int .i64 yt, .int .i64 ys, .int .i64 yl, .int .i64 yc]] w fun e w' => e = .returned (.bool b) ∧ Below w.heap.size w w' := by
  have HW := boxes_ee w ⟨xt, xs, xl, xc⟩ ⟨yt, ys, yl, yc⟩
  simp only at HW
  replace HW := hide HW
  by_cases a0 : xt = 0
  · by_cases b0 : xc = 0
    · have h : b = false := hb.trans (by simp [a0, b0])
      clear hb
      subst h
      subst a0
      subst b0
      go_enter Try.func42, Try.ntmps42
      go_wp2_with fail
      go_ret
      exact ⟨by first | rfl | simp [*], HW.out⟩
    by_cases b1 : xc = yc
    · have h : b = true := hb.trans (by subst b1; simp [b0])
      clear hb
      subst h
      subst a0
      subst b1
      go_enter Try.func42, Try.ntmps42
      go_wp2_with fail
      go_ret
      exact ⟨by first | rfl | simp [*], HW.out⟩
    have h : b = false := hb.trans (by simp [a0, b1])
    clear hb
    subst h
    subst a0
    go_enter Try.func42, Try.ntmps42
    go_wp2_with fail
    go_ret
    exact ⟨by first | rfl | simp [*], HW.out⟩
  by_cases a1 : xt = yt
  · have h : b = true := hb.trans (by subst a1; simp [a0])
    clear hb
    subst h
    subst a1
    go_enter Try.func42, Try.ntmps42
    go_wp2_with fail
    go_ret
    exact ⟨by first | rfl | simp [*], HW.out⟩
  by_cases b0 : xc = 0
  · have h : b = false := hb.trans (by simp [a1, b0])
    clear hb
    subst h
    subst b0
    go_enter Try.func42, Try.ntmps42
    go_wp2_with fail
    go_ret
    exact ⟨by first | rfl | simp [*], HW.out⟩
  by_cases b1 : xc = yc
  · have h : b = true := hb.trans (by subst b1; simp [b0])
    clear hb
    subst h
    subst b1
    go_enter Try.func42, Try.ntmps42
    go_wp2_with fail
    go_ret
    exact ⟨by first | rfl | simp [*], HW.out⟩
  have h : b = false := hb.trans (by simp [a1, b1])
  clear hb
  subst h
  go_enter Try.func42, Try.ntmps42
  go_wp2_with fail
  go_ret
  exact ⟨by first | rfl | simp [*], HW.out⟩
theorem clashT_any (x y : En) (w : World) :
    Calls Try.prog 42 #[x.val, y.val] w fun e w' => e = .returned (.bool (clashB x y)) ∧ Below w.heap.size w w' := clashT_b x.tx x.st x.last x.com y.tx y.st y.last y.com _ w rfl

set_option maxHeartbeats 4000000 in
set_option maxRecDepth 100000 in
theorem check1_any (x y : En) (b : Nat) (w : World) (hb : EnAt w b 0 x) :
    Calls Try.prog 41 #[.agg #[.int .i64 y.tx, .int .i64 y.st, .int .i64 y.last, .int .i64 y.com], .pointer (some ⟨b, 0, none⟩)] w fun e w' => e = .returned (.bool (clashB x y)) ∧ Below w.heap.size w w' := by
  have hA := below_alloc w (.cells #[.int .i64 y.tx, .int .i64 y.st, .int .i64 y.last, .int .i64 y.com] 58)
  have HC := hide (clashT_any x y (w.alloc (.cells #[.int .i64 y.tx, .int .i64 y.st, .int .i64 y.last, .int .i64 y.com] 58)))
  have HLX := hide (load_en b 0 x _ (hb.keep hA (Nat.le_refl _)))
  have HLY := hide (load_en w.heap.size 0 y _ (EnBlk.new w y).at)
  have HA := hide hA
  clear hA hb
  go_enter Try.func41, Try.ntmps41
  go_wp2_with (first | refine wpList_load _ rfl 58 (.tmp 1) rfl (.pointer (some ⟨b, 0, none⟩)) x.val rfl HLX.out ?_ | refine wpList_load _ rfl 58 (.tmp 2) rfl (.pointer (some ⟨w.heap.size, 0, none⟩)) y.val rfl HLY.out ?_)
  refine HC.out.mono ?_
  rintro e w1 ⟨rfl, hb1⟩
  have HB1 := hide (rBelow HA.out hb1)
  clear hb1
  go_wp2_with fail
  go_ret
  exact ⟨rfl, HB1.out⟩

set_option maxHeartbeats 4000000 in
set_option maxRecDepth 100000 in
theorem entryOf1_any (tx : Int) (y : En) (b : Nat) (w : World) (hb : w.cell? ⟨b, 0, none⟩ = some (.int .i64 tx)) :
    Calls Try.prog 60 #[.agg #[.int .i64 y.tx, .int .i64 y.st, .int .i64 y.last, .int .i64 y.com], .pointer (some ⟨b, 0, none⟩)] w fun e w' => e = .returned (.bool (y.tx == tx)) ∧ Below w.heap.size w w' := by
  have hA := below_alloc w (.cells #[.int .i64 y.tx, .int .i64 y.st, .int .i64 y.last, .int .i64 y.com] 58)
  have hc := (hA.cell (p := ⟨b, 0, none⟩) (World.block_lt_of_cell? w _ hb)).trans hb
  have HA := hide hA
  clear hA hb
  go_enter Try.func60, Try.ntmps60
  go_wp2_with fail
  go_ret
  exact ⟨rfl, HA.out⟩

set_option maxHeartbeats 4000000 in
set_option maxRecDepth 100000 in
theorem idxClash (w : World) (v : Sl) (l : List En) (h : Es w v l) (b : Nat) (x : En) (hb : EnAt w b 0 x) :
    Calls Try.prog 59 #[.slice v.a v.len v.cap, .func (.func 41) #[] #[.pointer (some ⟨b, 0, none⟩)]] w fun e w' => e = .returned (.int .i64 (ixN (l.findIdx? (fun y => clashB x y)))) ∧ Below w.heap.size w w' := by
  have HE := hide h
  have hl : l.length = v.len := h.len
  have hbig := h.big
  have HC := hide hb
  have H0 := hide (Below.refl w.heap.size w)
  clear h hb
  obtain ⟨va, vl, vc⟩ := v
  simp only at hl hbig
  have HL := hide hl
  clear hl
  simp only
  go_enter Try.func59, Try.ntmps59
  go_wp2_with fail
  go_loopw [8] (fun iv wr => ∃ i : Nat, i ≤ vl ∧ iv = .int .i64 (i : Nat) ∧ Hid (∀ j, j < i → (fun y => clashB x y) (l.getD j En.zero) = false) ∧ Hid (Below w.heap.size w wr)) (fun iv _ => vl - (intOf iv).toNat)
  case atStart => exact ⟨0, Nat.zero_le _, rfl, fun j hj => absurd hj (Nat.not_lt_zero _), H0⟩
  case round =>
    obtain ⟨i, hi, rfl, hix, hbr⟩ := hrel
    rcases Nat.lt_or_ge i vl with hlt | hge
    · have i1 : ((i : Nat) : Int) < ((vl : Nat) : Int) := by omega
      obtain ⟨b1, off, ha, hat⟩ := (HE.out.keep hbr.out (Nat.le_refl _)).at' i hlt
      replace ha : va = some ⟨b1, off, none⟩ := ha
      subst ha
      obtain ⟨y, hy⟩ : ∃ y, y = l.getD i En.zero := ⟨_, rfl⟩
      rw [← hy] at hat
      have c0 := hat.c0
      have c1 := hat.c1
      have c2 := hat.c2
      have c3 := hat.c3
      have HY := hide hy
      have HCL := hide (check1_any x y b wr (HC.out.keep hbr.out (Nat.le_refl _)))
      clear hat hy
      cases hon : (clashB x y : Bool) with
      | true =>
        rw [hon] at HCL
        have HF : Hid (l.findIdx? (fun y => clashB x y) = some i) := idx_is (by rw [HL.out]; exact hlt) (by rw [← HY.out]; exact hon) hix.out
        clear hix HY hon
        go_wp2_with fail
        refine HCL.out.mono ?_
        rintro e w1 ⟨rfl, hb1⟩
        have HB1 := hide (rBelow hbr.out hb1)
        clear hb1
        go_wp2_with fail
        go_ret
        exact ⟨by rw [HF.out]; rfl, HB1.out⟩
      | false =>
        rw [hon] at HCL
        have HN : Hid (∀ j, j < i + 1 → (fun y => clashB x y) (l.getD j En.zero) = false) := by
          intro j hj
          by_cases e : j = i
          · rw [e, ← HY.out]; exact hon
          · exact hix.out j (by omega)
        clear hix HY hon
        go_wp2_with fail
        refine HCL.out.mono ?_
        rintro e w1 ⟨rfl, hb1⟩
        have HB1 := hide (rBelow hbr.out hb1)
        clear hb1
        go_wp2_with fail
        go_roundw
        case rel => exact ⟨i + 1, by omega, by go_num, HN, HB1⟩
        case measure => simp only [intOf]; omega
    · have i1 : ¬ ((i : Nat) : Int) < ((vl : Nat) : Int) := by omega
      have HF : Hid (l.findIdx? (fun y => clashB x y) = none) := idx_no (fun j hj => hix.out j (by rw [HL.out] at hj; omega))
      clear hix
      go_wp2_with fail
      go_ret
      exact ⟨by rw [HF.out]; rfl, hbr.out⟩

set_option maxHeartbeats 4000000 in
set_option maxRecDepth 100000 in
theorem idxTx (w : World) (v : Sl) (l : List En) (h : Es w v l) (b : Nat) (tx : Int) (hb : w.cell? ⟨b, 0, none⟩ = some (.int .i64 tx)) :
    Calls Try.prog 59 #[.slice v.a v.len v.cap, .func (.func 60) #[] #[.pointer (some ⟨b, 0, none⟩)]] w fun e w' => e = .returned (.int .i64 (ixN (l.findIdx? (fun y => y.tx == tx)))) ∧ Below w.heap.size w w' := by
  have HE := hide h
  have hl : l.length = v.len := h.len
  have hbig := h.big
  have HC := hide hb
  have H0 := hide (Below.refl w.heap.size w)
  clear h hb
  obtain ⟨va, vl, vc⟩ := v
  simp only at hl hbig
  have HL := hide hl
  clear hl
  simp only
  go_enter Try.func59, Try.ntmps59
  go_wp2_with fail
  go_loopw [8] (fun iv wr => ∃ i : Nat, i ≤ vl ∧ iv = .int .i64 (i : Nat) ∧ Hid (∀ j, j < i → (fun y => y.tx == tx) (l.getD j En.zero) = false) ∧ Hid (Below w.heap.size w wr)) (fun iv _ => vl - (intOf iv).toNat)
  case atStart => exact ⟨0, Nat.zero_le _, rfl, fun j hj => absurd hj (Nat.not_lt_zero _), H0⟩
  case round =>
    obtain ⟨i, hi, rfl, hix, hbr⟩ := hrel
    rcases Nat.lt_or_ge i vl with hlt | hge
    · have i1 : ((i : Nat) : Int) < ((vl : Nat) : Int) := by omega
      obtain ⟨b1, off, ha, hat⟩ := (HE.out.keep hbr.out (Nat.le_refl _)).at' i hlt
      replace ha : va = some ⟨b1, off, none⟩ := ha
      subst ha
      obtain ⟨y, hy⟩ : ∃ y, y = l.getD i En.zero := ⟨_, rfl⟩
      rw [← hy] at hat
      have c0 := hat.c0
      have c1 := hat.c1
      have c2 := hat.c2
      have c3 := hat.c3
      have HY := hide hy
      have HCL := hide (entryOf1_any tx y b wr ((hbr.out.cell (World.block_lt_of_cell? w _ HC.out)).trans HC.out))
      clear hat hy
      cases hon : (y.tx == tx : Bool) with
      | true =>
        rw [hon] at HCL
        have HF : Hid (l.findIdx? (fun y => y.tx == tx) = some i) := idx_is (by rw [HL.out]; exact hlt) (by rw [← HY.out]; exact hon) hix.out
        clear hix HY hon
        go_wp2_with fail
        refine HCL.out.mono ?_
        rintro e w1 ⟨rfl, hb1⟩
        have HB1 := hide (rBelow hbr.out hb1)
        clear hb1
        go_wp2_with fail
        go_ret
        exact ⟨by rw [HF.out]; rfl, HB1.out⟩
      | false =>
        rw [hon] at HCL
        have HN : Hid (∀ j, j < i + 1 → (fun y => y.tx == tx) (l.getD j En.zero) = false) := by
          intro j hj
          by_cases e : j = i
          · rw [e, ← HY.out]; exact hon
          · exact hix.out j (by omega)
        clear hix HY hon
        go_wp2_with fail
        refine HCL.out.mono ?_
        rintro e w1 ⟨rfl, hb1⟩
        have HB1 := hide (rBelow hbr.out hb1)
        clear hb1
        go_wp2_with fail
        go_roundw
        case rel => exact ⟨i + 1, by omega, by go_num, HN, HB1⟩
        case measure => simp only [intOf]; omega
    · have i1 : ¬ ((i : Nat) : Int) < ((vl : Nat) : Int) := by omega
      have HF : Hid (l.findIdx? (fun y => y.tx == tx) = none) := idx_no (fun j hj => hix.out j (by rw [HL.out] at hj; omega))
      clear hix
      go_wp2_with fail
      go_ret
      exact ⟨by rw [HF.out]; rfl, hbr.out⟩

theorem ixN_geq (p : En → Bool) (l : List En) : decide (0 ≤ ixN (l.findIdx? p)) = l.any p := by
  cases h : l.findIdx? p with
  | none =>
    have := List.findIdx?_eq_none_iff.1 h
    rw [List.any_eq_false.2 (fun x hx => by rw [this x hx]; decide)]
    rfl
  | some i =>
    obtain ⟨hi, h1, _⟩ := List.findIdx?_eq_some_iff_getElem.1 h
    rw [List.any_eq_true.2 ⟨_, List.getElem_mem hi, h1⟩]
    exact decide_eq_true (Int.natCast_nonneg _)

set_option maxHeartbeats 4000000 in
theorem contClash (w : World) (v : Sl) (l : List En) (h : Es w v l) (b : Nat) (x : En) (hb : EnAt w b 0 x) :
    Calls Try.prog 40 #[.slice v.a v.len v.cap, .func (.func 41) #[] #[.pointer (some ⟨b, 0, none⟩)]] w fun e w' => e = .returned (.bool (l.any (clashB x))) ∧ Below w.heap.size w w' := by
  have HX := hide (idxClash w v l h b x hb)
  have hg := ixN_geq (clashB x) l
  obtain ⟨z, hz⟩ : ∃ z, z = ixN (l.findIdx? (clashB x)) := ⟨_, rfl⟩
  rw [← hz] at hg
  replace HX : Hid (Calls Try.prog 59 #[.slice v.a v.len v.cap, .func (.func 41) #[] #[.pointer (some ⟨b, 0, none⟩)]] w fun e w' => e = .returned (.int .i64 z) ∧ Below w.heap.size w w') := by rw [hz]; exact HX
  rw [← hg]
  clear h hb hg hz
  by_cases hp : 0 ≤ z
  · have HR : Hid (decide (0 ≤ z) = true) := decide_eq_true hp
    go_enter Try.func40, Try.ntmps40
    go_wp2_with fail
    refine HX.out.mono ?_
    rintro e w1 ⟨rfl, hb1⟩
    have HB1 := hide hb1
    clear hb1
    go_wp2_with fail
    go_ret
    exact ⟨by rw [HR.out]; rfl, HB1.out⟩
  · have HR : Hid (decide (0 ≤ z) = false) := decide_eq_false hp
    go_enter Try.func40, Try.ntmps40
    go_wp2_with fail
    refine HX.out.mono ?_
    rintro e w1 ⟨rfl, hb1⟩
    have HB1 := hide hb1
    clear hb1
    go_wp2_with fail
    go_ret
    exact ⟨by rw [HR.out]; rfl, HB1.out⟩

end Go.Proofs.Ytdbgbldmjgonjaa
