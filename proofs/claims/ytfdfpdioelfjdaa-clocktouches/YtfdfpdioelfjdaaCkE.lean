/-
  Layer 7: slices.Index, slices.Equal, copyOf, both Same, the document's At.
-/
import Derived.Test.YtfdfpdioelfjdaaCkD
namespace Go.Proofs.Ytfdfpdioelfjdaa
open Go.RowKit

set_option maxHeartbeats 4000000 in
theorem index_any {D : Nat → Prop} (w : World) (v : Sl) (l : List Sp) (h : Gs D w v l) :
    Calls Try.prog 31 #[v.val, Sp.none.val] w fun e w' => e = .returned (.int .i64 (ixN l)) ∧ Below w.heap.size w w' := by
  obtain ⟨a, len, cap⟩ := v
  have hl : l.length = len := h.len
  have HL := hide hl
  have hbig : len ≤ 1000000 := h.big
  have hA := below_alloc w (.cells #[.int .i64 (-1), .bool false, .bool false] 38)
  have HG := hide (h.below hA (Nat.le_refl _))
  have H0 := hide (Below.refl (w.alloc (.cells #[.int .i64 (-1), .bool false, .bool false] 38)).heap.size (w.alloc (.cells #[.int .i64 (-1), .bool false, .bool false] 38)))
  have HB := hide (spBlk_new w Sp.none)
  have HA := hide hA
  have HI : Hid (ixN l = ixF (fun s => Sp.none.beq s) (l.drop 0) 0) := rfl
  clear h hl hA
  unfold Sl.val Sp.val Sp.none
  simp only
  go_enter Try.func31, Try.ntmps31
  go_wp2_with fail
  generalize hW : w.alloc (.cells #[.int .i64 (-1), .bool false, .bool false] 38) = W at *
  have HB' : Hid (SpBlk W w.heap.size Sp.none) := hide (by have := HB.out; unfold Sp.none at this; simp only at this; rw [hW] at this; exact this)
  clear hW HB
  go_loopw [8] (fun iv wr => ∃ i : Nat, i ≤ len ∧ iv = .int .i64 (i : Nat) ∧ Hid (ixN l = ixF (fun s => Sp.none.beq s) (l.drop i) i) ∧ Hid (Below W.heap.size W wr)) (fun iv _ => len - (intOf iv).toNat)
  case atStart => exact ⟨0, Nat.zero_le _, rfl, HI, H0⟩
  case round =>
    obtain ⟨i, hi, rfl, hix, hbr⟩ := hrel
    rcases Nat.lt_or_ge i len with hlt | hge
    · have i1 : ((i : Nat) : Int) < ((len : Nat) : Int) := by omega
      obtain ⟨bb, oo, ha, c0, c1, c2⟩ := (HG.out.below hbr.out (Nat.le_refl _)).cell i hlt
      replace ha : a = some ⟨bb, oo, none⟩ := ha
      subst ha
      have HC3 : Hid (Cell3 wr bb (oo + i * 3) (fr l i)) := ⟨c0, c1, c2⟩
      have HBK := hide (HB'.out.below hbr.out)
      clear c0 c1 c2
      cases hon : Sp.none.beq (fr l i) with
      | true =>
        have HE : Hid (ixN l = ((i : Nat) : Int)) := hix.out.trans (ixF_hit (by rw [HL.out]; exact hlt) hon)
        have HON := hide hon
        clear hix hon
        go_wp2_with fail
        refine Pl.region_is (ops := Pl.find 4 ((Try.f31.body).getD .skip)) (by kernel_rfl) ?_
        refine index4 _ bb oo len cap i w.heap.size Sp.none (fr l i) true hlt HBK.out HC3.out HON.out (by rfl) rfl (by rfl) (by rfl) (by rfl) ?_
        intro u w1 hb1
        simp only [Act.put, List.setIfInBounds_toArray, List.set_cons_zero, List.set_cons_succ]
        have HB1 := hide (rBelow HA.out (rBelow hbr.out hb1))
        clear hb1 HC3 HBK
        go_wp2_with fail
        go_ret
        exact ⟨by rw [HE.out]; rfl, HB1.out⟩
      | false =>
        have HE : Hid (ixN l = ixF (fun s => Sp.none.beq s) (l.drop (i + 1)) (i + 1)) := hix.out.trans (ixF_miss (by rw [HL.out]; exact hlt) hon)
        have HON := hide hon
        clear hix hon
        go_wp2_with fail
        refine Pl.region_is (ops := Pl.find 4 ((Try.f31.body).getD .skip)) (by kernel_rfl) ?_
        refine index4 _ bb oo len cap i w.heap.size Sp.none (fr l i) false hlt HBK.out HC3.out HON.out (by rfl) rfl (by rfl) (by rfl) (by rfl) ?_
        intro u w1 hb1
        simp only [Act.put, List.setIfInBounds_toArray, List.set_cons_zero, List.set_cons_succ]
        have HB1 := hide (rBelow hbr.out hb1)
        clear hb1 HC3 HBK
        go_wp2_with fail
        go_roundw
        case rel => exact ⟨i + 1, by omega, by go_num, HE, HB1⟩
        case measure => simp only [intOf]; omega
    · have HE : Hid (ixN l = -1) := hix.out.trans (ixF_end (by rw [HL.out]; exact hge))
      have i1 : ¬ ((i : Nat) : Int) < ((len : Nat) : Int) := by omega
      have HB1 := hide (rBelow HA.out hbr.out)
      clear hix
      go_wp2_with fail
      go_ret
      exact ⟨by rw [HE.out]; rfl, HB1.out⟩

/-- Are rows of frames alike? -/
def eqL (l m : List Sp) : Bool := decide (l.length = m.length) && (List.range l.length).all fun i => (fr l i).beq (fr m i)
theorem eqL_iff {l m : List Sp} : eqL l m = true ↔ l = m := by
  unfold eqL
  simp only [Bool.and_eq_true, decide_eq_true_eq, List.all_eq_true, List.mem_range, Sp.beq_iff]
  constructor
  · rintro ⟨h1, h2⟩
    exact fr_ext h1 h2
  · rintro rfl
    exact ⟨rfl, fun _ _ => rfl⟩
theorem eqL_true {l m : List Sp} (hl : l.length = m.length) (h : ∀ j, j < l.length → (fr l j).beq (fr m j) = true) : eqL l m = true := eqL_iff.2 (fr_ext hl (fun i hi => Sp.beq_iff.1 (h i hi)))
theorem eqL_false {l m : List Sp} {i : Nat} (h : (fr l i).beq (fr m i) = false) : eqL l m = false := by
  cases hh : eqL l m with
  | false => rfl
  | true =>
    rw [eqL_iff.1 hh] at h
    rw [Sp.beq_iff.2 rfl] at h
    cases h
theorem eqL_len {l m : List Sp} (h : l.length ≠ m.length) : eqL l m = false := by
  unfold eqL
  rw [decide_eq_false h]
  rfl
/-- Are clocks alike? -/
def sameC (l : List Sp) (h : Int) (m : List Sp) (k : Int) : Bool := (h == k) && eqL l m
theorem sameC_iff {l m : List Sp} {h k : Int} : sameC l h m k = true ↔ h = k ∧ l = m := by
  unfold sameC
  rw [Bool.and_eq_true, eqL_iff]
  simp

set_option maxHeartbeats 4000000 in
theorem equal_any {D E : Nat → Prop} (w : World) (v : Sl) (l : List Sp) (h : Gs D w v l) (u : Sl) (m : List Sp) (hu : Gs E w u m) :
    Calls Try.prog 26 #[v.val, u.val] w fun e w' => e = .returned (.bool (eqL l m)) ∧ Below w.heap.size w w' := by
  obtain ⟨a, len, cap⟩ := v
  obtain ⟨a2, len2, cap2⟩ := u
  have hl : l.length = len := h.len
  have hm : m.length = len2 := hu.len
  have hbig : len ≤ 1000000 := h.big
  have hbig2 : len2 ≤ 1000000 := hu.big
  have H0 := hide (Below.refl w.heap.size w)
  by_cases hne : len = len2
  · subst hne
    have HL := hide hl
    have HM := hide hm
    have HG := hide h
    have HU := hide hu
    have HI : Hid (∀ j, j < 0 → (fr l j).beq (fr m j) = true) := fun j hj => absurd hj (Nat.not_lt_zero _)
    clear h hu hl hm hbig2
    unfold Sl.val
    simp only
    go_enter Try.func26, Try.ntmps26
    go_wp2_with fail
    go_loopw [13] (fun iv wr => ∃ i : Nat, i ≤ len ∧ iv = .int .i64 (i : Nat) ∧ Hid (∀ j, j < i → (fr l j).beq (fr m j) = true) ∧ Hid (Below w.heap.size w wr)) (fun iv _ => len - (intOf iv).toNat)
    case atStart => exact ⟨0, Nat.zero_le _, rfl, HI, H0⟩
    case round =>
      obtain ⟨i, hi, rfl, hix, hbr⟩ := hrel
      rcases Nat.lt_or_ge i len with hlt | hge
      · have i1 : ((i : Nat) : Int) < ((len : Nat) : Int) := by omega
        obtain ⟨bb, oo, ha, c0, c1, c2⟩ := (HG.out.below hbr.out (Nat.le_refl _)).cell i hlt
        replace ha : a = some ⟨bb, oo, none⟩ := ha
        subst ha
        obtain ⟨b2, o2, ha2, d0, d1, d2⟩ := (HU.out.below hbr.out (Nat.le_refl _)).cell i hlt
        replace ha2 : a2 = some ⟨b2, o2, none⟩ := ha2
        subst ha2
        have HC3 : Hid (Cell3 wr bb (oo + i * 3) (fr l i)) := ⟨c0, c1, c2⟩
        have HD3 : Hid (Cell3 wr b2 (o2 + i * 3) (fr m i)) := ⟨d0, d1, d2⟩
        clear c0 c1 c2 d0 d1 d2
        cases hon : (fr l i).beq (fr m i) with
        | false =>
          have HE := hide (eqL_false hon)
          have HON := hide hon
          clear hix hon
          go_wp2_with fail
          refine Pl.region_is (ops := Pl.find 6 ((Try.f26.body).getD .skip)) (by kernel_rfl) ?_
          refine equal6 _ bb oo len cap b2 o2 len cap2 i (fr l i) (fr m i) false hlt hlt HC3.out HD3.out HON.out (by rfl) rfl (by rfl) (by rfl) (by rfl) ?_
          intro u w1 hb1
          simp only [Act.put, List.setIfInBounds_toArray, List.set_cons_zero, List.set_cons_succ]
          have HB1 := hide (rBelow hbr.out hb1)
          clear hb1 HC3 HD3
          go_wp2_with fail
          go_ret
          exact ⟨by rw [HE.out]; rfl, HB1.out⟩
        | true =>
          have HE : Hid (∀ j, j < i + 1 → (fr l j).beq (fr m j) = true) := by
            intro j hj
            by_cases e : j = i
            · rw [e]; exact hon
            · exact hix.out j (by omega)
          have HON := hide hon
          clear hix hon
          go_wp2_with fail
          refine Pl.region_is (ops := Pl.find 6 ((Try.f26.body).getD .skip)) (by kernel_rfl) ?_
          refine equal6 _ bb oo len cap b2 o2 len cap2 i (fr l i) (fr m i) true hlt hlt HC3.out HD3.out HON.out (by rfl) rfl (by rfl) (by rfl) (by rfl) ?_
          intro u w1 hb1
          simp only [Act.put, List.setIfInBounds_toArray, List.set_cons_zero, List.set_cons_succ]
          have HB1 := hide (rBelow hbr.out hb1)
          clear hb1 HC3 HD3
          go_wp2_with fail
          go_roundw
          case rel => exact ⟨i + 1, by omega, by go_num, HE, HB1⟩
          case measure => simp only [intOf]; omega
      · have HE : Hid (eqL l m = true) := eqL_true (by rw [HL.out, HM.out]) (fun j hj => hix.out j (by rw [HL.out] at hj; omega))
        have i1 : ¬ ((i : Nat) : Int) < ((len : Nat) : Int) := by omega
        clear hix
        go_wp2_with fail
        go_ret
        exact ⟨by rw [HE.out]; rfl, hbr.out⟩
  · have HE := hide (eqL_len (l := l) (m := m) (by rw [hl, hm]; exact hne))
    have i1 : ¬ ((len : Nat) : Int) = ((len2 : Nat) : Int) := by omega
    clear h hu hl hm
    unfold Sl.val
    simp only
    go_enter Try.func26, Try.ntmps26
    go_wp2_with fail
    go_ret
    exact ⟨by rw [HE.out]; rfl, H0.out⟩

set_option maxHeartbeats 4000000 in
theorem same_any {D E : Nat → Prop} (w : World) (v : Sl) (h : Int) (l : List Sp) (hg : Gs D w v l) (u : Sl) (k : Int) (m : List Sp) (hu : Gs E w u m) :
    Calls Try.prog 17 #[ckV v h, ckV u k] w fun e w' => e = .returned (.bool (sameC l h m k)) ∧ Below w.heap.size w w' := by
  obtain ⟨a, len, cap⟩ := v
  obtain ⟨a2, len2, cap2⟩ := u
  have hA := rBelow (below_alloc w (.cells #[.slice a len cap, .int .i64 h] 24)) (below_alloc _ (.cells #[.slice a2 len2 cap2, .int .i64 k] 24))
  have HQ := hide (equal_any _ ⟨a, len, cap⟩ l (hg.below hA (Nat.le_refl _)) ⟨a2, len2, cap2⟩ m (hu.below hA (Nat.le_refl _)))
  have HA := hide hA
  clear hg hu hA
  unfold ckV Sl.val at *
  simp only at *
  by_cases hh : h = k
  · subst hh
    have e : sameC l h m h = eqL l m := by unfold sameC; simp
    rw [e]
    clear e
    go_enter Try.func17, Try.ntmps17
    go_wp2_with fail
    refine HQ.out.mono ?_
    rintro e w1 ⟨rfl, hb1⟩
    have HB1 := hide (rBelow HA.out hb1)
    clear hb1
    go_wp2_with fail
    go_ret
    exact ⟨rfl, HB1.out⟩
  · have e : sameC l h m k = false := by unfold sameC; simp [hh]
    rw [e]
    clear e
    go_enter Try.func17, Try.ntmps17
    go_wp2_with fail
    go_ret
    exact ⟨rfl, HA.out⟩

set_option maxHeartbeats 4000000 in
theorem copyOf_any {D : Nat → Prop} (w : World) (v : Sl) (h : Int) (l : List Sp) (hg : Gs D w v l) :
    Calls Try.prog 20 #[ckV v h] w fun e w' => Below w.heap.size w w' ∧ ∃ s : Sl, e = .returned (ckV s h) ∧ OwnS w' s l ∧ s.len = v.len ∧ ∀ k, s.blk = some k → w.heap.size ≤ k := by
  have hA1 := below_alloc w (.cells #[v.val, .int .i64 h] 24)
  have hA2 := below_alloc (w.alloc (.cells #[v.val, .int .i64 h] 24)) (.cells #[.slice none 0 0, .int .i64 0] 24)
  have hk1 := (ckBlk_new w v.val h).below hA2
  have hk2 := ckBlk_new (w.alloc (.cells #[v.val, .int .i64 h] 24)) (.slice none 0 0) 0
  rw [alloc_size] at hk2
  have HK1 := hide hk1
  have HK2 := hide hk2
  have hA := rBelow hA1 hA2
  have HG := hide (hg.below hA (Nat.le_refl _))
  have HA := hide hA
  have HS : Hid (w.heap.size ≠ w.heap.size + 1) := by show _ ≠ _; omega
  clear hg hA1 hA2 hk1 hk2 hA
  obtain ⟨a, len, cap⟩ := v
  unfold ckV Sl.val
  simp only
  go_enter Try.func20, Try.ntmps20
  go_wp2_with fail
  refine Pl.region_is (ops := Pl.find 1 ((Try.f20.body).getD .skip)) (by kernel_rfl) ?_
  refine copyOf1 _ w.heap.size (w.heap.size + 1) ⟨a, len, cap⟩ h _ _ l HK1.out HK2.out HS.out HG.out (by rfl) rfl (by rfl) (by rfl) ?_
  intro u w1 s ⟨hr, ho, hl, hf, hk⟩
  simp only [Act.put, List.setIfInBounds_toArray, List.set_cons_zero, List.set_cons_succ]
  have HR := hide hr
  have HF : Hid (Below w.heap.size w w1) := HA.out.trans (hf.below HA.out.size (fun k hk => by rw [hk]; exact Nat.le_succ _))
  have HO := hide ho
  have HL := hide hl
  have HK : Hid (∀ k, s.blk = some k → w.heap.size ≤ k) := fun k h9 => Nat.le_trans HA.out.size (hk k h9)
  clear hr ho hl hf hk
  go_wp2_with fail
  refine bodyPost_ret (ck_results rfl HR.out _ rfl) rfl ?_
  exact ⟨HF.out, s, rfl, HO.out, HL.out, HK.out⟩

set_option maxHeartbeats 4000000 in
theorem at_any {D : Nat → Prop} (w : World) (v : Sl) (h : Int) (l : List Sp) (hg : Gs D w v l) (p : Int) :
    Calls Try.prog 24 #[ckV v h, .int .i64 p] w fun e w' => e = .returned (.int .i64 (ixP l p)) ∧ Below w.heap.size w w' := by
  obtain ⟨a, len, cap⟩ := v
  have hl : l.length = len := hg.len
  have HL := hide hl
  have hbig : len ≤ 1000000 := hg.big
  have hA := below_alloc w (.cells #[.slice a len cap, .int .i64 h] 24)
  have HG := hide (hg.below hA (Nat.le_refl _))
  have HA := hide hA
  have HI : Hid (ixP l p = ixF (onP p) (l.drop 0) 0) := rfl
  clear hg hl hA
  unfold ckV Sl.val
  simp only
  go_enter Try.func24, Try.ntmps24
  go_wp2_with fail
  go_loopw [5] (fun iv wr => wr = w.alloc (.cells #[.slice a len cap, .int .i64 h] 24) ∧ ∃ i : Nat, i ≤ len ∧ iv = .int .i64 (i : Nat) ∧ Hid (ixP l p = ixF (onP p) (l.drop i) i)) (fun iv _ => len - (intOf iv).toNat)
  case atStart => exact ⟨rfl, 0, Nat.zero_le _, rfl, HI⟩
  case round =>
    obtain ⟨rfl, i, hi, rfl, hix⟩ := hrel
    rcases Nat.lt_or_ge i len with hlt | hge
    · have i1 : ((i : Nat) : Int) < ((len : Nat) : Int) := by omega
      obtain ⟨bb, oo, ha, c0, c1, c2⟩ := HG.out.cell i hlt
      replace ha : a = some ⟨bb, oo, none⟩ := ha
      subst ha
      by_cases hon : (fr l i).page = p
      · have HE : Hid (ixP l p = ((i : Nat) : Int)) := hix.out.trans (ixF_hit (by rw [HL.out]; exact hlt) (by simpa [onP] using hon))
        clear hix
        go_wp2_with fail
        go_ret
        exact ⟨by rw [HE.out]; rfl, HA.out⟩
      · have HE : Hid (ixP l p = ixF (onP p) (l.drop (i + 1)) (i + 1)) := hix.out.trans (ixF_miss (by rw [HL.out]; exact hlt) (by simpa [onP] using hon))
        clear hix
        go_wp2_with fail
        go_roundw
        case rel => exact ⟨trivial, i + 1, by omega, by go_num, HE⟩
        case measure => simp only [intOf]; omega
    · have HE : Hid (ixP l p = -1) := hix.out.trans (ixF_end (by rw [HL.out]; exact hge))
      have i1 : ¬ ((i : Nat) : Int) < ((len : Nat) : Int) := by omega
      clear hix
      go_wp2_with fail
      go_ret
      exact ⟨by rw [HE.out]; rfl, HA.out⟩
end Go.Proofs.Ytfdfpdioelfjdaa
