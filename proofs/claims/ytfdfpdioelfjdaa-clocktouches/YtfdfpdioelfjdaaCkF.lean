/-
  Layer 7: Check, the document's May, Same and set.
-/
import Derived.Test.YtfdfpdioelfjdaaCkE
namespace Go.Proofs.Ytfdfpdioelfjdaa
open Go.RowKit

/-- Which pages have been met. -/
def seenB (l : List Sp) (i : Nat) (p : Nat) : Bool := (l.take i).any (onP ((p : Nat) : Int))
def seenC (l : List Sp) (i : Nat) : List Value := (List.range 64).map fun p => Value.bool (seenB l i p)
def Th (w : World) (g : Nat) (l : List Sp) (i : Nat) : Prop := w.heap[g]? = some (Obj.cells (seenC l i).toArray 50 (0, 0))
theorem seenC_get (l : List Sp) (i p : Nat) (hp : p < 64) : (seenC l i)[p]? = some (.bool (seenB l i p)) := by
  unfold seenC
  rw [List.getElem?_map, List.getElem?_range hp]
  rfl
theorem Th.cell {w : World} {g : Nat} {l : List Sp} {i : Nat} (h : Th w g l i) (p : Nat) (hp : p < 64) : w.cell? ⟨g, p, none⟩ = some (.bool (seenB l i p)) := by
  rw [cell_of_row _ _ _ _ _ _ h]
  simpa using seenC_get l i p hp
theorem Th.fz {w : World} {g : Nat} {l : List Sp} {i : Nat} (h : Th w g l i) (o : Nat) : w.frozen? ⟨g, o, none⟩ = false := frozen_of_row w g _ _ 50 h
theorem Th.below {w w' : World} {g : Nat} {l : List Sp} {i : Nat} (h : Th w g l i) (hb : Below w.heap.size w w') : Th w' g l i := (hb.block g (Array.getElem?_eq_some_iff.1 h).1).trans h
theorem seen_succ {l : List Sp} {i : Nat} (hi : i < l.length) (p : Nat) : seenB l (i + 1) p = (seenB l i p || onP ((p : Nat) : Int) (fr l i)) := by
  unfold seenB
  rw [List.take_succ_eq_append_getElem hi, List.any_append, ← fr_get hi]
  simp
theorem seenC_skip {l : List Sp} {i : Nat} (hi : i < l.length) (h : (fr l i).page < 0) : seenC l (i + 1) = seenC l i := by
  unfold seenC
  apply List.map_congr_left
  intro p hp
  rw [seen_succ hi p]
  have : onP ((p : Nat) : Int) (fr l i) = false := by unfold onP; rw [beq_eq_false_iff_ne]; omega
  rw [this, Bool.or_false]
theorem seenC_set {l : List Sp} {i : Nat} (hi : i < l.length) (q : Nat) (h : (fr l i).page = ((q : Nat) : Int)) : (seenC l i).set q (.bool true) = seenC l (i + 1) := by
  apply List.ext_getElem?
  intro j
  by_cases hj : j < 64
  · rw [seenC_get l (i + 1) j hj, List.getElem?_set, seen_succ hi j]
    have hl : (seenC l i).length = 64 := by simp [seenC]
    by_cases e : q = j
    · subst e
      rw [if_pos rfl, if_pos (by rw [hl]; exact hj)]
      have : onP ((q : Nat) : Int) (fr l i) = true := by unfold onP; rw [h]; simp
      rw [this, Bool.or_true]
    · rw [if_neg e, seenC_get l i j hj]
      have : onP ((j : Nat) : Int) (fr l i) = false := by unfold onP; rw [beq_eq_false_iff_ne]; omega
      rw [this, Bool.or_false]
  · have hl : (seenC l i).length = 64 := by simp [seenC]
    have hl2 : (seenC l (i + 1)).length = 64 := by simp [seenC]
    rw [List.getElem?_eq_none (by rw [List.length_set, hl]; omega), List.getElem?_eq_none (by rw [hl2]; omega)]
theorem Th.set {w : World} {g : Nat} {l : List Sp} {i : Nat} (h : Th w g l i) (hi : i < l.length) (q : Nat) (hq : (fr l i).page = ((q : Nat) : Int)) : Th (w.setCell ⟨g, q, none⟩ (.bool true)) g l (i + 1) := by
  have h2 := heap_setCell_same _ g q _ 50 (.bool true) h
  unfold Th
  rw [h2, List.setIfInBounds_toArray, seenC_set hi q hq]

def noSeen : Array Value := (List.replicate 64 (Value.bool false)).toArray
theorem info64 : (Try.prog.info? 50).map (fun i => (i.zero, i.size, i.bytes)) = some (some (.agg noSeen), 64, 64) := by kernel_rfl
theorem alloc64 (l : List Sp) (w : World) : (Instr.alloc 50 true (.tuple #[])).run Try.prog w = .ok (.pointer (some ⟨w.heap.size, 0, none⟩)) (w.alloc (.cells (seenC l 0).toArray 50)) := by
  have e : (seenC l 0).toArray = noSeen := rfl
  rw [e]
  obtain ⟨i0, hi, hz0, hz1, hz2⟩ := info_parts info64
  simp [Instr.alloc, zeroValue, typeInfo, hi, hz0, newVar, newRow, Value.cells]

/-- How it is told. -/
def chk (l : List Sp) (h : Int) : Int := if may l h = true then 0 else 1
theorem chk_ok {l : List Sp} {h : Int} (e : may l h = true) : chk l h = 0 := if_pos e
theorem chk_no {l : List Sp} {h : Int} (e : may l h = false) : chk l h = 1 := if_neg (by rw [e]; decide)
theorem may_false {l : List Sp} {h : Int} (e : ¬ (1 ≤ l.length ∧ l.length ≤ 64 ∧ 0 ≤ h ∧ h < l.length)) : may l h = false := by
  cases hm : may l h with
  | false => rfl
  | true =>
    obtain ⟨h1, h2, h3, h4, _⟩ := may_iff.1 hm
    exact absurd ⟨h1, h2, h3, h4⟩ e
theorem gd_none {l : List Sp} {i : Nat} (h : (fr l i).beq Sp.none = true) : gdB l i = true := by
  unfold gdB
  rw [h]
  rfl
theorem gd_page {l : List Sp} {i q : Nat} (hq : (fr l i).page = ((q : Nat) : Int)) (h64 : q < 64) (hs : seenB l i q = false) : gdB l i = true := by
  unfold gdB
  unfold seenB at hs
  rw [hq, hs]
  have : ((q : Nat) : Int) < 64 := by omega
  simp [this]
theorem gd_not {l : List Sp} {i : Nat} (h : (fr l i).beq Sp.none = false) (hp : isPg (fr l i).page = false) : gdB l i = false := by
  unfold gdB
  rw [h]
  unfold isPg at hp
  simp at hp ⊢
  intro h1 h2
  have := hp h1
  omega
theorem gd_twice {l : List Sp} {i q : Nat} (h : (fr l i).beq Sp.none = false) (hq : (fr l i).page = ((q : Nat) : Int)) (hs : seenB l i q = true) : gdB l i = false := by
  unfold gdB
  unfold seenB at hs
  rw [h, hq, hs]
  simp

set_option maxHeartbeats 8000000 in
set_option maxRecDepth 100000 in
theorem check_any {D : Nat → Prop} (w : World) (v : Sl) (h : Int) (l : List Sp) (hg : Gs D w v l) :
    Calls Try.prog 12 #[ckV v h] w fun e w' => e = .returned (.int .i64 (chk l h)) ∧ Below w.heap.size w w' := by
  obtain ⟨a, len, cap⟩ := v
  have hl : l.length = len := hg.len
  have hbig : len ≤ 1000000 := hg.big
  have hA := below_alloc w (.cells #[.slice a len cap, .int .i64 h] 24)
  have HA := hide hA
  by_cases hok : 1 ≤ len ∧ len ≤ 64 ∧ 0 ≤ h ∧ h < len
  · obtain ⟨h1, h2, h3, h4⟩ := hok
    have i1 : ¬ ((len : Nat) : Int) < 1 := by omega
    have i2 : ¬ (64 : Int) < ((len : Nat) : Int) := by omega
    have i3 : ¬ h < 0 := by omega
    have i4 : ¬ ((len : Nat) : Int) ≤ h := by omega
    have hA2 := below_alloc (w.alloc (.cells #[.slice a len cap, .int .i64 h] 24)) (.cells (seenC l 0).toArray 50)
    have HM := hide (alloc64 l (w.alloc (.cells #[.slice a len cap, .int .i64 h] 24)))
    have HB := hide (rBelow hA hA2)
    have hT : Th ((w.alloc (.cells #[.slice a len cap, .int .i64 h] 24)).alloc (.cells (seenC l 0).toArray 50)) (w.heap.size + 1) l 0 := by
      have := heap_alloc_new (w.alloc (.cells #[.slice a len cap, .int .i64 h] 24)) (.cells (seenC l 0).toArray 50)
      rw [alloc_size] at this
      exact this
    have HT := hide hT
    have HL := hide hl
    have HG := hide hg
    have HI : Hid (∀ j, j < 0 → gdB l j = true) := fun j hj => absurd hj (Nat.not_lt_zero _)
    clear hg hl hA hA2 hT h1 h2 h3 h4
    generalize hC : Obj.cells (seenC l 0).toArray 50 = C at *
    clear hC
    unfold ckV Sl.val
    simp only
    go_enter Try.func12, Try.ntmps12
    go_wp2_with (refine wpList_alloc _ rfl 50 rfl (.pointer (some ⟨w.heap.size + 1, 0, none⟩)) _ (by have := HM.out; rw [alloc_size] at this; exact this) ?_)
    generalize (w.alloc (.cells #[.slice a len cap, .int .i64 h] 24)).alloc C = W at *
    clear HM HA
    go_loopw [30] (fun iv wr => ∃ i : Nat, i ≤ len ∧ iv = .int .i64 (i : Nat) ∧ Hid (∀ j, j < i → gdB l j = true) ∧ Hid (Below w.heap.size w wr) ∧ Hid (Th wr (w.heap.size + 1) l i)) (fun iv _ => len - (intOf iv).toNat)
    case atStart => exact ⟨0, Nat.zero_le _, rfl, HI, HB, HT⟩
    case round =>
      obtain ⟨i, hi, rfl, hix, hbr, hth⟩ := hrel
      rcases Nat.lt_or_ge i len with hlt | hge
      · have i5 : ((i : Nat) : Int) < ((len : Nat) : Int) := by omega
        have hil : i < l.length := by rw [HL.out]; exact hlt
        have HIL := hide hil
        obtain ⟨bb, oo, ha, c0, c1, c2⟩ := (HG.out.below hbr.out (Nat.le_refl _)).cell i hlt
        replace ha : a = some ⟨bb, oo, none⟩ := ha
        subst ha
        obtain ⟨x, hx⟩ : ∃ x, x = fr l i := ⟨_, rfl⟩
        rw [← hx] at c0 c1 c2
        have HX := hide hx
        have HSP := hide (spBlk_new wr x)
        have HAW := hide (below_alloc wr (.cells #[.int .i64 x.page, .bool x.used, .bool x.pin] 38))
        cases hon : x.beq Sp.none with
        | true =>
          have HIX : Hid (∀ j, j < i + 1 → gdB l j = true) := by
            intro j hj
            by_cases e : j = i
            · rw [e]; exact gd_none (by rw [← hx]; exact hon)
            · exact hix.out j (by omega)
          have HTE : Hid (seenC l (i + 1) = seenC l i) := seenC_skip hil (by rw [← hx, Sp.beq_iff.1 hon]; decide)
          have HON := hide hon
          clear hon hx hil hix
          go_wp2_with fail
          refine Pl.region_is (ops := Pl.find 9 ((Try.f12.body).getD .skip)) (by kernel_rfl) ?_
          refine check9 _ wr.heap.size x true HSP.out HON.out (by rfl) rfl (by rfl) ?_
          intro u w1 hb1
          simp only [Act.put, List.setIfInBounds_toArray, List.set_cons_zero, List.set_cons_succ]
          have hb2 := rBelow HAW.out hb1
          have HB2 := hide (rBelow hbr.out hb2)
          have HT2 : Hid (Th w1 (w.heap.size + 1) l (i + 1)) := by
            have e := hth.out.below hb2
            unfold Th at e ⊢
            rw [HTE.out]
            exact e
          clear hb1 hb2 HSP HAW HTE
          go_wp2_with fail
          go_roundw
          case rel => exact ⟨i + 1, by omega, by go_num, HIX, HB2, HT2⟩
          case measure => simp only [intOf]; omega
        | false =>
          cases hpg : isPg x.page with
          | false =>
            have HMF := hide (chk_no (may_not (h := h) hil (gd_not (by rw [← hx]; exact hon) (by rw [← hx]; exact hpg))))
            have HP := hide (isPage_any x.page)
            rw [hpg] at HP
            have HON := hide hon
            clear hon hx hil hix hpg
            go_wp2_with fail
            refine Pl.region_is (ops := Pl.find 9 ((Try.f12.body).getD .skip)) (by kernel_rfl) ?_
            refine check9 _ wr.heap.size x false HSP.out HON.out (by rfl) rfl (by rfl) ?_
            intro u w1 hb1
            simp only [Act.put, List.setIfInBounds_toArray, List.set_cons_zero, List.set_cons_succ]
            have hb2 := rBelow HAW.out hb1
            have HB2 := hide (rBelow hbr.out hb2)
            have hs1 := HSP.out.below hb1
            have k0 := hs1.c0
            clear hb1 hb2 HSP HAW hs1 c0 c1 c2
            go_wp2_with fail
            refine (HP.out _).mono ?_
            rintro e w2 ⟨rfl, hw2⟩
            obtain rfl := hw2.symm
            go_wp2_with fail
            go_ret
            exact ⟨by rw [HMF.out]; rfl, HB2.out⟩
          | true =>
            have hpp : 0 ≤ x.page ∧ x.page < 64 := by unfold isPg at hpg; simpa using hpg
            obtain ⟨q, hq⟩ := Int.eq_ofNat_of_zero_le hpp.1
            have hq64 : q < 64 := by omega
            have HQ := hide hq
            have HP := hide (isPage_any x.page)
            rw [hpg] at HP
            cases hse : seenB l i q with
            | true =>
              have HMF := hide (chk_no (may_not (h := h) hil (gd_twice (by rw [← hx]; exact hon) (by rw [← hx]; exact hq) hse)))
              have HON := hide hon
              have HSE := hide hse
              clear hon hx hil hix hpg hse hpp hq
              go_wp2_with fail
              refine Pl.region_is (ops := Pl.find 9 ((Try.f12.body).getD .skip)) (by kernel_rfl) ?_
              refine check9 _ wr.heap.size x false HSP.out HON.out (by rfl) rfl (by rfl) ?_
              intro u w1 hb1
              simp only [Act.put, List.setIfInBounds_toArray, List.set_cons_zero, List.set_cons_succ]
              have hb2 := rBelow HAW.out hb1
              have HB2 := hide (rBelow hbr.out hb2)
              have hs1 := HSP.out.below hb1
              have k0 := hs1.c0
              rw [HQ.out] at k0
              have kt := (hth.out.below hb2).cell q hq64
              rw [HSE.out] at kt
              rw [HQ.out] at HP
              have i6 : (0 : Int) ≤ ((q : Nat) : Int) := by omega
              have i7 : ((q : Nat) : Int) < 64 := by omega
              clear hb1 hb2 HSP HAW hs1 c0 c1 c2
              go_wp2_with fail
              refine (HP.out _).mono ?_
              rintro e w2 ⟨rfl, hw2⟩
              obtain rfl := hw2.symm
              go_wp2_with fail
              go_ret
              exact ⟨by rw [HMF.out]; rfl, HB2.out⟩
            | false =>
              have HIX : Hid (∀ j, j < i + 1 → gdB l j = true) := by
                intro j hj
                by_cases e : j = i
                · rw [e]; exact gd_page (by rw [← hx]; exact hq) hq64 hse
                · exact hix.out j (by omega)
              have HON := hide hon
              have HSE := hide hse
              clear hon hx hil hix hpg hse hpp hq
              go_wp2_with fail
              refine Pl.region_is (ops := Pl.find 9 ((Try.f12.body).getD .skip)) (by kernel_rfl) ?_
              refine check9 _ wr.heap.size x false HSP.out HON.out (by rfl) rfl (by rfl) ?_
              intro u w1 hb1
              simp only [Act.put, List.setIfInBounds_toArray, List.set_cons_zero, List.set_cons_succ]
              have hb2 := rBelow HAW.out hb1
              have HB2 := hide ((rBelow hbr.out hb2).setCell (p := ⟨w.heap.size + 1, q, none⟩) (Nat.le_succ _) (.bool true))
              have hs1 := HSP.out.below hb1
              have k0 := hs1.c0
              rw [HQ.out] at k0
              have hth1 := hth.out.below hb2
              have kt := hth1.cell q hq64
              rw [HSE.out] at kt
              have kf := hth1.fz q
              have HT2 := hide (hth1.set HIL.out q (by rw [← HX.out]; exact HQ.out))
              rw [HQ.out] at HP
              have i6 : (0 : Int) ≤ ((q : Nat) : Int) := by omega
              have i7 : ((q : Nat) : Int) < 64 := by omega
              clear hb1 hb2 HSP HAW hs1 c0 c1 c2 hth1
              go_wp2_with fail
              refine (HP.out _).mono ?_
              rintro e w2 ⟨rfl, hw2⟩
              obtain rfl := hw2.symm
              go_wp2_with fail
              go_roundw
              case rel => exact ⟨i + 1, by omega, by go_num, HIX, HB2, HT2⟩
              case measure => simp only [intOf]; omega
      · have i5 : ¬ ((i : Nat) : Int) < ((len : Nat) : Int) := by omega
        have HE : Hid (chk l h = 0) := chk_ok (may_iff.2 ⟨by rw [HL.out]; omega, by rw [HL.out]; omega, by omega, by rw [HL.out]; omega, fun j hj => (gdB_iff hj).1 (hix.out j (by rw [HL.out] at hj; omega))⟩)
        clear hix
        go_wp2_with fail
        go_ret
        exact ⟨by rw [HE.out]; rfl, hbr.out⟩
  · have HE := hide (chk_no (may_false (l := l) (h := h) (by rw [hl]; exact hok)))
    clear hg hl hA
    unfold ckV Sl.val
    simp only
    by_cases h1 : 1 ≤ len
    · by_cases h2 : len ≤ 64
      · have i1 : ¬ ((len : Nat) : Int) < 1 := by omega
        have i2 : ¬ (64 : Int) < ((len : Nat) : Int) := by omega
        by_cases h3 : 0 ≤ h
        · have i3 : ¬ h < 0 := by omega
          have i4 : ((len : Nat) : Int) ≤ h := by omega
          clear hok
          go_enter Try.func12, Try.ntmps12
          go_wp2_with fail
          go_ret
          exact ⟨by rw [HE.out]; rfl, HA.out⟩
        · have i3 : h < 0 := by omega
          clear hok
          go_enter Try.func12, Try.ntmps12
          go_wp2_with fail
          go_ret
          exact ⟨by rw [HE.out]; rfl, HA.out⟩
      · have i1 : ¬ ((len : Nat) : Int) < 1 := by omega
        have i2 : (64 : Int) < ((len : Nat) : Int) := by omega
        clear hok
        go_enter Try.func12, Try.ntmps12
        go_wp2_with fail
        go_ret
        exact ⟨by rw [HE.out]; rfl, HA.out⟩
    · have i1 : ((len : Nat) : Int) < 1 := by omega
      clear hok
      go_enter Try.func12, Try.ntmps12
      go_wp2_with fail
      go_ret
      exact ⟨by rw [HE.out]; rfl, HA.out⟩
end Go.Proofs.Ytfdfpdioelfjdaa
