/-
  The document's First, Find, Same, Ints, Live, Eldest and set of tables.
-/
import Derived.Test.YtdbgbldmjgonjaaTbC
import Derived.Test.YtdbgbldmjgonjaaPackI
namespace Go.Proofs.Ytdbgbldmjgonjaa
open Go.RowKit

theorem below_box (w : World) (t : Tb) (v : Sl) : Below w.heap.size w (w.alloc (.cells #[.int .i64 t.nx, .int .i64 t.no, .int .i64 t.cm, .slice v.a v.len v.cap] 24)) := below_alloc w _

set_option maxHeartbeats 4000000 in
set_option maxRecDepth 100000 in
theorem rfindT_any (t : Tb) (v : Sl) (tx : Int) (w : World) (h : Es w v t.es) :
    Calls Try.prog 30 #[t.val v, .int .i64 tx] w fun e w' => e = .returned (.int .i64 (ixN (findN t tx))) ∧ Below w.heap.size w w' := by
  have hb := below_box w t v
  have HW := hide hb
  have HT := hide (TbBlk.new w t v)
  have HE := hide (h.keep hb (Nat.le_refl _))
  have hl : t.es.length = v.len := h.len
  have hbig := h.big
  clear h hb
  obtain ⟨va, vl, vc⟩ := v
  simp only at hl hbig
  have HL := hide hl
  unfold Tb.val
  go_enter Try.func30, Try.ntmps30
  go_wp2_with fail
  generalize w.alloc (.cells #[.int .i64 t.nx, .int .i64 t.no, .int .i64 t.cm, .slice va vl vc] 24) = W at *
  have d3 := HT.out.c3
  clear hl
  go_loopw [5] (fun iv wr => wr = W ∧ ∃ i : Nat, i ≤ vl ∧ iv = .int .i64 (i : Nat) ∧ Hid (∀ j, j < i → isTx tx (t.es.getD j En.zero) = false)) (fun iv _ => vl - (intOf iv).toNat)
  case atStart => exact ⟨rfl, 0, Nat.zero_le _, rfl, fun j hj => absurd hj (Nat.not_lt_zero _)⟩
  case round =>
    obtain ⟨rfl, i, hi, rfl, hix⟩ := hrel
    rcases Nat.lt_or_ge i vl with hlt | hge
    · have i1 : ((i : Nat) : Int) < ((vl : Nat) : Int) := by omega
      obtain ⟨b, off, ha, hat⟩ := HE.out.at' i hlt
      replace ha : va = some ⟨b, off, none⟩ := ha
      subst ha
      have c0 := hat.c0
      obtain ⟨x, hx⟩ : ∃ x, x = t.es.getD i En.zero := ⟨_, rfl⟩
      rw [← hx] at c0
      have HX := hide hx
      clear hat hx
      by_cases h0 : 0 < tx
      · by_cases he : x.tx = tx
        · have HF : Hid (findN t tx = some i) := idx_is (by rw [HL.out]; exact hlt) (by rw [← HX.out]; unfold isTx; simp [h0, he]) hix.out
          clear hix HX
          go_wp2_with fail
          go_ret
          exact ⟨by rw [HF.out]; rfl, HW.out⟩
        · have HN : Hid (∀ j, j < i + 1 → isTx tx (t.es.getD j En.zero) = false) := by
            intro j hj
            by_cases e : j = i
            · rw [e, ← HX.out]; unfold isTx; simp [he]
            · exact hix.out j (by omega)
          clear hix HX
          go_wp2_with fail
          go_roundw
          case rel => exact ⟨trivial, i + 1, by omega, by go_num, HN⟩
          case measure => simp only [intOf]; omega
      · have HN : Hid (∀ j, j < i + 1 → isTx tx (t.es.getD j En.zero) = false) := by
          intro j hj
          unfold isTx
          simp [h0]
        clear hix HX
        go_wp2_with fail
        go_roundw
        case rel => exact ⟨trivial, i + 1, by omega, by go_num, HN⟩
        case measure => simp only [intOf]; omega
    · have i1 : ¬ ((i : Nat) : Int) < ((vl : Nat) : Int) := by omega
      have HF : Hid (findN t tx = none) := idx_no (fun j hj => hix.out j (by rw [HL.out] at hj; omega))
      clear hix
      go_wp2_with fail
      go_ret
      exact ⟨by rw [HF.out]; rfl, HW.out⟩

/-- Are tables alike? -/
def sameT (t u : Tb) : Bool := decide (t = u)
theorem sameT_iff {t u : Tb} : sameT t u = true ↔ t = u := by simp [sameT]
theorem sameT_no {t u : Tb} (h : t ≠ u) : sameT t u = false := by simp [sameT, h]
theorem sameT_self (t : Tb) : sameT t t = true := sameT_iff.2 rfl

set_option maxHeartbeats 8000000 in
set_option maxRecDepth 100000 in
theorem rsameT_any (t : Tb) (v : Sl) (u : Tb) (s : Sl) (w : World) (h : Es w v t.es) (k : Es w s u.es) :
    Calls Try.prog 17 #[t.val v, u.val s] w fun e w' => e = .returned (.bool (sameT t u)) ∧ Below w.heap.size w w' := by
  have hb1 := below_box w t v
  have hb2 := below_box (w.alloc (.cells #[.int .i64 t.nx, .int .i64 t.no, .int .i64 t.cm, .slice v.a v.len v.cap] 24)) u s
  have hb := rBelow hb1 hb2
  have hsz : (w.alloc (.cells #[.int .i64 t.nx, .int .i64 t.no, .int .i64 t.cm, .slice v.a v.len v.cap] 24)).heap.size = w.heap.size + 1 := by simp
  have HW := hide hb
  have HT := hide ((TbBlk.new w t v).keep hb2)
  have hu2 := TbBlk.new (w.alloc (.cells #[.int .i64 t.nx, .int .i64 t.no, .int .i64 t.cm, .slice v.a v.len v.cap] 24)) u s
  rw [hsz] at hu2
  have HU := hide hu2
  have HE := hide (h.keep hb (Nat.le_refl _))
  have HK := hide (k.keep hb (Nat.le_refl _))
  have hl : t.es.length = v.len := h.len
  have hk : u.es.length = s.len := k.len
  have hbig := h.big
  have hbig2 := k.big
  clear h k hb hb1 hb2 hu2 hsz
  obtain ⟨va, vl, vc⟩ := v
  obtain ⟨sa, sl, sc⟩ := s
  simp only at hl hk hbig hbig2
  by_cases h1 : t.nx = u.nx
  · by_cases h2 : t.no = u.no
    · by_cases h3 : t.cm = u.cm
      · by_cases h4 : vl = sl
        · subst h4
          have HL := hide hl
          have HLK := hide hk
          have HEQ : Hid (t.es = u.es → t = u) := fun e => by
            obtain ⟨a, b, c, d⟩ := t
            obtain ⟨a', b', c', d'⟩ := u
            simp only at h1 h2 h3 e
            rw [h1, h2, h3, e]
          have q1 : (t.nx != u.nx) = false := by simp [h1]
          have q2 : (t.no != u.no) = false := by simp [h2]
          have q3 : (t.cm != u.cm) = false := by simp [h3]
          clear hl hk h1 h2 h3
          unfold Tb.val
          go_enter Try.func17, Try.ntmps17
          go_wp2_with fail
          generalize ((w.alloc (.cells #[.int .i64 t.nx, .int .i64 t.no, .int .i64 t.cm, .slice va vl vc] 24)).alloc (.cells #[.int .i64 u.nx, .int .i64 u.no, .int .i64 u.cm, .slice sa vl sc] 24)) = W at *
          have H0 := hide (Below.refl W.heap.size W)
          go_loopw [5] (fun iv wr => ∃ i : Nat, i ≤ vl ∧ iv = .int .i64 (i : Nat) ∧ Hid (∀ j, j < i → t.es.getD j En.zero = u.es.getD j En.zero) ∧ Hid (Below W.heap.size W wr)) (fun iv _ => vl - (intOf iv).toNat)
          case atStart => exact ⟨0, Nat.zero_le _, rfl, fun j hj => absurd hj (Nat.not_lt_zero _), H0⟩
          case round =>
            obtain ⟨i, hi, rfl, hix, hbr⟩ := hrel
            have hkb := HT.out.keep hbr.out
            have d3 := hkb.c3
            have HKB := hide hkb
            have HKB2 := hide (HU.out.keep hbr.out)
            clear hkb
            rcases Nat.lt_or_ge i vl with hlt | hge
            · have i1 : ((i : Nat) : Int) < ((vl : Nat) : Int) := by omega
              obtain ⟨bb, oo, ha, hx⟩ := (HE.out.keep hbr.out (Nat.le_refl _)).at' i hlt
              replace ha : va = some ⟨bb, oo, none⟩ := ha
              subst ha
              obtain ⟨b2, o2, ha2, hy⟩ := (HK.out.keep hbr.out (Nat.le_refl _)).at' i hlt
              replace ha2 : sa = some ⟨b2, o2, none⟩ := ha2
              subst ha2
              have HX := hide hx
              have HY := hide hy
              clear hx hy
              by_cases hon : t.es.getD i En.zero = u.es.getD i En.zero
              · have HN : Hid (∀ j, j < i + 1 → t.es.getD j En.zero = u.es.getD j En.zero) := by
                  intro j hj
                  by_cases e : j = i
                  · rw [e]; exact hon
                  · exact hix.out j (by omega)
                have HON : Hid ((t.es.getD i En.zero).beq (u.es.getD i En.zero) = true) := En.beq_iff.2 hon
                clear hix hon
                go_wp2_with fail
                refine Pl.region_is (ops := Pl.find 6 ((Try.f17.body).getD .skip)) (by kernel_rfl) ?_
                refine rsameT6 _ bb oo vl vc b2 o2 vl sc i w.heap.size (w.heap.size + 1) t u _ _ true hlt hlt HKB.out HKB2.out HX.out HY.out HON.out (by rfl) rfl (by rfl) (by rfl) (by rfl) ?_
                intro u1 w1 hb1
                simp only [Act.put, List.setIfInBounds_toArray, List.set_cons_zero, List.set_cons_succ]
                have HB1 := hide (rBelow hbr.out hb1)
                clear hb1
                go_wp2_with fail
                go_roundw
                case rel => exact ⟨i + 1, by omega, by go_num, HN, HB1⟩
                case measure => simp only [intOf]; omega
              · have HON : Hid ((t.es.getD i En.zero).beq (u.es.getD i En.zero) = false) := decide_eq_false hon
                have HNE : Hid (sameT t u = false) := sameT_no (fun e => hon (by rw [e]))
                clear hix hon
                go_wp2_with fail
                refine Pl.region_is (ops := Pl.find 6 ((Try.f17.body).getD .skip)) (by kernel_rfl) ?_
                refine rsameT6 _ bb oo vl vc b2 o2 vl sc i w.heap.size (w.heap.size + 1) t u _ _ false hlt hlt HKB.out HKB2.out HX.out HY.out HON.out (by rfl) rfl (by rfl) (by rfl) (by rfl) ?_
                intro u1 w1 hb1
                simp only [Act.put, List.setIfInBounds_toArray, List.set_cons_zero, List.set_cons_succ]
                have HB1 := hide (rBelow hbr.out hb1)
                clear hb1
                go_wp2_with fail
                go_ret
                exact ⟨by rw [HNE.out]; rfl, rBelow HW.out HB1.out⟩
            · have i1 : ¬ ((i : Nat) : Int) < ((vl : Nat) : Int) := by omega
              have HY : Hid (sameT t u = true) := sameT_iff.2 (HEQ.out (by
                apply List.ext_getElem
                · rw [HL.out, HLK.out]
                · intro j h1 h2
                  have := hix.out j (by rw [HL.out] at h1; omega)
                  rw [en_get h1, en_get h2] at this
                  exact this))
              clear hix
              go_wp2_with fail
              go_ret
              exact ⟨by rw [HY.out]; rfl, rBelow HW.out hbr.out⟩
        · have HNE : Hid (sameT t u = false) := sameT_no (fun e => h4 (by rw [← hl, ← hk, e]))
          have q1 : (t.nx != u.nx) = false := by simp [h1]
          have q2 : (t.no != u.no) = false := by simp [h2]
          have q3 : (t.cm != u.cm) = false := by simp [h3]
          have q4 : (((vl : Nat) : Int) != ((sl : Nat) : Int)) = true := by simp; omega
          have q5 : ¬ ((vl : Nat) : Int) = ((sl : Nat) : Int) := by omega
          clear hl hk h1 h2 h3 h4 HE HK HT HU
          unfold Tb.val
          go_enter Try.func17, Try.ntmps17
          go_wp2_with fail
          go_ret
          exact ⟨by rw [HNE.out]; rfl, HW.out⟩
      · have HNE : Hid (sameT t u = false) := sameT_no (fun e => h3 (by rw [e]))
        have q1 : (t.nx != u.nx) = false := by simp [h1]
        have q2 : (t.no != u.no) = false := by simp [h2]
        have q3 : (t.cm != u.cm) = true := by simp [h3]
        clear hl hk h1 h2 HE HK HT HU
        unfold Tb.val
        go_enter Try.func17, Try.ntmps17
        go_wp2_with fail
        go_ret
        exact ⟨by rw [HNE.out]; rfl, HW.out⟩
    · have HNE : Hid (sameT t u = false) := sameT_no (fun e => h2 (by rw [e]))
      have q1 : (t.nx != u.nx) = false := by simp [h1]
      have q2 : (t.no != u.no) = true := by simp [h2]
      clear hl hk h1 HE HK HT HU
      unfold Tb.val
      go_enter Try.func17, Try.ntmps17
      go_wp2_with fail
      go_ret
      exact ⟨by rw [HNE.out]; rfl, HW.out⟩
  · have HNE : Hid (sameT t u = false) := sameT_no (fun e => h1 (by rw [e]))
    have q1 : (t.nx != u.nx) = true := by simp [h1]
    clear hl hk  HE HK HT HU
    unfold Tb.val
    go_enter Try.func17, Try.ntmps17
    go_wp2_with fail
    go_ret
    exact ⟨by rw [HNE.out]; rfl, HW.out⟩

set_option maxHeartbeats 4000000 in
set_option maxRecDepth 100000 in
theorem rints_any (a : Option Addr) (len cap : Nat) (l : List Int) (b : Option Addr) (len2 cap2 : Nat) (m : List Int) (w : World) (h : Ks w a len l) (k : Ks w b len2 m) (hl : len ≤ 9223372036854775807) (hl2 : len2 ≤ 9223372036854775807) :
    Calls Try.prog 31 #[.slice a len cap, .slice b len2 cap2] w fun e w' => e = .returned (.bool (decide (l = m))) ∧ Below w.heap.size w w' := by
  by_cases hne : len = len2
  · subst hne
    have H := hide h
    have HK := hide k
    have H0 := hide (Below.refl w.heap.size w)
    clear h k hl2
    go_enter Try.func31, Try.ntmps31
    go_wp2_with fail
    go_loopw [5] (fun iv wr => ∃ i : Nat, i ≤ len ∧ iv = .int .i64 (i : Nat) ∧ Hid (∀ j, j < i → l.getD j 0 = m.getD j 0) ∧ Hid (Below w.heap.size w wr)) (fun iv _ => len - (intOf iv).toNat)
    case atStart => exact ⟨0, Nat.zero_le _, rfl, fun j hj => absurd hj (Nat.not_lt_zero _), H0⟩
    case round =>
      obtain ⟨i, hi, rfl, hix, hbr⟩ := hrel
      rcases Nat.lt_or_ge i len with hlt | hge
      · have i1 : ((i : Nat) : Int) < ((len : Nat) : Int) := by omega
        obtain ⟨b1, o1, ha, hx⟩ := (H.out.keep hbr.out (Nat.le_refl _)).2 i hlt
        subst ha
        obtain ⟨b2, o2, ha2, hy⟩ := (HK.out.keep hbr.out (Nat.le_refl _)).2 i hlt
        subst ha2
        have HX := hide hx
        have HY := hide hy
        clear hx hy
        by_cases hon : l.getD i 0 = m.getD i 0
        · have HN : Hid (∀ j, j < i + 1 → l.getD j 0 = m.getD j 0) := by
            intro j hj
            by_cases e : j = i
            · rw [e]; exact hon
            · exact hix.out j (by omega)
          have HON := hide hon
          clear hix hon
          go_wp2_with fail
          refine Pl.region_is (ops := Pl.find 6 ((Try.f31.body).getD .skip)) (by kernel_rfl) ?_
          refine rints6b _ b1 o1 len cap b2 o2 len cap2 i _ _ hlt hlt HX.out HY.out HON.out (by rfl) rfl (by rfl) (by rfl) (by rfl) ?_
          intro u1 w1 hb1
          simp only [Act.put, List.setIfInBounds_toArray, List.set_cons_zero, List.set_cons_succ]
          have HB1 := hide (rBelow hbr.out hb1)
          clear hb1
          go_wp2_with fail
          go_roundw
          case rel => exact ⟨i + 1, by omega, by go_num, HN, HB1⟩
          case measure => simp only [intOf]; omega
        · have HNE : Hid (decide (l = m) = false) := decide_eq_false (fun e => hon (by rw [e]))
          have HON := hide hon
          clear hix hon
          go_wp2_with fail
          refine Pl.region_is (ops := Pl.find 6 ((Try.f31.body).getD .skip)) (by kernel_rfl) ?_
          refine rints6a _ b1 o1 len cap b2 o2 len cap2 i _ _ hlt hlt HX.out HY.out HON.out (by rfl) rfl (by rfl) (by rfl) (by rfl) ?_
          intro u1 w1 hb1
          simp only [Act.put, List.setIfInBounds_toArray, List.set_cons_zero, List.set_cons_succ]
          have HB1 := hide (rBelow hbr.out hb1)
          clear hb1
          go_wp2_with fail
          go_ret
          exact ⟨by rw [HNE.out]; rfl, HB1.out⟩
      · have i1 : ¬ ((i : Nat) : Int) < ((len : Nat) : Int) := by omega
        have HY : Hid (decide (l = m) = true) := decide_eq_true (by
          apply List.ext_getElem
          · rw [H.out.1, HK.out.1]
          · intro j h1 h2
            have := hix.out j (by rw [H.out.1] at h1; omega)
            simpa [List.getD, h1, h2] using this)
        clear hix
        go_wp2_with fail
        go_ret
        exact ⟨by rw [HY.out]; rfl, hbr.out⟩
  · have HNE : Hid (decide (l = m) = false) := decide_eq_false (fun e => hne (by rw [← h.1, ← k.1, e]))
    have q4 : (((len : Nat) : Int) != ((len2 : Nat) : Int)) = true := by simp; omega
    have q5 : ¬ ((len : Nat) : Int) = ((len2 : Nat) : Int) := by omega
    clear h k hne
    go_enter Try.func31, Try.ntmps31
    go_wp2_with fail
    go_ret
    exact ⟨by rw [HNE.out]; rfl, Below.refl _ _⟩

end Go.Proofs.Ytdbgbldmjgonjaa
