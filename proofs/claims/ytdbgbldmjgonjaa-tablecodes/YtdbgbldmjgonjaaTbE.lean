/-
  The document's Live, Eldest, First and set of tables.
-/
import Derived.Test.YtdbgbldmjgonjaaTbD
import Derived.Test.YtdbgbldmjgonjaaVals
namespace Go.Proofs.Ytdbgbldmjgonjaa
open Go.RowKit

theorem oneIntT : One 32 3 (.int .i64 0) 8 := ⟨Try.underlying32, by kernel_rfl, by kernel_rfl, by decide⟩

/-- Who writes, of the first k entries. -/
def liveP (t : Tb) (k : Nat) : List Int := ((t.es.take k).filter (fun e => e.st == 1)).map En.tx
theorem liveP_succ {t : Tb} {k : Nat} (hk : k < t.es.length) : liveP t (k + 1) = liveP t k ++ (if (t.en k).st = 1 then [(t.en k).tx] else []) := by
  unfold liveP
  rw [List.take_succ_eq_append_getElem hk, List.filter_append, List.map_append]
  congr 1
  unfold Tb.en
  rw [en_get hk]
  by_cases h : (t.es[k]).st = 1
  · simp [h]
  · simp [h]
theorem liveP_len (t : Tb) (k : Nat) : (liveP t k).length ≤ k := by
  unfold liveP
  rw [List.length_map]
  exact Nat.le_trans (List.length_filter_le _ _) (by rw [List.length_take]; exact Nat.min_le_left _ _)
theorem liveP_all (t : Tb) : liveP t t.es.length = liveT t := by
  unfold liveP liveT
  rw [List.take_length]

set_option maxHeartbeats 4000000 in
set_option maxRecDepth 100000 in
theorem rliveT_any (t : Tb) (v : Sl) (w : World) (h : Es w v t.es) (hm : v.len ≤ 100000) :
    Calls Try.prog 32 #[t.val v] w fun e w' => ∃ s, e = .returned s ∧ OwnsV 3 w' w.heap.size s (kVals (liveT t)) ∧ Below w.heap.size w w' := by
  have hb := below_box w t v
  have HW := hide hb
  have HT := hide (TbBlk.new w t v)
  have HE := hide (h.keep hb (Nat.le_refl _))
  have hl : t.es.length = v.len := h.len
  clear h hb
  obtain ⟨va, vl, vc⟩ := v
  simp only at hl hm
  have HL := hide hl
  unfold Tb.val
  go_enter Try.func32, Try.ntmps32
  go_wp2_with fail
  have HSZ : Hid ((w.alloc (.cells #[.int .i64 t.nx, .int .i64 t.no, .int .i64 t.cm, .slice va vl vc] 24)).heap.size = w.heap.size + 1) := by show _ = _; simp
  generalize w.alloc (.cells #[.int .i64 t.nx, .int .i64 t.no, .int .i64 t.cm, .slice va vl vc] 24) = W at *
  clear hl
  have HO0 : Hid (OwnsV 3 (W.alloc (.cells #[] 3)) W.heap.size (.slice (some ⟨w.heap.size + 1, 0, none⟩) 0 0) (kVals (liveP t 0))) := by
    show OwnsV _ _ _ _ _
    rw [← HSZ.out]
    exact OwnsV.lit 3 W W.heap.size [] (Nat.le_refl _) (by decide)
  have HB0 := hide (below_alloc W (.cells #[] 3))
  go_loopw [3, 4] (fun svx iv wr => ∃ (i : Nat) (sv : Value), sv = svx ∧ i ≤ vl ∧ iv = .int .i64 (i : Nat) ∧ Hid (OwnsV 3 wr W.heap.size sv (kVals (liveP t i))) ∧ Hid (Below W.heap.size W wr)) (fun _ iv _ => vl - (intOf iv).toNat)
  case atStart => exact ⟨0, _, rfl, Nat.zero_le _, rfl, HO0, HB0⟩
  case round =>
    obtain ⟨i, sv, rfl, hi, rfl, hox, hbr⟩ := hrel
    have d3 := (HT.out.keep hbr.out).c3
    rcases Nat.lt_or_ge i vl with hlt | hge
    · have i1 : ((i : Nat) : Int) < ((vl : Nat) : Int) := by omega
      obtain ⟨b, off, ha, hat⟩ := (HE.out.keep hbr.out (Nat.le_refl _)).at' i hlt
      replace ha : va = some ⟨b, off, none⟩ := ha
      subst ha
      obtain ⟨x, hx⟩ : ∃ x, x = t.es.getD i En.zero := ⟨_, rfl⟩
      rw [← hx] at hat
      have c0 := hat.c0
      have c1 := hat.c1
      have HS := hide (liveP_succ (t := t) (k := i) (by rw [HL.out]; exact hlt))
      have hxe : t.en i = x := hx.symm
      rw [hxe] at HS
      clear hat hx hxe
      by_cases h1 : x.st = 1
      · have HS' : Hid (kVals (liveP t (i + 1)) = kVals (liveP t i) ++ [.int .i64 x.tx]) := by show _ = _; rw [HS.out, if_pos h1]; simp [kVals]
        have HV := hide (vs_one 3 wr (.int .i64 x.tx) rfl)
        have hB1 := below_alloc wr (.cells #[.int .i64 x.tx] 3)
        have HO1 := hide (hox.out.keep hB1 (Nat.le_refl _))
        have HB1 := hide (rBelow hbr.out hB1)
        have HLEN : Hid ((kVals (liveP t i)).length + 1 ≤ 1000000) := by
          show _ ≤ _
          have := liveP_len t i
          simp only [kVals, List.length_map]
          omega
        clear HS hB1
        go_wp2_with (at_builtin; refine wpList_append_vals oneIntT _ rfl (.tmp 20) (.tmp 27) rfl W.heap.size _ _ rfl HO1.out _ _ _ [.int .i64 x.tx] rfl HV.out (fun h => by cases h) HLEN.out HB1.out.size ?_)
        intro v1 w1 ho1 hb1 hs1
        have HO2 : Hid (OwnsV 3 w1 W.heap.size v1 (kVals (liveP t (i + 1)))) := by show OwnsV _ _ _ _ _; rw [HS'.out]; exact ho1
        have HB2 : Hid (Below W.heap.size W w1) := HB1.out.trans hb1
        clear ho1 hb1 hs1
        go_wp2_with fail
        go_roundw
        case rel => exact ⟨i + 1, _, rfl, by omega, by go_num, HO2, HB2⟩
        case measure => simp only [intOf]; omega
      · have HO2 : Hid (OwnsV 3 wr W.heap.size sv (kVals (liveP t (i + 1)))) := by show OwnsV _ _ _ _ _; rw [HS.out, if_neg h1, List.append_nil]; exact hox.out
        clear HS hox
        go_wp2_with fail
        go_roundw
        case rel => exact ⟨i + 1, _, rfl, by omega, by go_num, HO2, hbr⟩
        case measure => simp only [intOf]; omega
    · have i1 : ¬ ((i : Nat) : Int) < ((vl : Nat) : Int) := by omega
      have e : i = t.es.length := by rw [HL.out]; omega
      have HO2 : Hid (OwnsV 3 wr W.heap.size sv (kVals (liveT t))) := by show OwnsV _ _ _ _ _; rw [← liveP_all, ← e]; exact hox.out
      clear hox e
      go_wp2_with fail
      go_ret
      exact ⟨_, rfl, HO2.out.lower HW.out.size, rBelow HW.out hbr.out⟩

/-- As a number that Eldest counts with. -/
theorem eldN_succ (t : Tb) (k : Nat) : eldN t (k + 1) = if (t.en k).st = 2 ∧ (∀ j, eldN t k = some j → (t.en k).com < (t.en j).com) then some k else eldN t k := rfl

set_option maxHeartbeats 8000000 in
set_option maxRecDepth 100000 in
theorem reldT_any (t : Tb) (v : Sl) (w : World) (h : Es w v t.es) :
    Calls Try.prog 33 #[t.val v] w fun e w' => e = .returned (.int .i64 (eldestT t)) ∧ Below w.heap.size w w' := by
  have hb := below_box w t v
  have HW := hide hb
  have HT := hide (TbBlk.new w t v)
  have HE := hide (h.keep hb (Nat.le_refl _))
  have hl : t.es.length = v.len := h.len
  have hbig := h.big
  clear h hb
  obtain ⟨va, vl, vc⟩ := v
  simp only at hl hbig
  have HL := hide hl
  unfold Tb.val
  go_enter Try.func33, Try.ntmps33
  go_wp2_with fail
  generalize w.alloc (.cells #[.int .i64 t.nx, .int .i64 t.no, .int .i64 t.cm, .slice va vl vc] 24) = W at *
  clear hl
  have H0 := hide (Below.refl W.heap.size W)
  go_loopw [3, 4] (fun av iv wr => ∃ i : Nat, i ≤ vl ∧ iv = .int .i64 (i : Nat) ∧ (∃ z, av = .int .i64 z ∧ Hid (z = ixN (eldN t i))) ∧ Hid (Below W.heap.size W wr)) (fun _ iv _ => vl - (intOf iv).toNat)
  case atStart => exact ⟨0, Nat.zero_le _, rfl, ⟨-1, rfl, rfl⟩, H0⟩
  case round =>
    obtain ⟨i, hi, rfl, ⟨z, rfl, hz⟩, hbr⟩ := hrel
    have hkb := HT.out.keep hbr.out
    have d3 := hkb.c3
    have HKB := hide hkb
    clear hkb
    rcases Nat.lt_or_ge i vl with hlt | hge
    · have i1 : ((i : Nat) : Int) < ((vl : Nat) : Int) := by omega
      have hEr := HE.out.keep hbr.out (Nat.le_refl _)
      obtain ⟨b, off, ha, hat⟩ := hEr.at' i hlt
      replace ha : va = some ⟨b, off, none⟩ := ha
      subst ha
      have HX := hide hat
      have HEr := hide hEr
      clear hat hEr
      have HSS := hide (eldN_succ t i)
      by_cases h2 : (t.en i).st = 2
      · cases hel : eldN t i with
        | none =>
          have HN : Hid (((i : Nat) : Int) = ixN (eldN t (i + 1))) := by
            show _ = _
            rw [HSS.out, if_pos ⟨h2, fun j hj => by rw [hel] at hj; cases hj⟩]
            rfl
          have hz1 : z = -1 := by rw [hz.out, hel]; rfl
          subst hz1
          have H2 := hide h2
          clear HSS hel hz h2
          go_wp2_with fail
          refine Pl.region_is (ops := Pl.find 5 ((Try.f33.body).getD .skip)) (by kernel_rfl) ?_
          refine reld5b _ b off vl vc i w.heap.size t _ hlt HKB.out HX.out H2.out (by rfl) rfl (by rfl) (by rfl) (by rfl) ?_
          intro u1 w1 hb1
          simp only [Act.put, List.setIfInBounds_toArray, List.set_cons_zero, List.set_cons_succ]
          have HB1 := hide (rBelow hbr.out hb1)
          clear hb1
          go_wp2_with fail
          go_roundw
          case rel => exact ⟨i + 1, by omega, by go_num, ⟨_, rfl, HN⟩, HB1⟩
          case measure => simp only [intOf]; omega
        | some j =>
          have hj := ((eldN_says t i).1 j hel).1
          have hz1 : z = ((j : Nat) : Int) := by rw [hz.out, hel]; rfl
          subst hz1
          obtain ⟨b', off', ha', hy⟩ := HEr.out.at' j (by show j < vl; omega)
          simp only [Option.some.injEq, Addr.mk.injEq, and_true] at ha'
          obtain ⟨rfl, rfl⟩ := ha'
          have HY := hide hy
          have H2 := hide h2
          clear hy
          by_cases h3 : (t.en i).com < (t.en j).com
          · have HN : Hid (((i : Nat) : Int) = ixN (eldN t (i + 1))) := by
              show _ = _
              rw [HSS.out, if_pos ⟨h2, fun m hm => by rw [hel] at hm; cases hm; exact h3⟩]
              rfl
            have H3 := hide h3
            clear HSS hel hz h2 h3
            go_wp2_with fail
            refine Pl.region_is (ops := Pl.find 5 ((Try.f33.body).getD .skip)) (by kernel_rfl) ?_
            refine reld5c _ b off vl vc i w.heap.size t _ hlt HKB.out HX.out j (by omega) _ HY.out H2.out H3.out (by rfl) rfl (by rfl) (by rfl) (by rfl) ?_
            intro u1 w1 hb1
            simp only [Act.put, List.setIfInBounds_toArray, List.set_cons_zero, List.set_cons_succ]
            have HB1 := hide (rBelow hbr.out hb1)
            clear hb1
            go_wp2_with fail
            go_roundw
            case rel => exact ⟨i + 1, by omega, by go_num, ⟨_, rfl, HN⟩, HB1⟩
            case measure => simp only [intOf]; omega
          · have HN : Hid (((j : Nat) : Int) = ixN (eldN t (i + 1))) := by
              show _ = _
              rw [HSS.out, if_neg (fun hc => h3 (hc.2 j hel)), hel]
              rfl
            have H3 := hide h3
            clear HSS hel hz h2 h3
            go_wp2_with fail
            refine Pl.region_is (ops := Pl.find 5 ((Try.f33.body).getD .skip)) (by kernel_rfl) ?_
            refine reld5d _ b off vl vc i w.heap.size t _ hlt HKB.out HX.out j (by omega) _ HY.out H2.out (Int.not_lt.2 H3.out) (by rfl) rfl (by rfl) (by rfl) (by rfl) ?_
            intro u1 w1 hb1
            simp only [Act.put, List.setIfInBounds_toArray, List.set_cons_zero, List.set_cons_succ]
            have HB1 := hide (rBelow hbr.out hb1)
            clear hb1
            go_wp2_with fail
            go_roundw
            case rel => exact ⟨i + 1, by omega, by go_num, ⟨_, rfl, HN⟩, HB1⟩
            case measure => simp only [intOf]; omega
      · have HN : Hid (z = ixN (eldN t (i + 1))) := by
          show _ = _
          rw [HSS.out, if_neg (fun hc => h2 hc.1)]
          exact hz.out
        have H2 := hide h2
        clear HSS hz h2
        go_wp2_with fail
        refine Pl.region_is (ops := Pl.find 5 ((Try.f33.body).getD .skip)) (by kernel_rfl) ?_
        refine reld5a _ b off vl vc i w.heap.size t _ hlt HKB.out HX.out z H2.out (by rfl) rfl (by rfl) (by rfl) (by rfl) ?_
        intro u1 w1 hb1
        simp only [Act.put, List.setIfInBounds_toArray, List.set_cons_zero, List.set_cons_succ]
        have HB1 := hide (rBelow hbr.out hb1)
        clear hb1
        go_wp2_with fail
        go_roundw
        case rel => exact ⟨i + 1, by omega, by go_num, ⟨_, rfl, HN⟩, HB1⟩
        case measure => simp only [intOf]; omega
    · have i1 : ¬ ((i : Nat) : Int) < ((vl : Nat) : Int) := by omega
      have e : i = t.es.length := by rw [HL.out]; omega
      cases hel : eldN t i with
      | none =>
        have hz1 : z = -1 := by rw [hz.out, hel]; rfl
        subst hz1
        have HR : Hid (eldestT t = 0) := by show _ = _; unfold eldestT; rw [← e, hel]
        clear hz hel e
        go_wp2_with fail
        go_ret
        exact ⟨by rw [HR.out]; rfl, rBelow HW.out hbr.out⟩
      | some j =>
        have hj := ((eldN_says t i).1 j hel).1
        have hz1 : z = ((j : Nat) : Int) := by rw [hz.out, hel]; rfl
        subst hz1
        obtain ⟨b, off, ha, hat⟩ := (HE.out.keep hbr.out (Nat.le_refl _)).at' j (by show j < vl; omega)
        replace ha : va = some ⟨b, off, none⟩ := ha
        subst ha
        have HR : Hid (eldestT t = (t.es.getD j En.zero).tx) := by show _ = _; unfold eldestT; rw [← e, hel]; rfl
        have c0 := hat.c0
        have j1 : ((j : Nat) : Int) < ((vl : Nat) : Int) := by omega
        obtain ⟨x, hx⟩ : ∃ x, x = t.es.getD j En.zero := ⟨_, rfl⟩
        rw [← hx] at c0 HR
        clear hz hel e hat hx
        go_wp2_with fail
        go_ret
        exact ⟨by rw [HR.out]; rfl, rBelow HW.out hbr.out⟩

end Go.Proofs.Ytdbgbldmjgonjaa
