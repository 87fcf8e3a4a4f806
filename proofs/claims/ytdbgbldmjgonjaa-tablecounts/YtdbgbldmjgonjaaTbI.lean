/-
  The document's May of tables.
-/
import Derived.Test.YtdbgbldmjgonjaaTbD
namespace Go.Proofs.Ytdbgbldmjgonjaa
open Go.RowKit
set_option linter.unusedVariables false

/-- May a table be? -/
noncomputable def mayB (t : Tb) : Bool := @decide t.May (Classical.propDecidable _)
theorem mayB_yes {t : Tb} (h : t.May) : mayB t = true := @decide_eq_true _ (Classical.propDecidable _) h
theorem mayB_no {t : Tb} (h : ¬ t.May) : mayB t = false := @decide_eq_false _ (Classical.propDecidable _) h
theorem mayB_iff {t : Tb} : mayB t = true ↔ t.May := ⟨fun h => @of_decide_eq_true _ (Classical.propDecidable _) h, mayB_yes⟩
theorem mayB_false {t : Tb} (h : mayB t = false) : ¬ t.May := fun k => by rw [mayB_yes k] at h; cases h

set_option maxHeartbeats 16000000 in
set_option maxRecDepth 100000 in
theorem rmayT_any (t : Tb) (v : Sl) (w : World) (h : Es w v t.es) :
    Calls Try.prog 10 #[t.val v] w fun e w' => e = .returned (.bool (mayB t)) ∧ Below w.heap.size w w' := by
  have hb := below_box w t v
  have HW := hide hb
  have HT := hide (TbBlk.new w t v)
  have HE := hide (h.keep hb (Nat.le_refl _))
  have hl : t.es.length = v.len := h.len
  have hbig := h.big
  clear h hb
  obtain ⟨va, vl, vc⟩ := v
  simp only at hl hbig
  have HL := hide hl
  unfold Tb.val
  by_cases z0 : t.nx < 1
  · have HR : Hid (mayB t = false) := mayB_no (fun k => by have := k.nx; omega)
    clear hl HT HE HL
    go_enter Try.func10, Try.ntmps10
    go_wp2_with fail
    go_ret
    exact ⟨by rw [HR.out]; rfl, HW.out⟩
  by_cases z1 : 2147483647 < t.nx
  · have HR : Hid (mayB t = false) := mayB_no (fun k => by have := k.nx; omega)
    clear hl HT HE HL
    go_enter Try.func10, Try.ntmps10
    go_wp2_with fail
    go_ret
    exact ⟨by rw [HR.out]; rfl, HW.out⟩
  by_cases z2 : t.no < 1
  · have HR : Hid (mayB t = false) := mayB_no (fun k => by have := k.no; omega)
    clear hl HT HE HL
    go_enter Try.func10, Try.ntmps10
    go_wp2_with fail
    go_ret
    exact ⟨by rw [HR.out]; rfl, HW.out⟩
  by_cases z3 : 2147483647 < t.no
  · have HR : Hid (mayB t = false) := mayB_no (fun k => by have := k.no; omega)
    clear hl HT HE HL
    go_enter Try.func10, Try.ntmps10
    go_wp2_with fail
    go_ret
    exact ⟨by rw [HR.out]; rfl, HW.out⟩
  by_cases z4 : t.cm < 0
  · have HR : Hid (mayB t = false) := mayB_no (fun k => by have := k.cm; omega)
    clear hl HT HE HL
    go_enter Try.func10, Try.ntmps10
    go_wp2_with fail
    go_ret
    exact ⟨by rw [HR.out]; rfl, HW.out⟩
  by_cases z5 : 2147483647 < t.cm
  · have HR : Hid (mayB t = false) := mayB_no (fun k => by have := k.cm; omega)
    clear hl HT HE HL
    go_enter Try.func10, Try.ntmps10
    go_wp2_with fail
    go_ret
    exact ⟨by rw [HR.out]; rfl, HW.out⟩
  by_cases z6 : vl = 12
  case neg =>
    have HR : Hid (mayB t = false) := mayB_no (fun k => z6 (by rw [← hl]; exact k.len))
    have q6 : (((vl : Nat) : Int) != 12) = true := by simp; omega
    have q7 : ¬ ((vl : Nat) : Int) = 12 := by omega
    clear hl HT HE HL z6
    go_enter Try.func10, Try.ntmps10
    go_wp2_with fail
    go_ret
    exact ⟨by rw [HR.out]; rfl, HW.out⟩
  subst z6
  have HHd : Hid ((1 ≤ t.nx ∧ t.nx ≤ 2147483647) ∧ (1 ≤ t.no ∧ t.no ≤ 2147483647) ∧ (0 ≤ t.cm ∧ t.cm ≤ 2147483647)) := ⟨⟨by omega, by omega⟩, ⟨by omega, by omega⟩, ⟨by omega, by omega⟩⟩
  go_enter Try.func10, Try.ntmps10
  go_wp2_with fail
  generalize w.alloc (.cells #[.int .i64 t.nx, .int .i64 t.no, .int .i64 t.cm, .slice va 12 vc] 24) = W at *
  clear hl
  have H0 := hide (Below.refl W.heap.size W)
  go_loopw [3] (fun iv wr => ∃ i : Nat, i ≤ 12 ∧ iv = .int .i64 (i : Nat) ∧ Hid (∀ j, j < i → EntOk t j) ∧ Hid (Below W.heap.size W wr)) (fun iv _ => 12 - (intOf iv).toNat)
  case atStart => exact ⟨0, Nat.zero_le _, rfl, fun j hj => absurd hj (Nat.not_lt_zero _), H0⟩
  case round =>
    obtain ⟨i, hi, rfl, hix, hbr⟩ := hrel
    rename World => wo
    have hkb := HT.out.keep hbr.out
    have d3 := hkb.c3
    rcases Nat.lt_or_ge i 12 with hlt | hge
    · have i1 : ((i : Nat) : Int) < 12 := by omega
      have hEr := HE.out.keep hbr.out (Nat.le_refl _)
      obtain ⟨b, off, ha, hat⟩ := hEr.at' i hlt
      replace ha : va = some ⟨b, off, none⟩ := ha
      subst ha
      obtain ⟨x, hx⟩ : ∃ x, x = t.en i := ⟨_, rfl⟩
      have hat' : EnAt wo b (off + i * 4) x := by rw [hx]; exact hat
      have HX := hide hx
      have c0 := hat'.c0
      have c1 := hat'.c1
      have c2 := hat'.c2
      have c3 := hat'.c3
      have hB4 := below_alloc wo (.cells #[.int .i64 x.tx, .int .i64 x.st, .int .i64 x.last, .int .i64 x.com] 58)
      have HBR := hide (rBelow hbr.out hB4)
      have HK4 := hide (hkb.keep hB4)
      have HX4 := hide (EnBlk.new wo x)
      have HE4 := hide (hEr.keep hB4 (Nat.le_refl _))
      have HS4 : Hid ((wo.alloc (.cells #[.int .i64 x.tx, .int .i64 x.st, .int .i64 x.last, .int .i64 x.com] 58)).heap.size = wo.heap.size + 1) := by show _ = _; simp
      clear hkb hEr hat hat' hx hB4
      generalize hW4 : wo.alloc (.cells #[.int .i64 x.tx, .int .i64 x.st, .int .i64 x.last, .int .i64 x.com] 58) = W4 at *
      have g0 : W4.cell? ⟨wo.heap.size, 0, none⟩ = some (.int .i64 x.tx) := HX4.out.at.c0
      have g1 : W4.cell? ⟨wo.heap.size, 1, none⟩ = some (.int .i64 x.st) := HX4.out.at.c1
      have g2 : W4.cell? ⟨wo.heap.size, 2, none⟩ = some (.int .i64 x.last) := HX4.out.at.c2
      have g3 : W4.cell? ⟨wo.heap.size, 3, none⟩ = some (.int .i64 x.com) := HX4.out.at.c3
      have m0 := HK4.out.c0
      have m2 := HK4.out.c2
      have m3 := HK4.out.c3
      have hno : ¬ EntOk t i → mayB t = false := fun k => mayB_no (fun m => k (m.ok i hlt))
      by_cases y0 : x.st < 0
      · have HR : Hid (mayB t = false) := hno (fun k => by have := k.st; rw [← HX.out] at this; omega)
        clear hno
        go_wp2_with fail
        go_ret
        exact ⟨by rw [HR.out]; rfl, rBelow HW.out HBR.out⟩
      by_cases y1 : 2 < x.st
      · have HR : Hid (mayB t = false) := hno (fun k => by have := k.st; rw [← HX.out] at this; omega)
        clear hno
        go_wp2_with fail
        go_ret
        exact ⟨by rw [HR.out]; rfl, rBelow HW.out HBR.out⟩
      by_cases y2 : x.st = 0
      · obtain ⟨xt, xs, xl, xc⟩ := x
        replace y2 : xs = 0 := y2
        subst y2
        simp only at g0 g1 g2 g3 hW4 c0 c1 c2 c3 y0 y1
        have HFREE : ∀ h : ¬ ((⟨xt, 0, xl, xc⟩ : En) = En.zero), Hid (mayB t = false) := fun h => hno (fun k => h (by have := k.free; rw [← HX.out] at this; exact this rfl))
        by_cases y3 : xt = 0
        case neg =>
          have HR := HFREE (fun e => y3 (congrArg En.tx e))
          clear hno hix HFREE
          go_wp2_with fail
          go_ret
          exact ⟨by rw [HR.out]; rfl, rBelow HW.out HBR.out⟩
        by_cases y4 : xl = 0
        case neg =>
          have HR := HFREE (fun e => y4 (congrArg En.last e))
          clear hno hix HFREE
          go_wp2_with fail
          go_ret
          rw [y3] at hW4
          rw [hW4]
          exact ⟨by rw [HR.out]; rfl, rBelow HW.out HBR.out⟩
        by_cases y5 : xc = 0
        case neg =>
          have HR := HFREE (fun e => y5 (congrArg En.com e))
          clear hno hix HFREE
          go_wp2_with fail
          go_ret
          rw [y3, y4] at hW4
          rw [hW4]
          exact ⟨by rw [HR.out]; rfl, rBelow HW.out HBR.out⟩
        have HN : Hid (∀ j, j < i + 1 → EntOk t j) := by
          intro j hj
          by_cases e : j = i
          · subst e
            have ex : t.en j = En.zero := by rw [← HX.out, y3, y4, y5]; rfl
            have z0 : En.zero.st = 0 := rfl
            constructor <;> rw [ex]
            · decide
            · exact fun _ => rfl
            · exact fun h => absurd z0 h
            · exact fun h => absurd z0 h
            · exact fun _ => rfl
            · exact fun h => by cases h
            · exact fun h => absurd z0 h
          · exact hix.out j (by omega)
        clear hno hix HFREE
        go_wp2_with fail
        go_roundw
        case rel =>
          rw [y3, y4, y5] at hW4
          rw [hW4]
          exact ⟨i + 1, by omega, by go_num, HN, HBR⟩
        case measure => simp only [intOf]; omega
      obtain ⟨xt, xs, xl, xc⟩ := x
      simp only at g0 g1 g2 g3 hW4 c0 c1 c2 c3 y0 y1 y2
      by_cases v0 : xt < 1
      · have HR : Hid (mayB t = false) := hno (fun k => by have := k.tx (by rw [← HX.out]; exact y2); rw [← HX.out] at this; simp only at this; omega)
        clear hno hix
        go_wp2_with fail
        go_ret
        exact ⟨by rw [HR.out]; rfl, rBelow HW.out HBR.out⟩
      by_cases v1 : t.nx ≤ xt
      · have HR : Hid (mayB t = false) := hno (fun k => by have := k.tx (by rw [← HX.out]; exact y2); rw [← HX.out] at this; simp only at this; omega)
        clear hno hix
        go_wp2_with fail
        go_ret
        exact ⟨by rw [HR.out]; rfl, rBelow HW.out HBR.out⟩
      by_cases v2 : xl < 0
      · have HR : Hid (mayB t = false) := hno (fun k => by have := k.last (by rw [← HX.out]; exact y2); rw [← HX.out] at this; simp only at this; omega)
        clear hno hix
        go_wp2_with fail
        go_ret
        exact ⟨by rw [HR.out]; rfl, rBelow HW.out HBR.out⟩
      by_cases v3 : 65535 < xl
      · have HR : Hid (mayB t = false) := hno (fun k => by have := k.last (by rw [← HX.out]; exact y2); rw [← HX.out] at this; simp only at this; omega)
        clear hno hix
        go_wp2_with fail
        go_ret
        exact ⟨by rw [HR.out]; rfl, rBelow HW.out HBR.out⟩
      by_cases y3 : xs = 1
      · subst y3
        by_cases v4 : ¬ xc = 0
        · have HR : Hid (mayB t = false) := hno (fun k => by have := k.act (by rw [← HX.out]); rw [← HX.out] at this; simp only at this; omega)
          clear hno hix
          go_wp2_with fail
          go_ret
          exact ⟨by rw [HR.out]; rfl, rBelow HW.out HBR.out⟩
        have q4 : (xc != 0) = false := by simp at v4 ⊢; exact v4
        have q5 : (xc == 0) = true := by simp at v4 ⊢; exact v4
        have V4 : Hid (xc = 0) := by show _ = _; omega
        clear v4
        have HNX : Hid ((∀ j, j < i → (t.en j).tx ≠ xt ∧ (0 < (xc : Int) → (t.en j).com ≠ xc)) → ∀ j, j < i + 1 → EntOk t j) := by
          intro hk j hj
          by_cases e : j = i
          · subst e
            constructor <;> rw [← HX.out] <;> simp only
            · omega
            · exact fun h => absurd h (by decide)
            · intro _; omega
            · intro _; omega
            · exact fun _ => V4.out
            · intro h; exact absurd h (by decide)
            · exact fun _ => hk
          · exact hix.out j (by omega)
        have HNO : Hid (∀ k, k < i → ¬ ((t.en k).tx ≠ xt ∧ (0 < (xc : Int) → (t.en k).com ≠ xc)) → mayB t = false) := by
          intro k hk hn
          refine hno (fun m => hn ?_)
          have := m.one (by rw [← HX.out]; simp) k hk
          rw [← HX.out] at this
          exact this
        clear hno hix
        go_wp2_with fail
        have HB4 := hide (Below.refl W4.heap.size W4)
        go_loopw [5] (fun kv wr => ∃ k : Nat, k ≤ i ∧ kv = .int .i64 (k : Nat) ∧ Hid (∀ j, j < k → (t.en j).tx ≠ xt ∧ (0 < (xc : Int) → (t.en j).com ≠ xc)) ∧ Hid (Below W4.heap.size W4 wr)) (fun kv _ => i - (intOf kv).toNat)
        case atStart => exact ⟨0, Nat.zero_le _, rfl, fun j hj => absurd hj (Nat.not_lt_zero _), HB4⟩
        case round =>
          obtain ⟨k, hk, rfl, hkx, hbk⟩ := hrel
          rename World => wk
          rcases Nat.lt_or_ge k i with hlk | hgk
          · have k1 : ((k : Nat) : Int) < ((i : Nat) : Int) := by omega
            have HK5 := hide (HK4.out.keep hbk.out)
            have HX5 := hide (HX4.out.keep hbk.out)
            obtain ⟨b', off', ha', hy⟩ := (HE4.out.keep hbk.out (Nat.le_refl _)).at' k (by show k < 12; omega)
            simp only [Option.some.injEq, Addr.mk.injEq, and_true] at ha'
            obtain ⟨rfl, rfl⟩ := ha'
            have HY := hide hy
            clear hy
            have HSZ : Hid (wo.heap.size ≤ W4.heap.size) := by show _ ≤ _; rw [HS4.out]; omega
            by_cases u1 : (t.en k).tx = xt
            case pos =>
              have HR : Hid (mayB t = false) := HNO.out k hlk (fun m => m.1 u1)
              clear HNX
              go_wp2_with fail
              refine Pl.region_is (ops := Pl.find 17 ((Try.f10.body).getD .skip)) (by kernel_rfl) ?_
              refine rmayT17a _ b off 12 vc k w.heap.size wo.heap.size t _ ⟨xt, 1, xl, xc⟩ (by omega) HK5.out HX5.out HY.out u1 (by rfl) rfl (by rfl) (by rfl) (by rfl) ?_
              intro u1 w1 hb1
              simp only [Act.put, List.setIfInBounds_toArray, List.set_cons_zero, List.set_cons_succ]
              have HB1 := hide (rBelow hbk.out hb1)
              clear hb1
              go_wp2_with fail
              go_ret
              exact ⟨by rw [HR.out]; rfl, rBelow HW.out (rBelow HBR.out HB1.out)⟩
            have HN : Hid (∀ j, j < k + 1 → (t.en j).tx ≠ xt ∧ (0 < (xc : Int) → (t.en j).com ≠ xc)) := by
              intro j hj
              by_cases e : j = k
              · subst e
                exact ⟨u1, fun h => absurd h (by have := V4.out; omega)⟩
              · exact hkx.out j (by omega)
            skip
            go_wp2_with fail
            refine Pl.region_is (ops := Pl.find 17 ((Try.f10.body).getD .skip)) (by kernel_rfl) ?_
            refine rmayT17b _ b off 12 vc k w.heap.size wo.heap.size t _ ⟨xt, 1, xl, xc⟩ (by omega) HK5.out HX5.out HY.out u1 (by have := V4.out; show ¬ 0 < xc; omega) (by rfl) rfl (by rfl) (by rfl) (by rfl) ?_
            intro u1 w1 hb1
            simp only [Act.put, List.setIfInBounds_toArray, List.set_cons_zero, List.set_cons_succ]
            have HB1 := hide (rBelow hbk.out hb1)
            clear hb1
            go_wp2_with fail
            go_roundw
            case rel => exact ⟨k + 1, by omega, by go_num, HN, HB1⟩
            case measure => simp only [intOf]; omega
          · have k1 : ¬ ((k : Nat) : Int) < ((i : Nat) : Int) := by omega
            have HN : Hid (∀ j, j < i + 1 → EntOk t j) := HNX.out (fun j hj => hkx.out j (by omega))
            have HB1 : Hid (Below W.heap.size W wk) := rBelow HBR.out hbk.out
            clear HNX HNO hkx
            go_wp2_with fail
            go_roundw
            case rel => exact ⟨i + 1, by omega, by go_num, HN, HB1⟩
            case measure => simp only [intOf]; omega
      have y4 : xs = 2 := by omega
      subst y4
      clear y3
      by_cases v4 : xc < 1
      · have HR : Hid (mayB t = false) := hno (fun k => by have := k.done (by rw [← HX.out]); rw [← HX.out] at this; simp only at this; omega)
        clear hno hix
        go_wp2_with fail
        go_ret
        exact ⟨by rw [HR.out]; rfl, rBelow HW.out HBR.out⟩
      by_cases v5 : t.cm < xc
      · have HR : Hid (mayB t = false) := hno (fun k => by have := k.done (by rw [← HX.out]); rw [← HX.out] at this; simp only at this; omega)
        clear hno hix
        go_wp2_with fail
        go_ret
        exact ⟨by rw [HR.out]; rfl, rBelow HW.out HBR.out⟩
      have HNX : Hid ((∀ j, j < i → (t.en j).tx ≠ xt ∧ (0 < (xc : Int) → (t.en j).com ≠ xc)) → ∀ j, j < i + 1 → EntOk t j) := by
        intro hk j hj
        by_cases e : j = i
        · subst e
          constructor <;> rw [← HX.out] <;> simp only
          · omega
          · exact fun h => absurd h (by decide)
          · intro _; omega
          · intro _; omega
          · intro h; exact absurd h (by decide)
          · intro _; omega
          · exact fun _ => hk
        · exact hix.out j (by omega)
      have HNO : Hid (∀ k, k < i → ¬ ((t.en k).tx ≠ xt ∧ (0 < (xc : Int) → (t.en k).com ≠ xc)) → mayB t = false) := by
        intro k hk hn
        refine hno (fun m => hn ?_)
        have := m.one (by rw [← HX.out]; simp) k hk
        rw [← HX.out] at this
        exact this
      clear hno hix
      go_wp2_with fail
      have HB4 := hide (Below.refl W4.heap.size W4)
      go_loopw [5] (fun kv wr => ∃ k : Nat, k ≤ i ∧ kv = .int .i64 (k : Nat) ∧ Hid (∀ j, j < k → (t.en j).tx ≠ xt ∧ (0 < (xc : Int) → (t.en j).com ≠ xc)) ∧ Hid (Below W4.heap.size W4 wr)) (fun kv _ => i - (intOf kv).toNat)
      case atStart => exact ⟨0, Nat.zero_le _, rfl, fun j hj => absurd hj (Nat.not_lt_zero _), HB4⟩
      case round =>
        obtain ⟨k, hk, rfl, hkx, hbk⟩ := hrel
        rename World => wk
        rcases Nat.lt_or_ge k i with hlk | hgk
        · have k1 : ((k : Nat) : Int) < ((i : Nat) : Int) := by omega
          have HK5 := hide (HK4.out.keep hbk.out)
          have HX5 := hide (HX4.out.keep hbk.out)
          obtain ⟨b', off', ha', hy⟩ := (HE4.out.keep hbk.out (Nat.le_refl _)).at' k (by show k < 12; omega)
          simp only [Option.some.injEq, Addr.mk.injEq, and_true] at ha'
          obtain ⟨rfl, rfl⟩ := ha'
          have HY := hide hy
          clear hy
          have HSZ : Hid (wo.heap.size ≤ W4.heap.size) := by show _ ≤ _; rw [HS4.out]; omega
          by_cases u1 : (t.en k).tx = xt
          case pos =>
            have HR : Hid (mayB t = false) := HNO.out k hlk (fun m => m.1 u1)
            clear HNX
            go_wp2_with fail
            refine Pl.region_is (ops := Pl.find 17 ((Try.f10.body).getD .skip)) (by kernel_rfl) ?_
            refine rmayT17a _ b off 12 vc k w.heap.size wo.heap.size t _ ⟨xt, 2, xl, xc⟩ (by omega) HK5.out HX5.out HY.out u1 (by rfl) rfl (by rfl) (by rfl) (by rfl) ?_
            intro u1 w1 hb1
            simp only [Act.put, List.setIfInBounds_toArray, List.set_cons_zero, List.set_cons_succ]
            have HB1 := hide (rBelow hbk.out hb1)
            clear hb1
            go_wp2_with fail
            go_ret
            exact ⟨by rw [HR.out]; rfl, rBelow HW.out (rBelow HBR.out HB1.out)⟩
          have u2 : 0 < xc := by omega
          by_cases u3 : (t.en k).com = xc
          case pos =>
            have HR : Hid (mayB t = false) := HNO.out k hlk (fun m => m.2 u2 u3)
            clear HNX
            go_wp2_with fail
            refine Pl.region_is (ops := Pl.find 17 ((Try.f10.body).getD .skip)) (by kernel_rfl) ?_
            refine rmayT17c _ b off 12 vc k w.heap.size wo.heap.size t _ ⟨xt, 2, xl, xc⟩ (by omega) HK5.out HX5.out HY.out u1 u2 u3 (by rfl) rfl (by rfl) (by rfl) (by rfl) ?_
            intro u1 w1 hb1
            simp only [Act.put, List.setIfInBounds_toArray, List.set_cons_zero, List.set_cons_succ]
            have HB1 := hide (rBelow hbk.out hb1)
            clear hb1
            go_wp2_with fail
            go_ret
            exact ⟨by rw [HR.out]; rfl, rBelow HW.out (rBelow HBR.out HB1.out)⟩
          have HN : Hid (∀ j, j < k + 1 → (t.en j).tx ≠ xt ∧ (0 < (xc : Int) → (t.en j).com ≠ xc)) := by
            intro j hj
            by_cases e : j = k
            · subst e
              exact ⟨u1, fun _ => u3⟩
            · exact hkx.out j (by omega)
          skip
          go_wp2_with fail
          refine Pl.region_is (ops := Pl.find 17 ((Try.f10.body).getD .skip)) (by kernel_rfl) ?_
          refine rmayT17d _ b off 12 vc k w.heap.size wo.heap.size t _ ⟨xt, 2, xl, xc⟩ (by omega) HK5.out HX5.out HY.out u1 u2 u3 (by rfl) rfl (by rfl) (by rfl) (by rfl) ?_
          intro u1 w1 hb1
          simp only [Act.put, List.setIfInBounds_toArray, List.set_cons_zero, List.set_cons_succ]
          have HB1 := hide (rBelow hbk.out hb1)
          clear hb1
          go_wp2_with fail
          go_roundw
          case rel => exact ⟨k + 1, by omega, by go_num, HN, HB1⟩
          case measure => simp only [intOf]; omega
        · have k1 : ¬ ((k : Nat) : Int) < ((i : Nat) : Int) := by omega
          have HN : Hid (∀ j, j < i + 1 → EntOk t j) := HNX.out (fun j hj => hkx.out j (by omega))
          have HB1 : Hid (Below W.heap.size W wk) := rBelow HBR.out hbk.out
          clear HNX HNO hkx
          go_wp2_with fail
          go_roundw
          case rel => exact ⟨i + 1, by omega, by go_num, HN, HB1⟩
          case measure => simp only [intOf]; omega
    · have i1 : ¬ ((i : Nat) : Int) < 12 := by omega
      have HR : Hid (mayB t = true) := mayB_yes ⟨HHd.out.1, HHd.out.2.1, HHd.out.2.2, HL.out, fun j hj => hix.out j (by omega)⟩
      clear hix
      go_wp2_with fail
      go_ret
      exact ⟨by rw [HR.out]; rfl, rBelow HW.out hbr.out⟩

end Go.Proofs.Ytdbgbldmjgonjaa
