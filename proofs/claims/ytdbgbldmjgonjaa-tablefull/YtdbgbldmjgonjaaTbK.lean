/-
  The document's Page of tables.
-/
import Derived.Test.YtdbgbldmjgonjaaTbI
import Derived.Test.YtdbgbldmjgonjaaTbJ
namespace Go.Proofs.Ytdbgbldmjgonjaa
open Go.RowKit
set_option linter.unusedVariables false

theorem OwnsI.litT (w : World) (base : Nat) (l : List It) (hb : base ≤ w.heap.size) (hm : l.length ≤ 1000000) : OwnsI (w.alloc (.cells (itVals l).toArray 67)) base (.slice (some ⟨w.heap.size, 0, none⟩) l.length l.length) l := by
  have := World.ownsRow_lit (base := base) (e := 67) (size := 4) w (itVals l).toArray l.length hb (by unfold maxLen; omega) (by simp [itVals_length])
  simpa [OwnsI] using this

theorem is_ent (w : World) (x : En) (hx : ∀ i ∈ entI x, i.fits) : Is (w.alloc (.cells #[.int .i64 1, .int .i64 x.st, .float .f64 0, .string ⟨#[]⟩, .int .i64 3, .int .i64 x.tx, .float .f64 0, .string ⟨#[]⟩, .int .i64 2, .int .i64 x.last, .float .f64 0, .string ⟨#[]⟩, .int .i64 3, .int .i64 x.com, .float .f64 0, .string ⟨#[]⟩] 67)) (some ⟨w.heap.size, 0, none⟩) 4 (entI x) := by
  obtain ⟨a, c, hv, is, _⟩ := (OwnsI.litT w w.heap.size (entI x) (Nat.le_refl _) (by show 4 ≤ 1000000; decide)).is hx
  simp only [Value.slice.injEq] at hv
  obtain ⟨rfl, _, _⟩ := hv
  exact is

/-- What is listed when k entries are. -/
def itemsP (t : Tb) (k : Nat) : List It := headT t ++ (t.es.take k).flatMap entI
theorem itemsP_zero (t : Tb) : itemsP t 0 = headT t := by simp [itemsP]
theorem itemsP_succ {t : Tb} {k : Nat} (hk : k < t.es.length) : itemsP t (k + 1) = itemsP t k ++ entI (t.en k) := by
  unfold itemsP
  rw [List.take_succ_eq_append_getElem hk, List.flatMap_append, List.append_assoc]
  congr 2
  rw [show t.en k = t.es[k] from en_get hk]
  simp
theorem itemsP_all {t : Tb} (h : t.es.length = 12) : itemsP t 12 = itemsT t := by unfold itemsP itemsT; rw [List.take_of_length_le (by omega)]
theorem itemsP_len (t : Tb) (k : Nat) : (itemsP t k).length ≤ 4 + 4 * k := by
  unfold itemsP
  rw [List.length_append, entI_len, List.length_take]
  have : (headT t).length = 4 := rfl
  omega

/-- How long a slice is. -/
def lnT : Value → Nat
  | .slice _ n _ => n
  | _ => 0

set_option maxHeartbeats 16000000 in
set_option maxRecDepth 100000 in
theorem rpageT_any (t : Tb) (v : Sl) (w : World) (h : Es w v t.es) (hm : t.May) :
    Calls Try.prog 16 #[t.val v] w fun e w' => ∃ u, e = .returned u ∧ Owns w' w.heap.size u (pageT t) ∧ Below w.heap.size w w' := by
  have hb := below_box w t v
  have HW := hide hb
  have HT := hide (TbBlk.new w t v)
  have HE := hide (h.keep hb (Nat.le_refl _))
  have hl : t.es.length = v.len := h.len
  have HM := hide hm
  clear h hb
  obtain ⟨va, vl, vc⟩ := v
  simp only at hl
  have z6 : vl = 12 := by rw [← hl]; exact hm.len
  subst z6
  have HL := hide hl
  clear hm hl
  unfold Tb.val
  go_enter Try.func16, Try.ntmps16
  go_wp2_with fail
  have HSZ : Hid ((w.alloc (.cells #[.int .i64 t.nx, .int .i64 t.no, .int .i64 t.cm, .slice va 12 vc] 24)).heap.size = w.heap.size + 1) := by show _ = _; simp
  generalize w.alloc (.cells #[.int .i64 t.nx, .int .i64 t.no, .int .i64 t.cm, .slice va 12 vc] 24) = W at *
  have HO0 : Hid (OwnsI (W.alloc (.cells #[.int .i64 1, .int .i64 84, .float .f64 0, .string ⟨#[]⟩, .int .i64 3, .int .i64 t.nx, .float .f64 0, .string ⟨#[]⟩, .int .i64 3, .int .i64 t.no, .float .f64 0, .string ⟨#[]⟩, .int .i64 3, .int .i64 t.cm, .float .f64 0, .string ⟨#[]⟩] 67)) W.heap.size (.slice (some ⟨w.heap.size + 1, 0, none⟩) 4 4) (itemsP t 0)) := by
    show OwnsI _ _ _ _
    rw [itemsP_zero, ← HSZ.out]
    exact OwnsI.litT W W.heap.size (headT t) (Nat.le_refl _) (by show 4 ≤ 1000000; decide)
  have HB0 := hide (below_alloc W (.cells #[.int .i64 1, .int .i64 84, .float .f64 0, .string ⟨#[]⟩, .int .i64 3, .int .i64 t.nx, .float .f64 0, .string ⟨#[]⟩, .int .i64 3, .int .i64 t.no, .float .f64 0, .string ⟨#[]⟩, .int .i64 3, .int .i64 t.cm, .float .f64 0, .string ⟨#[]⟩] 67))
  go_loopw [3, 4] (fun svx iv wr => ∃ (i : Nat) (sv : Value), sv = svx ∧ i ≤ 12 ∧ iv = .int .i64 (i : Nat) ∧ Hid (OwnsI wr W.heap.size sv (itemsP t i)) ∧ Hid (Below W.heap.size W wr)) (fun _ iv _ => 12 - (intOf iv).toNat)
  case atStart => exact ⟨0, _, rfl, Nat.zero_le _, rfl, HO0, HB0⟩
  case round =>
    obtain ⟨i, sv, rfl, hi, rfl, hox, hbr⟩ := hrel
    rename World => wo
    have d3 := (HT.out.keep hbr.out).c3
    rcases Nat.lt_or_ge i 12 with hlt | hge
    · have i1 : ((i : Nat) : Int) < 12 := by omega
      obtain ⟨b, off, ha, hat⟩ := (HE.out.keep hbr.out (Nat.le_refl _)).at' i hlt
      replace ha : va = some ⟨b, off, none⟩ := ha
      subst ha
      obtain ⟨x, hx⟩ : ∃ x, x = t.en i := ⟨_, rfl⟩
      have hat' : EnAt wo b (off + i * 4) x := by rw [hx]; exact hat
      have HS : Hid (itemsP t (i + 1) = itemsP t i ++ entI x) := by show _ = _; rw [hx]; exact itemsP_succ (by rw [HL.out]; exact hlt)
      have hfit : ∀ j ∈ entI x, j.fits := by
        have hmem : x ∈ t.es := by rw [hx]; exact en_mem (by rw [HL.out]; exact hlt)
        exact fun j hj => itemsT_fits HM.out j (List.mem_append_right _ (List.mem_flatMap.2 ⟨x, hmem, hj⟩))
      have HF := hide hfit
      have c0 := hat'.c0
      have c1 := hat'.c1
      have c2 := hat'.c2
      have c3 := hat'.c3
      have hB4 := below_alloc wo (.cells #[.int .i64 x.tx, .int .i64 x.st, .int .i64 x.last, .int .i64 x.com] 58)
      have HX4 := hide (EnBlk.new wo x)
      have HO4 := hide (hox.out.keep hB4 (Nat.le_refl _))
      have HBR := hide (rBelow hbr.out hB4)
      have HS4 : Hid ((wo.alloc (.cells #[.int .i64 x.tx, .int .i64 x.st, .int .i64 x.last, .int .i64 x.com] 58)).heap.size = wo.heap.size + 1) := by show _ = _; simp
      clear hat hat' hx hfit hox hB4
      generalize hW4 : wo.alloc (.cells #[.int .i64 x.tx, .int .i64 x.st, .int .i64 x.last, .int .i64 x.com] 58) = W4 at *
      have g0 : W4.cell? ⟨wo.heap.size, 0, none⟩ = some (.int .i64 x.tx) := HX4.out.at.c0
      have g1 : W4.cell? ⟨wo.heap.size, 1, none⟩ = some (.int .i64 x.st) := HX4.out.at.c1
      have g2 : W4.cell? ⟨wo.heap.size, 2, none⟩ = some (.int .i64 x.last) := HX4.out.at.c2
      have g3 : W4.cell? ⟨wo.heap.size, 3, none⟩ = some (.int .i64 x.com) := HX4.out.at.c3
      have hB5 := below_alloc W4 (.cells #[.int .i64 1, .int .i64 x.st, .float .f64 0, .string ⟨#[]⟩, .int .i64 3, .int .i64 x.tx, .float .f64 0, .string ⟨#[]⟩, .int .i64 2, .int .i64 x.last, .float .f64 0, .string ⟨#[]⟩, .int .i64 3, .int .i64 x.com, .float .f64 0, .string ⟨#[]⟩] 67)
      have HI := hide (is_ent W4 x HF.out)
      have HO5 := hide (HO4.out.keep hB5 (Nat.le_refl _))
      have HB5 := hide (rBelow HBR.out hB5)
      have HLEN : Hid ((itemsP t i).length + 4 ≤ 1000000) := by
        show _ ≤ _
        have := itemsP_len t i
        omega
      clear hB5 HO4
      go_wp2_with (at_builtin; refine wpList_append_items _ rfl (.tmp 31) (.tmp 44) rfl W.heap.size _ _ rfl HO5.out _ 4 4 (entI x) rfl HI.out (fun h => by cases h) HLEN.out HB5.out.size ?_)
      intro v1 w1 ho1 hb1 hs1
      have HO2 : Hid (OwnsI w1 W.heap.size v1 (itemsP t (i + 1))) := by show OwnsI _ _ _ _; rw [HS.out]; exact ho1
      have HB2 : Hid (Below W.heap.size W w1) := HB5.out.trans hb1
      clear ho1 hb1 hs1
      go_wp2_with fail
      go_roundw
      case rel => exact ⟨i + 1, _, rfl, by omega, by go_num, HO2, HB2⟩
      case measure => simp only [intOf]; omega
    · have i1 : ¬ ((i : Nat) : Int) < 12 := by omega
      have e12 : i = 12 := by omega
      subst e12
      have hox2 : OwnsI wo W.heap.size sv (itemsT t) := by rw [← itemsP_all HL.out]; exact hox.out
      obtain ⟨ia, ic, hsv, his, _⟩ := hox2.is (itemsT_fits HM.out)
      rw [itemsT_len HL.out] at hsv his
      subst hsv
      have hput := refPut_any ia 52 ic (itemsT t) wo his (by decide)
      rw [itemsT_all HM.out] at hput
      have HP := hide hput
      clear hput his hox2 hox
      go_wp2_with fail
      refine HP.out.mono ?_
      rintro e w2 ⟨v2, rfl, hb2, ho2, _⟩
      have HB2 := hide (rBelow hbr.out hb2)
      have HO2 : Hid (Owns w2 W.heap.size v2 (putB (itemsT t) ++ List.replicate 0 0)) := by
        show Owns _ _ _ _
        rw [List.replicate_zero, List.append_nil]
        exact (ho2 (by trivial)).lower hbr.out.size
      clear hb2 ho2 HP
      go_wp2_with fail
      go_loopw [6] (fun bx wr => ∃ (k : Nat) (bv : Value), bv = bx ∧ k ≤ 363 ∧ Hid (Owns wr W.heap.size bv (putB (itemsT t) ++ List.replicate k 0)) ∧ Hid (Below W.heap.size W wr)) (fun bv _ => 508 - lnT bv)
      case atStart => exact ⟨0, _, rfl, Nat.zero_le _, HO2, HB2⟩
      case round =>
        obtain ⟨k, bv, rfl, hk, hob, hbk⟩ := hrel
        rename World => wk
        have hlen : (putB (itemsT t) ++ List.replicate k 0).length = 145 + k := by rw [List.length_append, itemsT_bytes HL.out, List.length_replicate]
        obtain ⟨g, c, hbv, hg1, hg2, hg3⟩ := hob.out.pos (by rw [hlen]; omega)
        rw [hlen] at hbv
        subst hbv
        have HLN := hide hlen
        clear hlen hg1 hg2 hg3
        rcases Nat.lt_or_ge k 363 with hlk | hgk
        · have k1 : ((145 + k : Nat) : Int) < 508 := by omega
          have hB6 := below_alloc wk (.cells #[.int .u8 0] 5)
          have HO6 := hide (hob.out.keep hB6 (Nat.le_refl _))
          have HB6 := hide (rBelow hbk.out hB6)
          have HS6 : Hid (Bs (wk.alloc (.cells #[.int .u8 0] 5)) (some ⟨wk.heap.size, 0, none⟩) 1 [0]) := ((Owns.lit wk wk.heap.size [0] (Nat.le_refl _) (by decide)).row (by intro y hy; rw [List.mem_singleton.1 hy]; decide)).2
          have HL6 : Hid ((putB (itemsT t) ++ List.replicate k 0).length + 1 ≤ 1000000) := by show _ ≤ _; rw [HLN.out]; omega
          clear hB6 hob
          go_wp2_with (at_builtin; refine wpList_append_bytes _ rfl (.tmp 54) (.tmp 55) rfl W.heap.size _ _ rfl HO6.out _ 1 1 [0] rfl HS6.out (fun h => by cases h) HL6.out HB6.out.size ?_)
          intro v1 w1 ho1 hb1
          have HO7 : Hid (Owns w1 W.heap.size v1 (putB (itemsT t) ++ List.replicate (k + 1) 0)) := by
            show Owns _ _ _ _
            rw [List.replicate_succ']
            exact ho1
          have HB7 : Hid (Below W.heap.size W w1) := HB6.out.trans hb1
          have hln7 : lnT v1 = 146 + k := by
            obtain ⟨g', c', e', _, _, _⟩ := HO7.out.pos (by rw [List.length_append, itemsT_bytes HL.out]; omega)
            rw [e']
            show (putB (itemsT t) ++ List.replicate (k + 1) 0).length = _
            rw [List.length_append, itemsT_bytes HL.out, List.length_replicate]
            omega
          have HN7 := hide hln7
          clear ho1 hb1 hln7
          go_wp2_with fail
          go_roundw
          case rel => exact ⟨k + 1, _, rfl, by omega, HO7, HB7⟩
          case measure => rw [HN7.out]; show _ < 508 - (145 + k); omega
        · have e363 : k = 363 := by omega
          subst e363
          have k1 : ¬ ((145 + 363 : Nat) : Int) < 508 := by omega
          have ebd : putB (itemsT t) ++ List.replicate 363 0 = bodyT t := by unfold bodyT; rw [itemsT_bytes HL.out]
          have hob2 := hob.out
          rw [ebd] at hob2
          have hbs := (hob2.row (bodyT_bytes HM.out)).2
          rw [bodyT_len HL.out] at hbs
          have HS := hide (rseal_any (some ⟨g, 0, none⟩) 508 c (bodyT t) wk hbs (fun h => by cases h) (by decide))
          clear hob hob2 hbs ebd HLN
          go_wp2_with fail
          refine HS.out.mono ?_
          rintro e w3 ⟨v3, rfl, ho3, hb3⟩
          have HB3 := hide (rBelow HW.out (rBelow hbk.out hb3))
          have HO3 : Hid (Owns w3 w.heap.size v3 (pageT t)) := ho3.lower (Nat.le_trans HW.out.size hbk.out.size)
          clear ho3 hb3
          go_wp2_with fail
          go_ret
          exact ⟨_, rfl, HO3.out, HB3.out⟩

end Go.Proofs.Ytdbgbldmjgonjaa
