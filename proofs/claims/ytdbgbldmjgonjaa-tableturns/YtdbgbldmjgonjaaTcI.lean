/-
  Layer 11, the landed table: itemsOf.
-/
import Derived.Test.YtdbgbldmjgonjaaTcH
import Derived.Test.YtdbgbldmjgonjaaTbK
namespace Go.Proofs.Ytdbgbldmjgonjaa
open Go.RowKit
set_option linter.unusedVariables false

theorem noS_val : noS = ⟨#[]⟩ := rfl
def itZ : It := tbI 0 0

/-! ### Items in a block of their own -/
theorem itVals_set : ∀ (l : List It) (i : Nat) (x : It), itVals (l.set i x) = ((((itVals l).set (i * 4) (.int .i64 x.kind)).set (i * 4 + 1) (.int .i64 x.n)).set (i * 4 + 2) (.float .f64 x.x)).set (i * 4 + 3) (.string x.s)
  | [], _, _ => rfl
  | y :: r, 0, x => rfl
  | y :: r, i + 1, x => by
    have ih := itVals_set r i x
    show y.cells ++ itVals (r.set i x) = ((((y.cells ++ itVals r).set ((i + 1) * 4) _).set ((i + 1) * 4 + 1) _).set ((i + 1) * 4 + 2) _).set ((i + 1) * 4 + 3) _
    rw [ih, show (i + 1) * 4 = i * 4 + 4 by omega]
    rfl
def ItB (w : World) (g : Nat) (l : List It) : Prop := w.heap[g]? = some (Obj.cells (itVals l).toArray 67 (0, 0))
theorem ItB.lt {w : World} {g : Nat} {l : List It} (h : ItB w g l) : g < w.heap.size := (Array.getElem?_eq_some_iff.1 h).1
theorem ItB.keep {w w' : World} {g : Nat} {l : List It} (h : ItB w g l) (hb : Below w.heap.size w w') : ItB w' g l := (hb.block g h.lt).trans h
theorem ItB.cell {w : World} {g : Nat} {l : List It} (h : ItB w g l) {i k : Nat} (hi : i < l.length) (hk : k < 4) : w.cell? ⟨g, i * 4 + k, none⟩ = (l.getD i itD).cells[k]? := by
  rw [cell_of_row _ _ _ _ _ _ h]
  rw [← itVals_get l i k hi hk]
  simp
theorem ItB.at {w : World} {g : Nat} {l : List It} (h : ItB w g l) {i : Nat} (hi : i < l.length) : ItAt w g (i * 4) (l.getD i itD) :=
  ⟨by have := h.cell hi (k := 0) (by decide); exact this, by have := h.cell hi (k := 1) (by decide); exact this, by have := h.cell hi (k := 2) (by decide); exact this, by have := h.cell hi (k := 3) (by decide); exact this⟩
theorem ItB.set {w : World} {g : Nat} {l : List It} (h : ItB w g l) {i : Nat} (hi : i < l.length) (x : It) :
    ∃ W, (Instr.storeAt 67 (.pointer (some ⟨g, i * 4, none⟩)) (.agg #[.int .i64 x.kind, .int .i64 x.n, .float .f64 x.x, .string x.s])).run Try.prog w = .ok () W ∧ ItB W g (l.set i x) ∧ Frm (fun k => k = g) w W ∧ W.heap.size = w.heap.size := by
  obtain ⟨c0, c1, c2, c3⟩ := h.at hi
  have f0 : ∀ p, w.frozen? ⟨g, p, none⟩ = false := fun p => frozen_of_row w g _ _ _ h
  have hsf : ∀ w a m x, (store a (.float .f64 x) m).run Try.prog w = stored Try.prog w a (.float .f64 x) m := fun w a m x => run_store Try.prog w a _ m rfl
  refine ⟨(((w.setCell ⟨g, i * 4, none⟩ (.int .i64 x.kind)).setCell ⟨g, i * 4 + 1, none⟩ (.int .i64 x.n)).setCell ⟨g, i * 4 + 2, none⟩ (.float .f64 x.x)).setCell ⟨g, i * 4 + 3, none⟩ (.string x.s), by simp [go_sem, Instr.storeAt, stored, hsf, c0, c1, c2, c3, f0], ?_, ((((Frm.refl (fun k => k = g) w).setCell (p := ⟨g, i * 4, none⟩) rfl _).setCell (p := ⟨g, i * 4 + 1, none⟩) rfl _).setCell (p := ⟨g, i * 4 + 2, none⟩) rfl _).setCell (p := ⟨g, i * 4 + 3, none⟩) rfl _, by simp only [setCell_size]⟩
  have s0 := heap_setCell_same w g (i * 4) _ 67 (.int .i64 x.kind) h
  have s1 := heap_setCell_same _ g (i * 4 + 1) _ 67 (.int .i64 x.n) s0
  have s2 := heap_setCell_same _ g (i * 4 + 2) _ 67 (.float .f64 x.x) s1
  have s3 := heap_setCell_same _ g (i * 4 + 3) _ 67 (.string x.s) s2
  unfold ItB
  rw [itVals_set]
  simpa using s3
theorem ItB.is {w : World} {g : Nat} {l : List It} (h : ItB w g l) (hf : ∀ i ∈ l, i.fits) : Is w (some ⟨g, 0, none⟩) l.length l :=
  ⟨rfl, hf, fun j hj => ⟨g, 0, rfl, by rw [Nat.zero_add]; exact h.at hj⟩⟩
theorem made_items : madeCells (Value.agg #[.int .i64 0, .int .i64 0, .float .f64 0, .string ⟨#[]⟩]).cells (52 * 4) = (itVals (List.replicate 52 itZ)).toArray := by kernel_rfl
theorem make_items (w : World) : (Instr.makeSlice 54 (.int .i64 52) (.int .i64 52)).run Try.prog w = .ok (.slice (some ⟨w.heap.size, 0, none⟩) 52 52) (w.alloc (.cells (itVals (List.replicate 52 itZ)).toArray 67)) := by
  obtain ⟨i0, hi, hz0, hz1, hz2⟩ := info_parts info35
  have h := run_makeSlice (P := Try.prog) w 54 67 i0 (.agg #[.int .i64 0, .int .i64 0, .float .f64 0, .string ⟨#[]⟩]) Try.underlying54 hi hz0 .i64 .i64 52 52 (by omega) (by omega) (by rw [hz1]; decide) (by rw [hz2]; decide) (by omega)
  rw [hz1, show (52 : Int).toNat = 52 from rfl, made_items] at h
  exact h
theorem OwnsV.frm {e : TypeId} {w w' : World} {base g : Nat} {v : Value} {vs : List Value} (h : OwnsV e w base v vs) (hf : Frm (fun k => k = g) w w') (hg : g < base) : OwnsV e w' base v vs := by
  refine ⟨h.1, ?_⟩
  rcases h.2 with hn | ⟨g', cap, cur, hv, hbg, hg', rest⟩
  · exact .inl hn
  · exact .inr ⟨g', cap, cur, hv, hbg, (hf.block g' (Array.getElem?_eq_some_iff.1 hg').1 (by omega)).trans hg', rest⟩

/-! ### The numbers of a page -/
def numE (x : En) : List Int := [x.st, x.tx, x.last, x.com]
def numsP (t : Tb) (k : Nat) : List Int := [84, t.nx, t.no, t.cm] ++ (t.es.take k).flatMap numE
theorem numsP_zero (t : Tb) : numsP t 0 = [84, t.nx, t.no, t.cm] := by simp [numsP]
theorem numsP_succ {t : Tb} {k : Nat} (hk : k < t.es.length) : numsP t (k + 1) = numsP t k ++ numE (t.en k) := by
  unfold numsP
  rw [List.take_succ_eq_append_getElem hk, List.flatMap_append, List.append_assoc]
  congr 2
  rw [show t.en k = t.es[k] from en_get hk]
  simp
theorem numE_len (l : List En) : (l.flatMap numE).length = 4 * l.length := by
  induction l with
  | nil => rfl
  | cons x r ih => rw [List.flatMap_cons, List.length_append, ih, List.length_cons]; show 4 + _ = _; omega
theorem numsP_len (t : Tb) {k : Nat} (hk : k ≤ t.es.length) : (numsP t k).length = 4 + 4 * k := by
  unfold numsP
  rw [List.length_append, numE_len, List.length_take]
  show 4 + 4 * min k t.es.length = _
  omega
theorem zip_ents : ∀ es : List En, List.zipWith tbI (List.replicate es.length [1, 3, 2, 3]).flatten (es.flatMap numE) = es.flatMap entI
  | [] => rfl
  | x :: r => by
    rw [List.length_cons, List.replicate_succ, List.flatten_cons, List.flatMap_cons, List.flatMap_cons, List.zipWith_append (by rfl), zip_ents r]
    rfl
theorem items_zip {t : Tb} (h : t.es.length = 12) : itemsT t = List.zipWith tbI tbK (numsP t 12) := by
  unfold itemsT tbK numsP
  rw [List.take_of_length_le (by omega), List.zipWith_append (by rfl)]
  have := zip_ents t.es
  rw [h] at this
  rw [this]
  rfl
theorem items_at {t : Tb} (h : t.es.length = 12) {i : Nat} (hi : i < 52) : (itemsT t).getD i itD = tbI (tbK.getD i 0) ((numsP t 12).getD i 0) := by
  have h1 : i < tbK.length := by rw [tbK_len]; exact hi
  have h2 : i < (numsP t 12).length := by rw [numsP_len t (by omega)]; exact hi
  have h3 : i < (List.zipWith tbI tbK (numsP t 12)).length := by rw [List.length_zipWith]; omega
  rw [items_zip h, List.getD_eq_getElem?_getD, List.getElem?_eq_getElem h3]
  simp [List.getD, h1, h2]
/-- What is laid when i items are. -/
def itemsF (t : Tb) (i : Nat) : List It := (itemsT t).take i ++ List.replicate (52 - i) itZ
theorem itemsF_len {t : Tb} (h : t.es.length = 12) {i : Nat} (hi : i ≤ 52) : (itemsF t i).length = 52 := by
  unfold itemsF
  rw [List.length_append, List.length_take, itemsT_len h, List.length_replicate]
  omega
theorem itemsF_zero (t : Tb) : itemsF t 0 = List.replicate 52 itZ := by simp [itemsF]
theorem itemsF_all {t : Tb} (h : t.es.length = 12) : itemsF t 52 = itemsT t := by
  unfold itemsF
  rw [List.take_of_length_le (by rw [itemsT_len h]; exact Nat.le_refl _)]
  simp
theorem itemsF_set {t : Tb} (h : t.es.length = 12) {i : Nat} (hi : i < 52) : (itemsF t i).set i (tbI (tbK.getD i 0) ((numsP t 12).getD i 0)) = itemsF t (i + 1) := by
  have hl : ((itemsT t).take i).length = i := by rw [List.length_take, itemsT_len h]; omega
  have hli : i < (itemsT t).length := by rw [itemsT_len h]; exact hi
  unfold itemsF
  rw [List.set_append_right _ _ (by omega), hl, Nat.sub_self, show 52 - i = (52 - (i + 1)) + 1 by omega, List.replicate_succ, List.set_cons_zero]
  rw [List.take_succ_eq_append_getElem (by rw [itemsT_len h]; exact hi), List.append_assoc]
  congr 1
  show _ = (itemsT t)[i]'hli :: List.replicate (52 - (i + 1)) itZ
  congr 1
  rw [← items_at h hi]
  simp [List.getD, itemsT_len h, hi]

/-- What is told of a page's items. -/
def ItemsSay (l : List It) (w : World) (e : Ending) (w' : World) : Prop := ∃ a c, e = .returned (.slice a 52 c) ∧ Is w' a 52 l ∧ Below w.heap.size w w'

set_option maxHeartbeats 16000000 in
set_option maxRecDepth 100000 in
theorem itemsT_any (t : Tb) (v : Sl) (w : World) (h : Es w v t.es) (hm : t.May) :
    Calls Try.prog 36 #[t.val v] w (ItemsSay (itemsT t) w) := by
  have hb := below_box w t v
  have HW := hide hb
  have HT := hide (TbBlk.new w t v)
  have HE := hide (h.keep hb (Nat.le_refl _))
  have hl : t.es.length = v.len := h.len
  have HM := hide hm
  clear h hb
  obtain ⟨va, vl, vc⟩ := v
  simp only at hl
  have z6 : vl = 12 := by rw [← hl]; exact hm.len
  subst z6
  have HL := hide hl
  clear hm hl
  unfold Tb.val
  go_enter Try.func36, Try.ntmps36
  go_wp2_with fail
  have HSZ : Hid ((w.alloc (.cells #[.int .i64 t.nx, .int .i64 t.no, .int .i64 t.cm, .slice va 12 vc] 24)).heap.size = w.heap.size + 1) := by show _ = _; simp
  generalize w.alloc (.cells #[.int .i64 t.nx, .int .i64 t.no, .int .i64 t.cm, .slice va 12 vc] 24) = W at *
  have HO0 : Hid (OwnsV 3 (W.alloc (.cells #[.int .i64 84, .int .i64 t.nx, .int .i64 t.no, .int .i64 t.cm] 3)) W.heap.size (.slice (some ⟨w.heap.size + 1, 0, none⟩) 4 4) (kVals (numsP t 0))) := by
    show OwnsV _ _ _ _ _
    rw [numsP_zero, ← HSZ.out]
    exact OwnsV.lit 3 W W.heap.size (kVals [84, t.nx, t.no, t.cm]) (Nat.le_refl _) (by show 4 ≤ 1000000; decide)
  have HB0 := hide (below_alloc W (.cells #[.int .i64 84, .int .i64 t.nx, .int .i64 t.no, .int .i64 t.cm] 3))
  go_loopw [3, 19] (fun svx iv wr => ∃ (i : Nat) (sv : Value), sv = svx ∧ i ≤ 12 ∧ iv = .int .i64 (i : Nat) ∧ Hid (OwnsV 3 wr W.heap.size sv (kVals (numsP t i))) ∧ Hid (Below W.heap.size W wr)) (fun _ iv _ => 12 - (intOf iv).toNat)
  case atStart => exact ⟨0, _, rfl, Nat.zero_le _, rfl, HO0, HB0⟩
  case round =>
    obtain ⟨i, sv, rfl, hi, rfl, hox, hbr⟩ := hrel
    rename World => wo
    rcases Nat.lt_or_ge i 12 with hlt | hge
    · have i1 : ((i : Nat) : Int) < 12 := by omega
      obtain ⟨b, off, ha, hat⟩ := (HE.out.keep hbr.out (Nat.le_refl _)).at' i hlt
      replace ha : va = some ⟨b, off, none⟩ := ha
      subst ha
      obtain ⟨x, hx⟩ : ∃ x, x = t.en i := ⟨_, rfl⟩
      have hat' : EnAt wo b (off + i * 4) x := by rw [hx]; exact hat
      have HS : Hid (kVals (numsP t (i + 1)) = kVals (numsP t i) ++ kVals (numE x)) := by show _ = _; rw [hx, numsP_succ (by rw [HL.out]; exact hlt)]; simp [kVals]
      have c0 := hat'.c0
      have c1 := hat'.c1
      have c2 := hat'.c2
      have c3 := hat'.c3
      have hB4 := below_alloc wo (.cells #[.int .i64 x.tx, .int .i64 x.st, .int .i64 x.last, .int .i64 x.com] 58)
      have HX4 := hide (EnBlk.new wo x)
      have HO4 := hide (hox.out.keep hB4 (Nat.le_refl _))
      have HBR := hide (rBelow hbr.out hB4)
      have HS4 : Hid ((wo.alloc (.cells #[.int .i64 x.tx, .int .i64 x.st, .int .i64 x.last, .int .i64 x.com] 58)).heap.size = wo.heap.size + 1) := by show _ = _; simp
      clear hat hat' hx hox hB4
      generalize hW4 : wo.alloc (.cells #[.int .i64 x.tx, .int .i64 x.st, .int .i64 x.last, .int .i64 x.com] 58) = W4 at *
      have g0 : W4.cell? ⟨wo.heap.size, 0, none⟩ = some (.int .i64 x.tx) := HX4.out.at.c0
      have g1 : W4.cell? ⟨wo.heap.size, 1, none⟩ = some (.int .i64 x.st) := HX4.out.at.c1
      have g2 : W4.cell? ⟨wo.heap.size, 2, none⟩ = some (.int .i64 x.last) := HX4.out.at.c2
      have g3 : W4.cell? ⟨wo.heap.size, 3, none⟩ = some (.int .i64 x.com) := HX4.out.at.c3
      have hB5 := below_alloc W4 (.cells #[.int .i64 x.st, .int .i64 x.tx, .int .i64 x.last, .int .i64 x.com] 3)
      have HI : Hid (Vs (W4.alloc (.cells #[.int .i64 x.st, .int .i64 x.tx, .int .i64 x.last, .int .i64 x.com] 3)) (some ⟨W4.heap.size, 0, none⟩) 4 (kVals (numE x))) := vs_litT W4 (numE x) (by show 4 ≤ 1000000; decide)
      have HO5 := hide (HO4.out.keep hB5 (Nat.le_refl _))
      have HB5 := hide (rBelow HBR.out hB5)
      have HLEN : Hid ((kVals (numsP t i)).length + 4 ≤ 1000000) := by
        show _ ≤ _
        rw [kVals, List.length_map, numsP_len t (by rw [HL.out]; omega)]
        omega
      clear hB5 HO4
      go_wp2_with (at_builtin; refine wpList_append_vals oneIntT _ rfl (.tmp 23) (.tmp 32) rfl W.heap.size _ _ rfl HO5.out _ 4 4 (kVals (numE x)) rfl HI.out (fun h => by cases h) HLEN.out HB5.out.size ?_)
      intro v1 w1 ho1 hb1 hs1
      have HO2 : Hid (OwnsV 3 w1 W.heap.size v1 (kVals (numsP t (i + 1)))) := by show OwnsV _ _ _ _ _; rw [HS.out]; exact ho1
      have HB2 : Hid (Below W.heap.size W w1) := HB5.out.trans hb1
      clear ho1 hb1 hs1
      go_wp2_with fail
      go_roundw
      case rel => exact ⟨i + 1, _, rfl, by omega, by go_num, HO2, HB2⟩
      case measure => simp only [intOf]; omega
    · have i1 : ¬ ((i : Nat) : Int) < 12 := by omega
      have e12 : i = 12 := by omega
      subst e12
      have hln : (kVals (numsP t 12)).length = 52 := by rw [kVals, List.length_map, numsP_len t (by rw [HL.out]; decide)]
      obtain ⟨na, nc, hsv, hvs, _, _⟩ := hox.out.vs (kVals_oneT _)
      rw [hln] at hsv hvs
      subst hsv
      have HVS := hide hvs
      have HMK := hide (make_items wo)
      have hB6 := below_alloc wo (.cells (itVals (List.replicate 52 itZ)).toArray 67)
      have HIB : Hid (ItB (wo.alloc (.cells (itVals (List.replicate 52 itZ)).toArray 67)) wo.heap.size (itemsF t 0)) := by show ItB _ _ _; rw [itemsF_zero]; exact heap_alloc_new wo _
      have HS6 : Hid ((wo.alloc (.cells (itVals (List.replicate 52 itZ)).toArray 67)).heap.size = wo.heap.size + 1) := by show _ = _; simp
      have HB6 := hide hB6
      generalize wo.alloc (.cells (itVals (List.replicate 52 itZ)).toArray 67) = W6 at *
      have HK := hide (kindsT_any W6)
      clear hox hln hvs hB6
      go_wp2_with (refine wpList_makeT _ rfl 54 (.tmp 36) (.tmp 36) rfl (.int .i64 52) (.int .i64 52) (.slice (some ⟨wo.heap.size, 0, none⟩) 52 52) rfl rfl W6 HMK.out ?_)
      refine HK.out.mono ?_
      rintro e w7 ⟨ka, kc, rfl, ho7, hb7⟩
      have HI7 := hide (HIB.out.keep hb7)
      have HO7 : Hid (OwnsV 3 w7 (wo.heap.size + 1) (.slice ka 52 kc) (kVals tbK)) := by show OwnsV _ _ _ _ _; rw [← HS6.out]; exact ho7
      have HB7 : Hid (Below wo.heap.size wo w7) := rBelow HB6.out hb7
      clear ho7 hb7 HK HIB HB6 HMK
      go_wp2_with fail
      rename World => wz
      go_loopw [40] (fun iv wr => ∃ i : Nat, i ≤ 52 ∧ iv = .int .i64 (i : Nat) ∧ Hid (ItB wr wo.heap.size (itemsF t i)) ∧ Hid (OwnsV 3 wr (wo.heap.size + 1) (.slice ka 52 kc) (kVals tbK)) ∧ Hid (Below wo.heap.size wo wr)) (fun iv _ => 52 - (intOf iv).toNat)
      case atStart => exact ⟨0, Nat.zero_le _, rfl, HI7, HO7, HB7⟩
      case round =>
        obtain ⟨i, hi, rfl, hit, hok, hbk⟩ := hrel
        rename World => wk
        rcases Nat.lt_or_ge i 52 with hlt | hge
        · have i1' : ((i : Nat) : Int) < 52 := by omega
          obtain ⟨a', c', hkv, hks, _, _⟩ := hok.out.vs (kVals_oneT _)
          have hl52 : (kVals tbK).length = 52 := by rw [kVals, List.length_map]; exact tbK_len
          rw [hl52] at hkv hks
          simp only [Value.slice.injEq, true_and] at hkv
          obtain ⟨rfl, rfl⟩ := hkv
          obtain ⟨kb, ko, hka, hkc⟩ := (ks_of_vsT hks).2 i hlt
          subst hka
          obtain ⟨nb, no, hna, hnc⟩ := (ks_of_vsT (HVS.out.keep hbk.out (Nat.le_refl _))).2 i hlt
          subst hna
          obtain ⟨W8, hst, hi8, hf8, hs8⟩ := hit.out.set (i := i) (by rw [itemsF_len HL.out hi]; exact hlt) (tbI (tbK.getD i 0) ((numsP t 12).getD i 0))
          rw [itemsF_set HL.out hlt] at hi8
          have HI8 := hide hi8
          have HO8 := hide (hok.out.frm hf8 (Nat.lt_succ_self _))
          have HB8 : Hid (Below wo.heap.size wo W8) := hbk.out.trans (hf8.below hbk.out.size (fun k hk => by omega))
          obtain ⟨kk, hkk⟩ : ∃ kk, kk = tbK.getD i 0 := ⟨_, rfl⟩
          obtain ⟨nn, hnn⟩ : ∃ nn, nn = (numsP t 12).getD i 0 := ⟨_, rfl⟩
          rw [← hkk] at hkc hst
          rw [← hnn] at hnc hst
          have HST : Hid ((Instr.storeAt 67 (.pointer (some ⟨wo.heap.size, i * 4, none⟩)) (.agg #[.int .i64 kk, .int .i64 nn, .float .f64 0, .string ⟨#[]⟩])).run Try.prog wk = .ok () W8) := hst
          clear hkk hnn hks hl52 hst hi8 hf8 hs8 hit hok
          go_wp2_with (refine wpList_store _ rfl rfl 67 (.tmp 53) (.tmp 52) rfl (.pointer (some ⟨wo.heap.size, i * 4, none⟩)) (.agg #[.int .i64 kk, .int .i64 nn, .float .f64 0, .string ⟨#[]⟩]) rfl rfl W8 HST.out ?_)
          go_roundw
          case rel => exact ⟨i + 1, by omega, by go_num, HI8, HO8, HB8⟩
          case measure => simp only [intOf]; omega
        · have i1' : ¬ ((i : Nat) : Int) < 52 := by omega
          have e52 : i = 52 := by omega
          have HIS : Hid (Is wk (some ⟨wo.heap.size, 0, none⟩) 52 (itemsT t)) := by
            have h1 := hit.out
            rw [e52, itemsF_all HL.out] at h1
            have h2 := h1.is (itemsT_fits HM.out)
            rw [itemsT_len HL.out] at h2
            exact h2
          have HBZ : Hid (Below w.heap.size w wk) := rBelow HW.out (rBelow hbr.out hbk.out)
          clear hit hok e52
          go_wp2_with fail
          go_ret
          exact ⟨_, _, rfl, HIS.out, HBZ.out⟩

end Go.Proofs.Ytdbgbldmjgonjaa
