/-
  Layer 11, the landed table: Check, entryOf, Find.
-/
import Derived.Test.YtdbgbldmjgonjaaTcA
import Derived.Test.YtdbgbldmjgonjaaTbI
namespace Go.Proofs.Ytdbgbldmjgonjaa
open Go.RowKit
set_option linter.unusedVariables false

section
variable {ops : Array Oper} {rest : List Oper} {o : Oper} {a : Act} {Q : Exit → Act → World → Prop}
theorem wpList_sliceB (w : World) (hgd : o.guard = none) (t : TypeId) (x : Operand) (lo hi : Option Operand) (ho : o.op = .slice t x lo hi none) (v : Value) (hrun : (Instr.sliceAt t (a.eval x) (lo.map a.eval) (hi.map a.eval) none).run Try.prog w = .ok v w) (hK : wpList Try.prog ops Q rest (a.put o.dst v) w) : wpList Try.prog ops Q (o :: rest) a w := by
  refine wpList_val w hgd v w ?_ hK
  have e : execOp a.eval o = (do pure (.value (← Instr.sliceAt t (a.eval x) (lo.map a.eval) (hi.map a.eval) none))) := by
    unfold execOp
    rw [ho]
    rfl
  rw [e]
  simp [hrun]
end

theorem szEn (w : World) : (sizeOf 58).run Try.prog w = .ok 4 w := by
  obtain ⟨i, hi, hz0, hz1, hz2⟩ := info_parts infoEn
  simp [sizeOf, typeInfo, hi, hz1]
theorem elemEn : Try.prog.elem 22 = 58 := by kernel_rfl
theorem slice_uptoE (b o len cap k : Nat) (hk : k ≤ cap) (h0 : 0 < cap) (w : World) : (Instr.sliceAt 22 (.slice (some ⟨b, o, none⟩) len cap) none (some (.int .i64 ((k : Nat) : Int))) none).run Try.prog w = .ok (.slice (some ⟨b, o, none⟩) k cap) w := by
  have h22 : Try.prog.underlying 22 = some (.slice (Try.prog.elem 22)) := by kernel_rfl
  rw [run_sliceAt_slice w 22 _ _ _ _ h22, run_slice_h w 22 (some ⟨b, o, none⟩) len cap h22 .i64 (k : Nat) (by omega) (by omega), elemEn, szEn]
  have : ¬ cap = 0 := by omega
  simp [Result.andThen, sliced, this, Addr.add_lit]
theorem Es.upto {w : World} {a : Option Addr} {n c : Nat} {l : List En} (h : Es w ⟨a, n, c⟩ l) (i : Nat) (hi : i ≤ n) : Es w ⟨a, i, c⟩ (l.take i) := by
  have hl : l.length = n := h.len
  have h1 : n ≤ c := h.le
  have h2 : n ≤ 9223372036854775807 := h.big
  refine ⟨by rw [List.length_take]; show min i l.length = i; omega, h.nil, (by show i ≤ c; omega), (by show i ≤ _; omega), fun j hj => ?_⟩
  have hj' : j < i := hj
  obtain ⟨b, off, ha, hat⟩ := h.at' j (by show j < n; omega)
  refine ⟨b, off, ha, ?_⟩
  rw [show (l.take i).getD j En.zero = l.getD j En.zero by simp [List.getD, hj']]
  exact hat

theorem any_take {t : Tb} {x : En} {i : Nat} (hi : i ≤ t.es.length) : (t.es.take i).any (clashB x) = false ↔ ∀ k, k < i → clashB x (t.en k) = false := by
  rw [List.any_eq_false]
  constructor
  · intro h k hk
    have hk2 : k < t.es.length := by omega
    have hm : t.en k ∈ t.es.take i := by
      unfold Tb.en
      rw [en_get hk2]
      exact List.mem_take_iff_getElem.2 ⟨k, by omega, rfl⟩
    have := h _ hm
    simpa using this
  · intro h y hy
    obtain ⟨k, hk, e⟩ := List.mem_take_iff_getElem.1 hy
    have hk2 : k < t.es.length := by omega
    have := h k (by omega)
    unfold Tb.en at this
    rw [en_get hk2, e] at this
    rw [this]
    decide

set_option maxHeartbeats 16000000 in
set_option maxRecDepth 100000 in
theorem checkT_b (t : Tb) (v : Sl) (c : Int) (w : World) (h : Es w v t.es) (hc : c = if mayB t = true then 0 else 1) :
    Calls Try.prog 11 #[t.val v] w fun e w' => e = .returned (.int .i64 c) ∧ Below w.heap.size w w' := by
  have hno : ¬ t.May → c = 1 := fun k => by rw [hc, mayB_no k]; rfl
  have hyes : t.May → c = 0 := fun k => by rw [hc, mayB_yes k]; rfl
  clear hc
  have hb := below_box w t v
  have HW := hide hb
  have HT := hide (TbBlk.new w t v)
  have HE := hide (h.keep hb (Nat.le_refl _))
  have hl : t.es.length = v.len := h.len
  have hbig := h.big
  clear h hb
  obtain ⟨va, vl, vc⟩ := v
  simp only at hl hbig
  have HL := hide hl
  unfold Tb.val
  by_cases z0 : 1 ≤ t.nx ∧ t.nx ≤ 2147483647
  case neg =>
    have hc := hno (fun k => z0 k.nx)
    subst hc
    have HN := hide (fun W => isNextT_b t.nx false W (decide_eq_false z0).symm)
    clear hl HT HE HL hno hyes z0
    go_enter Try.func11, Try.ntmps11
    go_wp2_with fail
    refine (HN.out _).mono ?_
    rintro e w1 ⟨rfl, rfl⟩
    go_wp2_with fail
    go_ret
    exact ⟨rfl, HW.out⟩
  have HN := hide (fun W => isNextT_b t.nx true W (decide_eq_true z0).symm)
  by_cases z1 : 1 ≤ t.no ∧ t.no ≤ 2147483647
  case neg =>
    have hc := hno (fun k => z1 k.no)
    subst hc
    have HN2 := hide (fun W => isNextT_b t.no false W (decide_eq_false z1).symm)
    clear hl HT HE HL hno hyes z0 z1
    go_enter Try.func11, Try.ntmps11
    go_wp2_with fail
    refine (HN.out _).mono ?_
    rintro e w1 ⟨rfl, rfl⟩
    go_wp2_with fail
    refine (HN2.out _).mono ?_
    rintro e w1 ⟨rfl, rfl⟩
    go_wp2_with fail
    go_ret
    exact ⟨rfl, HW.out⟩
  have HN2 := hide (fun W => isNextT_b t.no true W (decide_eq_true z1).symm)
  by_cases z4 : t.cm < 0
  · have hc := hno (fun k => by have := k.cm; omega)
    subst hc
    clear hl HT HE HL hno hyes z0 z1
    go_enter Try.func11, Try.ntmps11
    go_wp2_with fail
    refine (HN.out _).mono ?_
    rintro e w1 ⟨rfl, rfl⟩
    go_wp2_with fail
    refine (HN2.out _).mono ?_
    rintro e w1 ⟨rfl, rfl⟩
    go_wp2_with fail
    go_ret
    exact ⟨rfl, HW.out⟩
  by_cases z5 : 2147483647 < t.cm
  · have hc := hno (fun k => by have := k.cm; omega)
    subst hc
    clear hl HT HE HL hno hyes z0 z1
    go_enter Try.func11, Try.ntmps11
    go_wp2_with fail
    refine (HN.out _).mono ?_
    rintro e w1 ⟨rfl, rfl⟩
    go_wp2_with fail
    refine (HN2.out _).mono ?_
    rintro e w1 ⟨rfl, rfl⟩
    go_wp2_with fail
    go_ret
    exact ⟨rfl, HW.out⟩
  by_cases z6 : vl = 12
  case neg =>
    have hc := hno (fun k => z6 (by rw [← hl]; exact k.len))
    subst hc
    have q6 : (((vl : Nat) : Int) != 12) = true := by simp; omega
    have q7 : ¬ ((vl : Nat) : Int) = 12 := by omega
    clear hl HT HE HL hno hyes z0 z1 z6
    go_enter Try.func11, Try.ntmps11
    go_wp2_with fail
    refine (HN.out _).mono ?_
    rintro e w1 ⟨rfl, rfl⟩
    go_wp2_with fail
    refine (HN2.out _).mono ?_
    rintro e w1 ⟨rfl, rfl⟩
    go_wp2_with fail
    go_ret
    exact ⟨rfl, HW.out⟩
  subst z6
  have HHd : Hid ((1 ≤ t.nx ∧ t.nx ≤ 2147483647) ∧ (1 ≤ t.no ∧ t.no ≤ 2147483647) ∧ (0 ≤ t.cm ∧ t.cm ≤ 2147483647)) := ⟨z0, z1, by omega, by omega⟩
  have HNO := hide hno
  have HYES := hide hyes
  have hcap : 12 ≤ vc := HE.out.le
  clear hno hyes z0 z1
  go_enter Try.func11, Try.ntmps11
  go_wp2_with fail
  refine (HN.out _).mono ?_
  rintro e w1 ⟨rfl, rfl⟩
  go_wp2_with fail
  refine (HN2.out _).mono ?_
  rintro e w1 ⟨rfl, rfl⟩
  go_wp2_with fail
  generalize w.alloc (.cells #[.int .i64 t.nx, .int .i64 t.no, .int .i64 t.cm, .slice va 12 vc] 24) = W at *
  clear hl HN HN2
  have H0 := hide (Below.refl W.heap.size W)
  go_loopw [32] (fun iv wr => ∃ i : Nat, i ≤ 12 ∧ iv = .int .i64 (i : Nat) ∧ Hid (∀ j, j < i → EntOk t j) ∧ Hid (Below W.heap.size W wr)) (fun iv _ => 12 - (intOf iv).toNat)
  case atStart => exact ⟨0, Nat.zero_le _, rfl, fun j hj => absurd hj (Nat.not_lt_zero _), H0⟩
  case round =>
    obtain ⟨i, hi, rfl, hix, hbr⟩ := hrel
    rename World => wo
    have hkb := HT.out.keep hbr.out
    rcases Nat.lt_or_ge i 12 with hlt | hge
    · have i1 : ((i : Nat) : Int) < 12 := by omega
      have hEr := HE.out.keep hbr.out (Nat.le_refl _)
      obtain ⟨b, off, ha, hat⟩ := hEr.at' i hlt
      replace ha : va = some ⟨b, off, none⟩ := ha
      subst ha
      obtain ⟨x, hx⟩ : ∃ x, x = t.en i := ⟨_, rfl⟩
      have hat' : EnAt wo b (off + i * 4) x := by rw [hx]; exact hat
      have c0 := hat'.c0
      have c1 := hat'.c1
      have c2 := hat'.c2
      have c3 := hat'.c3
      have hB4 := below_alloc wo (.cells #[.int .i64 x.tx, .int .i64 x.st, .int .i64 x.last, .int .i64 x.com] 58)
      have HBR := hide (rBelow hbr.out hB4)
      have hk4 := hkb.keep hB4
      have HX4 := hide (EnBlk.new wo x)
      have HE4 := hide ((hEr.keep hB4 (Nat.le_refl _)).upto i (by omega))
      have HS4 : Hid ((wo.alloc (.cells #[.int .i64 x.tx, .int .i64 x.st, .int .i64 x.last, .int .i64 x.com] 58)).heap.size = wo.heap.size + 1) := by show _ = _; simp
      have HOK : Hid (EntOk t i ↔ Stand t x ∧ (t.es.take i).any (clashB x) = false) := by
        show _ ↔ _
        rw [entOk_iff, hx, any_take (by rw [HL.out]; omega)]
      have HSL := hide (fun W => slice_uptoE b off 12 vc i (by omega) (by omega) W)
      clear hEr hat hat' hx hB4 hkb
      generalize hW4 : wo.alloc (.cells #[.int .i64 x.tx, .int .i64 x.st, .int .i64 x.last, .int .i64 x.com] 58) = W4 at *
      have HLD := hide (load_tb w.heap.size t _ W4 hk4)
      have HLE := hide (load_en wo.heap.size 0 x W4 HX4.out.at)
      have HK4 := hide hk4
      have hmf : ∀ (fn : Fn) (first cap : Array Value) (w : World), (Instr.makeFunc fn first cap).run Try.prog w = .ok (.func fn first cap) w := fun _ _ _ _ => rfl
      clear hk4
      by_cases hs : Stand t x
      case neg =>
        have hc := HNO.out (fun m => hs (HOK.out.1 (m.ok i hlt)).1)
        subst hc
        have HST := hide (standT_any t ⟨some ⟨b, off, none⟩, 12, vc⟩ x W4)
        rw [decide_eq_false hs] at HST
        clear hs hix HOK
        go_wp2_with (first | refine wpList_load _ rfl 24 (.tmp 1) rfl (.pointer (some ⟨w.heap.size, 0, none⟩)) (t.val ⟨some ⟨b, off, none⟩, 12, vc⟩) rfl HLD.out ?_ | refine wpList_load _ rfl 58 (.tmp 4) rfl (.pointer (some ⟨wo.heap.size, 0, none⟩)) x.val rfl HLE.out ?_)
        refine HST.out.mono ?_
        rintro e w5 ⟨rfl, hb5⟩
        have HB5 := hide (rBelow HBR.out hb5)
        clear hb5
        go_wp2_with fail
        go_ret
        exact ⟨rfl, rBelow HW.out HB5.out⟩
      have HST := hide (standT_any t ⟨some ⟨b, off, none⟩, 12, vc⟩ x W4)
      rw [decide_eq_true hs] at HST
      cases hcl : (t.es.take i).any (clashB x) with
      | true =>
        have hc := HNO.out (fun m => by have := (HOK.out.1 (m.ok i hlt)).2; rw [hcl] at this; cases this)
        subst hc
        have HCT : Hid (∀ w5, Below W4.heap.size W4 w5 → Calls Try.prog 40 #[.slice (some ⟨b, off, none⟩) i vc, .func (.func 41) #[] #[.pointer (some ⟨wo.heap.size, 0, none⟩)]] w5 fun e w' => e = .returned (.bool true) ∧ Below w5.heap.size w5 w') := fun w5 hb5 => by
          have := contClash w5 ⟨some ⟨b, off, none⟩, i, vc⟩ (t.es.take i) (HE4.out.keep hb5 (Nat.le_refl _)) wo.heap.size x (HX4.out.at.keep hb5 (Nat.le_refl _))
          rw [hcl] at this
          exact this
        clear hs hix HOK hcl
        go_wp2_with (first | refine wpList_load _ rfl 24 (.tmp 1) rfl (.pointer (some ⟨w.heap.size, 0, none⟩)) (t.val ⟨some ⟨b, off, none⟩, 12, vc⟩) rfl HLD.out ?_ | refine wpList_load _ rfl 58 (.tmp 4) rfl (.pointer (some ⟨wo.heap.size, 0, none⟩)) x.val rfl HLE.out ?_)
        refine HST.out.mono ?_
        rintro e w5 ⟨rfl, hb5⟩
        have HB5 := hide (rBelow HBR.out hb5)
        have HCT5 := hide (HCT.out w5 hb5)
        have d3 := (HK4.out.keep hb5).c3
        clear hb5 HCT
        go_wp2_with (refine wpList_sliceB _ rfl 22 (.tmp 42) none (some (.tmp 43)) rfl (.slice (some ⟨b, off, none⟩) i vc) (HSL.out _) ?_)
        refine HCT5.out.mono ?_
        rintro e w6 ⟨rfl, hb6⟩
        have HB6 := hide (rBelow HB5.out hb6)
        clear hb6
        go_wp2_with fail
        go_ret
        exact ⟨rfl, rBelow HW.out HB6.out⟩
      | false =>
        have HNX : Hid (∀ j, j < i + 1 → EntOk t j) := by
          intro j hj
          by_cases e : j = i
          · subst e
            exact HOK.out.2 ⟨hs, hcl⟩
          · exact hix.out j (by omega)
        have HCT : Hid (∀ w5, Below W4.heap.size W4 w5 → Calls Try.prog 40 #[.slice (some ⟨b, off, none⟩) i vc, .func (.func 41) #[] #[.pointer (some ⟨wo.heap.size, 0, none⟩)]] w5 fun e w' => e = .returned (.bool false) ∧ Below w5.heap.size w5 w') := fun w5 hb5 => by
          have := contClash w5 ⟨some ⟨b, off, none⟩, i, vc⟩ (t.es.take i) (HE4.out.keep hb5 (Nat.le_refl _)) wo.heap.size x (HX4.out.at.keep hb5 (Nat.le_refl _))
          rw [hcl] at this
          exact this
        clear hs hix HOK hcl
        go_wp2_with (first | refine wpList_load _ rfl 24 (.tmp 1) rfl (.pointer (some ⟨w.heap.size, 0, none⟩)) (t.val ⟨some ⟨b, off, none⟩, 12, vc⟩) rfl HLD.out ?_ | refine wpList_load _ rfl 58 (.tmp 4) rfl (.pointer (some ⟨wo.heap.size, 0, none⟩)) x.val rfl HLE.out ?_)
        refine HST.out.mono ?_
        rintro e w5 ⟨rfl, hb5⟩
        have HB5 := hide (rBelow HBR.out hb5)
        have HCT5 := hide (HCT.out w5 hb5)
        have d3 := (HK4.out.keep hb5).c3
        clear hb5 HCT
        go_wp2_with (refine wpList_sliceB _ rfl 22 (.tmp 42) none (some (.tmp 43)) rfl (.slice (some ⟨b, off, none⟩) i vc) (HSL.out _) ?_)
        refine HCT5.out.mono ?_
        rintro e w6 ⟨rfl, hb6⟩
        have HB6 := hide (rBelow HB5.out hb6)
        clear hb6
        go_wp2_with fail
        go_roundw
        case rel => exact ⟨i + 1, by omega, by go_num, HNX, HB6⟩
        case measure => simp only [intOf]; omega
    · have i1 : ¬ ((i : Nat) : Int) < 12 := by omega
      have hc := HYES.out ⟨HHd.out.1, HHd.out.2.1, HHd.out.2.2, HL.out, fun j hj => hix.out j (by omega)⟩
      subst hc
      clear hix
      go_wp2_with fail
      go_ret
      exact ⟨rfl, rBelow HW.out hbr.out⟩
theorem checkT_yes {t : Tb} (hm : t.May) (v : Sl) (w : World) (h : Es w v t.es) : Calls Try.prog 11 #[t.val v] w fun e w' => e = .returned (.int .i64 0) ∧ Below w.heap.size w w' := checkT_b t v 0 w h (by rw [mayB_yes hm]; rfl)
theorem checkT_no {t : Tb} (hm : mayB t = false) (v : Sl) (w : World) (h : Es w v t.es) : Calls Try.prog 11 #[t.val v] w fun e w' => e = .returned (.int .i64 1) ∧ Below w.heap.size w w' := checkT_b t v 1 w h (by rw [hm]; rfl)

theorem find_is (t : Tb) (tx : Int) (h : 1 ≤ tx) : findN t tx = t.es.findIdx? (fun y => y.tx == tx) := by
  unfold findN
  congr 1
  funext y
  unfold isTx
  rw [decide_eq_true (by omega), Bool.true_and]
theorem find_low (t : Tb) (tx : Int) (h : tx < 1) : findN t tx = none := by
  unfold findN
  rw [List.findIdx?_eq_none_iff]
  intro y _
  unfold isTx
  rw [decide_eq_false (by omega), Bool.false_and]

set_option maxHeartbeats 4000000 in
set_option maxRecDepth 100000 in
theorem entryOfT_any (t : Tb) (v : Sl) (tx : Int) (w : World) (h : Es w v t.es) :
    Calls Try.prog 43 #[t.val v, .int .i64 tx] w fun e w' => e = .returned (.int .i64 (ixN (findN t tx))) ∧ Below w.heap.size w w' := by
  have hmf : ∀ (fn : Fn) (first cap : Array Value) (w : World), (Instr.makeFunc fn first cap).run Try.prog w = .ok (.func fn first cap) w := fun _ _ _ _ => rfl
  have hA1 := below_box w t v
  have hA2 := below_alloc (w.alloc (.cells #[.int .i64 t.nx, .int .i64 t.no, .int .i64 t.cm, .slice v.a v.len v.cap] 24)) (.cells #[.int .i64 tx] 3)
  have hA := rBelow hA1 hA2
  have hcell : ((w.alloc (.cells #[.int .i64 t.nx, .int .i64 t.no, .int .i64 t.cm, .slice v.a v.len v.cap] 24)).alloc (.cells #[.int .i64 tx] 3)).cell? ⟨w.heap.size + 1, 0, none⟩ = some (.int .i64 tx) := by
    have hb := heap_alloc_new (w.alloc (.cells #[.int .i64 t.nx, .int .i64 t.no, .int .i64 t.cm, .slice v.a v.len v.cap] 24)) (.cells #[.int .i64 tx] 3)
    rw [show (w.alloc (.cells #[.int .i64 t.nx, .int .i64 t.no, .int .i64 t.cm, .slice v.a v.len v.cap] 24)).heap.size = w.heap.size + 1 by simp] at hb
    rw [cell_of_row _ _ _ _ _ _ hb]
    rfl
  have HI := hide (idxTx _ v t.es (h.keep hA (Nat.le_refl _)) (w.heap.size + 1) tx hcell)
  have HA := hide hA
  clear h hA1 hA2 hA hcell
  obtain ⟨va, vl, vc⟩ := v
  unfold Tb.val
  simp only at *
  by_cases hp : 1 ≤ tx
  · rw [find_is t tx hp]
    obtain ⟨z, hz⟩ : ∃ z, z = ixN (t.es.findIdx? (fun y => y.tx == tx)) := ⟨_, rfl⟩
    rw [← hz] at HI
    rw [← hz]
    clear hz
    go_enter Try.func43, Try.ntmps43
    go_wp2_with fail
    refine HI.out.mono ?_
    rintro e w1 ⟨rfl, hb1⟩
    have HB1 := hide (rBelow HA.out hb1)
    clear hb1
    go_wp2_with fail
    go_ret
    exact ⟨rfl, HB1.out⟩
  · rw [find_low t tx (by omega)]
    clear HI
    unfold ixN
    go_enter Try.func43, Try.ntmps43
    go_wp2_with fail
    go_ret
    exact ⟨rfl, HA.out⟩

set_option maxHeartbeats 4000000 in
set_option maxRecDepth 100000 in
theorem findT_any (t : Tb) (v : Sl) (tx : Int) (w : World) (h : Es w v t.es) :
    Calls Try.prog 14 #[t.val v, .int .i64 tx] w fun e w' => e = .returned (.int .i64 (if mayB t = true then ixN (findN t tx) else -1)) ∧ Below w.heap.size w w' := by
  have hA := below_box w t v
  have HA := hide hA
  have HE := hide (h.keep hA (Nat.le_refl _))
  have HT := hide (TbBlk.new w t v)
  have HLD := hide (load_tb w.heap.size t v _ HT.out)
  obtain ⟨z, hz⟩ : ∃ z, z = ixN (findN t tx) := ⟨_, rfl⟩
  have HF : Hid (∀ w1, Below (w.alloc (.cells #[.int .i64 t.nx, .int .i64 t.no, .int .i64 t.cm, .slice v.a v.len v.cap] 24)).heap.size (w.alloc (.cells #[.int .i64 t.nx, .int .i64 t.no, .int .i64 t.cm, .slice v.a v.len v.cap] 24)) w1 → Calls Try.prog 43 #[t.val v, .int .i64 tx] w1 fun e w' => e = .returned (.int .i64 z) ∧ Below w1.heap.size w1 w') := fun w1 hb => by
    rw [hz]
    exact entryOfT_any t v tx w1 (HE.out.keep hb (Nat.le_refl _))
  rw [← hz]
  clear hz
  cases hm : mayB t with
  | false =>
    have HC := hide (checkT_no hm v _ HE.out)
    clear h hA hm HF HE HT
    rw [if_neg (by decide)]
    unfold Tb.val
    go_enter Try.func14, Try.ntmps14
    go_wp2_with (refine wpList_load _ rfl 24 (.tmp 2) rfl (.pointer (some ⟨w.heap.size, 0, none⟩)) (t.val v) rfl HLD.out ?_)
    refine HC.out.mono ?_
    rintro e w1 ⟨rfl, hb1⟩
    have HB1 := hide (rBelow HA.out hb1)
    clear hb1
    go_wp2_with fail
    go_ret
    exact ⟨rfl, HB1.out⟩
  | true =>
    have HC := hide (checkT_yes (mayB_iff.1 hm) v _ HE.out)
    clear h hA hm HE
    rw [if_pos rfl]
    unfold Tb.val
    go_enter Try.func14, Try.ntmps14
    go_wp2_with (refine wpList_load _ rfl 24 (.tmp 2) rfl (.pointer (some ⟨w.heap.size, 0, none⟩)) (t.val v) rfl HLD.out ?_)
    refine HC.out.mono ?_
    rintro e w1 ⟨rfl, hb1⟩
    have HB1 := hide (rBelow HA.out hb1)
    have HLD1 := hide (load_tb w.heap.size t v _ (HT.out.keep hb1))
    have HF1 := hide (HF.out w1 hb1)
    clear hb1 HF HLD HT
    go_wp2_with (refine wpList_load _ rfl 24 (.tmp 2) rfl (.pointer (some ⟨w.heap.size, 0, none⟩)) (t.val v) rfl HLD1.out ?_)
    refine HF1.out.mono ?_
    rintro e w2 ⟨rfl, hb2⟩
    have HB2 := hide (rBelow HB1.out hb2)
    clear hb2
    go_wp2_with fail
    go_ret
    exact ⟨rfl, HB2.out⟩

end Go.Proofs.Ytdbgbldmjgonjaa
