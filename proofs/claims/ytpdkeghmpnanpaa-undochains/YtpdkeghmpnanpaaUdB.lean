/-
  The landed undo's small functions: what is empty, used, first empty; own.
-/
import Derived.Test.YtpdkeghmpnanpaaUdA
namespace Go.Proofs.Ytpdkeghmpnanpaa
open Go.RowKit

section
variable {ops : Array Oper} {rest : List Oper} {o : Oper} {a : Act} {Q : Exit → Act → World → Prop}
theorem wpList_valG (w : World) (hw : Region.wanted o (yielded ops a.tmps) = true) (v : Value) (w' : World) (hrun : (execOp a.eval o).run Try.prog w = .ok (.value v) w') (hK : wpList Try.prog ops Q rest (a.put o.dst v) w') : wpList Try.prog ops Q (o :: rest) a w := by
  refine BigFrame.wpList_want hw fun K hK' => ?_
  unfold Oper.wp
  rw [hrun]
  exact hK' _ _ hK
theorem wpList_convG (w : World) (hw : Region.wanted o (yielded ops a.tmps) = true) (s d : TypeId) (x : Operand) (ho : o.op = .convert s d x) (u v : Value) (hu : a.eval x = u) (w' : World) (hrun : (convert s d u).run Try.prog w = .ok v w') (hK : wpList Try.prog ops Q rest (a.put o.dst v) w') : wpList Try.prog ops Q (o :: rest) a w := by
  refine wpList_valG w hw v w' ?_ hK
  have e : execOp a.eval o = (do pure (.value (← convert s d (a.eval x)))) := by
    unfold execOp
    rw [ho]
  rw [e, hu]
  simp [hrun]
theorem wpList_loadG (w : World) (hw : Region.wanted o (yielded ops a.tmps) = true) (t : TypeId) (x : Operand) (ho : o.op = .load t x) (p v : Value) (hp : a.eval x = p) (hrun : (Instr.loadAt t p).run Try.prog w = .ok v w) (hK : wpList Try.prog ops Q rest (a.put o.dst v) w) : wpList Try.prog ops Q (o :: rest) a w := by
  refine wpList_valG w hw v w ?_ hK
  have e : execOp a.eval o = (do pure (.value (← Instr.loadAt t (a.eval x)))) := by
    unfold execOp
    rw [ho]
  rw [e, hp]
  simp [hrun]
end

set_option maxHeartbeats 1000000 in
theorem isEmpty_any (u : Un) (a : Option Addr) (len cap : Nat) (w : World) (h : Fs w a len cap u.row.xs) :
    Calls Try.prog 35 #[u.val (.slice a len cap)] w fun e w' => e = .returned (.bool u.emp) ∧ Below w.heap.size w w' := by
  have HS : Hid (∀ w', Below w.heap.size w w' → Calls Try.prog 45 #[u.val (.slice a len cap), .agg #[.int .i64 0, .int .i64 0, .int .i64 0, .int .i64 0, .int .i64 0, .int .i64 0, .float .f64 0, .bool false, .slice none 0 0, .int .i64 0, .int .i64 0, .int .i64 0]] w' fun e w'' => e = .returned (.bool u.emp) ∧ Below w'.heap.size w' w'') := fun w' hb => unSame_any u zeroU a len cap none 0 0 w' (h.keep hb (Nat.le_refl _)) (fs_nil w')
  have HX := hide (unBlk_new w u (.slice a len cap))
  have HW : Hid (∀ o, Below w.heap.size w (w.alloc o)) := below_alloc w
  clear h
  generalize u.emp = m at *
  unfold Un.val at HS ⊢
  go_enter Try.func35, Try.ntmps35
  go_wp2_with fail
  refine (HS.out _ (HW.out _)).mono ?_
  rintro e w1 ⟨rfl, hb1⟩
  have HW1 := hide (rBelow (HW.out _) hb1)
  clear hb1
  go_wp2_with fail
  go_ret
  exact ⟨rfl, HW1.out⟩

set_option maxHeartbeats 4000000 in
set_option maxRecDepth 100000 in
theorem put1_any (n : Int) (y : Ux) (b : Nat) (w : World) (hb : w.cell? ⟨b, 1, none⟩ = some (.int .i64 n)) :
    Calls Try.prog 29 #[y.val, .pointer (some ⟨b, 0, none⟩)] w fun e w' => e = .returned (.bool (y.u.no == n)) ∧ Below w.heap.size w w' := by
  unfold Ux.val Un.val
  have hA := below_alloc w (.cells #[.int .i64 y.u.tx, .int .i64 y.u.no, .int .i64 y.u.prev, .int .i64 y.u.kind, .int .i64 y.u.page, .int .i64 y.u.slot, .float .f64 y.u.row.key, .bool y.u.row.dead, .slice y.a y.n y.c, .int .i64 y.u.row.wr, .int .i64 y.u.row.cell, .int .i64 y.u.row.no] 30)
  have hc := (hA.cell (p := ⟨b, 1, none⟩) (World.block_lt_of_cell? w _ hb)).trans hb
  have HA := hide hA
  clear hA hb
  go_enter Try.func29, Try.ntmps29
  go_wp2_with fail
  go_ret
  exact ⟨rfl, HA.out⟩

def ixU : Option Nat → Int
  | none => -1
  | some i => i

theorem ixU_geq (p : Un → Bool) (l : List Un) : decide (0 ≤ ixU (l.findIdx? p)) = (l.findIdx? p).isSome := by
  cases h : l.findIdx? p with
  | none => rfl
  | some i => exact decide_eq_true (Int.natCast_nonneg _)

set_option maxHeartbeats 4000000 in
set_option maxRecDepth 100000 in
theorem idxEmp (w : World) (va : Option Addr) (vl vc : Nat) (l : List Ux) (h : Us w va vl l) (hbig : vl ≤ 1000000) :
    Calls Try.prog 43 #[.slice va vl vc, .func (.func 35) #[] #[]] w fun e w' => e = .returned (.int .i64 (ixU ((uns l).findIdx? Un.emp))) ∧ Below w.heap.size w w' := by
  have HE := hide h
  have hl : l.length = vl := h.len
  have H0 := hide (Below.refl w.heap.size w)
  clear h
  have HL := hide hl
  clear hl
  go_enter Try.func43, Try.ntmps43
  go_wp2_with fail
  go_loopw [8] (fun iv wr => ∃ i : Nat, i ≤ vl ∧ iv = .int .i64 (i : Nat) ∧ Hid (∀ j, j < i → Un.emp (l.getD j Ux.zero).u = false) ∧ Hid (Below w.heap.size w wr)) (fun iv _ => vl - (intOf iv).toNat)
  case atStart => exact ⟨0, Nat.zero_le _, rfl, fun j hj => absurd hj (Nat.not_lt_zero _), H0⟩
  case round =>
    obtain ⟨i, hi, rfl, hix, hbr⟩ := hrel
    rcases Nat.lt_or_ge i vl with hlt | hge
    · have i1 : ((i : Nat) : Int) < ((vl : Nat) : Int) := by omega
      have hr := HE.out.keep hbr.out (Nat.le_refl _)
      obtain ⟨b1, off, rfl, hat⟩ := hr.at' i hlt
      have hcol := hr.cols _ (hr.mem hlt)
      obtain ⟨y, hy⟩ : ∃ y, y = l.getD i Ux.zero := ⟨_, rfl⟩
      rw [← hy] at hat hcol
      have HLD := hide (load_unAt b1 (off + i * 12) y wr hat)
      have HY := hide hy
      have HCL : Hid (Calls Try.prog 35 #[y.val] wr fun e w' => e = .returned (.bool (Un.emp y.u)) ∧ Below wr.heap.size wr w') := isEmpty_any y.u y.a y.n y.c wr hcol
      clear hat hy hcol hr
      cases hon : (Un.emp y.u : Bool) with
      | true =>
        rw [hon] at HCL
        have HF : Hid ((uns l).findIdx? Un.emp = some i) := idxU_is (by rw [uns_len, HL.out]; exact hlt) (by rw [uns_get, ← HY.out]; exact hon) (fun j hj => by rw [uns_get]; exact hix.out j hj)
        clear hix HY hon
        go_wp2_with (refine wpList_load _ rfl 30 (.tmp 14) rfl (.pointer (some ⟨b1, off + i * 12, none⟩)) y.val rfl HLD.out ?_)
        refine HCL.out.mono ?_
        rintro e w1 ⟨rfl, hb1⟩
        have HB1 := hide (rBelow hbr.out hb1)
        clear hb1
        go_wp2_with fail
        go_ret
        exact ⟨by rw [HF.out]; rfl, HB1.out⟩
      | false =>
        rw [hon] at HCL
        have HN : Hid (∀ j, j < i + 1 → Un.emp (l.getD j Ux.zero).u = false) := by
          intro j hj
          by_cases e : j = i
          · rw [e, ← HY.out]; exact hon
          · exact hix.out j (by omega)
        clear hix HY hon
        go_wp2_with (refine wpList_load _ rfl 30 (.tmp 14) rfl (.pointer (some ⟨b1, off + i * 12, none⟩)) y.val rfl HLD.out ?_)
        refine HCL.out.mono ?_
        rintro e w1 ⟨rfl, hb1⟩
        have HB1 := hide (rBelow hbr.out hb1)
        clear hb1
        go_wp2_with fail
        go_roundw
        case rel => exact ⟨i + 1, by omega, by go_num, HN, HB1⟩
        case measure => simp only [intOf]; omega
    · have i1 : ¬ ((i : Nat) : Int) < ((vl : Nat) : Int) := by omega
      have HF : Hid ((uns l).findIdx? Un.emp = none) := idxU_no (fun j hj => by rw [uns_get]; exact hix.out j (by rw [uns_len, HL.out] at hj; omega))
      clear hix
      go_wp2_with fail
      go_ret
      exact ⟨by rw [HF.out]; rfl, hbr.out⟩

set_option maxHeartbeats 4000000 in
set_option maxRecDepth 100000 in
theorem idxNo (w : World) (va : Option Addr) (vl vc : Nat) (l : List Ux) (h : Us w va vl l) (hbig : vl ≤ 1000000) (b : Nat) (n : Int) (hb : w.cell? ⟨b, 1, none⟩ = some (.int .i64 n)) :
    Calls Try.prog 43 #[.slice va vl vc, .func (.func 29) #[] #[.pointer (some ⟨b, 0, none⟩)]] w fun e w' => e = .returned (.int .i64 (ixU ((uns l).findIdx? (fun y => y.no == n)))) ∧ Below w.heap.size w w' := by
  have HE := hide h
  have hl : l.length = vl := h.len
  have HC := hide hb
  have H0 := hide (Below.refl w.heap.size w)
  clear h hb
  have HL := hide hl
  clear hl
  go_enter Try.func43, Try.ntmps43
  go_wp2_with fail
  go_loopw [8] (fun iv wr => ∃ i : Nat, i ≤ vl ∧ iv = .int .i64 (i : Nat) ∧ Hid (∀ j, j < i → (fun y => y.no == n) (l.getD j Ux.zero).u = false) ∧ Hid (Below w.heap.size w wr)) (fun iv _ => vl - (intOf iv).toNat)
  case atStart => exact ⟨0, Nat.zero_le _, rfl, fun j hj => absurd hj (Nat.not_lt_zero _), H0⟩
  case round =>
    obtain ⟨i, hi, rfl, hix, hbr⟩ := hrel
    rcases Nat.lt_or_ge i vl with hlt | hge
    · have i1 : ((i : Nat) : Int) < ((vl : Nat) : Int) := by omega
      have hr := HE.out.keep hbr.out (Nat.le_refl _)
      obtain ⟨b1, off, rfl, hat⟩ := hr.at' i hlt
      have hcol := hr.cols _ (hr.mem hlt)
      obtain ⟨y, hy⟩ : ∃ y, y = l.getD i Ux.zero := ⟨_, rfl⟩
      rw [← hy] at hat hcol
      have HLD := hide (load_unAt b1 (off + i * 12) y wr hat)
      have HY := hide hy
      have HCL : Hid (Calls Try.prog 29 #[y.val, .pointer (some ⟨b, 0, none⟩)] wr fun e w' => e = .returned (.bool ((fun y => y.no == n) y.u)) ∧ Below wr.heap.size wr w') := put1_any n y b wr ((hbr.out.cell (World.block_lt_of_cell? w _ HC.out)).trans HC.out)
      clear hat hy hcol hr
      cases hon : ((fun y => y.no == n) y.u : Bool) with
      | true =>
        rw [hon] at HCL
        have HF : Hid ((uns l).findIdx? (fun y => y.no == n) = some i) := idxU_is (by rw [uns_len, HL.out]; exact hlt) (by rw [uns_get, ← HY.out]; exact hon) (fun j hj => by rw [uns_get]; exact hix.out j hj)
        clear hix HY hon
        go_wp2_with (refine wpList_load _ rfl 30 (.tmp 14) rfl (.pointer (some ⟨b1, off + i * 12, none⟩)) y.val rfl HLD.out ?_)
        refine HCL.out.mono ?_
        rintro e w1 ⟨rfl, hb1⟩
        have HB1 := hide (rBelow hbr.out hb1)
        clear hb1
        go_wp2_with fail
        go_ret
        exact ⟨by rw [HF.out]; rfl, HB1.out⟩
      | false =>
        rw [hon] at HCL
        have HN : Hid (∀ j, j < i + 1 → (fun y => y.no == n) (l.getD j Ux.zero).u = false) := by
          intro j hj
          by_cases e : j = i
          · rw [e, ← HY.out]; exact hon
          · exact hix.out j (by omega)
        clear hix HY hon
        go_wp2_with (refine wpList_load _ rfl 30 (.tmp 14) rfl (.pointer (some ⟨b1, off + i * 12, none⟩)) y.val rfl HLD.out ?_)
        refine HCL.out.mono ?_
        rintro e w1 ⟨rfl, hb1⟩
        have HB1 := hide (rBelow hbr.out hb1)
        clear hb1
        go_wp2_with fail
        go_roundw
        case rel => exact ⟨i + 1, by omega, by go_num, HN, HB1⟩
        case measure => simp only [intOf]; omega
    · have i1 : ¬ ((i : Nat) : Int) < ((vl : Nat) : Int) := by omega
      have HF : Hid ((uns l).findIdx? (fun y => y.no == n) = none) := idxU_no (fun j hj => by rw [uns_get]; exact hix.out j (by rw [uns_len, HL.out] at hj; omega))
      clear hix
      go_wp2_with fail
      go_ret
      exact ⟨by rw [HF.out]; rfl, hbr.out⟩

set_option maxHeartbeats 4000000 in
theorem contNo (w : World) (va : Option Addr) (vl vc : Nat) (l : List Ux) (h : Us w va vl l) (hbig : vl ≤ 1000000) (b : Nat) (n : Int) (hb : w.cell? ⟨b, 1, none⟩ = some (.int .i64 n)) :
    Calls Try.prog 28 #[.slice va vl vc, .func (.func 29) #[] #[.pointer (some ⟨b, 0, none⟩)]] w fun e w' => e = .returned (.bool (hasNo (uns l) n)) ∧ Below w.heap.size w w' := by
  have HX := hide (idxNo w va vl vc l h hbig b n hb)
  have hg := ixU_geq (fun y => y.no == n) (uns l)
  unfold hasNo
  obtain ⟨z, hz⟩ : ∃ z, z = ixU ((uns l).findIdx? (fun y => y.no == n)) := ⟨_, rfl⟩
  rw [← hz] at hg HX
  rw [← hg]
  clear h hb hg hz
  by_cases hp : 0 ≤ z
  · have HR : Hid (decide (0 ≤ z) = true) := decide_eq_true hp
    go_enter Try.func28, Try.ntmps28
    go_wp2_with fail
    refine HX.out.mono ?_
    rintro e w1 ⟨rfl, hb1⟩
    have HB1 := hide hb1
    clear hb1
    go_wp2_with fail
    go_ret
    exact ⟨by rw [HR.out]; rfl, HB1.out⟩
  · have HR : Hid (decide (0 ≤ z) = false) := decide_eq_false hp
    go_enter Try.func28, Try.ntmps28
    go_wp2_with fail
    refine HX.out.mono ?_
    rintro e w1 ⟨rfl, hb1⟩
    have HB1 := hide hb1
    clear hb1
    go_wp2_with fail
    go_ret
    exact ⟨by rw [HR.out]; rfl, HB1.out⟩

theorem freeU_ix (l : List Un) : freeU l = 1 + ixU (l.findIdx? Un.emp) := by
  unfold freeU
  cases h : l.findIdx? Un.emp with
  | none => rfl
  | some i => show (i : Int) + 1 = 1 + (i : Int); omega

set_option maxHeartbeats 4000000 in
theorem firstEmpty_any (w : World) (va : Option Addr) (vl vc : Nat) (l : List Ux) (h : Us w va vl l) (hbig : vl ≤ 1000000) :
    Calls Try.prog 30 #[.slice va vl vc] w fun e w' => e = .returned (.int .i64 (freeU (uns l))) ∧ Below w.heap.size w w' := by
  have HX := hide (idxEmp w va vl vc l h hbig)
  have hr := freeU_range (uns l)
  rw [uns_len, h.len] at hr
  rw [freeU_ix] at hr ⊢
  generalize ixU ((uns l).findIdx? Un.emp) = z at *
  clear h
  go_enter Try.func30, Try.ntmps30
  go_wp2_with fail
  refine HX.out.mono ?_
  rintro e w1 ⟨rfl, hb1⟩
  have HB1 := hide hb1
  clear hb1
  go_wp2_with fail
  go_ret
  exact ⟨rfl, HB1.out⟩

set_option maxHeartbeats 4000000 in
set_option maxRecDepth 100000 in
theorem isUsed_any (w : World) (va : Option Addr) (vl vc : Nat) (l : List Ux) (h : Us w va vl l) (hbig : vl ≤ 1000000) (c : Int) :
    Calls Try.prog 32 #[.slice va vl vc, .int .i64 c] w fun e w' => e = .returned (.bool (!(atU (uns l) c).emp)) ∧ Below w.heap.size w w' := by
  have hl : (uns l).length = vl := by rw [uns_len, h.len]
  have H0 := hide (Below.refl w.heap.size w)
  by_cases h1 : c < 1
  · have HR : Hid ((!(atU (uns l) c).emp) = false) := by show _ = _; rw [atU_out (by omega), zeroU_emp]; rfl
    clear h hl
    go_enter Try.func32, Try.ntmps32
    go_wp2_with fail
    go_ret
    exact ⟨by rw [HR.out]; rfl, H0.out⟩
  by_cases h2 : (vl : Int) < c
  · have HR : Hid ((!(atU (uns l) c).emp) = false) := by show _ = _; rw [atU_out (by rw [hl]; omega), zeroU_emp]; rfl
    clear h hl
    go_enter Try.func32, Try.ntmps32
    go_wp2_with fail
    go_ret
    exact ⟨by rw [HR.out]; rfl, H0.out⟩
  obtain ⟨k, rfl⟩ : ∃ k : Nat, c = (k : Int) + 1 := ⟨(c - 1).toNat, by omega⟩
  have hk : k < vl := by omega
  rw [atU_at _ (by omega), uns_get]
  obtain ⟨b1, off, rfl, hat⟩ := h.at' k hk
  have hcol := h.cols _ (h.mem hk)
  generalize l.getD k Ux.zero = y at *
  have HLD := hide (load_unAt b1 (off + k * 12) y w hat)
  have HCL : Hid (Calls Try.prog 35 #[y.val] w fun e w' => e = .returned (.bool y.u.emp) ∧ Below w.heap.size w w') := isEmpty_any y.u y.a y.n y.c w hcol
  clear hat hcol h hl
  generalize y.u.emp = m at *
  have i1 : ((k : Nat) : Int) < ((vl : Nat) : Int) := by omega
  have i2 : (1 : Int) ≤ (k : Int) + 1 := by omega
  have i3 : (k : Int) + 1 ≤ (vl : Int) := by omega
  clear h1 h2
  go_enter Try.func32, Try.ntmps32
  go_wp2_with (refine wpList_loadG _ (by rfl) 30 (.tmp 17) rfl (.pointer (some ⟨b1, off + k * 12, none⟩)) y.val rfl HLD.out ?_)
  refine HCL.out.mono ?_
  rintro e w1 ⟨rfl, hb1⟩
  have HB1 := hide hb1
  clear hb1
  go_wp2_with fail
  go_ret
  exact ⟨rfl, HB1.out⟩

set_option maxHeartbeats 4000000 in
set_option maxRecDepth 100000 in
theorem mayFollow_any (x y : Ux) (w : World) :
    Calls Try.prog 38 #[x.val, y.val] w fun e w' => e = .returned (.bool (follow (some x.u) y.u)) ∧ Below w.heap.size w w' := by
  have HW := hide (below_two w (.cells #[.int .i64 x.u.tx, .int .i64 x.u.no, .int .i64 x.u.prev, .int .i64 x.u.kind, .int .i64 x.u.page, .int .i64 x.u.slot, .float .f64 x.u.row.key, .bool x.u.row.dead, .slice x.a x.n x.c, .int .i64 x.u.row.wr, .int .i64 x.u.row.cell, .int .i64 x.u.row.no] 30) (.cells #[.int .i64 y.u.tx, .int .i64 y.u.no, .int .i64 y.u.prev, .int .i64 y.u.kind, .int .i64 y.u.page, .int .i64 y.u.slot, .float .f64 y.u.row.key, .bool y.u.row.dead, .slice y.a y.n y.c, .int .i64 y.u.row.wr, .int .i64 y.u.row.cell, .int .i64 y.u.row.no] 30))
  unfold Ux.val Un.val follow
  simp only
  by_cases et : y.u.tx = x.u.tx
  · have qt : (y.u.tx == x.u.tx) = true := by simp [et]
    by_cases hn : y.u.no < x.u.no
    · rw [show (y.u.tx == x.u.tx && decide (y.u.no < x.u.no)) = true by simp [et, hn]]
      clear et
      go_enter Try.func38, Try.ntmps38
      go_wp2_with fail
      go_ret
      exact ⟨rfl, HW.out⟩
    · rw [show (y.u.tx == x.u.tx && decide (y.u.no < x.u.no)) = false by simp [hn]]
      clear et
      go_enter Try.func38, Try.ntmps38
      go_wp2_with fail
      go_ret
      exact ⟨rfl, HW.out⟩
  · have qt : (y.u.tx == x.u.tx) = false := beq_eq_false_iff_ne.2 et
    rw [show (y.u.tx == x.u.tx && decide (y.u.no < x.u.no)) = false by rw [qt]; rfl]
    clear et
    go_enter Try.func38, Try.ntmps38
    go_wp2_with fail
    go_ret
    exact ⟨rfl, HW.out⟩

theorem un_results1 {fn : Func} {x : Nat} (hr : fn.results = #[.cell x 30]) {W : World} {g : Nat} {u : Un} {c : Value} (h : UnBlk W g u c) (tmps : Array Value) (ht : tmps.getD x undef = .pointer (some ⟨g, 0, none⟩)) (hc : ∃ a len cap, c = .slice a len cap) : (results fn tmps).run Try.prog W = .ok (u.val c) W := by
  have c0 := h.c0
  have c1 := h.c1
  have c2 := h.c2
  have c3 := h.c3
  have c4 := h.c4
  have c5 := h.c5
  have c6 := h.c6
  have c7 := h.c7
  have c8 := h.c8
  have c9 := h.c9
  have c10 := h.c10
  have c11 := h.c11
  obtain ⟨a, len, cap, rfl⟩ := hc
  have ht2 : tmps[x]?.getD undef = .pointer (some ⟨g, 0, none⟩) := by simpa using ht
  simp [results, hr, ht2, go_sem, c0, c1, c2, c3, c4, c5, c6, c7, c8, c9, c10, c11, Un.val]

theorem un_end1 {fn : Func} {x : Nat} (hres : fn.results = #[.cell x 30]) {W : World} {g : Nat} {u0 : Un} {c0 : Value} (h : UnBlk W g u0 c0) (u : Un) (c : Value) (hc : ∃ a len cap, c = .slice a len cap) {A : Act} {R : Ending → World → Prop} (t2 : A.tmps.getD x undef = .pointer (some ⟨g, 0, none⟩)) (hd : A.defers = [])
    (hR : R (.returned (u.val c)) (setUn W g u c)) : bodyPost Try.prog fn R Exit.ret A (setUn W g u c) := by
  have hr := setUn_blk h u c
  generalize setUn W g u c = W' at *
  exact bodyPost_ret (un_results1 hres hr _ t2 hc) hd hR

end Go.Proofs.Ytpdkeghmpnanpaa
