/-
  The law of one cell that is turned: its walk, over the contracts.
-/
import Derived.Test.YtnhhapipadiffaaCeG
namespace Go.Proofs.Ytnhhapipadiffaa
open Go.RowKit
set_option linter.unusedVariables false

/-- A cell that is turned leaves all other bytes of the text. -/
theorem textC_turn {l : List Un} (h : MayC l = true) {x : Un} (hx : x.inC = true) {k : Nat} (hk : k < 6) (j : Nat) (hj : j < 1 + 72 * k ∨ 73 + 72 * k ≤ j) : (textC (l.set k x)).getD j 0 = (textC l).getD j 0 := by
  obtain ⟨h1, h2⟩ := MayC.parts h
  have hkl : k < l.length := by omega
  obtain ⟨A, hA⟩ : ∃ A, A = 85 :: (l.take k).flatMap cellB := ⟨_, rfl⟩
  obtain ⟨B, hB⟩ : ∃ B, B = (l.drop (k + 1)).flatMap cellB ++ List.replicate 75 0 := ⟨_, rfl⟩
  have hAl : A.length = 1 + 72 * k := by
    rw [hA, List.length_cons, flat_len (fun u hu => h1 u (List.mem_of_mem_take hu)), List.length_take]
    omega
  have e1 : textC l = A ++ cellB l[k] ++ B := by
    have : l = l.take k ++ l[k] :: l.drop (k + 1) := by rw [← List.drop_eq_getElem_cons hkl, List.take_append_drop]
    unfold textC
    conv => lhs; rw [this]
    rw [List.flatMap_append, List.flatMap_cons, hA, hB]
    simp only [List.cons_append, List.append_assoc]
  have e2 : textC (l.set k x) = A ++ cellB x ++ B := by
    unfold textC
    rw [List.set_eq_take_append_cons_drop, if_pos hkl, List.flatMap_append, List.flatMap_cons, hA, hB]
    simp only [List.cons_append, List.append_assoc]
  have c1 : (cellB l[k]).length = 72 := cellB_len (h1 _ (List.getElem_mem hkl))
  have c2 : (cellB x).length = 72 := cellB_len hx
  rw [e1, e2]
  simp only [List.getD_eq_getElem?_getD]
  rcases hj with hj | hj
  · rw [List.append_assoc, List.append_assoc, List.getElem?_append_left (by omega), List.getElem?_append_left (by omega)]
  · rw [List.getElem?_append_right (by rw [List.length_append]; omega), List.getElem?_append_right (by rw [List.length_append]; omega), List.length_append, List.length_append, c1, c2]

theorem mayC_set {l : List Un} (h : MayC l = true) {x : Un} (hx : x.inC = true) (k : Nat) : MayC (l.set k x) = true := by
  obtain ⟨h1, h2⟩ := MayC.parts h
  simp only [MayC, Bool.and_eq_true, List.all_eq_true, beq_iff_eq, List.length_set]
  refine ⟨fun u hu => ?_, h2⟩
  rcases List.mem_or_eq_of_mem_set hu with hu | rfl
  · exact h1 u hu
  · exact hx

theorem pageC_get (l : List Un) (i : Nat) (hi : 4 ≤ i) : (pageC l).getD i 0 = (textC l).getD (i - 4) 0 := by
  unfold pageC
  simp only [List.getD_eq_getElem?_getD]
  rw [List.getElem?_append_right (by show 4 ≤ i; exact hi)]
  rfl

theorem uns_set (l : List Ux) (k : Nat) (x : Ux) : uns (l.set k x) = (uns l).set k x.u := by simp [uns, List.map_set]

theorem Us.src {w : World} {a : Option Addr} {n cap : Nat} {l : List Ux} (h : Us w a n l) (hn : 0 < n) : Src Try.prog 12 22 (.slice a n cap) n (cellsU l) w := by
  obtain ⟨b, off, rfl, _⟩ := h.at' 0 hn
  refine Src.ofSlice _ Try.underlying22 ⟨b, off, none⟩ n cap (cellsU l) (by rw [cellsU_len, h.len]) (fun j u hj => ?_) (cellsU_one _)
  have hjl : j < n * 12 := by
    have := (List.getElem?_eq_some_iff.1 hj).1
    rwa [cellsU_len, h.len] at this
  obtain ⟨b', off', hbo, hat⟩ := h.at' (j / 12) (by omega)
  simp only [Option.some.injEq, Addr.mk.injEq, and_true] at hbo
  obtain ⟨rfl, rfl⟩ := hbo
  have hg := cellsU_get l (j / 12) (j % 12) (by rw [h.len]; omega) (Nat.mod_lt _ (by decide))
  rw [show j / 12 * 12 + j % 12 = j by omega, hj] at hg
  rw [Addr.add_lit, show off + j = off + j / 12 * 12 + j % 12 by omega]
  have ht : j % 12 < 12 := Nat.mod_lt _ (by decide)
  generalize j % 12 = t at *
  generalize off + j / 12 * 12 = o at *
  have hcases : t = 0 ∨ t = 1 ∨ t = 2 ∨ t = 3 ∨ t = 4 ∨ t = 5 ∨ t = 6 ∨ t = 7 ∨ t = 8 ∨ t = 9 ∨ t = 10 ∨ t = 11 := by omega
  rcases hcases with rfl | rfl | rfl | rfl | rfl | rfl | rfl | rfl | rfl | rfl | rfl | rfl
  · rw [hg]; exact hat.c0
  · rw [hg]; exact hat.c1
  · rw [hg]; exact hat.c2
  · rw [hg]; exact hat.c3
  · rw [hg]; exact hat.c4
  · rw [hg]; exact hat.c5
  · rw [hg]; exact hat.c6
  · rw [hg]; exact hat.c7
  · rw [hg]; exact hat.c8
  · rw [hg]; exact hat.c9
  · rw [hg]; exact hat.c10
  · rw [hg]; exact hat.c11

/-- append([]api.Undo{}, l...). -/
theorem Ud.copy {w w1 : World} {a : Option Addr} {n cap : Nat} {l : List Ux} (h : Us w a n l) (hb : Below w.heap.size w w1) (hn : 0 < n) (hl : n ≤ 1000) :
    ∃ s' W, (∀ ty, (Builtin.append_ #[22, 22] ty #[.slice (some ⟨w1.heap.size, 0, none⟩) 0 0, .slice a n cap]).run Try.prog (w1.alloc (.cells #[] 30)) = .ok s'.val W) ∧ Ud w W s' l ∧ Below w1.heap.size w1 W ∧ (∀ k, s'.blk = some k → w1.heap.size ≤ k) := by
  have h0 := Ud.new0 w w1 hb
  have hB := below_alloc w1 (.cells #[] 30)
  have hu := h.keep h0.below (Nat.le_refl _)
  obtain ⟨s', W, hrun, ho, hlen, hfr, hbk⟩ := own_append Try.underlying22 infoUn rfl (by decide) _ ⟨some ⟨w1.heap.size, 0, none⟩, 0, 0⟩ (cellsU []) h0.own (cellsU_one []) _ n (cellsU l) (hu.src (cap := cap) hn) (by show 0 + n ≤ _; omega) 0
  have hbW : Below w.heap.size w W := h0.below.trans (hfr.below h0.below.size (fun k hk => h0.new k hk))
  have hnew : ∀ k, s'.blk = some k → w1.heap.size ≤ k := by
    intro k e
    rcases hbk with e' | ⟨e', _⟩
    · rw [e'] at e
      have e2 : some w1.heap.size = some k := e
      cases e2
      exact Nat.le_refl _
    · rw [e'] at e
      cases e
      exact hB.size
  refine ⟨s', W, fun ty => hrun, ⟨ho, fun k e => Nat.le_trans hb.size (hnew k e), hbW, fun x hx => Col.old (h.cols x hx) hbW, h.fits⟩, hB.trans (hfr.below hB.size (fun k hk => ?_)), hnew⟩
  have e2 : some w1.heap.size = some k := hk
  cases e2
  exact Nat.le_refl _

theorem mul72 (k : Nat) (hk : k ≤ 10) (x y : Operand) (w : World) : (do eqGuard .mul 3 x y (.int .i64 72) (.int .i64 ((k : Nat) : Int)); binOp .mul 3 (.int .i64 72) (.int .i64 ((k : Nat) : Int)) : Sem Value).run Try.prog w = .ok (.int .i64 ((72 * k : Nat) : Int)) w := by
  have e : IntKind.i64.wrap (72 * (k : Int)) = ((72 * k : Nat) : Int) := by rw [IntKind.wrap_i64]; omega
  simp [go_sem, eqGuard, e]
theorem addC (c k : Nat) (hk : c + k ≤ 100000) (x y : Operand) (w : World) : (do eqGuard .add 3 x y (.int .i64 ((c : Nat) : Int)) (.int .i64 ((k : Nat) : Int)); binOp .add 3 (.int .i64 ((c : Nat) : Int)) (.int .i64 ((k : Nat) : Int)) : Sem Value).run Try.prog w = .ok (.int .i64 ((c + k : Nat) : Int)) w := by
  have e : IntKind.i64.wrap ((c : Int) + (k : Int)) = ((c + k : Nat) : Int) := by rw [IntKind.wrap_i64]; omega
  simp [go_sem, eqGuard, e]
theorem lssTC (a c : Nat) (x y : Operand) (h : a < c) (w : World) : (do eqGuard .lss 3 x y (.int .i64 ((a : Nat) : Int)) (.int .i64 ((c : Nat) : Int)); binOp .lss 3 (.int .i64 ((a : Nat) : Int)) (.int .i64 ((c : Nat) : Int)) : Sem Value).run Try.prog w = .ok (.bool true) w := by
  simp [go_sem, eqGuard]
  omega
theorem lssFC (a c : Nat) (x y : Operand) (h : ¬ (a < c)) (w : World) : (do eqGuard .lss 3 x y (.int .i64 ((a : Nat) : Int)) (.int .i64 ((c : Nat) : Int)); binOp .lss 3 (.int .i64 ((a : Nat) : Int)) (.int .i64 ((c : Nat) : Int)) : Sem Value).run Try.prog w = .ok (.bool false) w := by
  simp [go_sem, eqGuard]
  omega
theorem geqTC (a c : Nat) (x y : Operand) (h : c ≤ a) (w : World) : (do eqGuard .geq 3 x y (.int .i64 ((a : Nat) : Int)) (.int .i64 ((c : Nat) : Int)); binOp .geq 3 (.int .i64 ((a : Nat) : Int)) (.int .i64 ((c : Nat) : Int)) : Sem Value).run Try.prog w = .ok (.bool true) w := by
  simp [go_sem, eqGuard]
  omega
theorem geqFC (a c : Nat) (x y : Operand) (h : ¬ (c ≤ a)) (w : World) : (do eqGuard .geq 3 x y (.int .i64 ((a : Nat) : Int)) (.int .i64 ((c : Nat) : Int)); binOp .geq 3 (.int .i64 ((a : Nat) : Int)) (.int .i64 ((c : Nat) : Int)) : Sem Value).run Try.prog w = .ok (.bool false) w := by
  simp [go_sem, eqGuard]
  omega

set_option maxHeartbeats 2000000 in
set_option maxRecDepth 100000 in
theorem one13a (w0 w : World) (k i : Nat) (hk : k ≤ 10) (hi : i < 512) (b1 o1 c1 b2 o2 c2 : Nat) (xs ys : List Nat) (z : Nat) (h1 : Bs w0 (some ⟨b1, o1, none⟩) 512 xs) (h2 : Bs w0 (some ⟨b2, o2, none⟩) 512 ys) (hz1 : xs.getD i 0 = z) (hz2 : ys.getD i 0 = z) (hlo : i < 5 + 72 * k) (hW : Below w0.heap.size w0 w)
    {Q : Exit → Act → World → Prop} {A : Act} (hsz : A.tmps.size = 99) (hdf : A.defers = []) (s7 : A.tmps.getD 7 undef = .int .i64 ((k : Nat) : Int)) (s9 : A.tmps.getD 9 undef = .slice (some ⟨b1, o1, none⟩) 512 c1) (s11 : A.tmps.getD 11 undef = .slice (some ⟨b2, o2, none⟩) 512 c2) (s13 : A.tmps.getD 13 undef = .int .i64 ((i : Nat) : Int))
    (hend : ∀ (u : Nat → Value) w', Below w0.heap.size w0 w' → Q .normal ((((((((((((((((((((((((A).put (some 75) (u 75)).put (some 76) (u 76)).put (some 77) (u 77)).put (some 78) (u 78)).put (some 79) (u 79)).put (some 80) (u 80)).put (some 81) (u 81)).put (some 82) (u 82)).put (some 83) (u 83)).put (some 84) (u 84)).put (some 85) (u 85)).put (some 86) (u 86)).put (some 87) (u 87)).put (some 88) (u 88)).put (some 89) (u 89)).put (some 90) (u 90)).put (some 91) (u 91)).put (some 92) (u 92)).put (some 93) (u 93)).put (some 94) (u 94)).put (some 95) (u 95)).put (some 96) (u 96)).put (some 97) (.bool false)) w') :
    (Code.region 13 (Pl.find 13 ((Try.f6.body).getD .skip)) true).wp Try.prog Q A w := by
  have hS0 : Below w0.heap.size w0 w.drew := hW.drew
  have hA := Pl.At.same (v := .int .i64 ((i : Nat) : Int)) (d := 13) (Pl.At.same (v := .slice (some ⟨b2, o2, none⟩) 512 c2) (d := 11) (Pl.At.same (v := .slice (some ⟨b1, o1, none⟩) 512 c1) (d := 9) (Pl.At.same (v := .int .i64 ((k : Nat) : Int)) (d := 7) (Pl.At.here hsz hdf) s7) s9) s11) s13
  refine Pl.H.start (S := fun w' => Below w0.heap.size w0 w') (by kernel_rfl) hA hS0 ?_
  rw [show (Pl.find 13 ((Try.f6.body).getD .skip)).size = 23 by kernel_rfl]
  refine Pl.H.take 0 75 (.int .i64 ((i : Nat) : Int)) (by kernel_rfl) (by kernel_rfl) (by kernel_rfl) (Pl.free 0 (by kernel_rfl)) (Pl.move 0 (.tmp 13) (by kernel_rfl) (by decide)) hS0 ?_
  refine Pl.H.take 1 76 (.int .i64 ((k : Nat) : Int)) (by kernel_rfl) (by kernel_rfl) (by kernel_rfl) (Pl.free 1 (by kernel_rfl)) (Pl.move 1 (.tmp 7) (by kernel_rfl) (by decide)) hS0 ?_
  refine Pl.H.take 2 77 (.int .i64 ((72 * k : Nat) : Int)) (by kernel_rfl) (by kernel_rfl) (by kernel_rfl) (Pl.free 2 (by kernel_rfl)) (Pl.binV 2 .mul 3 3 (.const (.int .i64 72)) (.tmp 76) (.int .i64 72) (.int .i64 ((k : Nat) : Int)) _ (by kernel_rfl) (by decide) (by decide) rfl rfl (fun w => mul72 k hk _ _ w)) hS0 ?_
  refine Pl.H.take 3 78 (.int .i64 ((5 + 72 * k : Nat) : Int)) (by kernel_rfl) (by kernel_rfl) (by kernel_rfl) (Pl.free 3 (by kernel_rfl)) (Pl.binV 3 .add 3 3 (.const (.int .i64 5)) (.tmp 77) (.int .i64 5) (.int .i64 ((72 * k : Nat) : Int)) _ (by kernel_rfl) (by decide) (by decide) rfl rfl (fun w => addC 5 (72 * k) (by omega) _ _ w)) hS0 ?_
  refine Pl.H.take 4 79 (.bool true) (by kernel_rfl) (by kernel_rfl) (by kernel_rfl) (Pl.free 4 (by kernel_rfl)) (Pl.binV 4 .lss 3 3 (.tmp 75) (.tmp 78) (.int .i64 ((i : Nat) : Int)) (.int .i64 ((5 + 72 * k : Nat) : Int)) _ (by kernel_rfl) (by decide) (by decide) rfl rfl (fun w => lssTC i (5 + 72 * k) _ _ hlo w)) hS0 ?_
  refine Pl.H.take 5 80 (.bool true) (by kernel_rfl) (by kernel_rfl) (by kernel_rfl) (Pl.free 5 (by kernel_rfl)) (Pl.move 5 (.tmp 79) (by kernel_rfl) (by decide)) hS0 ?_
  refine Pl.H.skip 6 81 (by kernel_rfl) (by kernel_rfl) (by kernel_rfl) (Pl.unwanted 6 5 80 false (by kernel_rfl) (by kernel_rfl) (by decide) rfl) hS0 ?_
  refine Pl.H.skip 7 82 (by kernel_rfl) (by kernel_rfl) (by kernel_rfl) (Pl.unwanted 7 5 80 false (by kernel_rfl) (by kernel_rfl) (by decide) rfl) hS0 ?_
  refine Pl.H.skip 8 83 (by kernel_rfl) (by kernel_rfl) (by kernel_rfl) (Pl.unwanted 8 5 80 false (by kernel_rfl) (by kernel_rfl) (by decide) rfl) hS0 ?_
  refine Pl.H.skip 9 84 (by kernel_rfl) (by kernel_rfl) (by kernel_rfl) (Pl.unwanted 9 5 80 false (by kernel_rfl) (by kernel_rfl) (by decide) rfl) hS0 ?_
  refine Pl.H.skip 10 85 (by kernel_rfl) (by kernel_rfl) (by kernel_rfl) (Pl.unwanted 10 5 80 false (by kernel_rfl) (by kernel_rfl) (by decide) rfl) hS0 ?_
  refine Pl.H.take 11 86 (.bool true) (by kernel_rfl) (by kernel_rfl) (by kernel_rfl) (Pl.free 11 (by kernel_rfl)) (Pl.pick 11 (.tmp 80) (.const (.bool true)) (.tmp 85) (by kernel_rfl) (by decide) (by decide) rfl) hS0 ?_
  refine Pl.H.take 12 87 (.bool true) (by kernel_rfl) (by kernel_rfl) (by kernel_rfl) (Pl.free 12 (by kernel_rfl)) (Pl.move 12 (.tmp 86) (by kernel_rfl) (by decide)) hS0 ?_
  refine Pl.H.take 13 88 (.slice (some ⟨b1, o1, none⟩) 512 c1) (by kernel_rfl) (by kernel_rfl) (by kernel_rfl) (Pl.guarded 13 12 87 true (by kernel_rfl) (by kernel_rfl) (by decide) rfl) (Pl.move 13 (.tmp 9) (by kernel_rfl) (by decide)) hS0 ?_
  refine Pl.H.take 14 89 (.int .i64 ((i : Nat) : Int)) (by kernel_rfl) (by kernel_rfl) (by kernel_rfl) (Pl.guarded 14 12 87 true (by kernel_rfl) (by kernel_rfl) (by decide) rfl) (Pl.move 14 (.tmp 13) (by kernel_rfl) (by decide)) hS0 ?_
  refine Pl.H.take 15 90 (.pointer (some ⟨b1, o1 + i, none⟩)) (by kernel_rfl) (by kernel_rfl) (by kernel_rfl) (Pl.guarded 15 12 87 true (by kernel_rfl) (by kernel_rfl) (by decide) rfl) (Pl.index 15 32 (.tmp 88) (.tmp 89) _ (by kernel_rfl) (by decide) (by decide) (index_byte b1 o1 512 c1 i hi)) hS0 ?_
  refine Pl.H.take 16 91 (.int .u8 ((z : Nat) : Int)) (by kernel_rfl) (by kernel_rfl) (by kernel_rfl) (Pl.guarded 16 12 87 true (by kernel_rfl) (by kernel_rfl) (by decide) rfl) (Pl.load 16 5 (.tmp 90) _ (by kernel_rfl) (by decide) (fun w' hS => load_byte b1 (o1 + i) z w' (by have := (h1.keep hS (Nat.le_refl _)).at i hi; rw [hz1] at this; exact this))) hS0 ?_
  refine Pl.H.take 17 92 (.slice (some ⟨b2, o2, none⟩) 512 c2) (by kernel_rfl) (by kernel_rfl) (by kernel_rfl) (Pl.guarded 17 12 87 true (by kernel_rfl) (by kernel_rfl) (by decide) rfl) (Pl.move 17 (.tmp 11) (by kernel_rfl) (by decide)) hS0 ?_
  refine Pl.H.take 18 93 (.int .i64 ((i : Nat) : Int)) (by kernel_rfl) (by kernel_rfl) (by kernel_rfl) (Pl.guarded 18 12 87 true (by kernel_rfl) (by kernel_rfl) (by decide) rfl) (Pl.move 18 (.tmp 13) (by kernel_rfl) (by decide)) hS0 ?_
  refine Pl.H.take 19 94 (.pointer (some ⟨b2, o2 + i, none⟩)) (by kernel_rfl) (by kernel_rfl) (by kernel_rfl) (Pl.guarded 19 12 87 true (by kernel_rfl) (by kernel_rfl) (by decide) rfl) (Pl.index 19 32 (.tmp 92) (.tmp 93) _ (by kernel_rfl) (by decide) (by decide) (index_byte b2 o2 512 c2 i hi)) hS0 ?_
  refine Pl.H.take 20 95 (.int .u8 ((z : Nat) : Int)) (by kernel_rfl) (by kernel_rfl) (by kernel_rfl) (Pl.guarded 20 12 87 true (by kernel_rfl) (by kernel_rfl) (by decide) rfl) (Pl.load 20 5 (.tmp 94) _ (by kernel_rfl) (by decide) (fun w' hS => load_byte b2 (o2 + i) z w' (by have := (h2.keep hS (Nat.le_refl _)).at i hi; rw [hz2] at this; exact this))) hS0 ?_
  refine Pl.H.take 21 96 (.bool false) (by kernel_rfl) (by kernel_rfl) (by kernel_rfl) (Pl.guarded 21 12 87 true (by kernel_rfl) (by kernel_rfl) (by decide) rfl) (Pl.binV 21 .neq 5 5 (.tmp 91) (.tmp 95) (.int .u8 ((z : Nat) : Int)) (.int .u8 ((z : Nat) : Int)) _ (by kernel_rfl) (by decide) (by decide) rfl rfl (fun w => by simp [go_sem, eqGuard])) hS0 ?_
  refine Pl.H.take 22 97 (.bool false) (by kernel_rfl) (by kernel_rfl) (by kernel_rfl) (Pl.free 22 (by kernel_rfl)) (Pl.pick 22 (.tmp 87) (.tmp 96) (.const (.bool false)) (by kernel_rfl) (by decide) (by decide) rfl) hS0 ?_
  refine Pl.H.done (by kernel_rfl) (fun A' hA' => ?_)
  rw [Pl.At.ext hA' (((((((((((((((((((((((hA.put 75 _).put 76 _).put 77 _).put 78 _).put 79 _).put 80 _).put 81 _).put 82 _).put 83 _).put 84 _).put 85 _).put 86 _).put 87 _).put 88 _).put 89 _).put 90 _).put 91 _).put 92 _).put 93 _).put 94 _).put 95 _).put 96 _).put 97 _)]
  exact hend (fun d => if d = 75 then .int .i64 ((i : Nat) : Int) else if d = 76 then .int .i64 ((k : Nat) : Int) else if d = 77 then .int .i64 ((72 * k : Nat) : Int) else if d = 78 then .int .i64 ((5 + 72 * k : Nat) : Int) else if d = 79 then .bool true else if d = 80 then .bool true else if d = 81 then undef else if d = 82 then undef else if d = 83 then undef else if d = 84 then undef else if d = 85 then undef else if d = 86 then .bool true else if d = 87 then .bool true else if d = 88 then .slice (some ⟨b1, o1, none⟩) 512 c1 else if d = 89 then .int .i64 ((i : Nat) : Int) else if d = 90 then .pointer (some ⟨b1, o1 + i, none⟩) else if d = 91 then .int .u8 ((z : Nat) : Int) else if d = 92 then .slice (some ⟨b2, o2, none⟩) 512 c2 else if d = 93 then .int .i64 ((i : Nat) : Int) else if d = 94 then .pointer (some ⟨b2, o2 + i, none⟩) else if d = 95 then .int .u8 ((z : Nat) : Int) else if d = 96 then .bool false else undef) _ hS0

set_option maxHeartbeats 2000000 in
set_option maxRecDepth 100000 in
theorem one13b (w0 w : World) (k i : Nat) (hk : k ≤ 10) (hi : i < 512) (b1 o1 c1 b2 o2 c2 : Nat) (xs ys : List Nat) (z : Nat) (h1 : Bs w0 (some ⟨b1, o1, none⟩) 512 xs) (h2 : Bs w0 (some ⟨b2, o2, none⟩) 512 ys) (hz1 : xs.getD i 0 = z) (hz2 : ys.getD i 0 = z) (hhi : 77 + 72 * k ≤ i) (hW : Below w0.heap.size w0 w)
    {Q : Exit → Act → World → Prop} {A : Act} (hsz : A.tmps.size = 99) (hdf : A.defers = []) (s7 : A.tmps.getD 7 undef = .int .i64 ((k : Nat) : Int)) (s9 : A.tmps.getD 9 undef = .slice (some ⟨b1, o1, none⟩) 512 c1) (s11 : A.tmps.getD 11 undef = .slice (some ⟨b2, o2, none⟩) 512 c2) (s13 : A.tmps.getD 13 undef = .int .i64 ((i : Nat) : Int))
    (hend : ∀ (u : Nat → Value) w', Below w0.heap.size w0 w' → Q .normal ((((((((((((((((((((((((A).put (some 75) (u 75)).put (some 76) (u 76)).put (some 77) (u 77)).put (some 78) (u 78)).put (some 79) (u 79)).put (some 80) (u 80)).put (some 81) (u 81)).put (some 82) (u 82)).put (some 83) (u 83)).put (some 84) (u 84)).put (some 85) (u 85)).put (some 86) (u 86)).put (some 87) (u 87)).put (some 88) (u 88)).put (some 89) (u 89)).put (some 90) (u 90)).put (some 91) (u 91)).put (some 92) (u 92)).put (some 93) (u 93)).put (some 94) (u 94)).put (some 95) (u 95)).put (some 96) (u 96)).put (some 97) (.bool false)) w') :
    (Code.region 13 (Pl.find 13 ((Try.f6.body).getD .skip)) true).wp Try.prog Q A w := by
  have hS0 : Below w0.heap.size w0 w.drew := hW.drew
  have hA := Pl.At.same (v := .int .i64 ((i : Nat) : Int)) (d := 13) (Pl.At.same (v := .slice (some ⟨b2, o2, none⟩) 512 c2) (d := 11) (Pl.At.same (v := .slice (some ⟨b1, o1, none⟩) 512 c1) (d := 9) (Pl.At.same (v := .int .i64 ((k : Nat) : Int)) (d := 7) (Pl.At.here hsz hdf) s7) s9) s11) s13
  refine Pl.H.start (S := fun w' => Below w0.heap.size w0 w') (by kernel_rfl) hA hS0 ?_
  rw [show (Pl.find 13 ((Try.f6.body).getD .skip)).size = 23 by kernel_rfl]
  refine Pl.H.take 0 75 (.int .i64 ((i : Nat) : Int)) (by kernel_rfl) (by kernel_rfl) (by kernel_rfl) (Pl.free 0 (by kernel_rfl)) (Pl.move 0 (.tmp 13) (by kernel_rfl) (by decide)) hS0 ?_
  refine Pl.H.take 1 76 (.int .i64 ((k : Nat) : Int)) (by kernel_rfl) (by kernel_rfl) (by kernel_rfl) (Pl.free 1 (by kernel_rfl)) (Pl.move 1 (.tmp 7) (by kernel_rfl) (by decide)) hS0 ?_
  refine Pl.H.take 2 77 (.int .i64 ((72 * k : Nat) : Int)) (by kernel_rfl) (by kernel_rfl) (by kernel_rfl) (Pl.free 2 (by kernel_rfl)) (Pl.binV 2 .mul 3 3 (.const (.int .i64 72)) (.tmp 76) (.int .i64 72) (.int .i64 ((k : Nat) : Int)) _ (by kernel_rfl) (by decide) (by decide) rfl rfl (fun w => mul72 k hk _ _ w)) hS0 ?_
  refine Pl.H.take 3 78 (.int .i64 ((5 + 72 * k : Nat) : Int)) (by kernel_rfl) (by kernel_rfl) (by kernel_rfl) (Pl.free 3 (by kernel_rfl)) (Pl.binV 3 .add 3 3 (.const (.int .i64 5)) (.tmp 77) (.int .i64 5) (.int .i64 ((72 * k : Nat) : Int)) _ (by kernel_rfl) (by decide) (by decide) rfl rfl (fun w => addC 5 (72 * k) (by omega) _ _ w)) hS0 ?_
  refine Pl.H.take 4 79 (.bool false) (by kernel_rfl) (by kernel_rfl) (by kernel_rfl) (Pl.free 4 (by kernel_rfl)) (Pl.binV 4 .lss 3 3 (.tmp 75) (.tmp 78) (.int .i64 ((i : Nat) : Int)) (.int .i64 ((5 + 72 * k : Nat) : Int)) _ (by kernel_rfl) (by decide) (by decide) rfl rfl (fun w => lssFC i (5 + 72 * k) _ _ (by omega) w)) hS0 ?_
  refine Pl.H.take 5 80 (.bool false) (by kernel_rfl) (by kernel_rfl) (by kernel_rfl) (Pl.free 5 (by kernel_rfl)) (Pl.move 5 (.tmp 79) (by kernel_rfl) (by decide)) hS0 ?_
  refine Pl.H.take 6 81 (.int .i64 ((i : Nat) : Int)) (by kernel_rfl) (by kernel_rfl) (by kernel_rfl) (Pl.guarded 6 5 80 false (by kernel_rfl) (by kernel_rfl) (by decide) rfl) (Pl.move 6 (.tmp 13) (by kernel_rfl) (by decide)) hS0 ?_
  refine Pl.H.take 7 82 (.int .i64 ((k : Nat) : Int)) (by kernel_rfl) (by kernel_rfl) (by kernel_rfl) (Pl.guarded 7 5 80 false (by kernel_rfl) (by kernel_rfl) (by decide) rfl) (Pl.move 7 (.tmp 7) (by kernel_rfl) (by decide)) hS0 ?_
  refine Pl.H.take 8 83 (.int .i64 ((72 * k : Nat) : Int)) (by kernel_rfl) (by kernel_rfl) (by kernel_rfl) (Pl.guarded 8 5 80 false (by kernel_rfl) (by kernel_rfl) (by decide) rfl) (Pl.binV 8 .mul 3 3 (.const (.int .i64 72)) (.tmp 82) (.int .i64 72) (.int .i64 ((k : Nat) : Int)) _ (by kernel_rfl) (by decide) (by decide) rfl rfl (fun w => mul72 k hk _ _ w)) hS0 ?_
  refine Pl.H.take 9 84 (.int .i64 ((77 + 72 * k : Nat) : Int)) (by kernel_rfl) (by kernel_rfl) (by kernel_rfl) (Pl.guarded 9 5 80 false (by kernel_rfl) (by kernel_rfl) (by decide) rfl) (Pl.binV 9 .add 3 3 (.const (.int .i64 77)) (.tmp 83) (.int .i64 77) (.int .i64 ((72 * k : Nat) : Int)) _ (by kernel_rfl) (by decide) (by decide) rfl rfl (fun w => addC 77 (72 * k) (by omega) _ _ w)) hS0 ?_
  refine Pl.H.take 10 85 (.bool true) (by kernel_rfl) (by kernel_rfl) (by kernel_rfl) (Pl.guarded 10 5 80 false (by kernel_rfl) (by kernel_rfl) (by decide) rfl) (Pl.binV 10 .geq 3 3 (.tmp 81) (.tmp 84) (.int .i64 ((i : Nat) : Int)) (.int .i64 ((77 + 72 * k : Nat) : Int)) _ (by kernel_rfl) (by decide) (by decide) rfl rfl (fun w => geqTC i (77 + 72 * k) _ _ hhi w)) hS0 ?_
  refine Pl.H.take 11 86 (.bool true) (by kernel_rfl) (by kernel_rfl) (by kernel_rfl) (Pl.free 11 (by kernel_rfl)) (Pl.pickF 11 (.tmp 80) (.const (.bool true)) (.tmp 85) (by kernel_rfl) (by decide) (by decide) rfl) hS0 ?_
  refine Pl.H.take 12 87 (.bool true) (by kernel_rfl) (by kernel_rfl) (by kernel_rfl) (Pl.free 12 (by kernel_rfl)) (Pl.move 12 (.tmp 86) (by kernel_rfl) (by decide)) hS0 ?_
  refine Pl.H.take 13 88 (.slice (some ⟨b1, o1, none⟩) 512 c1) (by kernel_rfl) (by kernel_rfl) (by kernel_rfl) (Pl.guarded 13 12 87 true (by kernel_rfl) (by kernel_rfl) (by decide) rfl) (Pl.move 13 (.tmp 9) (by kernel_rfl) (by decide)) hS0 ?_
  refine Pl.H.take 14 89 (.int .i64 ((i : Nat) : Int)) (by kernel_rfl) (by kernel_rfl) (by kernel_rfl) (Pl.guarded 14 12 87 true (by kernel_rfl) (by kernel_rfl) (by decide) rfl) (Pl.move 14 (.tmp 13) (by kernel_rfl) (by decide)) hS0 ?_
  refine Pl.H.take 15 90 (.pointer (some ⟨b1, o1 + i, none⟩)) (by kernel_rfl) (by kernel_rfl) (by kernel_rfl) (Pl.guarded 15 12 87 true (by kernel_rfl) (by kernel_rfl) (by decide) rfl) (Pl.index 15 32 (.tmp 88) (.tmp 89) _ (by kernel_rfl) (by decide) (by decide) (index_byte b1 o1 512 c1 i hi)) hS0 ?_
  refine Pl.H.take 16 91 (.int .u8 ((z : Nat) : Int)) (by kernel_rfl) (by kernel_rfl) (by kernel_rfl) (Pl.guarded 16 12 87 true (by kernel_rfl) (by kernel_rfl) (by decide) rfl) (Pl.load 16 5 (.tmp 90) _ (by kernel_rfl) (by decide) (fun w' hS => load_byte b1 (o1 + i) z w' (by have := (h1.keep hS (Nat.le_refl _)).at i hi; rw [hz1] at this; exact this))) hS0 ?_
  refine Pl.H.take 17 92 (.slice (some ⟨b2, o2, none⟩) 512 c2) (by kernel_rfl) (by kernel_rfl) (by kernel_rfl) (Pl.guarded 17 12 87 true (by kernel_rfl) (by kernel_rfl) (by decide) rfl) (Pl.move 17 (.tmp 11) (by kernel_rfl) (by decide)) hS0 ?_
  refine Pl.H.take 18 93 (.int .i64 ((i : Nat) : Int)) (by kernel_rfl) (by kernel_rfl) (by kernel_rfl) (Pl.guarded 18 12 87 true (by kernel_rfl) (by kernel_rfl) (by decide) rfl) (Pl.move 18 (.tmp 13) (by kernel_rfl) (by decide)) hS0 ?_
  refine Pl.H.take 19 94 (.pointer (some ⟨b2, o2 + i, none⟩)) (by kernel_rfl) (by kernel_rfl) (by kernel_rfl) (Pl.guarded 19 12 87 true (by kernel_rfl) (by kernel_rfl) (by decide) rfl) (Pl.index 19 32 (.tmp 92) (.tmp 93) _ (by kernel_rfl) (by decide) (by decide) (index_byte b2 o2 512 c2 i hi)) hS0 ?_
  refine Pl.H.take 20 95 (.int .u8 ((z : Nat) : Int)) (by kernel_rfl) (by kernel_rfl) (by kernel_rfl) (Pl.guarded 20 12 87 true (by kernel_rfl) (by kernel_rfl) (by decide) rfl) (Pl.load 20 5 (.tmp 94) _ (by kernel_rfl) (by decide) (fun w' hS => load_byte b2 (o2 + i) z w' (by have := (h2.keep hS (Nat.le_refl _)).at i hi; rw [hz2] at this; exact this))) hS0 ?_
  refine Pl.H.take 21 96 (.bool false) (by kernel_rfl) (by kernel_rfl) (by kernel_rfl) (Pl.guarded 21 12 87 true (by kernel_rfl) (by kernel_rfl) (by decide) rfl) (Pl.binV 21 .neq 5 5 (.tmp 91) (.tmp 95) (.int .u8 ((z : Nat) : Int)) (.int .u8 ((z : Nat) : Int)) _ (by kernel_rfl) (by decide) (by decide) rfl rfl (fun w => by simp [go_sem, eqGuard])) hS0 ?_
  refine Pl.H.take 22 97 (.bool false) (by kernel_rfl) (by kernel_rfl) (by kernel_rfl) (Pl.free 22 (by kernel_rfl)) (Pl.pick 22 (.tmp 87) (.tmp 96) (.const (.bool false)) (by kernel_rfl) (by decide) (by decide) rfl) hS0 ?_
  refine Pl.H.done (by kernel_rfl) (fun A' hA' => ?_)
  rw [Pl.At.ext hA' (((((((((((((((((((((((hA.put 75 _).put 76 _).put 77 _).put 78 _).put 79 _).put 80 _).put 81 _).put 82 _).put 83 _).put 84 _).put 85 _).put 86 _).put 87 _).put 88 _).put 89 _).put 90 _).put 91 _).put 92 _).put 93 _).put 94 _).put 95 _).put 96 _).put 97 _)]
  exact hend (fun d => if d = 75 then .int .i64 ((i : Nat) : Int) else if d = 76 then .int .i64 ((k : Nat) : Int) else if d = 77 then .int .i64 ((72 * k : Nat) : Int) else if d = 78 then .int .i64 ((5 + 72 * k : Nat) : Int) else if d = 79 then .bool false else if d = 80 then .bool false else if d = 81 then .int .i64 ((i : Nat) : Int) else if d = 82 then .int .i64 ((k : Nat) : Int) else if d = 83 then .int .i64 ((72 * k : Nat) : Int) else if d = 84 then .int .i64 ((77 + 72 * k : Nat) : Int) else if d = 85 then .bool true else if d = 86 then .bool true else if d = 87 then .bool true else if d = 88 then .slice (some ⟨b1, o1, none⟩) 512 c1 else if d = 89 then .int .i64 ((i : Nat) : Int) else if d = 90 then .pointer (some ⟨b1, o1 + i, none⟩) else if d = 91 then .int .u8 ((z : Nat) : Int) else if d = 92 then .slice (some ⟨b2, o2, none⟩) 512 c2 else if d = 93 then .int .i64 ((i : Nat) : Int) else if d = 94 then .pointer (some ⟨b2, o2 + i, none⟩) else if d = 95 then .int .u8 ((z : Nat) : Int) else if d = 96 then .bool false else undef) _ hS0

set_option maxHeartbeats 2000000 in
set_option maxRecDepth 100000 in
theorem one13c (w0 w : World) (k i : Nat) (hk : k ≤ 10) (hi : i < 512) (b1 o1 c1 b2 o2 c2 : Nat) (hlo : 5 + 72 * k ≤ i) (hhi : i < 77 + 72 * k) (hW : Below w0.heap.size w0 w)
    {Q : Exit → Act → World → Prop} {A : Act} (hsz : A.tmps.size = 99) (hdf : A.defers = []) (s7 : A.tmps.getD 7 undef = .int .i64 ((k : Nat) : Int)) (s9 : A.tmps.getD 9 undef = .slice (some ⟨b1, o1, none⟩) 512 c1) (s11 : A.tmps.getD 11 undef = .slice (some ⟨b2, o2, none⟩) 512 c2) (s13 : A.tmps.getD 13 undef = .int .i64 ((i : Nat) : Int))
    (hend : ∀ (u : Nat → Value) w', Below w0.heap.size w0 w' → Q .normal ((((((((((((((((((((((((A).put (some 75) (u 75)).put (some 76) (u 76)).put (some 77) (u 77)).put (some 78) (u 78)).put (some 79) (u 79)).put (some 80) (u 80)).put (some 81) (u 81)).put (some 82) (u 82)).put (some 83) (u 83)).put (some 84) (u 84)).put (some 85) (u 85)).put (some 86) (u 86)).put (some 87) (u 87)).put (some 88) (u 88)).put (some 89) (u 89)).put (some 90) (u 90)).put (some 91) (u 91)).put (some 92) (u 92)).put (some 93) (u 93)).put (some 94) (u 94)).put (some 95) (u 95)).put (some 96) (u 96)).put (some 97) (.bool false)) w') :
    (Code.region 13 (Pl.find 13 ((Try.f6.body).getD .skip)) true).wp Try.prog Q A w := by
  have hS0 : Below w0.heap.size w0 w.drew := hW.drew
  have hA := Pl.At.same (v := .int .i64 ((i : Nat) : Int)) (d := 13) (Pl.At.same (v := .slice (some ⟨b2, o2, none⟩) 512 c2) (d := 11) (Pl.At.same (v := .slice (some ⟨b1, o1, none⟩) 512 c1) (d := 9) (Pl.At.same (v := .int .i64 ((k : Nat) : Int)) (d := 7) (Pl.At.here hsz hdf) s7) s9) s11) s13
  refine Pl.H.start (S := fun w' => Below w0.heap.size w0 w') (by kernel_rfl) hA hS0 ?_
  rw [show (Pl.find 13 ((Try.f6.body).getD .skip)).size = 23 by kernel_rfl]
  refine Pl.H.take 0 75 (.int .i64 ((i : Nat) : Int)) (by kernel_rfl) (by kernel_rfl) (by kernel_rfl) (Pl.free 0 (by kernel_rfl)) (Pl.move 0 (.tmp 13) (by kernel_rfl) (by decide)) hS0 ?_
  refine Pl.H.take 1 76 (.int .i64 ((k : Nat) : Int)) (by kernel_rfl) (by kernel_rfl) (by kernel_rfl) (Pl.free 1 (by kernel_rfl)) (Pl.move 1 (.tmp 7) (by kernel_rfl) (by decide)) hS0 ?_
  refine Pl.H.take 2 77 (.int .i64 ((72 * k : Nat) : Int)) (by kernel_rfl) (by kernel_rfl) (by kernel_rfl) (Pl.free 2 (by kernel_rfl)) (Pl.binV 2 .mul 3 3 (.const (.int .i64 72)) (.tmp 76) (.int .i64 72) (.int .i64 ((k : Nat) : Int)) _ (by kernel_rfl) (by decide) (by decide) rfl rfl (fun w => mul72 k hk _ _ w)) hS0 ?_
  refine Pl.H.take 3 78 (.int .i64 ((5 + 72 * k : Nat) : Int)) (by kernel_rfl) (by kernel_rfl) (by kernel_rfl) (Pl.free 3 (by kernel_rfl)) (Pl.binV 3 .add 3 3 (.const (.int .i64 5)) (.tmp 77) (.int .i64 5) (.int .i64 ((72 * k : Nat) : Int)) _ (by kernel_rfl) (by decide) (by decide) rfl rfl (fun w => addC 5 (72 * k) (by omega) _ _ w)) hS0 ?_
  refine Pl.H.take 4 79 (.bool false) (by kernel_rfl) (by kernel_rfl) (by kernel_rfl) (Pl.free 4 (by kernel_rfl)) (Pl.binV 4 .lss 3 3 (.tmp 75) (.tmp 78) (.int .i64 ((i : Nat) : Int)) (.int .i64 ((5 + 72 * k : Nat) : Int)) _ (by kernel_rfl) (by decide) (by decide) rfl rfl (fun w => lssFC i (5 + 72 * k) _ _ (by omega) w)) hS0 ?_
  refine Pl.H.take 5 80 (.bool false) (by kernel_rfl) (by kernel_rfl) (by kernel_rfl) (Pl.free 5 (by kernel_rfl)) (Pl.move 5 (.tmp 79) (by kernel_rfl) (by decide)) hS0 ?_
  refine Pl.H.take 6 81 (.int .i64 ((i : Nat) : Int)) (by kernel_rfl) (by kernel_rfl) (by kernel_rfl) (Pl.guarded 6 5 80 false (by kernel_rfl) (by kernel_rfl) (by decide) rfl) (Pl.move 6 (.tmp 13) (by kernel_rfl) (by decide)) hS0 ?_
  refine Pl.H.take 7 82 (.int .i64 ((k : Nat) : Int)) (by kernel_rfl) (by kernel_rfl) (by kernel_rfl) (Pl.guarded 7 5 80 false (by kernel_rfl) (by kernel_rfl) (by decide) rfl) (Pl.move 7 (.tmp 7) (by kernel_rfl) (by decide)) hS0 ?_
  refine Pl.H.take 8 83 (.int .i64 ((72 * k : Nat) : Int)) (by kernel_rfl) (by kernel_rfl) (by kernel_rfl) (Pl.guarded 8 5 80 false (by kernel_rfl) (by kernel_rfl) (by decide) rfl) (Pl.binV 8 .mul 3 3 (.const (.int .i64 72)) (.tmp 82) (.int .i64 72) (.int .i64 ((k : Nat) : Int)) _ (by kernel_rfl) (by decide) (by decide) rfl rfl (fun w => mul72 k hk _ _ w)) hS0 ?_
  refine Pl.H.take 9 84 (.int .i64 ((77 + 72 * k : Nat) : Int)) (by kernel_rfl) (by kernel_rfl) (by kernel_rfl) (Pl.guarded 9 5 80 false (by kernel_rfl) (by kernel_rfl) (by decide) rfl) (Pl.binV 9 .add 3 3 (.const (.int .i64 77)) (.tmp 83) (.int .i64 77) (.int .i64 ((72 * k : Nat) : Int)) _ (by kernel_rfl) (by decide) (by decide) rfl rfl (fun w => addC 77 (72 * k) (by omega) _ _ w)) hS0 ?_
  refine Pl.H.take 10 85 (.bool false) (by kernel_rfl) (by kernel_rfl) (by kernel_rfl) (Pl.guarded 10 5 80 false (by kernel_rfl) (by kernel_rfl) (by decide) rfl) (Pl.binV 10 .geq 3 3 (.tmp 81) (.tmp 84) (.int .i64 ((i : Nat) : Int)) (.int .i64 ((77 + 72 * k : Nat) : Int)) _ (by kernel_rfl) (by decide) (by decide) rfl rfl (fun w => geqFC i (77 + 72 * k) _ _ (by omega) w)) hS0 ?_
  refine Pl.H.take 11 86 (.bool false) (by kernel_rfl) (by kernel_rfl) (by kernel_rfl) (Pl.free 11 (by kernel_rfl)) (Pl.pickF 11 (.tmp 80) (.const (.bool true)) (.tmp 85) (by kernel_rfl) (by decide) (by decide) rfl) hS0 ?_
  refine Pl.H.take 12 87 (.bool false) (by kernel_rfl) (by kernel_rfl) (by kernel_rfl) (Pl.free 12 (by kernel_rfl)) (Pl.move 12 (.tmp 86) (by kernel_rfl) (by decide)) hS0 ?_
  refine Pl.H.skip 13 88 (by kernel_rfl) (by kernel_rfl) (by kernel_rfl) (Pl.unwanted 13 12 87 true (by kernel_rfl) (by kernel_rfl) (by decide) rfl) hS0 ?_
  refine Pl.H.skip 14 89 (by kernel_rfl) (by kernel_rfl) (by kernel_rfl) (Pl.unwanted 14 12 87 true (by kernel_rfl) (by kernel_rfl) (by decide) rfl) hS0 ?_
  refine Pl.H.skip 15 90 (by kernel_rfl) (by kernel_rfl) (by kernel_rfl) (Pl.unwanted 15 12 87 true (by kernel_rfl) (by kernel_rfl) (by decide) rfl) hS0 ?_
  refine Pl.H.skip 16 91 (by kernel_rfl) (by kernel_rfl) (by kernel_rfl) (Pl.unwanted 16 12 87 true (by kernel_rfl) (by kernel_rfl) (by decide) rfl) hS0 ?_
  refine Pl.H.skip 17 92 (by kernel_rfl) (by kernel_rfl) (by kernel_rfl) (Pl.unwanted 17 12 87 true (by kernel_rfl) (by kernel_rfl) (by decide) rfl) hS0 ?_
  refine Pl.H.skip 18 93 (by kernel_rfl) (by kernel_rfl) (by kernel_rfl) (Pl.unwanted 18 12 87 true (by kernel_rfl) (by kernel_rfl) (by decide) rfl) hS0 ?_
  refine Pl.H.skip 19 94 (by kernel_rfl) (by kernel_rfl) (by kernel_rfl) (Pl.unwanted 19 12 87 true (by kernel_rfl) (by kernel_rfl) (by decide) rfl) hS0 ?_
  refine Pl.H.skip 20 95 (by kernel_rfl) (by kernel_rfl) (by kernel_rfl) (Pl.unwanted 20 12 87 true (by kernel_rfl) (by kernel_rfl) (by decide) rfl) hS0 ?_
  refine Pl.H.skip 21 96 (by kernel_rfl) (by kernel_rfl) (by kernel_rfl) (Pl.unwanted 21 12 87 true (by kernel_rfl) (by kernel_rfl) (by decide) rfl) hS0 ?_
  refine Pl.H.take 22 97 (.bool false) (by kernel_rfl) (by kernel_rfl) (by kernel_rfl) (Pl.free 22 (by kernel_rfl)) (Pl.pickF 22 (.tmp 87) (.tmp 96) (.const (.bool false)) (by kernel_rfl) (by decide) (by decide) rfl) hS0 ?_
  refine Pl.H.done (by kernel_rfl) (fun A' hA' => ?_)
  rw [Pl.At.ext hA' (((((((((((((((((((((((hA.put 75 _).put 76 _).put 77 _).put 78 _).put 79 _).put 80 _).put 81 _).put 82 _).put 83 _).put 84 _).put 85 _).put 86 _).put 87 _).put 88 _).put 89 _).put 90 _).put 91 _).put 92 _).put 93 _).put 94 _).put 95 _).put 96 _).put 97 _)]
  exact hend (fun d => if d = 75 then .int .i64 ((i : Nat) : Int) else if d = 76 then .int .i64 ((k : Nat) : Int) else if d = 77 then .int .i64 ((72 * k : Nat) : Int) else if d = 78 then .int .i64 ((5 + 72 * k : Nat) : Int) else if d = 79 then .bool false else if d = 80 then .bool false else if d = 81 then .int .i64 ((i : Nat) : Int) else if d = 82 then .int .i64 ((k : Nat) : Int) else if d = 83 then .int .i64 ((72 * k : Nat) : Int) else if d = 84 then .int .i64 ((77 + 72 * k : Nat) : Int) else if d = 85 then .bool false else if d = 86 then .bool false else if d = 87 then .bool false else if d = 88 then undef else if d = 89 then undef else if d = 90 then undef else if d = 91 then undef else if d = 92 then undef else if d = 93 then undef else if d = 94 then undef else if d = 95 then undef else if d = 96 then undef else undef) _ hS0

set_option maxHeartbeats 8000000 in
set_option maxRecDepth 100000 in
theorem oneC_walk (HEnc : EncC) (HA : ∀ w, Calls Try.prog 7 #[] w fun e w' => e = .returned (.bool true) ∧ Below w.heap.size w w') (a : Option Addr) (len cap : Nat) (l : List Ux) (n : Nat) (hn : n < 256) (U : Un) (ua : Option Addr) (un uc : Nat) (w : World) (h : Us w a len l) (hlen : len ≤ 9223372036854775807) (hU : Fs w ua un uc U.row.xs) (fU : U.fits) :
    Calls Try.prog 6 #[.slice a len cap, .int .u8 ((n : Nat) : Int), U.val (.slice ua un uc)] w fun e w' => e = .returned (.bool true) ∧ Below w.heap.size w w' := by
  have H := hide h
  have HAW := hide HA
  have HEN := hide HEnc
  have HX0 := hide (unBlk_new w U (.slice ua un uc))
  have HW0 := hide (below_alloc w (.cells #[.int .i64 U.tx, .int .i64 U.no, .int .i64 U.prev, .int .i64 U.kind, .int .i64 U.page, .int .i64 U.slot, .float .f64 U.row.key, .bool U.row.dead, .slice ua un uc, .int .i64 U.row.wr, .int .i64 U.row.cell, .int .i64 U.row.no] 30))
  have HFU := hide hU
  have HFit := hide fU
  have hunb := hU.big
  clear h HA HEnc hU fU
  by_cases h9 : 9 < len
  · have j1 : (9 : Int) < ((len : Nat) : Int) := by omega
    unfold Un.val
    go_enter Try.func6, Try.ntmps6
    go_wp2_with fail
    refine (HAW.out _).mono ?_
    rintro e wz ⟨rfl, hbz⟩
    have HWZ := hide (rBelow HW0.out hbz)
    clear hbz
    go_wp2_with fail
    go_ret
    exact ⟨rfl, HWZ.out⟩
  have j1 : ¬ (9 : Int) < ((len : Nat) : Int) := by omega
  by_cases h20 : 20 < un
  · have j2 : (20 : Int) < ((un : Nat) : Int) := by omega
    unfold Un.val
    go_enter Try.func6, Try.ntmps6
    go_wp2_with fail
    refine (HAW.out _).mono ?_
    rintro e wz ⟨rfl, hbz⟩
    have HWZ := hide (rBelow HW0.out hbz)
    clear hbz
    go_wp2_with fail
    go_ret
    exact ⟨rfl, HWZ.out⟩
  have j2 : ¬ (20 : Int) < ((un : Nat) : Int) := by omega
  cases hm : MayC (uns l)
  · have HM := hide (mayCIs hm a len cap _ (H.out.keep HW0.out (Nat.le_refl _)) hlen)
    clear hm
    unfold Un.val
    go_enter Try.func6, Try.ntmps6
    go_wp2_with fail
    refine HM.out.mono ?_
    rintro e w1 ⟨rfl, hb1⟩
    have HW1 := hide (rBelow HW0.out hb1)
    clear hb1
    go_wp2_with fail
    refine (HAW.out _).mono ?_
    rintro e wz ⟨rfl, hbz⟩
    have HWZ := hide (rBelow HW1.out hbz)
    clear hbz
    go_wp2_with fail
    go_ret
    exact ⟨rfl, HWZ.out⟩
  have HM := hide (mayCIs hm a len cap _ (H.out.keep HW0.out (Nat.le_refl _)) hlen)
  have HMay := hide hm
  cases hmu : U.may
  · have HMU := hide (fun w' (hb : Below w.heap.size w w') => mayIsU U _ hmu ua un uc w' (HFU.out.keep hb (Nat.le_refl _)) HFit.out.row)
    clear hm hmu
    unfold Un.val at HMU ⊢
    go_enter Try.func6, Try.ntmps6
    go_wp2_with fail
    refine HM.out.mono ?_
    rintro e w1 ⟨rfl, hb1⟩
    have HW1 := hide (rBelow HW0.out hb1)
    have HX1 := hide (HX0.out.keep hb1)
    have x0 := HX1.out.c0
    have x1 := HX1.out.c1
    have x2 := HX1.out.c2
    have x3 := HX1.out.c3
    have x4 := HX1.out.c4
    have x5 := HX1.out.c5
    have x6 := HX1.out.c6
    have x7 := HX1.out.c7
    have x8 := HX1.out.c8
    have x9 := HX1.out.c9
    have x10 := HX1.out.c10
    have x11 := HX1.out.c11
    clear hb1
    go_wp2_with fail
    refine (HMU.out _ HW1.out).mono ?_
    rintro e w2 ⟨rfl, hb2⟩
    have HW2 := hide (rBelow HW1.out hb2)
    clear hb2 x0 x1 x2 x3 x4 x5 x6 x7 x8 x9 x10 x11
    go_wp2_with fail
    refine (HAW.out _).mono ?_
    rintro e wz ⟨rfl, hbz⟩
    have HWZ := hide (rBelow HW2.out hbz)
    clear hbz
    go_wp2_with fail
    go_ret
    exact ⟨rfl, HWZ.out⟩
  have HMU := hide (fun w' (hb : Below w.heap.size w w') => mayIsU U _ hmu ua un uc w' (HFU.out.keep hb (Nat.le_refl _)) HFit.out.row)
  have HUIn : Hid (U.inC = true) := Un.may_inC hmu
  have h6 : len = 6 := by rw [← H.out.len, ← uns_len]; exact (MayC.parts hm).2
  subst h6
  obtain ⟨k, hk⟩ : ∃ k, k = n % 6 := ⟨_, rfl⟩
  have hk6 : k < 6 := by omega
  have hrem : ((n : Nat) : Int).tmod 6 = ((k : Nat) : Int) := by
    rw [hk]
    have : ((n : Nat) : Int).tmod 6 = ((n : Nat) : Int) % 6 := Int.tmod_eq_emod_of_nonneg (by omega)
    rw [this]
    omega
  clear hm hmu hk
  unfold Un.val at HMU ⊢
  go_enter Try.func6, Try.ntmps6
  go_wp2_with fail
  refine HM.out.mono ?_
  rintro e w1 ⟨rfl, hb1⟩
  have HW1 := hide (rBelow HW0.out hb1)
  have HX1 := hide (HX0.out.keep hb1)
  have x0 := HX1.out.c0
  have x1 := HX1.out.c1
  have x2 := HX1.out.c2
  have x3 := HX1.out.c3
  have x4 := HX1.out.c4
  have x5 := HX1.out.c5
  have x6 := HX1.out.c6
  have x7 := HX1.out.c7
  have x8 := HX1.out.c8
  have x9 := HX1.out.c9
  have x10 := HX1.out.c10
  have x11 := HX1.out.c11
  clear hb1
  go_wp2_with fail
  refine (HMU.out _ HW1.out).mono ?_
  rintro e w2 ⟨rfl, hb2⟩
  have HW2 := hide (rBelow HW1.out hb2)
  have HX2 := hide (HX1.out.keep hb2)
  clear hb2 x0 x1 x2 x3 x4 x5 x6 x7 x8 x9 x10 x11
  obtain ⟨s3, w3, hr3, hu3, hb3, hn3⟩ := Ud.copy (cap := cap) H.out HW2.out (by decide) (by decide)
  have hl3 : s3.len = 6 := by rw [← hu3.len, H.out.len]
  have HX3 := hide (HX2.out.keep hb3)
  obtain ⟨b3, o3, ha3, _⟩ := hu3.us.at' 0 (by omega)
  have hU3 : Col w w3 ⟨U, ua, un, uc⟩ := Col.old HFU.out hu3.below
  obtain ⟨w4, hs4, hu4, _⟩ := hu3.set ha3 k (by rw [H.out.len]; exact hk6) ⟨U, ua, un, uc⟩ hU3 HFit.out
  have hmm : MayC (uns (l.set k ⟨U, ua, un, uc⟩)) = true := by rw [uns_set]; exact mayC_set HMay.out HUIn.out k
  have HLD := hide (load_un _ _ _ ⟨_, _, _, rfl⟩ _ HX3.out)
  have HR3 := hide hr3
  have HS4 := hide hs4
  have HU4 := hide hu4
  have HMM := hide hmm
  obtain ⟨sa, sn, sc⟩ := s3
  simp only at hl3 ha3
  subst hl3
  subst ha3
  have HE1 := hide (encC_yes HEN.out a 6 cap l w4 (H.out.keep hu4.below (Nat.le_refl _)) (by decide) HMay.out)
  unfold Sl.val at HR3
  unfold Ux.val at HS4
  unfold Un.val at HLD HS4
  simp only at HR3 HS4 HLD
  clear hr3 hu3 hb3 hn3 hU3 hs4 hu4 hmm HM HMU
  go_wp2_with (first | (at_builtin; refine wpList_append_run _ rfl 22 (.tmp 38) (.tmp 39) rfl (.slice (some ⟨w2.heap.size, 0, none⟩) 0 0) (.slice a 6 cap) (.slice (some ⟨b3, o3, none⟩) 6 sc) rfl rfl w3 HR3.out ?_) | refine wpList_load _ rfl 30 (.tmp 5) rfl (.pointer (some ⟨w.heap.size, 0, none⟩)) (.agg #[.int .i64 U.tx, .int .i64 U.no, .int .i64 U.prev, .int .i64 U.kind, .int .i64 U.page, .int .i64 U.slot, .float .f64 U.row.key, .bool U.row.dead, .slice ua un uc, .int .i64 U.row.wr, .int .i64 U.row.cell, .int .i64 U.row.no]) rfl HLD.out ?_ | refine wpList_store _ rfl rfl 30 (.tmp 44) (.tmp 43) rfl (.pointer (some ⟨b3, o3 + k * 12, none⟩)) (.agg #[.int .i64 U.tx, .int .i64 U.no, .int .i64 U.prev, .int .i64 U.kind, .int .i64 U.page, .int .i64 U.slot, .float .f64 U.row.key, .bool U.row.dead, .slice ua un uc, .int .i64 U.row.wr, .int .i64 U.row.cell, .int .i64 U.row.no]) rfl rfl w4 HS4.out ?_)
  refine HE1.out.mono ?_
  rintro e w5 ⟨ya, yc, rfl, hb5, hy5⟩
  have HU5 := hide (HU4.out.keep hb5)
  have HY5 := hide hy5
  have hus5 : Us w5 (some ⟨b3, o3, none⟩) 6 (l.set k ⟨U, ua, un, uc⟩) := HU5.out.us
  have HE2 := hide (encC_yes HEN.out (some ⟨b3, o3, none⟩) 6 sc _ w5 hus5 (by decide) HMM.out)
  clear hb5 hy5 hus5 HE1 HLD HR3 HS4
  go_wp2_with fail
  refine HE2.out.mono ?_
  rintro e w6 ⟨za, zc, rfl, hb6, hz6⟩
  have HW6 := hide (rBelow HU5.out.below hb6)
  have hy6 := (HY5.out.keep hb6 (Nat.le_refl _)).bs
  have hz6' := hz6.bs
  obtain ⟨b1, o1, rfl, _⟩ := hy6.2.2 0 (by decide)
  obtain ⟨b2, o2, rfl, _⟩ := hz6'.2.2 0 (by decide)
  have HY6 := hide hy6
  have HZ6 := hide hz6'
  have HEQ : Hid (∀ i, 4 ≤ i → (i < 5 + 72 * k ∨ 77 + 72 * k ≤ i) → (pageC (uns (l.set k ⟨U, ua, un, uc⟩))).getD i 0 = (pageC (uns l)).getD i 0) := fun i h4 hi => by
    rw [pageC_get _ i h4, pageC_get _ i h4, uns_set]
    exact textC_turn HMay.out HUIn.out hk6 (i - 4) (by omega)
  clear hb6 hy6 hz6 hz6' HE2
  go_wp2_with fail
  go_loopw [13] (fun iv wr => ∃ i : Nat, 4 ≤ i ∧ i ≤ 512 ∧ iv = .int .i64 (i : Nat) ∧ Hid (Below w6.heap.size w6 wr)) (fun iv _ => 512 - (intOf iv).toNat)
  case atStart => exact ⟨4, by omega, by omega, rfl, Below.refl _ _⟩
  case round =>
    obtain ⟨i, h4, hi, rfl, hWr⟩ := hrel
    rcases Nat.lt_or_ge i 512 with hlt | hge
    · have j3 : ((i : Nat) : Int) < 512 := by omega
      have HYr := hide (HY6.out.keep hWr.out (Nat.le_refl _))
      have HZr := hide (HZ6.out.keep hWr.out (Nat.le_refl _))
      go_wp2_with fail
      refine Pl.region_is (ops := Pl.find 13 ((Try.f6.body).getD .skip)) (by kernel_rfl) ?_
      by_cases c1 : i < 5 + 72 * k
      · refine one13a wr wr k i (by omega) hlt b1 o1 yc b2 o2 zc _ _ _ HYr.out HZr.out rfl (HEQ.out i h4 (.inl c1)) c1 (Below.refl _ _) (by rfl) (by rfl) (by rfl) (by rfl) (by rfl) (by rfl) ?_
        intro u w7 hb7
        simp only [Act.put, List.setIfInBounds_toArray, List.set_cons_zero, List.set_cons_succ]
        have HB7 := hide (rBelow hWr.out hb7)
        clear hb7 c1
        go_wp2_with fail
        go_roundw
        case rel => exact ⟨i + 1, by omega, by omega, by go_num, HB7⟩
        case measure => simp only [intOf]; omega
      · by_cases c2 : 77 + 72 * k ≤ i
        · refine one13b wr wr k i (by omega) hlt b1 o1 yc b2 o2 zc _ _ _ HYr.out HZr.out rfl (HEQ.out i h4 (.inr c2)) c2 (Below.refl _ _) (by rfl) (by rfl) (by rfl) (by rfl) (by rfl) (by rfl) ?_
          intro u w7 hb7
          simp only [Act.put, List.setIfInBounds_toArray, List.set_cons_zero, List.set_cons_succ]
          have HB7 := hide (rBelow hWr.out hb7)
          clear hb7 c1 c2
          go_wp2_with fail
          go_roundw
          case rel => exact ⟨i + 1, by omega, by omega, by go_num, HB7⟩
          case measure => simp only [intOf]; omega
        · refine one13c wr wr k i (by omega) hlt b1 o1 yc b2 o2 zc (by omega) (by omega) (Below.refl _ _) (by rfl) (by rfl) (by rfl) (by rfl) (by rfl) (by rfl) ?_
          intro u w7 hb7
          simp only [Act.put, List.setIfInBounds_toArray, List.set_cons_zero, List.set_cons_succ]
          have HB7 := hide (rBelow hWr.out hb7)
          clear hb7 c1 c2
          go_wp2_with fail
          go_roundw
          case rel => exact ⟨i + 1, by omega, by omega, by go_num, HB7⟩
          case measure => simp only [intOf]; omega
    · have j3 : ¬ ((i : Nat) : Int) < 512 := by omega
      have HW7 := hide (rBelow HW6.out hWr.out)
      go_wp2_with fail
      refine (HAW.out _).mono ?_
      rintro e wz ⟨rfl, hbz⟩
      have HWZ := hide (rBelow HW7.out hbz)
      clear hbz
      go_wp2_with fail
      go_ret
      exact ⟨rfl, HWZ.out⟩

end Go.Proofs.Ytnhhapipadiffaa
