/-
  ViewSees: its drawn statement, its walk. (Written by gen_vwj.py.)
-/
import Derived.Test.YtehmemfeagjagaaVwI
import Derived.Test.YtehmemfeagjagaaPlanF
namespace Go.Proofs.Ytehmemfeagjagaa
open Go.RowKit
set_option maxRecDepth 100000
set_option linter.unusedVariables false

theorem enters11 : ∀ args w, (callFunc 11 args).run Try.prog w = .ok (.enter 11 args) w := Pl.enters Try.func11 (by kernel_rfl) (by kernel_rfl)
theorem enters14 : ∀ args w, (callFunc 14 args).run Try.prog w = .ok (.enter 14 args) w := Pl.enters Try.func14 (by kernel_rfl) (by kernel_rfl)
theorem enters15 : ∀ args w, (callFunc 15 args).run Try.prog w = .ok (.enter 15 args) w := Pl.enters Try.func15 (by kernel_rfl) (by kernel_rfl)
theorem enters16 : ∀ args w, (callFunc 16 args).run Try.prog w = .ok (.enter 16 args) w := Pl.enters Try.func16 (by kernel_rfl) (by kernel_rfl)
theorem enters17 : ∀ args w, (callFunc 17 args).run Try.prog w = .ok (.enter 17 args) w := Pl.enters Try.func17 (by kernel_rfl) (by kernel_rfl)
theorem enters10 : ∀ args w, (callFunc 10 args).run Try.prog w = .ok (.enter 10 args) w := Pl.enters Try.func10 (by kernel_rfl) (by kernel_rfl)
theorem enters7 : ∀ args w, (callFunc 7 args).run Try.prog w = .ok (.enter 7 args) w := Pl.enters Try.func7 (by kernel_rfl) (by kernel_rfl)
theorem ldVw {w : World} {p : Nat} {v : Vw} {s : Sl} (k : VwBlk w p v s) : (Instr.loadAt 25 (.pointer (some ⟨p, 0, none⟩))).run Try.prog w = .ok (vwV v s) w := load_vw (b := p) (o := 0) k.c0 k.c1 k.c2
theorem eqErr (a b : Int) (x y : Operand) (w : World) : (do eqGuard .eql 26 x y (.int .i64 a) (.int .i64 b); binOp .eql 26 (.int .i64 a) (.int .i64 b) : Sem Value).run Try.prog w = .ok (.bool (decide (a = b))) w := by
  simp [go_sem, eqGuard]
  by_cases h : a = b <;> simp [h]
theorem eqBoo (b : Bool) (x y : Operand) (w : World) : (do eqGuard .eql 4 x y (.bool b) (.bool b); binOp .eql 4 (.bool b) (.bool b) : Sem Value).run Try.prog w = .ok (.bool true) w := by
  simp [go_sem, eqGuard]
theorem build2_vw (v u : Vw) (s t : Sl) (w : World) : (Instr.buildSlice 36 2 #[(0, vwV v s), (1, vwV u t)]).run Try.prog w = .ok (.slice (some ⟨w.heap.size, 0, none⟩) 2 2) (w.alloc (.cells #[.int .i64 v.self, .int .i64 v.next, s.val, .int .i64 u.self, .int .i64 u.next, t.val] 25)) := by
  have h22 : Try.prog.underlying 36 = some (.slice (Try.prog.elem 36)) := by kernel_rfl
  simp [go_sem, Instr.buildSlice, run_underlying h22, vwV, Sl.val]
theorem Pl.twoV {P : Program} {ops : Array Oper} {n : Nat} {f : Nat → Value} {w : World} (i : Nat) (t : TypeId) (x y : Operand) (v : Value) (w' : World) (h : (Pl.op ops i).op = .buildSlice t 2 #[(0, x), (1, y)]) (hx : Pl.inB n x = true) (hy : Pl.inB n y = true) (hv : (Instr.buildSlice t 2 #[(0, Pl.ev f x), (1, Pl.ev f y)]).run P w = .ok v w') :
    ∀ A, Pl.At n A f → (execOp A.eval (Pl.op ops i)).run P w = .ok (.value v) w' := by
  intro A hA
  have e : execOp A.eval (Pl.op ops i) = (do pure (.value (← Instr.buildSlice t 2 (Array.map (fun (p : Nat × Operand) => (p.1, A.eval p.2)) #[(0, x), (1, y)])))) := by
    unfold execOp
    rw [h]
  rw [e]
  simp [hA.ev x hx, hA.ev y hy, hv]

set_option maxHeartbeats 8000000 in
set_option maxRecDepth 100000 in
theorem sees5T (w : World) (g k : Nat) (v u : Vw) (s t : Sl) (hg : VwBlk w g v s) (hk : VwBlk w k u t) (x : Int) (q0 q r : Bool) (hCK : (∀ W, Below w.heap.size w W → Calls Try.prog 11 #[vwV v s] W fun e w' => e = .returned (.int .i64 0) ∧ Below W.heap.size W w')) (hSE : (∀ W, Below w.heap.size w W → Calls Try.prog 14 #[vwV v s, .int .i64 x] W fun e w' => e = .returned (.bool q0) ∧ Below W.heap.size W w')) (hRS : (∀ W, Below w.heap.size w W → Calls Try.prog 15 #[vwV v s, .int .i64 x] W fun e w' => e = .returned (.bool q0) ∧ Below W.heap.size W w')) (hAL : (∀ W, Below w.heap.size w W → Calls Try.prog 16 #[.slice (some ⟨W.heap.size, 0, none⟩) 2 2, .int .i64 x] (W.alloc (.cells #[.int .i64 v.self, .int .i64 v.next, s.val, .int .i64 u.self, .int .i64 u.next, t.val] 25)) fun e w' => e = .returned (.bool q) ∧ Below ((W.alloc (.cells #[.int .i64 v.self, .int .i64 v.next, s.val, .int .i64 u.self, .int .i64 u.next, t.val] 25))).heap.size (W.alloc (.cells #[.int .i64 v.self, .int .i64 v.next, s.val, .int .i64 u.self, .int .i64 u.next, t.val] 25)) w')) (hSM : (∀ W, Below w.heap.size w W → Calls Try.prog 17 #[vwV v s, vwV u t] W fun e w' => e = .returned (.bool r) ∧ Below W.heap.size W w')) (hRM : (∀ W, Below w.heap.size w W → Calls Try.prog 10 #[vwV v s, vwV u t] W fun e w' => e = .returned (.bool r) ∧ Below W.heap.size W w')) (hAW : (∀ W, Below w.heap.size w W → Calls Try.prog 7 #[] W fun e w' => e = .returned (.bool true) ∧ Below W.heap.size W w'))
    {Q : Exit → Act → World → Prop} {A : Act} (hsz : A.tmps.size = 65) (hdf : A.defers = []) (s3 : A.tmps.getD 3 undef = .pointer (some ⟨g, 0, none⟩)) (s4 : A.tmps.getD 4 undef = .pointer (some ⟨k, 0, none⟩)) (s2 : A.tmps.getD 2 undef = .int .i64 x) (s7 : A.tmps.getD 7 undef = .bool true) (s8 : A.tmps.getD 8 undef = .bool q)
    (hend : ∀ (u : Nat → Value) w', Below w.heap.size w w' → Q .normal ((((((((((((((((((((((((((((((((((((((((A).put (some 27) (u 27)).put (some 30) (u 30)).put (some 28) (u 28)).put (some 29) (u 29)).put (some 31) (u 31)).put (some 32) (u 32)).put (some 33) (u 33)).put (some 34) (u 34)).put (some 36) (u 36)).put (some 35) (u 35)).put (some 37) (u 37)).put (some 38) (u 38)).put (some 39) (u 39)).put (some 40) (u 40)).put (some 41) (u 41)).put (some 42) (u 42)).put (some 43) (u 43)).put (some 44) (u 44)).put (some 45) (u 45)).put (some 46) (u 46)).put (some 48) (u 48)).put (some 50) (u 50)).put (some 47) (u 47)).put (some 49) (u 49)).put (some 51) (u 51)).put (some 52) (u 52)).put (some 53) (u 53)).put (some 54) (u 54)).put (some 55) (u 55)).put (some 57) (u 57)).put (some 58) (u 58)).put (some 56) (u 56)).put (some 59) (u 59)).put (some 60) (u 60)).put (some 61) (u 61)).put (some 62) (u 62)).put (some 63) (u 63)).put (some 64) (u 64)).put (some 6) (.bool true)) w') :
    (Code.region 5 (Pl.find 5 ((Try.f4.body).getD .skip)) true).wp Try.prog Q A w := by
  have hS0 : Below w.heap.size w w.drew := below_drew w
  have hA := Pl.At.same (v := .bool q) (d := 8) (Pl.At.same (v := .bool true) (d := 7) (Pl.At.same (v := .int .i64 x) (d := 2) (Pl.At.same (v := .pointer (some ⟨k, 0, none⟩)) (d := 4) (Pl.At.same (v := .pointer (some ⟨g, 0, none⟩)) (d := 3) (Pl.At.here hsz hdf) s3) s4) s2) s7) s8
  refine Pl.H.start (S := fun w' => Below w.heap.size w w') (by kernel_rfl) hA hS0 ?_
  rw [show (Pl.find 5 ((Try.f4.body).getD .skip)).size = 39 by kernel_rfl]
  refine Pl.H.take 0 27 (vwV v s) (by kernel_rfl) (by kernel_rfl) (by kernel_rfl) (Pl.free 0 (by kernel_rfl)) (Pl.load 0 25 (.tmp 3) _ (by kernel_rfl) (by decide) (fun w' hS => ldVw (hg.keep hS))) hS0 ?_
  refine Pl.H.take 3 30 (.bool true) (by kernel_rfl) (by kernel_rfl) (by kernel_rfl) (Pl.free 3 (by kernel_rfl)) (Pl.move 3 (.tmp 7) (by kernel_rfl) (by decide)) hS0 ?_
  refine Pl.H.call 1 28 11 [(.tmp 27)] #[25] (by kernel_rfl) (by kernel_rfl) (by kernel_rfl) (Pl.free 1 (by kernel_rfl)) (by kernel_rfl) (by decide) enters11 (Calls.mono (hCK _ hS0) ?_)
  rintro e w1 ⟨rfl, hb1⟩
  have hS1 : Below w.heap.size w w1 := rBelow hS0 hb1
  refine ⟨.int .i64 0, rfl, hS1, ?_⟩
  refine Pl.H.take 2 29 (.bool true) (by kernel_rfl) (by kernel_rfl) (by kernel_rfl) (Pl.free 2 (by kernel_rfl)) (Pl.binV 2 .eql 26 26 (.tmp 28) (.const (.int .i64 0)) (.int .i64 0) (.int .i64 0) _ (by kernel_rfl) (by decide) (by decide) rfl rfl (fun w => (eqErr 0 0 _ _ w))) hS1 ?_
  refine Pl.H.take 4 31 (.bool true) (by kernel_rfl) (by kernel_rfl) (by kernel_rfl) (Pl.free 4 (by kernel_rfl)) (Pl.binV 4 .eql 4 4 (.tmp 29) (.tmp 30) (.bool true) (.bool true) _ (by kernel_rfl) (by decide) (by decide) rfl rfl (fun w => eqBoo true _ _ w)) hS1 ?_
  refine Pl.H.take 5 32 (.bool true) (by kernel_rfl) (by kernel_rfl) (by kernel_rfl) (Pl.free 5 (by kernel_rfl)) (Pl.move 5 (.tmp 31) (by kernel_rfl) (by decide)) hS1 ?_
  refine Pl.H.take 6 33 (vwV v s) (by kernel_rfl) (by kernel_rfl) (by kernel_rfl) (Pl.guarded 6 5 32 true (by kernel_rfl) (by kernel_rfl) (by decide) rfl) (Pl.load 6 25 (.tmp 3) _ (by kernel_rfl) (by decide) (fun w' hS => ldVw (hg.keep hS))) hS1 ?_
  refine Pl.H.take 7 34 (.int .i64 x) (by kernel_rfl) (by kernel_rfl) (by kernel_rfl) (Pl.guarded 7 5 32 true (by kernel_rfl) (by kernel_rfl) (by decide) rfl) (Pl.move 7 (.tmp 2) (by kernel_rfl) (by decide)) hS1 ?_
  refine Pl.H.take 9 36 (.bool true) (by kernel_rfl) (by kernel_rfl) (by kernel_rfl) (Pl.guarded 9 5 32 true (by kernel_rfl) (by kernel_rfl) (by decide) rfl) (Pl.move 9 (.tmp 7) (by kernel_rfl) (by decide)) hS1 ?_
  refine Pl.H.call 8 35 14 [(.tmp 33), (.tmp 34)] #[25, 3] (by kernel_rfl) (by kernel_rfl) (by kernel_rfl) (Pl.guarded 8 5 32 true (by kernel_rfl) (by kernel_rfl) (by decide) rfl) (by kernel_rfl) (by decide) enters14 (Calls.mono (hSE _ hS1) ?_)
  rintro e w8 ⟨rfl, hb8⟩
  have hS8 : Below w.heap.size w w8 := rBelow hS1 hb8
  refine ⟨.bool q0, rfl, hS8, ?_⟩
  refine Pl.H.take 10 37 (.bool true) (by kernel_rfl) (by kernel_rfl) (by kernel_rfl) (Pl.guarded 10 5 32 true (by kernel_rfl) (by kernel_rfl) (by decide) rfl) (Pl.move 10 (.tmp 36) (by kernel_rfl) (by decide)) hS8 ?_
  refine Pl.H.take 11 38 (vwV v s) (by kernel_rfl) (by kernel_rfl) (by kernel_rfl) (Pl.guarded 11 10 37 true (by kernel_rfl) (by kernel_rfl) (by decide) rfl) (Pl.load 11 25 (.tmp 3) _ (by kernel_rfl) (by decide) (fun w' hS => ldVw (hg.keep hS))) hS8 ?_
  refine Pl.H.take 12 39 (.int .i64 x) (by kernel_rfl) (by kernel_rfl) (by kernel_rfl) (Pl.guarded 12 10 37 true (by kernel_rfl) (by kernel_rfl) (by decide) rfl) (Pl.move 12 (.tmp 2) (by kernel_rfl) (by decide)) hS8 ?_
  refine Pl.H.call 13 40 15 [(.tmp 38), (.tmp 39)] #[25, 3] (by kernel_rfl) (by kernel_rfl) (by kernel_rfl) (Pl.guarded 13 10 37 true (by kernel_rfl) (by kernel_rfl) (by decide) rfl) (by kernel_rfl) (by decide) enters15 (Calls.mono (hRS _ hS8) ?_)
  rintro e w13 ⟨rfl, hb13⟩
  have hS13 : Below w.heap.size w w13 := rBelow hS8 hb13
  refine ⟨.bool q0, rfl, hS13, ?_⟩
  refine Pl.H.take 14 41 (.bool q0) (by kernel_rfl) (by kernel_rfl) (by kernel_rfl) (Pl.guarded 14 5 32 true (by kernel_rfl) (by kernel_rfl) (by decide) rfl) (Pl.pick 14 (.tmp 37) (.tmp 40) (.const (.bool false)) (by kernel_rfl) (by decide) (by decide) rfl) hS13 ?_
  refine Pl.H.take 15 42 (.bool true) (by kernel_rfl) (by kernel_rfl) (by kernel_rfl) (Pl.guarded 15 5 32 true (by kernel_rfl) (by kernel_rfl) (by decide) rfl) (Pl.binV 15 .eql 4 4 (.tmp 35) (.tmp 41) (.bool q0) (.bool q0) _ (by kernel_rfl) (by decide) (by decide) rfl rfl (fun w => eqBoo q0 _ _ w)) hS13 ?_
  refine Pl.H.take 16 43 (.bool true) (by kernel_rfl) (by kernel_rfl) (by kernel_rfl) (Pl.free 16 (by kernel_rfl)) (Pl.pick 16 (.tmp 32) (.tmp 42) (.const (.bool false)) (by kernel_rfl) (by decide) (by decide) rfl) hS13 ?_
  refine Pl.H.take 17 44 (.bool true) (by kernel_rfl) (by kernel_rfl) (by kernel_rfl) (Pl.free 17 (by kernel_rfl)) (Pl.move 17 (.tmp 43) (by kernel_rfl) (by decide)) hS13 ?_
  refine Pl.H.take 18 45 (vwV v s) (by kernel_rfl) (by kernel_rfl) (by kernel_rfl) (Pl.guarded 18 17 44 true (by kernel_rfl) (by kernel_rfl) (by decide) rfl) (Pl.load 18 25 (.tmp 3) _ (by kernel_rfl) (by decide) (fun w' hS => ldVw (hg.keep hS))) hS13 ?_
  refine Pl.H.take 19 46 (vwV u t) (by kernel_rfl) (by kernel_rfl) (by kernel_rfl) (Pl.guarded 19 17 44 true (by kernel_rfl) (by kernel_rfl) (by decide) rfl) (Pl.load 19 25 (.tmp 4) _ (by kernel_rfl) (by decide) (fun w' hS => ldVw (hk.keep hS))) hS13 ?_
  refine Pl.H.take 21 48 (.int .i64 x) (by kernel_rfl) (by kernel_rfl) (by kernel_rfl) (Pl.guarded 21 17 44 true (by kernel_rfl) (by kernel_rfl) (by decide) rfl) (Pl.move 21 (.tmp 2) (by kernel_rfl) (by decide)) hS13 ?_
  refine Pl.H.take 23 50 (.bool q) (by kernel_rfl) (by kernel_rfl) (by kernel_rfl) (Pl.guarded 23 17 44 true (by kernel_rfl) (by kernel_rfl) (by decide) rfl) (Pl.move 23 (.tmp 8) (by kernel_rfl) (by decide)) hS13 ?_
  have hSl : Below w.heap.size w (w13.alloc (.cells #[.int .i64 v.self, .int .i64 v.next, s.val, .int .i64 u.self, .int .i64 u.next, t.val] 25)) := rBelow hS13 (below_alloc w13 _)
  refine Pl.H.make 20 47 (.slice (some ⟨w13.heap.size, 0, none⟩) 2 2) (w13.alloc (.cells #[.int .i64 v.self, .int .i64 v.next, s.val, .int .i64 u.self, .int .i64 u.next, t.val] 25)) (by kernel_rfl) (by kernel_rfl) (by kernel_rfl) (Pl.guarded 20 17 44 true (by kernel_rfl) (by kernel_rfl) (by decide) rfl) (Pl.twoV 20 36 (.tmp 45) (.tmp 46) _ _ (by kernel_rfl) (by decide) (by decide) (build2_vw v u s t w13)) hSl ?_
  refine Pl.H.call 22 49 16 [(.tmp 47), (.tmp 48)] #[36, 3] (by kernel_rfl) (by kernel_rfl) (by kernel_rfl) (Pl.guarded 22 17 44 true (by kernel_rfl) (by kernel_rfl) (by decide) rfl) (by kernel_rfl) (by decide) enters16 (Calls.mono (hAL w13 hS13) ?_)
  rintro e w22 ⟨rfl, hb22⟩
  have hS22 : Below w.heap.size w w22 := rBelow hSl hb22
  refine ⟨.bool q, rfl, hS22, ?_⟩
  refine Pl.H.take 24 51 (.bool true) (by kernel_rfl) (by kernel_rfl) (by kernel_rfl) (Pl.guarded 24 17 44 true (by kernel_rfl) (by kernel_rfl) (by decide) rfl) (Pl.binV 24 .eql 4 4 (.tmp 49) (.tmp 50) (.bool q) (.bool q) _ (by kernel_rfl) (by decide) (by decide) rfl rfl (fun w => eqBoo q _ _ w)) hS22 ?_
  refine Pl.H.take 25 52 (.bool true) (by kernel_rfl) (by kernel_rfl) (by kernel_rfl) (Pl.free 25 (by kernel_rfl)) (Pl.pick 25 (.tmp 44) (.tmp 51) (.const (.bool false)) (by kernel_rfl) (by decide) (by decide) rfl) hS22 ?_
  refine Pl.H.take 26 53 (.bool true) (by kernel_rfl) (by kernel_rfl) (by kernel_rfl) (Pl.free 26 (by kernel_rfl)) (Pl.move 26 (.tmp 52) (by kernel_rfl) (by decide)) hS22 ?_
  refine Pl.H.take 27 54 (vwV v s) (by kernel_rfl) (by kernel_rfl) (by kernel_rfl) (Pl.guarded 27 26 53 true (by kernel_rfl) (by kernel_rfl) (by decide) rfl) (Pl.load 27 25 (.tmp 3) _ (by kernel_rfl) (by decide) (fun w' hS => ldVw (hg.keep hS))) hS22 ?_
  refine Pl.H.take 28 55 (vwV u t) (by kernel_rfl) (by kernel_rfl) (by kernel_rfl) (Pl.guarded 28 26 53 true (by kernel_rfl) (by kernel_rfl) (by decide) rfl) (Pl.load 28 25 (.tmp 4) _ (by kernel_rfl) (by decide) (fun w' hS => ldVw (hk.keep hS))) hS22 ?_
  refine Pl.H.take 30 57 (vwV v s) (by kernel_rfl) (by kernel_rfl) (by kernel_rfl) (Pl.guarded 30 26 53 true (by kernel_rfl) (by kernel_rfl) (by decide) rfl) (Pl.load 30 25 (.tmp 3) _ (by kernel_rfl) (by decide) (fun w' hS => ldVw (hg.keep hS))) hS22 ?_
  refine Pl.H.take 31 58 (vwV u t) (by kernel_rfl) (by kernel_rfl) (by kernel_rfl) (Pl.guarded 31 26 53 true (by kernel_rfl) (by kernel_rfl) (by decide) rfl) (Pl.load 31 25 (.tmp 4) _ (by kernel_rfl) (by decide) (fun w' hS => ldVw (hk.keep hS))) hS22 ?_
  refine Pl.H.call 29 56 17 [(.tmp 54), (.tmp 55)] #[25, 25] (by kernel_rfl) (by kernel_rfl) (by kernel_rfl) (Pl.guarded 29 26 53 true (by kernel_rfl) (by kernel_rfl) (by decide) rfl) (by kernel_rfl) (by decide) enters17 (Calls.mono (hSM _ hS22) ?_)
  rintro e w29 ⟨rfl, hb29⟩
  have hS29 : Below w.heap.size w w29 := rBelow hS22 hb29
  refine ⟨.bool r, rfl, hS29, ?_⟩
  refine Pl.H.call 32 59 10 [(.tmp 57), (.tmp 58)] #[25, 25] (by kernel_rfl) (by kernel_rfl) (by kernel_rfl) (Pl.guarded 32 26 53 true (by kernel_rfl) (by kernel_rfl) (by decide) rfl) (by kernel_rfl) (by decide) enters10 (Calls.mono (hRM _ hS29) ?_)
  rintro e w32 ⟨rfl, hb32⟩
  have hS32 : Below w.heap.size w w32 := rBelow hS29 hb32
  refine ⟨.bool r, rfl, hS32, ?_⟩
  refine Pl.H.take 33 60 (.bool true) (by kernel_rfl) (by kernel_rfl) (by kernel_rfl) (Pl.guarded 33 26 53 true (by kernel_rfl) (by kernel_rfl) (by decide) rfl) (Pl.binV 33 .eql 4 4 (.tmp 56) (.tmp 59) (.bool r) (.bool r) _ (by kernel_rfl) (by decide) (by decide) rfl rfl (fun w => eqBoo r _ _ w)) hS32 ?_
  refine Pl.H.take 34 61 (.bool true) (by kernel_rfl) (by kernel_rfl) (by kernel_rfl) (Pl.free 34 (by kernel_rfl)) (Pl.pick 34 (.tmp 53) (.tmp 60) (.const (.bool false)) (by kernel_rfl) (by decide) (by decide) rfl) hS32 ?_
  refine Pl.H.take 35 62 (.bool true) (by kernel_rfl) (by kernel_rfl) (by kernel_rfl) (Pl.free 35 (by kernel_rfl)) (Pl.move 35 (.tmp 61) (by kernel_rfl) (by decide)) hS32 ?_
  refine Pl.H.call 36 63 7 [] #[] (by kernel_rfl) (by kernel_rfl) (by kernel_rfl) (Pl.guarded 36 35 62 true (by kernel_rfl) (by kernel_rfl) (by decide) rfl) (by kernel_rfl) (by decide) enters7 (Calls.mono (hAW _ hS32) ?_)
  rintro e w36 ⟨rfl, hb36⟩
  have hS36 : Below w.heap.size w w36 := rBelow hS32 hb36
  refine ⟨.bool true, rfl, hS36, ?_⟩
  refine Pl.H.take 37 64 (.bool true) (by kernel_rfl) (by kernel_rfl) (by kernel_rfl) (Pl.free 37 (by kernel_rfl)) (Pl.pick 37 (.tmp 62) (.tmp 63) (.const (.bool false)) (by kernel_rfl) (by decide) (by decide) rfl) hS36 ?_
  refine Pl.H.take 38 6 (.bool true) (by kernel_rfl) (by kernel_rfl) (by kernel_rfl) (Pl.free 38 (by kernel_rfl)) (Pl.assign 38 (.tmp 64) (by kernel_rfl) (by decide)) hS36 ?_
  refine Pl.H.done (by kernel_rfl) (fun A' hA' => ?_)
  rw [Pl.At.ext hA' (((((((((((((((((((((((((((((((((((((((hA.put 27 _).put 30 _).put 28 _).put 29 _).put 31 _).put 32 _).put 33 _).put 34 _).put 36 _).put 35 _).put 37 _).put 38 _).put 39 _).put 40 _).put 41 _).put 42 _).put 43 _).put 44 _).put 45 _).put 46 _).put 48 _).put 50 _).put 47 _).put 49 _).put 51 _).put 52 _).put 53 _).put 54 _).put 55 _).put 57 _).put 58 _).put 56 _).put 59 _).put 60 _).put 61 _).put 62 _).put 63 _).put 64 _).put 6 _)]
  exact hend (fun d => if d = 27 then vwV v s else if d = 30 then .bool true else if d = 28 then .int .i64 0 else if d = 29 then .bool true else if d = 31 then .bool true else if d = 32 then .bool true else if d = 33 then vwV v s else if d = 34 then .int .i64 x else if d = 36 then .bool true else if d = 35 then .bool q0 else if d = 37 then .bool true else if d = 38 then vwV v s else if d = 39 then .int .i64 x else if d = 40 then .bool q0 else if d = 41 then .bool q0 else if d = 42 then .bool true else if d = 43 then .bool true else if d = 44 then .bool true else if d = 45 then vwV v s else if d = 46 then vwV u t else if d = 48 then .int .i64 x else if d = 50 then .bool q else if d = 47 then .slice (some ⟨w13.heap.size, 0, none⟩) 2 2 else if d = 49 then .bool q else if d = 51 then .bool true else if d = 52 then .bool true else if d = 53 then .bool true else if d = 54 then vwV v s else if d = 55 then vwV u t else if d = 57 then vwV v s else if d = 58 then vwV u t else if d = 56 then .bool r else if d = 59 then .bool r else if d = 60 then .bool true else if d = 61 then .bool true else if d = 62 then .bool true else if d = 63 then .bool true else if d = 64 then .bool true else undef) _ hS36

set_option maxHeartbeats 8000000 in
set_option maxRecDepth 100000 in
theorem sees5F (w : World) (g k : Nat) (v u : Vw) (s t : Sl) (hg : VwBlk w g v s) (hk : VwBlk w k u t) (x : Int) (q0 q r : Bool) (hCK : (∀ W, Below w.heap.size w W → Calls Try.prog 11 #[vwV v s] W fun e w' => e = .returned (.int .i64 1) ∧ Below W.heap.size W w')) (hSE : (∀ W, Below w.heap.size w W → Calls Try.prog 14 #[vwV v s, .int .i64 x] W fun e w' => e = .returned (.bool false) ∧ Below W.heap.size W w')) (hAL : (∀ W, Below w.heap.size w W → Calls Try.prog 16 #[.slice (some ⟨W.heap.size, 0, none⟩) 2 2, .int .i64 x] (W.alloc (.cells #[.int .i64 v.self, .int .i64 v.next, s.val, .int .i64 u.self, .int .i64 u.next, t.val] 25)) fun e w' => e = .returned (.bool q) ∧ Below ((W.alloc (.cells #[.int .i64 v.self, .int .i64 v.next, s.val, .int .i64 u.self, .int .i64 u.next, t.val] 25))).heap.size (W.alloc (.cells #[.int .i64 v.self, .int .i64 v.next, s.val, .int .i64 u.self, .int .i64 u.next, t.val] 25)) w')) (hSM : (∀ W, Below w.heap.size w W → Calls Try.prog 17 #[vwV v s, vwV u t] W fun e w' => e = .returned (.bool r) ∧ Below W.heap.size W w')) (hRM : (∀ W, Below w.heap.size w W → Calls Try.prog 10 #[vwV v s, vwV u t] W fun e w' => e = .returned (.bool r) ∧ Below W.heap.size W w')) (hAW : (∀ W, Below w.heap.size w W → Calls Try.prog 7 #[] W fun e w' => e = .returned (.bool true) ∧ Below W.heap.size W w'))
    {Q : Exit → Act → World → Prop} {A : Act} (hsz : A.tmps.size = 65) (hdf : A.defers = []) (s3 : A.tmps.getD 3 undef = .pointer (some ⟨g, 0, none⟩)) (s4 : A.tmps.getD 4 undef = .pointer (some ⟨k, 0, none⟩)) (s2 : A.tmps.getD 2 undef = .int .i64 x) (s7 : A.tmps.getD 7 undef = .bool false) (s8 : A.tmps.getD 8 undef = .bool q)
    (hend : ∀ (u : Nat → Value) w', Below w.heap.size w w' → Q .normal ((((((((((((((((((((((((((((((((((((((((A).put (some 27) (u 27)).put (some 30) (u 30)).put (some 28) (u 28)).put (some 29) (u 29)).put (some 31) (u 31)).put (some 32) (u 32)).put (some 33) (u 33)).put (some 34) (u 34)).put (some 36) (u 36)).put (some 35) (u 35)).put (some 37) (u 37)).put (some 38) (u 38)).put (some 39) (u 39)).put (some 40) (u 40)).put (some 41) (u 41)).put (some 42) (u 42)).put (some 43) (u 43)).put (some 44) (u 44)).put (some 45) (u 45)).put (some 46) (u 46)).put (some 48) (u 48)).put (some 50) (u 50)).put (some 47) (u 47)).put (some 49) (u 49)).put (some 51) (u 51)).put (some 52) (u 52)).put (some 53) (u 53)).put (some 54) (u 54)).put (some 55) (u 55)).put (some 57) (u 57)).put (some 58) (u 58)).put (some 56) (u 56)).put (some 59) (u 59)).put (some 60) (u 60)).put (some 61) (u 61)).put (some 62) (u 62)).put (some 63) (u 63)).put (some 64) (u 64)).put (some 6) (.bool true)) w') :
    (Code.region 5 (Pl.find 5 ((Try.f4.body).getD .skip)) true).wp Try.prog Q A w := by
  have hS0 : Below w.heap.size w w.drew := below_drew w
  have hA := Pl.At.same (v := .bool q) (d := 8) (Pl.At.same (v := .bool false) (d := 7) (Pl.At.same (v := .int .i64 x) (d := 2) (Pl.At.same (v := .pointer (some ⟨k, 0, none⟩)) (d := 4) (Pl.At.same (v := .pointer (some ⟨g, 0, none⟩)) (d := 3) (Pl.At.here hsz hdf) s3) s4) s2) s7) s8
  refine Pl.H.start (S := fun w' => Below w.heap.size w w') (by kernel_rfl) hA hS0 ?_
  rw [show (Pl.find 5 ((Try.f4.body).getD .skip)).size = 39 by kernel_rfl]
  refine Pl.H.take 0 27 (vwV v s) (by kernel_rfl) (by kernel_rfl) (by kernel_rfl) (Pl.free 0 (by kernel_rfl)) (Pl.load 0 25 (.tmp 3) _ (by kernel_rfl) (by decide) (fun w' hS => ldVw (hg.keep hS))) hS0 ?_
  refine Pl.H.take 3 30 (.bool false) (by kernel_rfl) (by kernel_rfl) (by kernel_rfl) (Pl.free 3 (by kernel_rfl)) (Pl.move 3 (.tmp 7) (by kernel_rfl) (by decide)) hS0 ?_
  refine Pl.H.call 1 28 11 [(.tmp 27)] #[25] (by kernel_rfl) (by kernel_rfl) (by kernel_rfl) (Pl.free 1 (by kernel_rfl)) (by kernel_rfl) (by decide) enters11 (Calls.mono (hCK _ hS0) ?_)
  rintro e w1 ⟨rfl, hb1⟩
  have hS1 : Below w.heap.size w w1 := rBelow hS0 hb1
  refine ⟨.int .i64 1, rfl, hS1, ?_⟩
  refine Pl.H.take 2 29 (.bool false) (by kernel_rfl) (by kernel_rfl) (by kernel_rfl) (Pl.free 2 (by kernel_rfl)) (Pl.binV 2 .eql 26 26 (.tmp 28) (.const (.int .i64 0)) (.int .i64 1) (.int .i64 0) _ (by kernel_rfl) (by decide) (by decide) rfl rfl (fun w => (eqErr 1 0 _ _ w))) hS1 ?_
  refine Pl.H.take 4 31 (.bool true) (by kernel_rfl) (by kernel_rfl) (by kernel_rfl) (Pl.free 4 (by kernel_rfl)) (Pl.binV 4 .eql 4 4 (.tmp 29) (.tmp 30) (.bool false) (.bool false) _ (by kernel_rfl) (by decide) (by decide) rfl rfl (fun w => eqBoo false _ _ w)) hS1 ?_
  refine Pl.H.take 5 32 (.bool true) (by kernel_rfl) (by kernel_rfl) (by kernel_rfl) (Pl.free 5 (by kernel_rfl)) (Pl.move 5 (.tmp 31) (by kernel_rfl) (by decide)) hS1 ?_
  refine Pl.H.take 6 33 (vwV v s) (by kernel_rfl) (by kernel_rfl) (by kernel_rfl) (Pl.guarded 6 5 32 true (by kernel_rfl) (by kernel_rfl) (by decide) rfl) (Pl.load 6 25 (.tmp 3) _ (by kernel_rfl) (by decide) (fun w' hS => ldVw (hg.keep hS))) hS1 ?_
  refine Pl.H.take 7 34 (.int .i64 x) (by kernel_rfl) (by kernel_rfl) (by kernel_rfl) (Pl.guarded 7 5 32 true (by kernel_rfl) (by kernel_rfl) (by decide) rfl) (Pl.move 7 (.tmp 2) (by kernel_rfl) (by decide)) hS1 ?_
  refine Pl.H.take 9 36 (.bool false) (by kernel_rfl) (by kernel_rfl) (by kernel_rfl) (Pl.guarded 9 5 32 true (by kernel_rfl) (by kernel_rfl) (by decide) rfl) (Pl.move 9 (.tmp 7) (by kernel_rfl) (by decide)) hS1 ?_
  refine Pl.H.call 8 35 14 [(.tmp 33), (.tmp 34)] #[25, 3] (by kernel_rfl) (by kernel_rfl) (by kernel_rfl) (Pl.guarded 8 5 32 true (by kernel_rfl) (by kernel_rfl) (by decide) rfl) (by kernel_rfl) (by decide) enters14 (Calls.mono (hSE _ hS1) ?_)
  rintro e w8 ⟨rfl, hb8⟩
  have hS8 : Below w.heap.size w w8 := rBelow hS1 hb8
  refine ⟨.bool false, rfl, hS8, ?_⟩
  refine Pl.H.take 10 37 (.bool false) (by kernel_rfl) (by kernel_rfl) (by kernel_rfl) (Pl.guarded 10 5 32 true (by kernel_rfl) (by kernel_rfl) (by decide) rfl) (Pl.move 10 (.tmp 36) (by kernel_rfl) (by decide)) hS8 ?_
  refine Pl.H.skip 11 38 (by kernel_rfl) (by kernel_rfl) (by kernel_rfl) (Pl.unwanted 11 10 37 true (by kernel_rfl) (by kernel_rfl) (by decide) rfl) hS8 ?_
  refine Pl.H.skip 12 39 (by kernel_rfl) (by kernel_rfl) (by kernel_rfl) (Pl.unwanted 12 10 37 true (by kernel_rfl) (by kernel_rfl) (by decide) rfl) hS8 ?_
  refine Pl.H.skip 13 40 (by kernel_rfl) (by kernel_rfl) (by kernel_rfl) (Pl.unwanted 13 10 37 true (by kernel_rfl) (by kernel_rfl) (by decide) rfl) hS8 ?_
  refine Pl.H.take 14 41 (.bool false) (by kernel_rfl) (by kernel_rfl) (by kernel_rfl) (Pl.guarded 14 5 32 true (by kernel_rfl) (by kernel_rfl) (by decide) rfl) (Pl.pickF 14 (.tmp 37) (.tmp 40) (.const (.bool false)) (by kernel_rfl) (by decide) (by decide) rfl) hS8 ?_
  refine Pl.H.take 15 42 (.bool true) (by kernel_rfl) (by kernel_rfl) (by kernel_rfl) (Pl.guarded 15 5 32 true (by kernel_rfl) (by kernel_rfl) (by decide) rfl) (Pl.binV 15 .eql 4 4 (.tmp 35) (.tmp 41) (.bool false) (.bool false) _ (by kernel_rfl) (by decide) (by decide) rfl rfl (fun w => eqBoo false _ _ w)) hS8 ?_
  refine Pl.H.take 16 43 (.bool true) (by kernel_rfl) (by kernel_rfl) (by kernel_rfl) (Pl.free 16 (by kernel_rfl)) (Pl.pick 16 (.tmp 32) (.tmp 42) (.const (.bool false)) (by kernel_rfl) (by decide) (by decide) rfl) hS8 ?_
  refine Pl.H.take 17 44 (.bool true) (by kernel_rfl) (by kernel_rfl) (by kernel_rfl) (Pl.free 17 (by kernel_rfl)) (Pl.move 17 (.tmp 43) (by kernel_rfl) (by decide)) hS8 ?_
  refine Pl.H.take 18 45 (vwV v s) (by kernel_rfl) (by kernel_rfl) (by kernel_rfl) (Pl.guarded 18 17 44 true (by kernel_rfl) (by kernel_rfl) (by decide) rfl) (Pl.load 18 25 (.tmp 3) _ (by kernel_rfl) (by decide) (fun w' hS => ldVw (hg.keep hS))) hS8 ?_
  refine Pl.H.take 19 46 (vwV u t) (by kernel_rfl) (by kernel_rfl) (by kernel_rfl) (Pl.guarded 19 17 44 true (by kernel_rfl) (by kernel_rfl) (by decide) rfl) (Pl.load 19 25 (.tmp 4) _ (by kernel_rfl) (by decide) (fun w' hS => ldVw (hk.keep hS))) hS8 ?_
  refine Pl.H.take 21 48 (.int .i64 x) (by kernel_rfl) (by kernel_rfl) (by kernel_rfl) (Pl.guarded 21 17 44 true (by kernel_rfl) (by kernel_rfl) (by decide) rfl) (Pl.move 21 (.tmp 2) (by kernel_rfl) (by decide)) hS8 ?_
  refine Pl.H.take 23 50 (.bool q) (by kernel_rfl) (by kernel_rfl) (by kernel_rfl) (Pl.guarded 23 17 44 true (by kernel_rfl) (by kernel_rfl) (by decide) rfl) (Pl.move 23 (.tmp 8) (by kernel_rfl) (by decide)) hS8 ?_
  have hSl : Below w.heap.size w (w8.alloc (.cells #[.int .i64 v.self, .int .i64 v.next, s.val, .int .i64 u.self, .int .i64 u.next, t.val] 25)) := rBelow hS8 (below_alloc w8 _)
  refine Pl.H.make 20 47 (.slice (some ⟨w8.heap.size, 0, none⟩) 2 2) (w8.alloc (.cells #[.int .i64 v.self, .int .i64 v.next, s.val, .int .i64 u.self, .int .i64 u.next, t.val] 25)) (by kernel_rfl) (by kernel_rfl) (by kernel_rfl) (Pl.guarded 20 17 44 true (by kernel_rfl) (by kernel_rfl) (by decide) rfl) (Pl.twoV 20 36 (.tmp 45) (.tmp 46) _ _ (by kernel_rfl) (by decide) (by decide) (build2_vw v u s t w8)) hSl ?_
  refine Pl.H.call 22 49 16 [(.tmp 47), (.tmp 48)] #[36, 3] (by kernel_rfl) (by kernel_rfl) (by kernel_rfl) (Pl.guarded 22 17 44 true (by kernel_rfl) (by kernel_rfl) (by decide) rfl) (by kernel_rfl) (by decide) enters16 (Calls.mono (hAL w8 hS8) ?_)
  rintro e w22 ⟨rfl, hb22⟩
  have hS22 : Below w.heap.size w w22 := rBelow hSl hb22
  refine ⟨.bool q, rfl, hS22, ?_⟩
  refine Pl.H.take 24 51 (.bool true) (by kernel_rfl) (by kernel_rfl) (by kernel_rfl) (Pl.guarded 24 17 44 true (by kernel_rfl) (by kernel_rfl) (by decide) rfl) (Pl.binV 24 .eql 4 4 (.tmp 49) (.tmp 50) (.bool q) (.bool q) _ (by kernel_rfl) (by decide) (by decide) rfl rfl (fun w => eqBoo q _ _ w)) hS22 ?_
  refine Pl.H.take 25 52 (.bool true) (by kernel_rfl) (by kernel_rfl) (by kernel_rfl) (Pl.free 25 (by kernel_rfl)) (Pl.pick 25 (.tmp 44) (.tmp 51) (.const (.bool false)) (by kernel_rfl) (by decide) (by decide) rfl) hS22 ?_
  refine Pl.H.take 26 53 (.bool true) (by kernel_rfl) (by kernel_rfl) (by kernel_rfl) (Pl.free 26 (by kernel_rfl)) (Pl.move 26 (.tmp 52) (by kernel_rfl) (by decide)) hS22 ?_
  refine Pl.H.take 27 54 (vwV v s) (by kernel_rfl) (by kernel_rfl) (by kernel_rfl) (Pl.guarded 27 26 53 true (by kernel_rfl) (by kernel_rfl) (by decide) rfl) (Pl.load 27 25 (.tmp 3) _ (by kernel_rfl) (by decide) (fun w' hS => ldVw (hg.keep hS))) hS22 ?_
  refine Pl.H.take 28 55 (vwV u t) (by kernel_rfl) (by kernel_rfl) (by kernel_rfl) (Pl.guarded 28 26 53 true (by kernel_rfl) (by kernel_rfl) (by decide) rfl) (Pl.load 28 25 (.tmp 4) _ (by kernel_rfl) (by decide) (fun w' hS => ldVw (hk.keep hS))) hS22 ?_
  refine Pl.H.take 30 57 (vwV v s) (by kernel_rfl) (by kernel_rfl) (by kernel_rfl) (Pl.guarded 30 26 53 true (by kernel_rfl) (by kernel_rfl) (by decide) rfl) (Pl.load 30 25 (.tmp 3) _ (by kernel_rfl) (by decide) (fun w' hS => ldVw (hg.keep hS))) hS22 ?_
  refine Pl.H.take 31 58 (vwV u t) (by kernel_rfl) (by kernel_rfl) (by kernel_rfl) (Pl.guarded 31 26 53 true (by kernel_rfl) (by kernel_rfl) (by decide) rfl) (Pl.load 31 25 (.tmp 4) _ (by kernel_rfl) (by decide) (fun w' hS => ldVw (hk.keep hS))) hS22 ?_
  refine Pl.H.call 29 56 17 [(.tmp 54), (.tmp 55)] #[25, 25] (by kernel_rfl) (by kernel_rfl) (by kernel_rfl) (Pl.guarded 29 26 53 true (by kernel_rfl) (by kernel_rfl) (by decide) rfl) (by kernel_rfl) (by decide) enters17 (Calls.mono (hSM _ hS22) ?_)
  rintro e w29 ⟨rfl, hb29⟩
  have hS29 : Below w.heap.size w w29 := rBelow hS22 hb29
  refine ⟨.bool r, rfl, hS29, ?_⟩
  refine Pl.H.call 32 59 10 [(.tmp 57), (.tmp 58)] #[25, 25] (by kernel_rfl) (by kernel_rfl) (by kernel_rfl) (Pl.guarded 32 26 53 true (by kernel_rfl) (by kernel_rfl) (by decide) rfl) (by kernel_rfl) (by decide) enters10 (Calls.mono (hRM _ hS29) ?_)
  rintro e w32 ⟨rfl, hb32⟩
  have hS32 : Below w.heap.size w w32 := rBelow hS29 hb32
  refine ⟨.bool r, rfl, hS32, ?_⟩
  refine Pl.H.take 33 60 (.bool true) (by kernel_rfl) (by kernel_rfl) (by kernel_rfl) (Pl.guarded 33 26 53 true (by kernel_rfl) (by kernel_rfl) (by decide) rfl) (Pl.binV 33 .eql 4 4 (.tmp 56) (.tmp 59) (.bool r) (.bool r) _ (by kernel_rfl) (by decide) (by decide) rfl rfl (fun w => eqBoo r _ _ w)) hS32 ?_
  refine Pl.H.take 34 61 (.bool true) (by kernel_rfl) (by kernel_rfl) (by kernel_rfl) (Pl.free 34 (by kernel_rfl)) (Pl.pick 34 (.tmp 53) (.tmp 60) (.const (.bool false)) (by kernel_rfl) (by decide) (by decide) rfl) hS32 ?_
  refine Pl.H.take 35 62 (.bool true) (by kernel_rfl) (by kernel_rfl) (by kernel_rfl) (Pl.free 35 (by kernel_rfl)) (Pl.move 35 (.tmp 61) (by kernel_rfl) (by decide)) hS32 ?_
  refine Pl.H.call 36 63 7 [] #[] (by kernel_rfl) (by kernel_rfl) (by kernel_rfl) (Pl.guarded 36 35 62 true (by kernel_rfl) (by kernel_rfl) (by decide) rfl) (by kernel_rfl) (by decide) enters7 (Calls.mono (hAW _ hS32) ?_)
  rintro e w36 ⟨rfl, hb36⟩
  have hS36 : Below w.heap.size w w36 := rBelow hS32 hb36
  refine ⟨.bool true, rfl, hS36, ?_⟩
  refine Pl.H.take 37 64 (.bool true) (by kernel_rfl) (by kernel_rfl) (by kernel_rfl) (Pl.free 37 (by kernel_rfl)) (Pl.pick 37 (.tmp 62) (.tmp 63) (.const (.bool false)) (by kernel_rfl) (by decide) (by decide) rfl) hS36 ?_
  refine Pl.H.take 38 6 (.bool true) (by kernel_rfl) (by kernel_rfl) (by kernel_rfl) (Pl.free 38 (by kernel_rfl)) (Pl.assign 38 (.tmp 64) (by kernel_rfl) (by decide)) hS36 ?_
  refine Pl.H.done (by kernel_rfl) (fun A' hA' => ?_)
  rw [Pl.At.ext hA' (((((((((((((((((((((((((((((((((((((((hA.put 27 _).put 30 _).put 28 _).put 29 _).put 31 _).put 32 _).put 33 _).put 34 _).put 36 _).put 35 _).put 37 _).put 38 _).put 39 _).put 40 _).put 41 _).put 42 _).put 43 _).put 44 _).put 45 _).put 46 _).put 48 _).put 50 _).put 47 _).put 49 _).put 51 _).put 52 _).put 53 _).put 54 _).put 55 _).put 57 _).put 58 _).put 56 _).put 59 _).put 60 _).put 61 _).put 62 _).put 63 _).put 64 _).put 6 _)]
  exact hend (fun d => if d = 27 then vwV v s else if d = 30 then .bool false else if d = 28 then .int .i64 1 else if d = 29 then .bool false else if d = 31 then .bool true else if d = 32 then .bool true else if d = 33 then vwV v s else if d = 34 then .int .i64 x else if d = 36 then .bool false else if d = 35 then .bool false else if d = 37 then .bool false else if d = 38 then undef else if d = 39 then undef else if d = 40 then undef else if d = 41 then .bool false else if d = 42 then .bool true else if d = 43 then .bool true else if d = 44 then .bool true else if d = 45 then vwV v s else if d = 46 then vwV u t else if d = 48 then .int .i64 x else if d = 50 then .bool q else if d = 47 then .slice (some ⟨w8.heap.size, 0, none⟩) 2 2 else if d = 49 then .bool q else if d = 51 then .bool true else if d = 52 then .bool true else if d = 53 then .bool true else if d = 54 then vwV v s else if d = 55 then vwV u t else if d = 57 then vwV v s else if d = 58 then vwV u t else if d = 56 then .bool r else if d = 59 then .bool r else if d = 60 then .bool true else if d = 61 then .bool true else if d = 62 then .bool true else if d = 63 then .bool true else if d = 64 then .bool true else undef) _ hS36

set_option maxHeartbeats 8000000 in
set_option maxRecDepth 100000 in
theorem sees_walk (HS : ViewS) (w : World) (v : Vw) (s : Sl) (h : InI w s v.act) (u : Vw) (t : Sl) (k : InI w t u.act) (x : Int) :
    Calls Try.prog 4 #[vwV v s, vwV u t, .int .i64 x] w fun e w' => e = .returned (.bool true) ∧ Below w.heap.size w w' := by
  have hA1 := below_alloc w (.cells #[.int .i64 v.self, .int .i64 v.next, s.val] 25)
  have hA2 := below_alloc (w.alloc (.cells #[.int .i64 v.self, .int .i64 v.next, s.val] 25)) (.cells #[.int .i64 u.self, .int .i64 u.next, t.val] 25)
  have hg := (vwBlk_new w v s).keep hA2
  have hk := vwBlk_new (w.alloc (.cells #[.int .i64 v.self, .int .i64 v.next, s.val] 25)) u t
  rw [alloc_size] at hk
  have HB := hide (rBelow hA1 hA2)
  have HG := hide hg
  have HK := hide hk
  have HI := hide (h.keep HB.out)
  have HJ := hide (k.keep HB.out)
  have HH := hide HS
  have HA := hide (fun W => awakeV_any HS W)
  have hb1 : s.len ≤ 9223372036854775807 := h.big
  have hb2 : t.len ≤ 9223372036854775807 := k.big
  have g0 := hg.c0
  have g1 := hg.c1
  have g2 := hg.c2
  have k0 := hk.c0
  have k1 := hk.c1
  have k2 := hk.c2
  clear h k HS hA1 hA2 hg hk
  obtain ⟨sa, sn, sc⟩ := s
  obtain ⟨ta, tn, tc⟩ := t
  unfold Sl.val at g2 k2 HB HG HK HI HJ g0 g1 k0 k1
  unfold vwV Sl.val
  simp only at *
  go_enter Try.func4, Try.ntmps4
  by_cases hl : sn ≤ 200 ∧ tn ≤ 200
  · obtain ⟨hs2, ht2⟩ := hl
    have i1 : ¬ (200 : Int) < ((sn : Nat) : Int) := by omega
    have i2 : ¬ (200 : Int) < ((tn : Nat) : Int) := by omega
    go_wp2_with fail
    generalize (w.alloc (.cells #[.int .i64 v.self, .int .i64 v.next, .slice sa sn sc] 25)).alloc (.cells #[.int .i64 u.self, .int .i64 u.next, .slice ta tn tc] 25) = W0 at *
    have HGI := hide (HI.out.gi (by show sn ≤ _; omega))
    have HGJ := hide (HJ.out.gi (by show tn ≤ _; omega))
    have HM := hide (rmayV_any W0 ⟨sa, sn, sc⟩ v HGI.out)
    obtain ⟨m, hm⟩ : ∃ m, m = decide (MayV v) := ⟨_, rfl⟩
    rw [← hm] at HM
    have HMM := hide hm
    unfold vwV Sl.val at HM
    simp only at HM
    clear hm HI HJ
    refine HM.out.mono ?_
    rintro e w1 ⟨rfl, hb1'⟩
    have HB1 := hide hb1'
    have HG1 := hide (HG.out.keep hb1')
    have HK1 := hide (HK.out.keep hb1')
    have HGI1 := hide (HGI.out.below hb1' (Nat.le_refl _))
    have HGJ1 := hide (HGJ.out.below hb1' (Nat.le_refl _))
    have g0 := HG1.out.c0
    have g1 := HG1.out.c1
    have g2 := HG1.out.c2
    have k0 := HK1.out.c0
    have k1 := HK1.out.c1
    have k2 := HK1.out.c2
    have HAR := hide (rall_any _ _ _ (two_vw w1 v u ⟨sa, sn, sc⟩ ⟨ta, tn, tc⟩ HGI1.out HGJ1.out) x)
    obtain ⟨q, hq⟩ : ∃ q, q = allV (vws [⟨v, ⟨sa, sn, sc⟩⟩, ⟨u, ⟨ta, tn, tc⟩⟩]) x := ⟨_, rfl⟩
    rw [← hq] at HAR
    have HQ := hide hq
    unfold Sl.val at HAR g2 k2
    simp only at HAR g0 g1 g2 k0 k1 k2
    clear hb1' HM hq
    go_wp2_with fail
    refine HAR.out.mono ?_
    rintro e w2 ⟨rfl, hb2'⟩
    have HB2 := hide (rBelow HB1.out (rBelow (below_alloc w1 _) hb2'))
    have HG2 := hide (HG.out.keep HB2.out)
    have HK2 := hide (HK.out.keep HB2.out)
    have HGI2 := hide (HGI.out.below HB2.out (Nat.le_refl _))
    have HGJ2 := hide (HGJ.out.below HB2.out (Nat.le_refl _))
    clear hb2' HAR HG1 HK1 HGI1 HGJ1 g0 g1 g2 k0 k1 k2
    obtain ⟨q0, hq0⟩ : ∃ q0, q0 = seesV v x := ⟨_, rfl⟩
    obtain ⟨r, hr⟩ : ∃ r, r = sameV v u := ⟨_, rfl⟩
    have hse : seesA v x = (m && q0) := by rw [HMM.out, hq0]; rfl
    have HCK : Hid (∀ W, Below w2.heap.size w2 W → Calls Try.prog 11 #[vwV v ⟨sa, sn, sc⟩] W fun e w' => e = .returned (.int .i64 (errV m)) ∧ Below W.heap.size W w') := fun W hb => by rw [HMM.out]; exact HH.out.check W ⟨sa, sn, sc⟩ v (HGI2.out.below hb (Nat.le_refl _)) hs2
    have HSE : Hid (∀ W, Below w2.heap.size w2 W → Calls Try.prog 14 #[vwV v ⟨sa, sn, sc⟩, .int .i64 x] W fun e w' => e = .returned (.bool (m && q0)) ∧ Below W.heap.size W w') := fun W hb => by rw [← hse]; exact HH.out.sees W ⟨sa, sn, sc⟩ v (HGI2.out.below hb (Nat.le_refl _)) hs2 x
    have HRS : Hid (∀ W, Below w2.heap.size w2 W → Calls Try.prog 15 #[vwV v ⟨sa, sn, sc⟩, .int .i64 x] W fun e w' => e = .returned (.bool q0) ∧ Below W.heap.size W w') := fun W hb => by rw [hq0]; exact rsees_any W ⟨sa, sn, sc⟩ v (HGI2.out.below hb (Nat.le_refl _)) x
    have HAL : Hid (∀ W, Below w2.heap.size w2 W → Calls Try.prog 16 #[.slice (some ⟨W.heap.size, 0, none⟩) 2 2, .int .i64 x] (W.alloc (.cells #[.int .i64 v.self, .int .i64 v.next, .slice sa sn sc, .int .i64 u.self, .int .i64 u.next, .slice ta tn tc] 25)) fun e w' => e = .returned (.bool q) ∧ Below (W.alloc (.cells #[.int .i64 v.self, .int .i64 v.next, .slice sa sn sc, .int .i64 u.self, .int .i64 u.next, .slice ta tn tc] 25)).heap.size (W.alloc (.cells #[.int .i64 v.self, .int .i64 v.next, .slice sa sn sc, .int .i64 u.self, .int .i64 u.next, .slice ta tn tc] 25)) w') := fun W hb => by
      rw [HQ.out]
      exact HH.out.all _ _ _ (two_vw W v u ⟨sa, sn, sc⟩ ⟨ta, tn, tc⟩ (HGI2.out.below hb (Nat.le_refl _)) (HGJ2.out.below hb (Nat.le_refl _))) (by show 2 ≤ 200; omega) (fun y hy => by
        rcases List.mem_cons.1 hy with rfl | hy
        · exact hs2
        · rcases List.mem_cons.1 hy with rfl | hy
          · exact ht2
          · cases hy) x
    have HSM : Hid (∀ W, Below w2.heap.size w2 W → Calls Try.prog 17 #[vwV v ⟨sa, sn, sc⟩, vwV u ⟨ta, tn, tc⟩] W fun e w' => e = .returned (.bool r) ∧ Below W.heap.size W w') := fun W hb => by rw [hr]; exact HH.out.same W ⟨sa, sn, sc⟩ ⟨ta, tn, tc⟩ v u (HGI2.out.below hb (Nat.le_refl _)) (HGJ2.out.below hb (Nat.le_refl _)) hs2 ht2
    have HRM : Hid (∀ W, Below w2.heap.size w2 W → Calls Try.prog 10 #[vwV v ⟨sa, sn, sc⟩, vwV u ⟨ta, tn, tc⟩] W fun e w' => e = .returned (.bool r) ∧ Below W.heap.size W w') := fun W hb => by rw [hr]; exact rsame_any W ⟨sa, sn, sc⟩ ⟨ta, tn, tc⟩ v u (HGI2.out.below hb (Nat.le_refl _)) (HGJ2.out.below hb (Nat.le_refl _))
    have HBB := hide (rBelow HB.out HB2.out)
    clear hq0 hr hse HMM HGI HGJ HGI2 HGJ2 HG HK HB HB1
    cases m with
    | true =>
      go_wp2_with fail
      refine Pl.region_is (ops := Pl.find 5 ((Try.f4.body).getD .skip)) (by kernel_rfl) ?_
      refine sees5T _ w.heap.size (w.heap.size + 1) v u ⟨sa, sn, sc⟩ ⟨ta, tn, tc⟩ HG2.out HK2.out x q0 q r HCK.out HSE.out HRS.out HAL.out HSM.out HRM.out (fun W _ => HA.out W) (by rfl) (by rfl) (by rfl) (by rfl) (by rfl) (by rfl) (by rfl) ?_
      intro u1 w3 hb3
      simp only [Act.put, List.setIfInBounds_toArray, List.set_cons_zero, List.set_cons_succ]
      have HB3 := hide (rBelow HBB.out hb3)
      clear hb3
      go_wp2_with fail
      go_ret
      exact ⟨rfl, HB3.out⟩
    | false =>
      go_wp2_with fail
      refine Pl.region_is (ops := Pl.find 5 ((Try.f4.body).getD .skip)) (by kernel_rfl) ?_
      refine sees5F _ w.heap.size (w.heap.size + 1) v u ⟨sa, sn, sc⟩ ⟨ta, tn, tc⟩ HG2.out HK2.out x q0 q r HCK.out HSE.out HAL.out HSM.out HRM.out (fun W _ => HA.out W) (by rfl) (by rfl) (by rfl) (by rfl) (by rfl) (by rfl) (by rfl) ?_
      intro u1 w3 hb3
      simp only [Act.put, List.setIfInBounds_toArray, List.set_cons_zero, List.set_cons_succ]
      have HB3 := hide (rBelow HBB.out hb3)
      clear hb3
      go_wp2_with fail
      go_ret
      exact ⟨rfl, HB3.out⟩
  · have HL := hide hl
    by_cases h1 : 200 < sn
    · have i1 : (200 : Int) < ((sn : Nat) : Int) := by omega
      clear hl
      go_wp2_with fail
      refine (HA.out _).mono ?_
      rintro e w1 ⟨rfl, hb⟩
      have HB1 := hide (rBelow HB.out hb)
      clear hb
      go_wp2_with fail
      go_ret
      exact ⟨rfl, HB1.out⟩
    · have i1 : ¬ (200 : Int) < ((sn : Nat) : Int) := by omega
      have i2 : (200 : Int) < ((tn : Nat) : Int) := by omega
      clear hl
      go_wp2_with fail
      refine (HA.out _).mono ?_
      rintro e w1 ⟨rfl, hb⟩
      have HB1 := hide (rBelow HB.out hb)
      clear hb
      go_wp2_with fail
      go_ret
      exact ⟨rfl, HB1.out⟩

end Go.Proofs.Ytehmemfeagjagaa
