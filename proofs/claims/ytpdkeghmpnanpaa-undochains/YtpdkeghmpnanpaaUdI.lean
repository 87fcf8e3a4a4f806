/-
  Drawn statements of layer 14: the landed Chain's, and the document's May, Put, Chain and List.
-/
import Derived.Test.YtpdkeghmpnanpaaUdH
import Derived.Test.YtpdkeghmpnanpaaPlan
import Derived.Test.YtpdkeghmpnanpaaPlanE
import Derived.Test.YtpdkeghmpnanpaaPlanF
namespace Go.Proofs.Ytpdkeghmpnanpaa
open Go.RowKit
set_option linter.unusedVariables false

theorem fdU0 (p o : Nat) (w : World) : (Instr.fieldAt 30 (.pointer (some ⟨p, o, none⟩)) 0).run Try.prog w = .ok (.pointer (some ⟨p, o, none⟩)) w := by simp [go_sem, Instr.fieldAt]
theorem fdU1 (p o : Nat) (w : World) : (Instr.fieldAt 30 (.pointer (some ⟨p, o, none⟩)) 1).run Try.prog w = .ok (.pointer (some ⟨p, o + 1, none⟩)) w := by simp [go_sem, Instr.fieldAt]
theorem fdUB0 (p : Nat) (w : World) : (Instr.fieldAt 30 (.pointer (some ⟨p, 0, none⟩)) 0).run Try.prog w = .ok (.pointer (some ⟨p, 0, none⟩)) w := by simp [go_sem, Instr.fieldAt]
theorem fdUB1 (p : Nat) (w : World) : (Instr.fieldAt 30 (.pointer (some ⟨p, 0, none⟩)) 1).run Try.prog w = .ok (.pointer (some ⟨p, 1, none⟩)) w := by simp [go_sem, Instr.fieldAt]
theorem load_intC {b o : Nat} {v : Int} {w : World} (h : w.cell? ⟨b, o, none⟩ = some (.int .i64 v)) : (Instr.loadAt 3 (.pointer (some ⟨b, o, none⟩))).run Try.prog w = .ok (.int .i64 v) w := by simp [go_sem, h]
theorem index_un0 (b o len cap : Nat) (hk : 0 < len) (w : World) : (Instr.indexAt 22 (.slice (some ⟨b, o, none⟩) len cap) (.int .i64 0)).run Try.prog w = .ok (.pointer (some ⟨b, o, none⟩)) w := by
  have h := index_un b o len cap 0 hk w
  simpa using h
theorem subN1 (k : Nat) (h : 0 < k) (hm : k ≤ 1000000) (x y : Operand) (w : World) : (do eqGuard .sub 3 x y (.int .i64 ((k : Nat) : Int)) (.int .i64 1); binOp .sub 3 (.int .i64 ((k : Nat) : Int)) (.int .i64 1) : Sem Value).run Try.prog w = .ok (.int .i64 ((k - 1 : Nat) : Int)) w := by
  have e : IntKind.i64.wrap (((k : Nat) : Int) - 1) = ((k - 1 : Nat) : Int) := by rw [IntKind.wrap_i64]; omega
  simp [go_sem, eqGuard, e]
theorem lssTI (a c : Int) (x y : Operand) (h : a < c) (w : World) : (do eqGuard .lss 3 x y (.int .i64 a) (.int .i64 c); binOp .lss 3 (.int .i64 a) (.int .i64 c) : Sem Value).run Try.prog w = .ok (.bool true) w := by
  simp [go_sem, eqGuard]
  first | done | omega
theorem lssFI (a c : Int) (x y : Operand) (h : ¬ (a < c)) (w : World) : (do eqGuard .lss 3 x y (.int .i64 a) (.int .i64 c); binOp .lss 3 (.int .i64 a) (.int .i64 c) : Sem Value).run Try.prog w = .ok (.bool false) w := by
  simp [go_sem, eqGuard]
  first | done | omega
theorem leqTI (a c : Int) (x y : Operand) (h : a ≤ c) (w : World) : (do eqGuard .leq 3 x y (.int .i64 a) (.int .i64 c); binOp .leq 3 (.int .i64 a) (.int .i64 c) : Sem Value).run Try.prog w = .ok (.bool true) w := by
  simp [go_sem, eqGuard]
  first | done | omega
theorem leqFI (a c : Int) (x y : Operand) (h : ¬ (a ≤ c)) (w : World) : (do eqGuard .leq 3 x y (.int .i64 a) (.int .i64 c); binOp .leq 3 (.int .i64 a) (.int .i64 c) : Sem Value).run Try.prog w = .ok (.bool false) w := by
  simp [go_sem, eqGuard]
  first | done | omega
theorem gtrTI (a c : Int) (x y : Operand) (h : c < a) (w : World) : (do eqGuard .gtr 3 x y (.int .i64 a) (.int .i64 c); binOp .gtr 3 (.int .i64 a) (.int .i64 c) : Sem Value).run Try.prog w = .ok (.bool true) w := by
  simp [go_sem, eqGuard]
  first | done | omega
theorem gtrFI (a c : Int) (x y : Operand) (h : ¬ (c < a)) (w : World) : (do eqGuard .gtr 3 x y (.int .i64 a) (.int .i64 c); binOp .gtr 3 (.int .i64 a) (.int .i64 c) : Sem Value).run Try.prog w = .ok (.bool false) w := by
  simp [go_sem, eqGuard]
  first | done | omega
theorem geqTI (a c : Int) (x y : Operand) (h : c ≤ a) (w : World) : (do eqGuard .geq 3 x y (.int .i64 a) (.int .i64 c); binOp .geq 3 (.int .i64 a) (.int .i64 c) : Sem Value).run Try.prog w = .ok (.bool true) w := by
  simp [go_sem, eqGuard]
  first | done | omega
theorem geqFI (a c : Int) (x y : Operand) (h : ¬ (c ≤ a)) (w : World) : (do eqGuard .geq 3 x y (.int .i64 a) (.int .i64 c); binOp .geq 3 (.int .i64 a) (.int .i64 c) : Sem Value).run Try.prog w = .ok (.bool false) w := by
  simp [go_sem, eqGuard]
  first | done | omega
theorem eqlTI (a c : Int) (x y : Operand) (h : a = c) (w : World) : (do eqGuard .eql 3 x y (.int .i64 a) (.int .i64 c); binOp .eql 3 (.int .i64 a) (.int .i64 c) : Sem Value).run Try.prog w = .ok (.bool true) w := by
  simp [go_sem, eqGuard]
  first | done | omega
theorem eqlFI (a c : Int) (x y : Operand) (h : ¬ (a = c)) (w : World) : (do eqGuard .eql 3 x y (.int .i64 a) (.int .i64 c); binOp .eql 3 (.int .i64 a) (.int .i64 c) : Sem Value).run Try.prog w = .ok (.bool false) w := by
  simp [go_sem, eqGuard]
  first | done | omega
theorem neqTI (a c : Int) (x y : Operand) (h : a ≠ c) (w : World) : (do eqGuard .neq 3 x y (.int .i64 a) (.int .i64 c); binOp .neq 3 (.int .i64 a) (.int .i64 c) : Sem Value).run Try.prog w = .ok (.bool true) w := by
  simp [go_sem, eqGuard]
  first | done | omega
theorem neqFI (a c : Int) (x y : Operand) (h : ¬ (a ≠ c)) (w : World) : (do eqGuard .neq 3 x y (.int .i64 a) (.int .i64 c); binOp .neq 3 (.int .i64 a) (.int .i64 c) : Sem Value).run Try.prog w = .ok (.bool false) w := by
  simp [go_sem, eqGuard]
  first | done | omega

theorem enters22 : ∀ args w, (callFunc 22 args).run Try.prog w = .ok (.enter 22 args) w := Pl.enters Try.func22 (by kernel_rfl) (by kernel_rfl)

theorem enters33 : ∀ args w, (callFunc 33 args).run Try.prog w = .ok (.enter 33 args) w := Pl.enters Try.func33 (by kernel_rfl) (by kernel_rfl)

theorem enters38 : ∀ args w, (callFunc 38 args).run Try.prog w = .ok (.enter 38 args) w := Pl.enters Try.func38 (by kernel_rfl) (by kernel_rfl)

theorem sameU_yes {x y : Ux} (h : x.u = y.u) (w : World) (hx : Fs w x.a x.n x.c x.u.row.xs) (hy : Fs w y.a y.n y.c y.u.row.xs) :
    Calls Try.prog 22 #[x.val, y.val] w fun e w' => e = .returned (.bool true) ∧ Below w.heap.size w w' := by
  have := refUnSame_any x.u y.u x.a x.n x.c y.a y.n y.c w hx hy
  rw [h, Un.same_self] at this
  have e : x.val = y.u.val (.slice x.a x.n x.c) := by unfold Ux.val; rw [h]
  rw [e]
  exact this

theorem follow_is {x y : Ux} {m : Bool} (h : follow (some x.u) y.u = m) (w : World) : Calls Try.prog 38 #[x.val, y.val] w fun e w' => e = .returned (.bool m) ∧ Below w.heap.size w w' := by
  have := mayFollow_any x y w
  rw [h] at this
  exact this
theorem empty_is {x : Ux} {m : Bool} (h : x.u.emp = m) (w : World) (hx : Fs w x.a x.n x.c x.u.row.xs) : Calls Try.prog 33 #[x.val] w fun e w' => e = .returned (.bool m) ∧ Below w.heap.size w w' := by
  have := refEmpty_any x.u x.a x.n x.c w hx
  rw [show x.u.same zeroU = m from h] at this
  exact this

set_option maxHeartbeats 2000000 in
set_option maxRecDepth 100000 in
theorem lst6 (w0 w : World) (b1 o1 c1 b2 o2 c2 len k : Nat) (hk : k < len) (x y : Ux) (hx : UnAt w0 b1 (o1 + k * 12) x) (hy : UnAt w0 b2 (o2 + k * 12) y) (hu : x.u = y.u) (hfx : Fs w0 x.a x.n x.c x.u.row.xs) (hfy : Fs w0 y.a y.n y.c y.u.row.xs) (hW : Below w0.heap.size w0 w)
    {Q : Exit → Act → World → Prop} {A : Act} (hsz : A.tmps.size = 27) (hdf : A.defers = []) (s0 : A.tmps.getD 0 undef = .slice (some ⟨b1, o1, none⟩) len c1) (s1 : A.tmps.getD 1 undef = .slice (some ⟨b2, o2, none⟩) len c2) (s5 : A.tmps.getD 5 undef = .int .i64 ((k : Nat) : Int))
    (hend : ∀ (u : Nat → Value) w', Below w0.heap.size w0 w' → Q .normal (((((((((((A).put (some 17) (u 17)).put (some 18) (u 18)).put (some 19) (u 19)).put (some 20) (u 20)).put (some 21) (u 21)).put (some 22) (u 22)).put (some 23) (u 23)).put (some 24) (u 24)).put (some 25) (u 25)).put (some 26) (.bool false)) w') :
    (Code.region 6 (Pl.find 6 ((Try.f16.body).getD .skip)) true).wp Try.prog Q A w := by
  have hS0 : Below w0.heap.size w0 w.drew := hW.drew
  have hA := Pl.At.same (v := .int .i64 ((k : Nat) : Int)) (d := 5) (Pl.At.same (v := .slice (some ⟨b2, o2, none⟩) len c2) (d := 1) (Pl.At.same (v := .slice (some ⟨b1, o1, none⟩) len c1) (d := 0) (Pl.At.here hsz hdf) s0) s1) s5
  refine Pl.H.start (S := fun w' => Below w0.heap.size w0 w') (by kernel_rfl) hA hS0 ?_
  rw [show (Pl.find 6 ((Try.f16.body).getD .skip)).size = 10 by kernel_rfl]
  refine Pl.H.take 0 17 (.slice (some ⟨b1, o1, none⟩) len c1) (by kernel_rfl) (by kernel_rfl) (by kernel_rfl) (Pl.free 0 (by kernel_rfl)) (Pl.move 0 (.tmp 0) (by kernel_rfl) (by decide)) hS0 ?_
  refine Pl.H.take 1 18 (.int .i64 ((k : Nat) : Int)) (by kernel_rfl) (by kernel_rfl) (by kernel_rfl) (Pl.free 1 (by kernel_rfl)) (Pl.move 1 (.tmp 5) (by kernel_rfl) (by decide)) hS0 ?_
  refine Pl.H.take 2 19 (.pointer (some ⟨b1, o1 + k * 12, none⟩)) (by kernel_rfl) (by kernel_rfl) (by kernel_rfl) (Pl.free 2 (by kernel_rfl)) (Pl.index 2 22 (.tmp 17) (.tmp 18) _ (by kernel_rfl) (by decide) (by decide) (index_un b1 o1 len c1 k hk)) hS0 ?_
  refine Pl.H.take 3 20 (x.val) (by kernel_rfl) (by kernel_rfl) (by kernel_rfl) (Pl.free 3 (by kernel_rfl)) (Pl.load 3 30 (.tmp 19) _ (by kernel_rfl) (by decide) (fun w' hS => load_unAt b1 (o1 + k * 12) x w' (hx.keep hS (Nat.le_refl _)))) hS0 ?_
  refine Pl.H.take 4 21 (.slice (some ⟨b2, o2, none⟩) len c2) (by kernel_rfl) (by kernel_rfl) (by kernel_rfl) (Pl.free 4 (by kernel_rfl)) (Pl.move 4 (.tmp 1) (by kernel_rfl) (by decide)) hS0 ?_
  refine Pl.H.take 5 22 (.int .i64 ((k : Nat) : Int)) (by kernel_rfl) (by kernel_rfl) (by kernel_rfl) (Pl.free 5 (by kernel_rfl)) (Pl.move 5 (.tmp 5) (by kernel_rfl) (by decide)) hS0 ?_
  refine Pl.H.take 6 23 (.pointer (some ⟨b2, o2 + k * 12, none⟩)) (by kernel_rfl) (by kernel_rfl) (by kernel_rfl) (Pl.free 6 (by kernel_rfl)) (Pl.index 6 22 (.tmp 21) (.tmp 22) _ (by kernel_rfl) (by decide) (by decide) (index_un b2 o2 len c2 k hk)) hS0 ?_
  refine Pl.H.take 7 24 (y.val) (by kernel_rfl) (by kernel_rfl) (by kernel_rfl) (Pl.free 7 (by kernel_rfl)) (Pl.load 7 30 (.tmp 23) _ (by kernel_rfl) (by decide) (fun w' hS => load_unAt b2 (o2 + k * 12) y w' (hy.keep hS (Nat.le_refl _)))) hS0 ?_
  refine Pl.H.call 8 25 22 [(.tmp 20), (.tmp 24)] #[30, 30] (by kernel_rfl) (by kernel_rfl) (by kernel_rfl) (Pl.free 8 (by kernel_rfl)) (by kernel_rfl) (by decide) enters22 (Calls.mono (sameU_yes hu w.drew (hfx.keep hS0 (Nat.le_refl _)) (hfy.keep hS0 (Nat.le_refl _))) ?_)
  rintro e w1 ⟨rfl, hb1⟩
  have hS1 : Below w0.heap.size w0 w1 := rBelow hS0 hb1
  refine ⟨.bool true, rfl, hS1, ?_⟩
  refine Pl.H.take 9 26 (.bool false) (by kernel_rfl) (by kernel_rfl) (by kernel_rfl) (Pl.free 9 (by kernel_rfl)) (Pl.neg 9 4 (.tmp 25) true (by kernel_rfl) (by decide) rfl) hS1 ?_
  refine Pl.H.done (by kernel_rfl) (fun A' hA' => ?_)
  rw [Pl.At.ext hA' ((((((((((hA.put 17 _).put 18 _).put 19 _).put 20 _).put 21 _).put 22 _).put 23 _).put 24 _).put 25 _).put 26 _)]
  exact hend (fun d => if d = 17 then .slice (some ⟨b1, o1, none⟩) len c1 else if d = 18 then .int .i64 ((k : Nat) : Int) else if d = 19 then .pointer (some ⟨b1, o1 + k * 12, none⟩) else if d = 20 then x.val else if d = 21 then .slice (some ⟨b2, o2, none⟩) len c2 else if d = 22 then .int .i64 ((k : Nat) : Int) else if d = 23 then .pointer (some ⟨b2, o2 + k * 12, none⟩) else if d = 24 then y.val else if d = 25 then .bool true else undef) _ hS1

set_option maxHeartbeats 2000000 in
set_option maxRecDepth 100000 in
theorem may10T (w0 w : World) (b1 o1 c1 len k j : Nat) (hk : k < len) (hj : j < len) (x y : Ux) (hx : UnAt w0 b1 (o1 + j * 12) x) (hy : UnAt w0 b1 (o1 + k * 12) y) (h : x.u.no = y.u.no) (hW : Below w0.heap.size w0 w)
    {Q : Exit → Act → World → Prop} {A : Act} (hsz : A.tmps.size = 52) (hdf : A.defers = []) (s0 : A.tmps.getD 0 undef = .slice (some ⟨b1, o1, none⟩) len c1) (s3 : A.tmps.getD 3 undef = .int .i64 ((k : Nat) : Int)) (s4 : A.tmps.getD 4 undef = .int .i64 ((j : Nat) : Int))
    (hend : ∀ (u : Nat → Value) w', Below w0.heap.size w0 w' → Q .normal ((((((((((((A).put (some 27) (u 27)).put (some 28) (u 28)).put (some 29) (u 29)).put (some 30) (u 30)).put (some 31) (u 31)).put (some 32) (u 32)).put (some 33) (u 33)).put (some 34) (u 34)).put (some 35) (u 35)).put (some 36) (u 36)).put (some 37) (.bool true)) w') :
    (Code.region 10 (Pl.find 10 ((Try.f11.body).getD .skip)) true).wp Try.prog Q A w := by
  have hS0 : Below w0.heap.size w0 w.drew := hW.drew
  have hA := Pl.At.same (v := .int .i64 ((j : Nat) : Int)) (d := 4) (Pl.At.same (v := .int .i64 ((k : Nat) : Int)) (d := 3) (Pl.At.same (v := .slice (some ⟨b1, o1, none⟩) len c1) (d := 0) (Pl.At.here hsz hdf) s0) s3) s4
  refine Pl.H.start (S := fun w' => Below w0.heap.size w0 w') (by kernel_rfl) hA hS0 ?_
  rw [show (Pl.find 10 ((Try.f11.body).getD .skip)).size = 11 by kernel_rfl]
  refine Pl.H.take 0 27 (.slice (some ⟨b1, o1, none⟩) len c1) (by kernel_rfl) (by kernel_rfl) (by kernel_rfl) (Pl.free 0 (by kernel_rfl)) (Pl.move 0 (.tmp 0) (by kernel_rfl) (by decide)) hS0 ?_
  refine Pl.H.take 1 28 (.int .i64 ((j : Nat) : Int)) (by kernel_rfl) (by kernel_rfl) (by kernel_rfl) (Pl.free 1 (by kernel_rfl)) (Pl.move 1 (.tmp 4) (by kernel_rfl) (by decide)) hS0 ?_
  refine Pl.H.take 2 29 (.pointer (some ⟨b1, o1 + j * 12, none⟩)) (by kernel_rfl) (by kernel_rfl) (by kernel_rfl) (Pl.free 2 (by kernel_rfl)) (Pl.index 2 22 (.tmp 27) (.tmp 28) _ (by kernel_rfl) (by decide) (by decide) (index_un b1 o1 len c1 j hj)) hS0 ?_
  refine Pl.H.take 3 30 (.pointer (some ⟨b1, o1 + j * 12 + 1, none⟩)) (by kernel_rfl) (by kernel_rfl) (by kernel_rfl) (Pl.free 3 (by kernel_rfl)) (Pl.field 3 30 (.tmp 29) 1 _ (by kernel_rfl) (by decide) (fdU1 b1 (o1 + j * 12))) hS0 ?_
  refine Pl.H.take 4 31 (.int .i64 x.u.no) (by kernel_rfl) (by kernel_rfl) (by kernel_rfl) (Pl.free 4 (by kernel_rfl)) (Pl.load 4 3 (.tmp 30) _ (by kernel_rfl) (by decide) (fun w' hS => load_intC (hx.keep hS (Nat.le_refl _)).c1)) hS0 ?_
  refine Pl.H.take 5 32 (.slice (some ⟨b1, o1, none⟩) len c1) (by kernel_rfl) (by kernel_rfl) (by kernel_rfl) (Pl.free 5 (by kernel_rfl)) (Pl.move 5 (.tmp 0) (by kernel_rfl) (by decide)) hS0 ?_
  refine Pl.H.take 6 33 (.int .i64 ((k : Nat) : Int)) (by kernel_rfl) (by kernel_rfl) (by kernel_rfl) (Pl.free 6 (by kernel_rfl)) (Pl.move 6 (.tmp 3) (by kernel_rfl) (by decide)) hS0 ?_
  refine Pl.H.take 7 34 (.pointer (some ⟨b1, o1 + k * 12, none⟩)) (by kernel_rfl) (by kernel_rfl) (by kernel_rfl) (Pl.free 7 (by kernel_rfl)) (Pl.index 7 22 (.tmp 32) (.tmp 33) _ (by kernel_rfl) (by decide) (by decide) (index_un b1 o1 len c1 k hk)) hS0 ?_
  refine Pl.H.take 8 35 (.pointer (some ⟨b1, o1 + k * 12 + 1, none⟩)) (by kernel_rfl) (by kernel_rfl) (by kernel_rfl) (Pl.free 8 (by kernel_rfl)) (Pl.field 8 30 (.tmp 34) 1 _ (by kernel_rfl) (by decide) (fdU1 b1 (o1 + k * 12))) hS0 ?_
  refine Pl.H.take 9 36 (.int .i64 y.u.no) (by kernel_rfl) (by kernel_rfl) (by kernel_rfl) (Pl.free 9 (by kernel_rfl)) (Pl.load 9 3 (.tmp 35) _ (by kernel_rfl) (by decide) (fun w' hS => load_intC (hy.keep hS (Nat.le_refl _)).c1)) hS0 ?_
  refine Pl.H.take 10 37 (.bool true) (by kernel_rfl) (by kernel_rfl) (by kernel_rfl) (Pl.free 10 (by kernel_rfl)) (Pl.binV 10 .eql 3 3 (.tmp 31) (.tmp 36) (.int .i64 x.u.no) (.int .i64 y.u.no) _ (by kernel_rfl) (by decide) (by decide) rfl rfl (eqlTI _ _ _ _ h)) hS0 ?_
  refine Pl.H.done (by kernel_rfl) (fun A' hA' => ?_)
  rw [Pl.At.ext hA' (((((((((((hA.put 27 _).put 28 _).put 29 _).put 30 _).put 31 _).put 32 _).put 33 _).put 34 _).put 35 _).put 36 _).put 37 _)]
  exact hend (fun d => if d = 27 then .slice (some ⟨b1, o1, none⟩) len c1 else if d = 28 then .int .i64 ((j : Nat) : Int) else if d = 29 then .pointer (some ⟨b1, o1 + j * 12, none⟩) else if d = 30 then .pointer (some ⟨b1, o1 + j * 12 + 1, none⟩) else if d = 31 then .int .i64 x.u.no else if d = 32 then .slice (some ⟨b1, o1, none⟩) len c1 else if d = 33 then .int .i64 ((k : Nat) : Int) else if d = 34 then .pointer (some ⟨b1, o1 + k * 12, none⟩) else if d = 35 then .pointer (some ⟨b1, o1 + k * 12 + 1, none⟩) else if d = 36 then .int .i64 y.u.no else undef) _ hS0

set_option maxHeartbeats 2000000 in
set_option maxRecDepth 100000 in
theorem may10F (w0 w : World) (b1 o1 c1 len k j : Nat) (hk : k < len) (hj : j < len) (x y : Ux) (hx : UnAt w0 b1 (o1 + j * 12) x) (hy : UnAt w0 b1 (o1 + k * 12) y) (h : ¬ x.u.no = y.u.no) (hW : Below w0.heap.size w0 w)
    {Q : Exit → Act → World → Prop} {A : Act} (hsz : A.tmps.size = 52) (hdf : A.defers = []) (s0 : A.tmps.getD 0 undef = .slice (some ⟨b1, o1, none⟩) len c1) (s3 : A.tmps.getD 3 undef = .int .i64 ((k : Nat) : Int)) (s4 : A.tmps.getD 4 undef = .int .i64 ((j : Nat) : Int))
    (hend : ∀ (u : Nat → Value) w', Below w0.heap.size w0 w' → Q .normal ((((((((((((A).put (some 27) (u 27)).put (some 28) (u 28)).put (some 29) (u 29)).put (some 30) (u 30)).put (some 31) (u 31)).put (some 32) (u 32)).put (some 33) (u 33)).put (some 34) (u 34)).put (some 35) (u 35)).put (some 36) (u 36)).put (some 37) (.bool false)) w') :
    (Code.region 10 (Pl.find 10 ((Try.f11.body).getD .skip)) true).wp Try.prog Q A w := by
  have hS0 : Below w0.heap.size w0 w.drew := hW.drew
  have hA := Pl.At.same (v := .int .i64 ((j : Nat) : Int)) (d := 4) (Pl.At.same (v := .int .i64 ((k : Nat) : Int)) (d := 3) (Pl.At.same (v := .slice (some ⟨b1, o1, none⟩) len c1) (d := 0) (Pl.At.here hsz hdf) s0) s3) s4
  refine Pl.H.start (S := fun w' => Below w0.heap.size w0 w') (by kernel_rfl) hA hS0 ?_
  rw [show (Pl.find 10 ((Try.f11.body).getD .skip)).size = 11 by kernel_rfl]
  refine Pl.H.take 0 27 (.slice (some ⟨b1, o1, none⟩) len c1) (by kernel_rfl) (by kernel_rfl) (by kernel_rfl) (Pl.free 0 (by kernel_rfl)) (Pl.move 0 (.tmp 0) (by kernel_rfl) (by decide)) hS0 ?_
  refine Pl.H.take 1 28 (.int .i64 ((j : Nat) : Int)) (by kernel_rfl) (by kernel_rfl) (by kernel_rfl) (Pl.free 1 (by kernel_rfl)) (Pl.move 1 (.tmp 4) (by kernel_rfl) (by decide)) hS0 ?_
  refine Pl.H.take 2 29 (.pointer (some ⟨b1, o1 + j * 12, none⟩)) (by kernel_rfl) (by kernel_rfl) (by kernel_rfl) (Pl.free 2 (by kernel_rfl)) (Pl.index 2 22 (.tmp 27) (.tmp 28) _ (by kernel_rfl) (by decide) (by decide) (index_un b1 o1 len c1 j hj)) hS0 ?_
  refine Pl.H.take 3 30 (.pointer (some ⟨b1, o1 + j * 12 + 1, none⟩)) (by kernel_rfl) (by kernel_rfl) (by kernel_rfl) (Pl.free 3 (by kernel_rfl)) (Pl.field 3 30 (.tmp 29) 1 _ (by kernel_rfl) (by decide) (fdU1 b1 (o1 + j * 12))) hS0 ?_
  refine Pl.H.take 4 31 (.int .i64 x.u.no) (by kernel_rfl) (by kernel_rfl) (by kernel_rfl) (Pl.free 4 (by kernel_rfl)) (Pl.load 4 3 (.tmp 30) _ (by kernel_rfl) (by decide) (fun w' hS => load_intC (hx.keep hS (Nat.le_refl _)).c1)) hS0 ?_
  refine Pl.H.take 5 32 (.slice (some ⟨b1, o1, none⟩) len c1) (by kernel_rfl) (by kernel_rfl) (by kernel_rfl) (Pl.free 5 (by kernel_rfl)) (Pl.move 5 (.tmp 0) (by kernel_rfl) (by decide)) hS0 ?_
  refine Pl.H.take 6 33 (.int .i64 ((k : Nat) : Int)) (by kernel_rfl) (by kernel_rfl) (by kernel_rfl) (Pl.free 6 (by kernel_rfl)) (Pl.move 6 (.tmp 3) (by kernel_rfl) (by decide)) hS0 ?_
  refine Pl.H.take 7 34 (.pointer (some ⟨b1, o1 + k * 12, none⟩)) (by kernel_rfl) (by kernel_rfl) (by kernel_rfl) (Pl.free 7 (by kernel_rfl)) (Pl.index 7 22 (.tmp 32) (.tmp 33) _ (by kernel_rfl) (by decide) (by decide) (index_un b1 o1 len c1 k hk)) hS0 ?_
  refine Pl.H.take 8 35 (.pointer (some ⟨b1, o1 + k * 12 + 1, none⟩)) (by kernel_rfl) (by kernel_rfl) (by kernel_rfl) (Pl.free 8 (by kernel_rfl)) (Pl.field 8 30 (.tmp 34) 1 _ (by kernel_rfl) (by decide) (fdU1 b1 (o1 + k * 12))) hS0 ?_
  refine Pl.H.take 9 36 (.int .i64 y.u.no) (by kernel_rfl) (by kernel_rfl) (by kernel_rfl) (Pl.free 9 (by kernel_rfl)) (Pl.load 9 3 (.tmp 35) _ (by kernel_rfl) (by decide) (fun w' hS => load_intC (hy.keep hS (Nat.le_refl _)).c1)) hS0 ?_
  refine Pl.H.take 10 37 (.bool false) (by kernel_rfl) (by kernel_rfl) (by kernel_rfl) (Pl.free 10 (by kernel_rfl)) (Pl.binV 10 .eql 3 3 (.tmp 31) (.tmp 36) (.int .i64 x.u.no) (.int .i64 y.u.no) _ (by kernel_rfl) (by decide) (by decide) rfl rfl (eqlFI _ _ _ _ h)) hS0 ?_
  refine Pl.H.done (by kernel_rfl) (fun A' hA' => ?_)
  rw [Pl.At.ext hA' (((((((((((hA.put 27 _).put 28 _).put 29 _).put 30 _).put 31 _).put 32 _).put 33 _).put 34 _).put 35 _).put 36 _).put 37 _)]
  exact hend (fun d => if d = 27 then .slice (some ⟨b1, o1, none⟩) len c1 else if d = 28 then .int .i64 ((j : Nat) : Int) else if d = 29 then .pointer (some ⟨b1, o1 + j * 12, none⟩) else if d = 30 then .pointer (some ⟨b1, o1 + j * 12 + 1, none⟩) else if d = 31 then .int .i64 x.u.no else if d = 32 then .slice (some ⟨b1, o1, none⟩) len c1 else if d = 33 then .int .i64 ((k : Nat) : Int) else if d = 34 then .pointer (some ⟨b1, o1 + k * 12, none⟩) else if d = 35 then .pointer (some ⟨b1, o1 + k * 12 + 1, none⟩) else if d = 36 then .int .i64 y.u.no else undef) _ hS0

set_option maxHeartbeats 2000000 in
set_option maxRecDepth 100000 in
theorem rput6T (w0 w : World) (b1 o1 c1 len k g : Nat) (hk : k < len) (x y : Ux) (hx : UnAt w0 b1 (o1 + k * 12) x) (hy : UnBlk w0 g y.u (.slice y.a y.n y.c)) (h : x.u.no = y.u.no) (hW : Below w0.heap.size w0 w)
    {Q : Exit → Act → World → Prop} {A : Act} (hsz : A.tmps.size = 38) (hdf : A.defers = []) (s0 : A.tmps.getD 0 undef = .slice (some ⟨b1, o1, none⟩) len c1) (s3 : A.tmps.getD 3 undef = .pointer (some ⟨g, 0, none⟩)) (s7 : A.tmps.getD 7 undef = .int .i64 ((k : Nat) : Int))
    (hend : ∀ (u : Nat → Value) w', Below w0.heap.size w0 w' → Q .normal (((((((((A).put (some 19) (u 19)).put (some 20) (u 20)).put (some 21) (u 21)).put (some 22) (u 22)).put (some 23) (u 23)).put (some 24) (u 24)).put (some 25) (u 25)).put (some 26) (.bool true)) w') :
    (Code.region 6 (Pl.find 6 ((Try.f15.body).getD .skip)) true).wp Try.prog Q A w := by
  have hS0 : Below w0.heap.size w0 w.drew := hW.drew
  have hA := Pl.At.same (v := .int .i64 ((k : Nat) : Int)) (d := 7) (Pl.At.same (v := .pointer (some ⟨g, 0, none⟩)) (d := 3) (Pl.At.same (v := .slice (some ⟨b1, o1, none⟩) len c1) (d := 0) (Pl.At.here hsz hdf) s0) s3) s7
  refine Pl.H.start (S := fun w' => Below w0.heap.size w0 w') (by kernel_rfl) hA hS0 ?_
  rw [show (Pl.find 6 ((Try.f15.body).getD .skip)).size = 8 by kernel_rfl]
  refine Pl.H.take 0 19 (.slice (some ⟨b1, o1, none⟩) len c1) (by kernel_rfl) (by kernel_rfl) (by kernel_rfl) (Pl.free 0 (by kernel_rfl)) (Pl.move 0 (.tmp 0) (by kernel_rfl) (by decide)) hS0 ?_
  refine Pl.H.take 1 20 (.int .i64 ((k : Nat) : Int)) (by kernel_rfl) (by kernel_rfl) (by kernel_rfl) (Pl.free 1 (by kernel_rfl)) (Pl.move 1 (.tmp 7) (by kernel_rfl) (by decide)) hS0 ?_
  refine Pl.H.take 2 21 (.pointer (some ⟨b1, o1 + k * 12, none⟩)) (by kernel_rfl) (by kernel_rfl) (by kernel_rfl) (Pl.free 2 (by kernel_rfl)) (Pl.index 2 22 (.tmp 19) (.tmp 20) _ (by kernel_rfl) (by decide) (by decide) (index_un b1 o1 len c1 k hk)) hS0 ?_
  refine Pl.H.take 3 22 (.pointer (some ⟨b1, o1 + k * 12 + 1, none⟩)) (by kernel_rfl) (by kernel_rfl) (by kernel_rfl) (Pl.free 3 (by kernel_rfl)) (Pl.field 3 30 (.tmp 21) 1 _ (by kernel_rfl) (by decide) (fdU1 b1 (o1 + k * 12))) hS0 ?_
  refine Pl.H.take 4 23 (.int .i64 x.u.no) (by kernel_rfl) (by kernel_rfl) (by kernel_rfl) (Pl.free 4 (by kernel_rfl)) (Pl.load 4 3 (.tmp 22) _ (by kernel_rfl) (by decide) (fun w' hS => load_intC (hx.keep hS (Nat.le_refl _)).c1)) hS0 ?_
  refine Pl.H.take 5 24 (.pointer (some ⟨g, 1, none⟩)) (by kernel_rfl) (by kernel_rfl) (by kernel_rfl) (Pl.free 5 (by kernel_rfl)) (Pl.field 5 30 (.tmp 3) 1 _ (by kernel_rfl) (by decide) (fdUB1 g)) hS0 ?_
  refine Pl.H.take 6 25 (.int .i64 y.u.no) (by kernel_rfl) (by kernel_rfl) (by kernel_rfl) (Pl.free 6 (by kernel_rfl)) (Pl.load 6 3 (.tmp 24) _ (by kernel_rfl) (by decide) (fun w' hS => load_intC (hy.keep hS).c1)) hS0 ?_
  refine Pl.H.take 7 26 (.bool true) (by kernel_rfl) (by kernel_rfl) (by kernel_rfl) (Pl.free 7 (by kernel_rfl)) (Pl.binV 7 .eql 3 3 (.tmp 23) (.tmp 25) (.int .i64 x.u.no) (.int .i64 y.u.no) _ (by kernel_rfl) (by decide) (by decide) rfl rfl (eqlTI _ _ _ _ h)) hS0 ?_
  refine Pl.H.done (by kernel_rfl) (fun A' hA' => ?_)
  rw [Pl.At.ext hA' ((((((((hA.put 19 _).put 20 _).put 21 _).put 22 _).put 23 _).put 24 _).put 25 _).put 26 _)]
  exact hend (fun d => if d = 19 then .slice (some ⟨b1, o1, none⟩) len c1 else if d = 20 then .int .i64 ((k : Nat) : Int) else if d = 21 then .pointer (some ⟨b1, o1 + k * 12, none⟩) else if d = 22 then .pointer (some ⟨b1, o1 + k * 12 + 1, none⟩) else if d = 23 then .int .i64 x.u.no else if d = 24 then .pointer (some ⟨g, 1, none⟩) else if d = 25 then .int .i64 y.u.no else undef) _ hS0

set_option maxHeartbeats 2000000 in
set_option maxRecDepth 100000 in
theorem rput6F (w0 w : World) (b1 o1 c1 len k g : Nat) (hk : k < len) (x y : Ux) (hx : UnAt w0 b1 (o1 + k * 12) x) (hy : UnBlk w0 g y.u (.slice y.a y.n y.c)) (h : ¬ x.u.no = y.u.no) (hW : Below w0.heap.size w0 w)
    {Q : Exit → Act → World → Prop} {A : Act} (hsz : A.tmps.size = 38) (hdf : A.defers = []) (s0 : A.tmps.getD 0 undef = .slice (some ⟨b1, o1, none⟩) len c1) (s3 : A.tmps.getD 3 undef = .pointer (some ⟨g, 0, none⟩)) (s7 : A.tmps.getD 7 undef = .int .i64 ((k : Nat) : Int))
    (hend : ∀ (u : Nat → Value) w', Below w0.heap.size w0 w' → Q .normal (((((((((A).put (some 19) (u 19)).put (some 20) (u 20)).put (some 21) (u 21)).put (some 22) (u 22)).put (some 23) (u 23)).put (some 24) (u 24)).put (some 25) (u 25)).put (some 26) (.bool false)) w') :
    (Code.region 6 (Pl.find 6 ((Try.f15.body).getD .skip)) true).wp Try.prog Q A w := by
  have hS0 : Below w0.heap.size w0 w.drew := hW.drew
  have hA := Pl.At.same (v := .int .i64 ((k : Nat) : Int)) (d := 7) (Pl.At.same (v := .pointer (some ⟨g, 0, none⟩)) (d := 3) (Pl.At.same (v := .slice (some ⟨b1, o1, none⟩) len c1) (d := 0) (Pl.At.here hsz hdf) s0) s3) s7
  refine Pl.H.start (S := fun w' => Below w0.heap.size w0 w') (by kernel_rfl) hA hS0 ?_
  rw [show (Pl.find 6 ((Try.f15.body).getD .skip)).size = 8 by kernel_rfl]
  refine Pl.H.take 0 19 (.slice (some ⟨b1, o1, none⟩) len c1) (by kernel_rfl) (by kernel_rfl) (by kernel_rfl) (Pl.free 0 (by kernel_rfl)) (Pl.move 0 (.tmp 0) (by kernel_rfl) (by decide)) hS0 ?_
  refine Pl.H.take 1 20 (.int .i64 ((k : Nat) : Int)) (by kernel_rfl) (by kernel_rfl) (by kernel_rfl) (Pl.free 1 (by kernel_rfl)) (Pl.move 1 (.tmp 7) (by kernel_rfl) (by decide)) hS0 ?_
  refine Pl.H.take 2 21 (.pointer (some ⟨b1, o1 + k * 12, none⟩)) (by kernel_rfl) (by kernel_rfl) (by kernel_rfl) (Pl.free 2 (by kernel_rfl)) (Pl.index 2 22 (.tmp 19) (.tmp 20) _ (by kernel_rfl) (by decide) (by decide) (index_un b1 o1 len c1 k hk)) hS0 ?_
  refine Pl.H.take 3 22 (.pointer (some ⟨b1, o1 + k * 12 + 1, none⟩)) (by kernel_rfl) (by kernel_rfl) (by kernel_rfl) (Pl.free 3 (by kernel_rfl)) (Pl.field 3 30 (.tmp 21) 1 _ (by kernel_rfl) (by decide) (fdU1 b1 (o1 + k * 12))) hS0 ?_
  refine Pl.H.take 4 23 (.int .i64 x.u.no) (by kernel_rfl) (by kernel_rfl) (by kernel_rfl) (Pl.free 4 (by kernel_rfl)) (Pl.load 4 3 (.tmp 22) _ (by kernel_rfl) (by decide) (fun w' hS => load_intC (hx.keep hS (Nat.le_refl _)).c1)) hS0 ?_
  refine Pl.H.take 5 24 (.pointer (some ⟨g, 1, none⟩)) (by kernel_rfl) (by kernel_rfl) (by kernel_rfl) (Pl.free 5 (by kernel_rfl)) (Pl.field 5 30 (.tmp 3) 1 _ (by kernel_rfl) (by decide) (fdUB1 g)) hS0 ?_
  refine Pl.H.take 6 25 (.int .i64 y.u.no) (by kernel_rfl) (by kernel_rfl) (by kernel_rfl) (Pl.free 6 (by kernel_rfl)) (Pl.load 6 3 (.tmp 24) _ (by kernel_rfl) (by decide) (fun w' hS => load_intC (hy.keep hS).c1)) hS0 ?_
  refine Pl.H.take 7 26 (.bool false) (by kernel_rfl) (by kernel_rfl) (by kernel_rfl) (Pl.free 7 (by kernel_rfl)) (Pl.binV 7 .eql 3 3 (.tmp 23) (.tmp 25) (.int .i64 x.u.no) (.int .i64 y.u.no) _ (by kernel_rfl) (by decide) (by decide) rfl rfl (eqlFI _ _ _ _ h)) hS0 ?_
  refine Pl.H.done (by kernel_rfl) (fun A' hA' => ?_)
  rw [Pl.At.ext hA' ((((((((hA.put 19 _).put 20 _).put 21 _).put 22 _).put 23 _).put 24 _).put 25 _).put 26 _)]
  exact hend (fun d => if d = 19 then .slice (some ⟨b1, o1, none⟩) len c1 else if d = 20 then .int .i64 ((k : Nat) : Int) else if d = 21 then .pointer (some ⟨b1, o1 + k * 12, none⟩) else if d = 22 then .pointer (some ⟨b1, o1 + k * 12 + 1, none⟩) else if d = 23 then .int .i64 x.u.no else if d = 24 then .pointer (some ⟨g, 1, none⟩) else if d = 25 then .int .i64 y.u.no else undef) _ hS0

set_option maxHeartbeats 2000000 in
set_option maxRecDepth 100000 in
theorem chain6E (w0 w : World) (va : Option Addr) (vc : Nat) (hW : Below w0.heap.size w0 w)
    {Q : Exit → Act → World → Prop} {A : Act} (hsz : A.tmps.size = 40) (hdf : A.defers = []) (s5 : A.tmps.getD 5 undef = .slice va 0 vc)
    (hend : ∀ (u : Nat → Value) w', Below w0.heap.size w0 w' → Q .normal (((((((((((((((A).put (some 18) (u 18)).put (some 19) (u 19)).put (some 20) (u 20)).put (some 21) (u 21)).put (some 22) (u 22)).put (some 23) (u 23)).put (some 24) (u 24)).put (some 25) (u 25)).put (some 26) (u 26)).put (some 27) (u 27)).put (some 28) (u 28)).put (some 29) (u 29)).put (some 30) (u 30)).put (some 31) (.bool false)) w') :
    (Code.region 6 (Pl.find 6 ((Try.f21.body).getD .skip)) true).wp Try.prog Q A w := by
  have hS0 : Below w0.heap.size w0 w.drew := hW.drew
  have hA := Pl.At.same (v := .slice va 0 vc) (d := 5) (Pl.At.here hsz hdf) s5
  refine Pl.H.start (S := fun w' => Below w0.heap.size w0 w') (by kernel_rfl) hA hS0 ?_
  rw [show (Pl.find 6 ((Try.f21.body).getD .skip)).size = 14 by kernel_rfl]
  refine Pl.H.take 0 18 (.slice va 0 vc) (by kernel_rfl) (by kernel_rfl) (by kernel_rfl) (Pl.free 0 (by kernel_rfl)) (Pl.move 0 (.tmp 5) (by kernel_rfl) (by decide)) hS0 ?_
  refine Pl.H.take 1 19 (.int .i64 ((0 : Nat) : Int)) (by kernel_rfl) (by kernel_rfl) (by kernel_rfl) (Pl.free 1 (by kernel_rfl)) (Pl.lenOf 1 22 (.tmp 18) _ (by kernel_rfl) (by decide) (fun _ _ => rfl)) hS0 ?_
  refine Pl.H.take 2 20 (.bool false) (by kernel_rfl) (by kernel_rfl) (by kernel_rfl) (Pl.free 2 (by kernel_rfl)) (Pl.binV 2 .gtr 3 3 (.tmp 19) (.const (.int .i64 0)) (.int .i64 ((0 : Nat) : Int)) (.int .i64 0) _ (by kernel_rfl) (by decide) (by decide) rfl rfl (gtrFI _ _ _ _ (by omega))) hS0 ?_
  refine Pl.H.take 3 21 (.bool false) (by kernel_rfl) (by kernel_rfl) (by kernel_rfl) (Pl.free 3 (by kernel_rfl)) (Pl.move 3 (.tmp 20) (by kernel_rfl) (by decide)) hS0 ?_
  refine Pl.H.skip 4 22 (by kernel_rfl) (by kernel_rfl) (by kernel_rfl) (Pl.unwanted 4 3 21 true (by kernel_rfl) (by kernel_rfl) (by decide) rfl) hS0 ?_
  refine Pl.H.skip 5 23 (by kernel_rfl) (by kernel_rfl) (by kernel_rfl) (Pl.unwanted 5 3 21 true (by kernel_rfl) (by kernel_rfl) (by decide) rfl) hS0 ?_
  refine Pl.H.skip 6 24 (by kernel_rfl) (by kernel_rfl) (by kernel_rfl) (Pl.unwanted 6 3 21 true (by kernel_rfl) (by kernel_rfl) (by decide) rfl) hS0 ?_
  refine Pl.H.skip 7 25 (by kernel_rfl) (by kernel_rfl) (by kernel_rfl) (Pl.unwanted 7 3 21 true (by kernel_rfl) (by kernel_rfl) (by decide) rfl) hS0 ?_
  refine Pl.H.skip 8 26 (by kernel_rfl) (by kernel_rfl) (by kernel_rfl) (Pl.unwanted 8 3 21 true (by kernel_rfl) (by kernel_rfl) (by decide) rfl) hS0 ?_
  refine Pl.H.skip 9 27 (by kernel_rfl) (by kernel_rfl) (by kernel_rfl) (Pl.unwanted 9 3 21 true (by kernel_rfl) (by kernel_rfl) (by decide) rfl) hS0 ?_
  refine Pl.H.skip 10 28 (by kernel_rfl) (by kernel_rfl) (by kernel_rfl) (Pl.unwanted 10 3 21 true (by kernel_rfl) (by kernel_rfl) (by decide) rfl) hS0 ?_
  refine Pl.H.skip 11 29 (by kernel_rfl) (by kernel_rfl) (by kernel_rfl) (Pl.unwanted 11 3 21 true (by kernel_rfl) (by kernel_rfl) (by decide) rfl) hS0 ?_
  refine Pl.H.skip 12 30 (by kernel_rfl) (by kernel_rfl) (by kernel_rfl) (Pl.unwanted 12 3 21 true (by kernel_rfl) (by kernel_rfl) (by decide) rfl) hS0 ?_
  refine Pl.H.take 13 31 (.bool false) (by kernel_rfl) (by kernel_rfl) (by kernel_rfl) (Pl.free 13 (by kernel_rfl)) (Pl.pickF 13 (.tmp 21) (.tmp 30) (.const (.bool false)) (by kernel_rfl) (by decide) (by decide) rfl) hS0 ?_
  refine Pl.H.done (by kernel_rfl) (fun A' hA' => ?_)
  rw [Pl.At.ext hA' ((((((((((((((hA.put 18 _).put 19 _).put 20 _).put 21 _).put 22 _).put 23 _).put 24 _).put 25 _).put 26 _).put 27 _).put 28 _).put 29 _).put 30 _).put 31 _)]
  exact hend (fun d => if d = 18 then .slice va 0 vc else if d = 19 then .int .i64 ((0 : Nat) : Int) else if d = 20 then .bool false else if d = 21 then .bool false else if d = 22 then undef else if d = 23 then undef else if d = 24 then undef else if d = 25 then undef else if d = 26 then undef else if d = 27 then undef else if d = 28 then undef else if d = 29 then undef else if d = 30 then undef else undef) _ hS0

set_option maxHeartbeats 2000000 in
set_option maxRecDepth 100000 in
theorem chain6T (w0 w : World) (b1 o1 c1 k g : Nat) (hk : 0 < k) (hm : k ≤ 1000000) (x y : Ux) (hx : UnAt w0 b1 (o1 + (k - 1) * 12) x) (hy : UnBlk w0 g y.u (.slice y.a y.n y.c)) (hfo : follow (some x.u) y.u = true) (hW : Below w0.heap.size w0 w)
    {Q : Exit → Act → World → Prop} {A : Act} (hsz : A.tmps.size = 40) (hdf : A.defers = []) (s5 : A.tmps.getD 5 undef = .slice (some ⟨b1, o1, none⟩) k c1) (s6 : A.tmps.getD 6 undef = .pointer (some ⟨g, 0, none⟩))
    (hend : ∀ (u : Nat → Value) w', Below w0.heap.size w0 w' → Q .normal (((((((((((((((A).put (some 18) (u 18)).put (some 19) (u 19)).put (some 20) (u 20)).put (some 21) (u 21)).put (some 22) (u 22)).put (some 23) (u 23)).put (some 24) (u 24)).put (some 25) (u 25)).put (some 26) (u 26)).put (some 27) (u 27)).put (some 28) (u 28)).put (some 29) (u 29)).put (some 30) (u 30)).put (some 31) (.bool false)) w') :
    (Code.region 6 (Pl.find 6 ((Try.f21.body).getD .skip)) true).wp Try.prog Q A w := by
  have hS0 : Below w0.heap.size w0 w.drew := hW.drew
  have hA := Pl.At.same (v := .pointer (some ⟨g, 0, none⟩)) (d := 6) (Pl.At.same (v := .slice (some ⟨b1, o1, none⟩) k c1) (d := 5) (Pl.At.here hsz hdf) s5) s6
  refine Pl.H.start (S := fun w' => Below w0.heap.size w0 w') (by kernel_rfl) hA hS0 ?_
  rw [show (Pl.find 6 ((Try.f21.body).getD .skip)).size = 14 by kernel_rfl]
  refine Pl.H.take 0 18 (.slice (some ⟨b1, o1, none⟩) k c1) (by kernel_rfl) (by kernel_rfl) (by kernel_rfl) (Pl.free 0 (by kernel_rfl)) (Pl.move 0 (.tmp 5) (by kernel_rfl) (by decide)) hS0 ?_
  refine Pl.H.take 1 19 (.int .i64 ((k : Nat) : Int)) (by kernel_rfl) (by kernel_rfl) (by kernel_rfl) (Pl.free 1 (by kernel_rfl)) (Pl.lenOf 1 22 (.tmp 18) _ (by kernel_rfl) (by decide) (fun _ _ => rfl)) hS0 ?_
  refine Pl.H.take 2 20 (.bool true) (by kernel_rfl) (by kernel_rfl) (by kernel_rfl) (Pl.free 2 (by kernel_rfl)) (Pl.binV 2 .gtr 3 3 (.tmp 19) (.const (.int .i64 0)) (.int .i64 ((k : Nat) : Int)) (.int .i64 0) _ (by kernel_rfl) (by decide) (by decide) rfl rfl (gtrTI _ _ _ _ (by omega))) hS0 ?_
  refine Pl.H.take 3 21 (.bool true) (by kernel_rfl) (by kernel_rfl) (by kernel_rfl) (Pl.free 3 (by kernel_rfl)) (Pl.move 3 (.tmp 20) (by kernel_rfl) (by decide)) hS0 ?_
  refine Pl.H.take 4 22 (.slice (some ⟨b1, o1, none⟩) k c1) (by kernel_rfl) (by kernel_rfl) (by kernel_rfl) (Pl.guarded 4 3 21 true (by kernel_rfl) (by kernel_rfl) (by decide) rfl) (Pl.move 4 (.tmp 5) (by kernel_rfl) (by decide)) hS0 ?_
  refine Pl.H.take 5 23 (.slice (some ⟨b1, o1, none⟩) k c1) (by kernel_rfl) (by kernel_rfl) (by kernel_rfl) (Pl.guarded 5 3 21 true (by kernel_rfl) (by kernel_rfl) (by decide) rfl) (Pl.move 5 (.tmp 5) (by kernel_rfl) (by decide)) hS0 ?_
  refine Pl.H.take 6 24 (.int .i64 ((k : Nat) : Int)) (by kernel_rfl) (by kernel_rfl) (by kernel_rfl) (Pl.guarded 6 3 21 true (by kernel_rfl) (by kernel_rfl) (by decide) rfl) (Pl.lenOf 6 22 (.tmp 23) _ (by kernel_rfl) (by decide) (fun _ _ => rfl)) hS0 ?_
  refine Pl.H.take 7 25 (.int .i64 ((k - 1 : Nat) : Int)) (by kernel_rfl) (by kernel_rfl) (by kernel_rfl) (Pl.guarded 7 3 21 true (by kernel_rfl) (by kernel_rfl) (by decide) rfl) (Pl.binV 7 .sub 3 3 (.tmp 24) (.const (.int .i64 1)) (.int .i64 ((k : Nat) : Int)) (.int .i64 1) _ (by kernel_rfl) (by decide) (by decide) rfl rfl (subN1 k hk hm _ _)) hS0 ?_
  refine Pl.H.take 8 26 (.pointer (some ⟨b1, o1 + (k - 1) * 12, none⟩)) (by kernel_rfl) (by kernel_rfl) (by kernel_rfl) (Pl.guarded 8 3 21 true (by kernel_rfl) (by kernel_rfl) (by decide) rfl) (Pl.index 8 22 (.tmp 22) (.tmp 25) _ (by kernel_rfl) (by decide) (by decide) (index_un b1 o1 k c1 (k - 1) (by omega))) hS0 ?_
  refine Pl.H.take 9 27 (x.val) (by kernel_rfl) (by kernel_rfl) (by kernel_rfl) (Pl.guarded 9 3 21 true (by kernel_rfl) (by kernel_rfl) (by decide) rfl) (Pl.load 9 30 (.tmp 26) _ (by kernel_rfl) (by decide) (fun w' hS => load_unAt b1 (o1 + (k - 1) * 12) x w' (hx.keep hS (Nat.le_refl _)))) hS0 ?_
  refine Pl.H.take 10 28 (y.val) (by kernel_rfl) (by kernel_rfl) (by kernel_rfl) (Pl.guarded 10 3 21 true (by kernel_rfl) (by kernel_rfl) (by decide) rfl) (Pl.load 10 30 (.tmp 6) _ (by kernel_rfl) (by decide) (fun w' hS => load_un g y.u _ ⟨_, _, _, rfl⟩ w' (hy.keep hS))) hS0 ?_
  refine Pl.H.call 11 29 38 [(.tmp 27), (.tmp 28)] #[30, 30] (by kernel_rfl) (by kernel_rfl) (by kernel_rfl) (Pl.guarded 11 3 21 true (by kernel_rfl) (by kernel_rfl) (by decide) rfl) (by kernel_rfl) (by decide) enters38 (Calls.mono (follow_is hfo w.drew) ?_)
  rintro e w1 ⟨rfl, hb1⟩
  have hS1 : Below w0.heap.size w0 w1 := rBelow hS0 hb1
  refine ⟨.bool true, rfl, hS1, ?_⟩
  refine Pl.H.take 12 30 (.bool false) (by kernel_rfl) (by kernel_rfl) (by kernel_rfl) (Pl.guarded 12 3 21 true (by kernel_rfl) (by kernel_rfl) (by decide) rfl) (Pl.neg 12 4 (.tmp 29) true (by kernel_rfl) (by decide) rfl) hS1 ?_
  refine Pl.H.take 13 31 (.bool false) (by kernel_rfl) (by kernel_rfl) (by kernel_rfl) (Pl.free 13 (by kernel_rfl)) (Pl.pick 13 (.tmp 21) (.tmp 30) (.const (.bool false)) (by kernel_rfl) (by decide) (by decide) rfl) hS1 ?_
  refine Pl.H.done (by kernel_rfl) (fun A' hA' => ?_)
  rw [Pl.At.ext hA' ((((((((((((((hA.put 18 _).put 19 _).put 20 _).put 21 _).put 22 _).put 23 _).put 24 _).put 25 _).put 26 _).put 27 _).put 28 _).put 29 _).put 30 _).put 31 _)]
  exact hend (fun d => if d = 18 then .slice (some ⟨b1, o1, none⟩) k c1 else if d = 19 then .int .i64 ((k : Nat) : Int) else if d = 20 then .bool true else if d = 21 then .bool true else if d = 22 then .slice (some ⟨b1, o1, none⟩) k c1 else if d = 23 then .slice (some ⟨b1, o1, none⟩) k c1 else if d = 24 then .int .i64 ((k : Nat) : Int) else if d = 25 then .int .i64 ((k - 1 : Nat) : Int) else if d = 26 then .pointer (some ⟨b1, o1 + (k - 1) * 12, none⟩) else if d = 27 then x.val else if d = 28 then y.val else if d = 29 then .bool true else if d = 30 then .bool false else undef) _ hS1

set_option maxHeartbeats 2000000 in
set_option maxRecDepth 100000 in
theorem chain6F (w0 w : World) (b1 o1 c1 k g : Nat) (hk : 0 < k) (hm : k ≤ 1000000) (x y : Ux) (hx : UnAt w0 b1 (o1 + (k - 1) * 12) x) (hy : UnBlk w0 g y.u (.slice y.a y.n y.c)) (hfo : follow (some x.u) y.u = false) (hW : Below w0.heap.size w0 w)
    {Q : Exit → Act → World → Prop} {A : Act} (hsz : A.tmps.size = 40) (hdf : A.defers = []) (s5 : A.tmps.getD 5 undef = .slice (some ⟨b1, o1, none⟩) k c1) (s6 : A.tmps.getD 6 undef = .pointer (some ⟨g, 0, none⟩))
    (hend : ∀ (u : Nat → Value) w', Below w0.heap.size w0 w' → Q .normal (((((((((((((((A).put (some 18) (u 18)).put (some 19) (u 19)).put (some 20) (u 20)).put (some 21) (u 21)).put (some 22) (u 22)).put (some 23) (u 23)).put (some 24) (u 24)).put (some 25) (u 25)).put (some 26) (u 26)).put (some 27) (u 27)).put (some 28) (u 28)).put (some 29) (u 29)).put (some 30) (u 30)).put (some 31) (.bool true)) w') :
    (Code.region 6 (Pl.find 6 ((Try.f21.body).getD .skip)) true).wp Try.prog Q A w := by
  have hS0 : Below w0.heap.size w0 w.drew := hW.drew
  have hA := Pl.At.same (v := .pointer (some ⟨g, 0, none⟩)) (d := 6) (Pl.At.same (v := .slice (some ⟨b1, o1, none⟩) k c1) (d := 5) (Pl.At.here hsz hdf) s5) s6
  refine Pl.H.start (S := fun w' => Below w0.heap.size w0 w') (by kernel_rfl) hA hS0 ?_
  rw [show (Pl.find 6 ((Try.f21.body).getD .skip)).size = 14 by kernel_rfl]
  refine Pl.H.take 0 18 (.slice (some ⟨b1, o1, none⟩) k c1) (by kernel_rfl) (by kernel_rfl) (by kernel_rfl) (Pl.free 0 (by kernel_rfl)) (Pl.move 0 (.tmp 5) (by kernel_rfl) (by decide)) hS0 ?_
  refine Pl.H.take 1 19 (.int .i64 ((k : Nat) : Int)) (by kernel_rfl) (by kernel_rfl) (by kernel_rfl) (Pl.free 1 (by kernel_rfl)) (Pl.lenOf 1 22 (.tmp 18) _ (by kernel_rfl) (by decide) (fun _ _ => rfl)) hS0 ?_
  refine Pl.H.take 2 20 (.bool true) (by kernel_rfl) (by kernel_rfl) (by kernel_rfl) (Pl.free 2 (by kernel_rfl)) (Pl.binV 2 .gtr 3 3 (.tmp 19) (.const (.int .i64 0)) (.int .i64 ((k : Nat) : Int)) (.int .i64 0) _ (by kernel_rfl) (by decide) (by decide) rfl rfl (gtrTI _ _ _ _ (by omega))) hS0 ?_
  refine Pl.H.take 3 21 (.bool true) (by kernel_rfl) (by kernel_rfl) (by kernel_rfl) (Pl.free 3 (by kernel_rfl)) (Pl.move 3 (.tmp 20) (by kernel_rfl) (by decide)) hS0 ?_
  refine Pl.H.take 4 22 (.slice (some ⟨b1, o1, none⟩) k c1) (by kernel_rfl) (by kernel_rfl) (by kernel_rfl) (Pl.guarded 4 3 21 true (by kernel_rfl) (by kernel_rfl) (by decide) rfl) (Pl.move 4 (.tmp 5) (by kernel_rfl) (by decide)) hS0 ?_
  refine Pl.H.take 5 23 (.slice (some ⟨b1, o1, none⟩) k c1) (by kernel_rfl) (by kernel_rfl) (by kernel_rfl) (Pl.guarded 5 3 21 true (by kernel_rfl) (by kernel_rfl) (by decide) rfl) (Pl.move 5 (.tmp 5) (by kernel_rfl) (by decide)) hS0 ?_
  refine Pl.H.take 6 24 (.int .i64 ((k : Nat) : Int)) (by kernel_rfl) (by kernel_rfl) (by kernel_rfl) (Pl.guarded 6 3 21 true (by kernel_rfl) (by kernel_rfl) (by decide) rfl) (Pl.lenOf 6 22 (.tmp 23) _ (by kernel_rfl) (by decide) (fun _ _ => rfl)) hS0 ?_
  refine Pl.H.take 7 25 (.int .i64 ((k - 1 : Nat) : Int)) (by kernel_rfl) (by kernel_rfl) (by kernel_rfl) (Pl.guarded 7 3 21 true (by kernel_rfl) (by kernel_rfl) (by decide) rfl) (Pl.binV 7 .sub 3 3 (.tmp 24) (.const (.int .i64 1)) (.int .i64 ((k : Nat) : Int)) (.int .i64 1) _ (by kernel_rfl) (by decide) (by decide) rfl rfl (subN1 k hk hm _ _)) hS0 ?_
  refine Pl.H.take 8 26 (.pointer (some ⟨b1, o1 + (k - 1) * 12, none⟩)) (by kernel_rfl) (by kernel_rfl) (by kernel_rfl) (Pl.guarded 8 3 21 true (by kernel_rfl) (by kernel_rfl) (by decide) rfl) (Pl.index 8 22 (.tmp 22) (.tmp 25) _ (by kernel_rfl) (by decide) (by decide) (index_un b1 o1 k c1 (k - 1) (by omega))) hS0 ?_
  refine Pl.H.take 9 27 (x.val) (by kernel_rfl) (by kernel_rfl) (by kernel_rfl) (Pl.guarded 9 3 21 true (by kernel_rfl) (by kernel_rfl) (by decide) rfl) (Pl.load 9 30 (.tmp 26) _ (by kernel_rfl) (by decide) (fun w' hS => load_unAt b1 (o1 + (k - 1) * 12) x w' (hx.keep hS (Nat.le_refl _)))) hS0 ?_
  refine Pl.H.take 10 28 (y.val) (by kernel_rfl) (by kernel_rfl) (by kernel_rfl) (Pl.guarded 10 3 21 true (by kernel_rfl) (by kernel_rfl) (by decide) rfl) (Pl.load 10 30 (.tmp 6) _ (by kernel_rfl) (by decide) (fun w' hS => load_un g y.u _ ⟨_, _, _, rfl⟩ w' (hy.keep hS))) hS0 ?_
  refine Pl.H.call 11 29 38 [(.tmp 27), (.tmp 28)] #[30, 30] (by kernel_rfl) (by kernel_rfl) (by kernel_rfl) (Pl.guarded 11 3 21 true (by kernel_rfl) (by kernel_rfl) (by decide) rfl) (by kernel_rfl) (by decide) enters38 (Calls.mono (follow_is hfo w.drew) ?_)
  rintro e w1 ⟨rfl, hb1⟩
  have hS1 : Below w0.heap.size w0 w1 := rBelow hS0 hb1
  refine ⟨.bool false, rfl, hS1, ?_⟩
  refine Pl.H.take 12 30 (.bool true) (by kernel_rfl) (by kernel_rfl) (by kernel_rfl) (Pl.guarded 12 3 21 true (by kernel_rfl) (by kernel_rfl) (by decide) rfl) (Pl.neg 12 4 (.tmp 29) false (by kernel_rfl) (by decide) rfl) hS1 ?_
  refine Pl.H.take 13 31 (.bool true) (by kernel_rfl) (by kernel_rfl) (by kernel_rfl) (Pl.free 13 (by kernel_rfl)) (Pl.pick 13 (.tmp 21) (.tmp 30) (.const (.bool false)) (by kernel_rfl) (by decide) (by decide) rfl) hS1 ?_
  refine Pl.H.done (by kernel_rfl) (fun A' hA' => ?_)
  rw [Pl.At.ext hA' ((((((((((((((hA.put 18 _).put 19 _).put 20 _).put 21 _).put 22 _).put 23 _).put 24 _).put 25 _).put 26 _).put 27 _).put 28 _).put 29 _).put 30 _).put 31 _)]
  exact hend (fun d => if d = 18 then .slice (some ⟨b1, o1, none⟩) k c1 else if d = 19 then .int .i64 ((k : Nat) : Int) else if d = 20 then .bool true else if d = 21 then .bool true else if d = 22 then .slice (some ⟨b1, o1, none⟩) k c1 else if d = 23 then .slice (some ⟨b1, o1, none⟩) k c1 else if d = 24 then .int .i64 ((k : Nat) : Int) else if d = 25 then .int .i64 ((k - 1 : Nat) : Int) else if d = 26 then .pointer (some ⟨b1, o1 + (k - 1) * 12, none⟩) else if d = 27 then x.val else if d = 28 then y.val else if d = 29 then .bool false else if d = 30 then .bool true else undef) _ hS1

set_option maxHeartbeats 2000000 in
set_option maxRecDepth 100000 in
theorem rch6E (w0 w : World) (g : Nat) (y : Ux) (hy : UnBlk w0 g y.u (.slice y.a y.n y.c)) (hfy : Fs w0 y.a y.n y.c y.u.row.xs) (hem : y.u.emp = true) (hW : Below w0.heap.size w0 w)
    {Q : Exit → Act → World → Prop} {A : Act} (hsz : A.tmps.size = 52) (hdf : A.defers = []) (s7 : A.tmps.getD 7 undef = .pointer (some ⟨g, 0, none⟩))
    (hend : ∀ (u : Nat → Value) w', Below w0.heap.size w0 w' → Q .normal (((((((((((((((((((((((((((A).put (some 18) (u 18)).put (some 19) (u 19)).put (some 20) (u 20)).put (some 21) (u 21)).put (some 22) (u 22)).put (some 23) (u 23)).put (some 24) (u 24)).put (some 25) (u 25)).put (some 26) (u 26)).put (some 27) (u 27)).put (some 28) (u 28)).put (some 29) (u 29)).put (some 30) (u 30)).put (some 31) (u 31)).put (some 32) (u 32)).put (some 33) (u 33)).put (some 34) (u 34)).put (some 35) (u 35)).put (some 36) (u 36)).put (some 37) (u 37)).put (some 38) (u 38)).put (some 39) (u 39)).put (some 40) (u 40)).put (some 41) (u 41)).put (some 42) (u 42)).put (some 43) (.bool true)) w') :
    (Code.region 6 (Pl.find 6 ((Try.f24.body).getD .skip)) true).wp Try.prog Q A w := by
  have hS0 : Below w0.heap.size w0 w.drew := hW.drew
  have hA := Pl.At.same (v := .pointer (some ⟨g, 0, none⟩)) (d := 7) (Pl.At.here hsz hdf) s7
  refine Pl.H.start (S := fun w' => Below w0.heap.size w0 w') (by kernel_rfl) hA hS0 ?_
  rw [show (Pl.find 6 ((Try.f24.body).getD .skip)).size = 26 by kernel_rfl]
  refine Pl.H.take 0 18 (y.val) (by kernel_rfl) (by kernel_rfl) (by kernel_rfl) (Pl.free 0 (by kernel_rfl)) (Pl.load 0 30 (.tmp 7) _ (by kernel_rfl) (by decide) (fun w' hS => load_un g y.u _ ⟨_, _, _, rfl⟩ w' (hy.keep hS))) hS0 ?_
  refine Pl.H.call 1 19 33 [(.tmp 18)] #[30] (by kernel_rfl) (by kernel_rfl) (by kernel_rfl) (Pl.free 1 (by kernel_rfl)) (by kernel_rfl) (by decide) enters33 (Calls.mono (empty_is hem w.drew (hfy.keep hS0 (Nat.le_refl _))) ?_)
  rintro e w1 ⟨rfl, hb1⟩
  have hS1 : Below w0.heap.size w0 w1 := rBelow hS0 hb1
  refine ⟨.bool true, rfl, hS1, ?_⟩
  refine Pl.H.take 2 20 (.bool true) (by kernel_rfl) (by kernel_rfl) (by kernel_rfl) (Pl.free 2 (by kernel_rfl)) (Pl.move 2 (.tmp 19) (by kernel_rfl) (by decide)) hS1 ?_
  refine Pl.H.skip 3 21 (by kernel_rfl) (by kernel_rfl) (by kernel_rfl) (Pl.unwanted 3 2 20 false (by kernel_rfl) (by kernel_rfl) (by decide) rfl) hS1 ?_
  refine Pl.H.skip 4 22 (by kernel_rfl) (by kernel_rfl) (by kernel_rfl) (Pl.unwanted 4 2 20 false (by kernel_rfl) (by kernel_rfl) (by decide) rfl) hS1 ?_
  refine Pl.H.skip 5 23 (by kernel_rfl) (by kernel_rfl) (by kernel_rfl) (Pl.unwanted 5 2 20 false (by kernel_rfl) (by kernel_rfl) (by decide) rfl) hS1 ?_
  refine Pl.H.skip 6 24 (by kernel_rfl) (by kernel_rfl) (by kernel_rfl) (Pl.unwantedU 6 5 23 true (by kernel_rfl) (by kernel_rfl) (by decide) rfl) hS1 ?_
  refine Pl.H.skip 7 25 (by kernel_rfl) (by kernel_rfl) (by kernel_rfl) (Pl.unwantedU 7 5 23 true (by kernel_rfl) (by kernel_rfl) (by decide) rfl) hS1 ?_
  refine Pl.H.skip 8 26 (by kernel_rfl) (by kernel_rfl) (by kernel_rfl) (Pl.unwantedU 8 5 23 true (by kernel_rfl) (by kernel_rfl) (by decide) rfl) hS1 ?_
  refine Pl.H.skip 9 27 (by kernel_rfl) (by kernel_rfl) (by kernel_rfl) (Pl.unwantedU 9 5 23 true (by kernel_rfl) (by kernel_rfl) (by decide) rfl) hS1 ?_
  refine Pl.H.skip 10 28 (by kernel_rfl) (by kernel_rfl) (by kernel_rfl) (Pl.unwantedU 10 5 23 true (by kernel_rfl) (by kernel_rfl) (by decide) rfl) hS1 ?_
  refine Pl.H.skip 11 29 (by kernel_rfl) (by kernel_rfl) (by kernel_rfl) (Pl.unwantedU 11 5 23 true (by kernel_rfl) (by kernel_rfl) (by decide) rfl) hS1 ?_
  refine Pl.H.skip 12 30 (by kernel_rfl) (by kernel_rfl) (by kernel_rfl) (Pl.unwantedU 12 5 23 true (by kernel_rfl) (by kernel_rfl) (by decide) rfl) hS1 ?_
  refine Pl.H.skip 13 31 (by kernel_rfl) (by kernel_rfl) (by kernel_rfl) (Pl.unwantedU 13 5 23 true (by kernel_rfl) (by kernel_rfl) (by decide) rfl) hS1 ?_
  refine Pl.H.skip 14 32 (by kernel_rfl) (by kernel_rfl) (by kernel_rfl) (Pl.unwantedU 14 13 31 false (by kernel_rfl) (by kernel_rfl) (by decide) rfl) hS1 ?_
  refine Pl.H.skip 15 33 (by kernel_rfl) (by kernel_rfl) (by kernel_rfl) (Pl.unwantedU 15 13 31 false (by kernel_rfl) (by kernel_rfl) (by decide) rfl) hS1 ?_
  refine Pl.H.skip 16 34 (by kernel_rfl) (by kernel_rfl) (by kernel_rfl) (Pl.unwantedU 16 13 31 false (by kernel_rfl) (by kernel_rfl) (by decide) rfl) hS1 ?_
  refine Pl.H.skip 17 35 (by kernel_rfl) (by kernel_rfl) (by kernel_rfl) (Pl.unwantedU 17 13 31 false (by kernel_rfl) (by kernel_rfl) (by decide) rfl) hS1 ?_
  refine Pl.H.skip 18 36 (by kernel_rfl) (by kernel_rfl) (by kernel_rfl) (Pl.unwantedU 18 13 31 false (by kernel_rfl) (by kernel_rfl) (by decide) rfl) hS1 ?_
  refine Pl.H.skip 19 37 (by kernel_rfl) (by kernel_rfl) (by kernel_rfl) (Pl.unwantedU 19 13 31 false (by kernel_rfl) (by kernel_rfl) (by decide) rfl) hS1 ?_
  refine Pl.H.skip 20 38 (by kernel_rfl) (by kernel_rfl) (by kernel_rfl) (Pl.unwantedU 20 13 31 false (by kernel_rfl) (by kernel_rfl) (by decide) rfl) hS1 ?_
  refine Pl.H.skip 21 39 (by kernel_rfl) (by kernel_rfl) (by kernel_rfl) (Pl.unwantedU 21 13 31 false (by kernel_rfl) (by kernel_rfl) (by decide) rfl) hS1 ?_
  refine Pl.H.skip 22 40 (by kernel_rfl) (by kernel_rfl) (by kernel_rfl) (Pl.unwantedU 22 13 31 false (by kernel_rfl) (by kernel_rfl) (by decide) rfl) hS1 ?_
  refine Pl.H.skip 23 41 (by kernel_rfl) (by kernel_rfl) (by kernel_rfl) (Pl.unwantedU 23 5 23 true (by kernel_rfl) (by kernel_rfl) (by decide) rfl) hS1 ?_
  refine Pl.H.skip 24 42 (by kernel_rfl) (by kernel_rfl) (by kernel_rfl) (Pl.unwanted 24 2 20 false (by kernel_rfl) (by kernel_rfl) (by decide) rfl) hS1 ?_
  refine Pl.H.take 25 43 (.bool true) (by kernel_rfl) (by kernel_rfl) (by kernel_rfl) (Pl.free 25 (by kernel_rfl)) (Pl.pick 25 (.tmp 20) (.const (.bool true)) (.tmp 42) (by kernel_rfl) (by decide) (by decide) rfl) hS1 ?_
  refine Pl.H.done (by kernel_rfl) (fun A' hA' => ?_)
  rw [Pl.At.ext hA' ((((((((((((((((((((((((((hA.put 18 _).put 19 _).put 20 _).put 21 _).put 22 _).put 23 _).put 24 _).put 25 _).put 26 _).put 27 _).put 28 _).put 29 _).put 30 _).put 31 _).put 32 _).put 33 _).put 34 _).put 35 _).put 36 _).put 37 _).put 38 _).put 39 _).put 40 _).put 41 _).put 42 _).put 43 _)]
  exact hend (fun d => if d = 18 then y.val else if d = 19 then .bool true else if d = 20 then .bool true else if d = 21 then undef else if d = 22 then undef else if d = 23 then undef else if d = 24 then undef else if d = 25 then undef else if d = 26 then undef else if d = 27 then undef else if d = 28 then undef else if d = 29 then undef else if d = 30 then undef else if d = 31 then undef else if d = 32 then undef else if d = 33 then undef else if d = 34 then undef else if d = 35 then undef else if d = 36 then undef else if d = 37 then undef else if d = 38 then undef else if d = 39 then undef else if d = 40 then undef else if d = 41 then undef else if d = 42 then undef else undef) _ hS1

set_option maxHeartbeats 2000000 in
set_option maxRecDepth 100000 in
theorem rch6Z (w0 w : World) (g : Nat) (y : Ux) (hy : UnBlk w0 g y.u (.slice y.a y.n y.c)) (hfy : Fs w0 y.a y.n y.c y.u.row.xs) (hem : y.u.emp = false) (hW : Below w0.heap.size w0 w)
    {Q : Exit → Act → World → Prop} {A : Act} (hsz : A.tmps.size = 52) (hdf : A.defers = []) (s6 : A.tmps.getD 6 undef = .int .i64 0) (s7 : A.tmps.getD 7 undef = .pointer (some ⟨g, 0, none⟩))
    (hend : ∀ (u : Nat → Value) w', Below w0.heap.size w0 w' → Q .normal (((((((((((((((((((((((((((A).put (some 18) (u 18)).put (some 19) (u 19)).put (some 20) (u 20)).put (some 21) (u 21)).put (some 22) (u 22)).put (some 23) (u 23)).put (some 24) (u 24)).put (some 25) (u 25)).put (some 26) (u 26)).put (some 27) (u 27)).put (some 28) (u 28)).put (some 29) (u 29)).put (some 30) (u 30)).put (some 31) (u 31)).put (some 32) (u 32)).put (some 33) (u 33)).put (some 34) (u 34)).put (some 35) (u 35)).put (some 36) (u 36)).put (some 37) (u 37)).put (some 38) (u 38)).put (some 39) (u 39)).put (some 40) (u 40)).put (some 41) (u 41)).put (some 42) (u 42)).put (some 43) (.bool false)) w') :
    (Code.region 6 (Pl.find 6 ((Try.f24.body).getD .skip)) true).wp Try.prog Q A w := by
  have hS0 : Below w0.heap.size w0 w.drew := hW.drew
  have hA := Pl.At.same (v := .pointer (some ⟨g, 0, none⟩)) (d := 7) (Pl.At.same (v := .int .i64 0) (d := 6) (Pl.At.here hsz hdf) s6) s7
  refine Pl.H.start (S := fun w' => Below w0.heap.size w0 w') (by kernel_rfl) hA hS0 ?_
  rw [show (Pl.find 6 ((Try.f24.body).getD .skip)).size = 26 by kernel_rfl]
  refine Pl.H.take 0 18 (y.val) (by kernel_rfl) (by kernel_rfl) (by kernel_rfl) (Pl.free 0 (by kernel_rfl)) (Pl.load 0 30 (.tmp 7) _ (by kernel_rfl) (by decide) (fun w' hS => load_un g y.u _ ⟨_, _, _, rfl⟩ w' (hy.keep hS))) hS0 ?_
  refine Pl.H.call 1 19 33 [(.tmp 18)] #[30] (by kernel_rfl) (by kernel_rfl) (by kernel_rfl) (Pl.free 1 (by kernel_rfl)) (by kernel_rfl) (by decide) enters33 (Calls.mono (empty_is hem w.drew (hfy.keep hS0 (Nat.le_refl _))) ?_)
  rintro e w1 ⟨rfl, hb1⟩
  have hS1 : Below w0.heap.size w0 w1 := rBelow hS0 hb1
  refine ⟨.bool false, rfl, hS1, ?_⟩
  refine Pl.H.take 2 20 (.bool false) (by kernel_rfl) (by kernel_rfl) (by kernel_rfl) (Pl.free 2 (by kernel_rfl)) (Pl.move 2 (.tmp 19) (by kernel_rfl) (by decide)) hS1 ?_
  refine Pl.H.take 3 21 (.int .i64 0) (by kernel_rfl) (by kernel_rfl) (by kernel_rfl) (Pl.guarded 3 2 20 false (by kernel_rfl) (by kernel_rfl) (by decide) rfl) (Pl.move 3 (.tmp 6) (by kernel_rfl) (by decide)) hS1 ?_
  refine Pl.H.take 4 22 (.bool false) (by kernel_rfl) (by kernel_rfl) (by kernel_rfl) (Pl.guarded 4 2 20 false (by kernel_rfl) (by kernel_rfl) (by decide) rfl) (Pl.binV 4 .gtr 3 3 (.tmp 21) (.const (.int .i64 0)) (.int .i64 0) (.int .i64 0) _ (by kernel_rfl) (by decide) (by decide) rfl rfl (gtrFI _ _ _ _ (by omega))) hS1 ?_
  refine Pl.H.take 5 23 (.bool false) (by kernel_rfl) (by kernel_rfl) (by kernel_rfl) (Pl.guarded 5 2 20 false (by kernel_rfl) (by kernel_rfl) (by decide) rfl) (Pl.move 5 (.tmp 22) (by kernel_rfl) (by decide)) hS1 ?_
  refine Pl.H.skip 6 24 (by kernel_rfl) (by kernel_rfl) (by kernel_rfl) (Pl.unwanted 6 5 23 true (by kernel_rfl) (by kernel_rfl) (by decide) rfl) hS1 ?_
  refine Pl.H.skip 7 25 (by kernel_rfl) (by kernel_rfl) (by kernel_rfl) (Pl.unwanted 7 5 23 true (by kernel_rfl) (by kernel_rfl) (by decide) rfl) hS1 ?_
  refine Pl.H.skip 8 26 (by kernel_rfl) (by kernel_rfl) (by kernel_rfl) (Pl.unwanted 8 5 23 true (by kernel_rfl) (by kernel_rfl) (by decide) rfl) hS1 ?_
  refine Pl.H.skip 9 27 (by kernel_rfl) (by kernel_rfl) (by kernel_rfl) (Pl.unwanted 9 5 23 true (by kernel_rfl) (by kernel_rfl) (by decide) rfl) hS1 ?_
  refine Pl.H.skip 10 28 (by kernel_rfl) (by kernel_rfl) (by kernel_rfl) (Pl.unwanted 10 5 23 true (by kernel_rfl) (by kernel_rfl) (by decide) rfl) hS1 ?_
  refine Pl.H.skip 11 29 (by kernel_rfl) (by kernel_rfl) (by kernel_rfl) (Pl.unwanted 11 5 23 true (by kernel_rfl) (by kernel_rfl) (by decide) rfl) hS1 ?_
  refine Pl.H.skip 12 30 (by kernel_rfl) (by kernel_rfl) (by kernel_rfl) (Pl.unwanted 12 5 23 true (by kernel_rfl) (by kernel_rfl) (by decide) rfl) hS1 ?_
  refine Pl.H.skip 13 31 (by kernel_rfl) (by kernel_rfl) (by kernel_rfl) (Pl.unwanted 13 5 23 true (by kernel_rfl) (by kernel_rfl) (by decide) rfl) hS1 ?_
  refine Pl.H.skip 14 32 (by kernel_rfl) (by kernel_rfl) (by kernel_rfl) (Pl.unwantedU 14 13 31 false (by kernel_rfl) (by kernel_rfl) (by decide) rfl) hS1 ?_
  refine Pl.H.skip 15 33 (by kernel_rfl) (by kernel_rfl) (by kernel_rfl) (Pl.unwantedU 15 13 31 false (by kernel_rfl) (by kernel_rfl) (by decide) rfl) hS1 ?_
  refine Pl.H.skip 16 34 (by kernel_rfl) (by kernel_rfl) (by kernel_rfl) (Pl.unwantedU 16 13 31 false (by kernel_rfl) (by kernel_rfl) (by decide) rfl) hS1 ?_
  refine Pl.H.skip 17 35 (by kernel_rfl) (by kernel_rfl) (by kernel_rfl) (Pl.unwantedU 17 13 31 false (by kernel_rfl) (by kernel_rfl) (by decide) rfl) hS1 ?_
  refine Pl.H.skip 18 36 (by kernel_rfl) (by kernel_rfl) (by kernel_rfl) (Pl.unwantedU 18 13 31 false (by kernel_rfl) (by kernel_rfl) (by decide) rfl) hS1 ?_
  refine Pl.H.skip 19 37 (by kernel_rfl) (by kernel_rfl) (by kernel_rfl) (Pl.unwantedU 19 13 31 false (by kernel_rfl) (by kernel_rfl) (by decide) rfl) hS1 ?_
  refine Pl.H.skip 20 38 (by kernel_rfl) (by kernel_rfl) (by kernel_rfl) (Pl.unwantedU 20 13 31 false (by kernel_rfl) (by kernel_rfl) (by decide) rfl) hS1 ?_
  refine Pl.H.skip 21 39 (by kernel_rfl) (by kernel_rfl) (by kernel_rfl) (Pl.unwantedU 21 13 31 false (by kernel_rfl) (by kernel_rfl) (by decide) rfl) hS1 ?_
  refine Pl.H.skip 22 40 (by kernel_rfl) (by kernel_rfl) (by kernel_rfl) (Pl.unwantedU 22 13 31 false (by kernel_rfl) (by kernel_rfl) (by decide) rfl) hS1 ?_
  refine Pl.H.skip 23 41 (by kernel_rfl) (by kernel_rfl) (by kernel_rfl) (Pl.unwanted 23 5 23 true (by kernel_rfl) (by kernel_rfl) (by decide) rfl) hS1 ?_
  refine Pl.H.take 24 42 (.bool false) (by kernel_rfl) (by kernel_rfl) (by kernel_rfl) (Pl.guarded 24 2 20 false (by kernel_rfl) (by kernel_rfl) (by decide) rfl) (Pl.pickF 24 (.tmp 23) (.tmp 41) (.const (.bool false)) (by kernel_rfl) (by decide) (by decide) rfl) hS1 ?_
  refine Pl.H.take 25 43 (.bool false) (by kernel_rfl) (by kernel_rfl) (by kernel_rfl) (Pl.free 25 (by kernel_rfl)) (Pl.pickF 25 (.tmp 20) (.const (.bool true)) (.tmp 42) (by kernel_rfl) (by decide) (by decide) rfl) hS1 ?_
  refine Pl.H.done (by kernel_rfl) (fun A' hA' => ?_)
  rw [Pl.At.ext hA' ((((((((((((((((((((((((((hA.put 18 _).put 19 _).put 20 _).put 21 _).put 22 _).put 23 _).put 24 _).put 25 _).put 26 _).put 27 _).put 28 _).put 29 _).put 30 _).put 31 _).put 32 _).put 33 _).put 34 _).put 35 _).put 36 _).put 37 _).put 38 _).put 39 _).put 40 _).put 41 _).put 42 _).put 43 _)]
  exact hend (fun d => if d = 18 then y.val else if d = 19 then .bool false else if d = 20 then .bool false else if d = 21 then .int .i64 0 else if d = 22 then .bool false else if d = 23 then .bool false else if d = 24 then undef else if d = 25 then undef else if d = 26 then undef else if d = 27 then undef else if d = 28 then undef else if d = 29 then undef else if d = 30 then undef else if d = 31 then undef else if d = 32 then undef else if d = 33 then undef else if d = 34 then undef else if d = 35 then undef else if d = 36 then undef else if d = 37 then undef else if d = 38 then undef else if d = 39 then undef else if d = 40 then undef else if d = 41 then undef else if d = 42 then .bool false else undef) _ hS1

set_option maxHeartbeats 2000000 in
set_option maxRecDepth 100000 in
theorem rch6T (w0 w : World) (g : Nat) (y : Ux) (hy : UnBlk w0 g y.u (.slice y.a y.n y.c)) (hfy : Fs w0 y.a y.n y.c y.u.row.xs) (b1 o1 c1 k : Nat) (hk : 0 < k) (hm : k ≤ 1000000) (z x : Ux) (hz : UnAt w0 b1 o1 z) (hx : UnAt w0 b1 (o1 + (k - 1) * 12) x) (htx : y.u.tx ≠ z.u.tx) (hem : y.u.emp = false) (hW : Below w0.heap.size w0 w)
    {Q : Exit → Act → World → Prop} {A : Act} (hsz : A.tmps.size = 52) (hdf : A.defers = []) (s5 : A.tmps.getD 5 undef = .slice (some ⟨b1, o1, none⟩) k c1) (s6 : A.tmps.getD 6 undef = .int .i64 ((k : Nat) : Int)) (s7 : A.tmps.getD 7 undef = .pointer (some ⟨g, 0, none⟩))
    (hend : ∀ (u : Nat → Value) w', Below w0.heap.size w0 w' → Q .normal (((((((((((((((((((((((((((A).put (some 18) (u 18)).put (some 19) (u 19)).put (some 20) (u 20)).put (some 21) (u 21)).put (some 22) (u 22)).put (some 23) (u 23)).put (some 24) (u 24)).put (some 25) (u 25)).put (some 26) (u 26)).put (some 27) (u 27)).put (some 28) (u 28)).put (some 29) (u 29)).put (some 30) (u 30)).put (some 31) (u 31)).put (some 32) (u 32)).put (some 33) (u 33)).put (some 34) (u 34)).put (some 35) (u 35)).put (some 36) (u 36)).put (some 37) (u 37)).put (some 38) (u 38)).put (some 39) (u 39)).put (some 40) (u 40)).put (some 41) (u 41)).put (some 42) (u 42)).put (some 43) (.bool true)) w') :
    (Code.region 6 (Pl.find 6 ((Try.f24.body).getD .skip)) true).wp Try.prog Q A w := by
  have hS0 : Below w0.heap.size w0 w.drew := hW.drew
  have hA := Pl.At.same (v := .pointer (some ⟨g, 0, none⟩)) (d := 7) (Pl.At.same (v := .int .i64 ((k : Nat) : Int)) (d := 6) (Pl.At.same (v := .slice (some ⟨b1, o1, none⟩) k c1) (d := 5) (Pl.At.here hsz hdf) s5) s6) s7
  refine Pl.H.start (S := fun w' => Below w0.heap.size w0 w') (by kernel_rfl) hA hS0 ?_
  rw [show (Pl.find 6 ((Try.f24.body).getD .skip)).size = 26 by kernel_rfl]
  refine Pl.H.take 0 18 (y.val) (by kernel_rfl) (by kernel_rfl) (by kernel_rfl) (Pl.free 0 (by kernel_rfl)) (Pl.load 0 30 (.tmp 7) _ (by kernel_rfl) (by decide) (fun w' hS => load_un g y.u _ ⟨_, _, _, rfl⟩ w' (hy.keep hS))) hS0 ?_
  refine Pl.H.call 1 19 33 [(.tmp 18)] #[30] (by kernel_rfl) (by kernel_rfl) (by kernel_rfl) (Pl.free 1 (by kernel_rfl)) (by kernel_rfl) (by decide) enters33 (Calls.mono (empty_is hem w.drew (hfy.keep hS0 (Nat.le_refl _))) ?_)
  rintro e w1 ⟨rfl, hb1⟩
  have hS1 : Below w0.heap.size w0 w1 := rBelow hS0 hb1
  refine ⟨.bool false, rfl, hS1, ?_⟩
  refine Pl.H.take 2 20 (.bool false) (by kernel_rfl) (by kernel_rfl) (by kernel_rfl) (Pl.free 2 (by kernel_rfl)) (Pl.move 2 (.tmp 19) (by kernel_rfl) (by decide)) hS1 ?_
  refine Pl.H.take 3 21 (.int .i64 ((k : Nat) : Int)) (by kernel_rfl) (by kernel_rfl) (by kernel_rfl) (Pl.guarded 3 2 20 false (by kernel_rfl) (by kernel_rfl) (by decide) rfl) (Pl.move 3 (.tmp 6) (by kernel_rfl) (by decide)) hS1 ?_
  refine Pl.H.take 4 22 (.bool true) (by kernel_rfl) (by kernel_rfl) (by kernel_rfl) (Pl.guarded 4 2 20 false (by kernel_rfl) (by kernel_rfl) (by decide) rfl) (Pl.binV 4 .gtr 3 3 (.tmp 21) (.const (.int .i64 0)) (.int .i64 ((k : Nat) : Int)) (.int .i64 0) _ (by kernel_rfl) (by decide) (by decide) rfl rfl (gtrTI _ _ _ _ (by omega))) hS1 ?_
  refine Pl.H.take 5 23 (.bool true) (by kernel_rfl) (by kernel_rfl) (by kernel_rfl) (Pl.guarded 5 2 20 false (by kernel_rfl) (by kernel_rfl) (by decide) rfl) (Pl.move 5 (.tmp 22) (by kernel_rfl) (by decide)) hS1 ?_
  refine Pl.H.take 6 24 (.pointer (some ⟨g, 0, none⟩)) (by kernel_rfl) (by kernel_rfl) (by kernel_rfl) (Pl.guarded 6 5 23 true (by kernel_rfl) (by kernel_rfl) (by decide) rfl) (Pl.field 6 30 (.tmp 7) 0 _ (by kernel_rfl) (by decide) (fdUB0 g)) hS1 ?_
  refine Pl.H.take 7 25 (.int .i64 y.u.tx) (by kernel_rfl) (by kernel_rfl) (by kernel_rfl) (Pl.guarded 7 5 23 true (by kernel_rfl) (by kernel_rfl) (by decide) rfl) (Pl.load 7 3 (.tmp 24) _ (by kernel_rfl) (by decide) (fun w' hS => load_intC (hy.keep hS).c0)) hS1 ?_
  refine Pl.H.take 8 26 (.slice (some ⟨b1, o1, none⟩) k c1) (by kernel_rfl) (by kernel_rfl) (by kernel_rfl) (Pl.guarded 8 5 23 true (by kernel_rfl) (by kernel_rfl) (by decide) rfl) (Pl.move 8 (.tmp 5) (by kernel_rfl) (by decide)) hS1 ?_
  refine Pl.H.take 9 27 (.pointer (some ⟨b1, o1, none⟩)) (by kernel_rfl) (by kernel_rfl) (by kernel_rfl) (Pl.guarded 9 5 23 true (by kernel_rfl) (by kernel_rfl) (by decide) rfl) (Pl.index 9 22 (.tmp 26) (.const (.int .i64 0)) _ (by kernel_rfl) (by decide) (by decide) (index_un0 b1 o1 k c1 hk)) hS1 ?_
  refine Pl.H.take 10 28 (.pointer (some ⟨b1, o1, none⟩)) (by kernel_rfl) (by kernel_rfl) (by kernel_rfl) (Pl.guarded 10 5 23 true (by kernel_rfl) (by kernel_rfl) (by decide) rfl) (Pl.field 10 30 (.tmp 27) 0 _ (by kernel_rfl) (by decide) (fdU0 b1 o1)) hS1 ?_
  refine Pl.H.take 11 29 (.int .i64 z.u.tx) (by kernel_rfl) (by kernel_rfl) (by kernel_rfl) (Pl.guarded 11 5 23 true (by kernel_rfl) (by kernel_rfl) (by decide) rfl) (Pl.load 11 3 (.tmp 28) _ (by kernel_rfl) (by decide) (fun w' hS => load_intC (hz.keep hS (Nat.le_refl _)).c0)) hS1 ?_
  refine Pl.H.take 12 30 (.bool true) (by kernel_rfl) (by kernel_rfl) (by kernel_rfl) (Pl.guarded 12 5 23 true (by kernel_rfl) (by kernel_rfl) (by decide) rfl) (Pl.binV 12 .neq 3 3 (.tmp 25) (.tmp 29) (.int .i64 y.u.tx) (.int .i64 z.u.tx) _ (by kernel_rfl) (by decide) (by decide) rfl rfl (neqTI _ _ _ _ htx)) hS1 ?_
  refine Pl.H.take 13 31 (.bool true) (by kernel_rfl) (by kernel_rfl) (by kernel_rfl) (Pl.guarded 13 5 23 true (by kernel_rfl) (by kernel_rfl) (by decide) rfl) (Pl.move 13 (.tmp 30) (by kernel_rfl) (by decide)) hS1 ?_
  refine Pl.H.skip 14 32 (by kernel_rfl) (by kernel_rfl) (by kernel_rfl) (Pl.unwanted 14 13 31 false (by kernel_rfl) (by kernel_rfl) (by decide) rfl) hS1 ?_
  refine Pl.H.skip 15 33 (by kernel_rfl) (by kernel_rfl) (by kernel_rfl) (Pl.unwanted 15 13 31 false (by kernel_rfl) (by kernel_rfl) (by decide) rfl) hS1 ?_
  refine Pl.H.skip 16 34 (by kernel_rfl) (by kernel_rfl) (by kernel_rfl) (Pl.unwanted 16 13 31 false (by kernel_rfl) (by kernel_rfl) (by decide) rfl) hS1 ?_
  refine Pl.H.skip 17 35 (by kernel_rfl) (by kernel_rfl) (by kernel_rfl) (Pl.unwanted 17 13 31 false (by kernel_rfl) (by kernel_rfl) (by decide) rfl) hS1 ?_
  refine Pl.H.skip 18 36 (by kernel_rfl) (by kernel_rfl) (by kernel_rfl) (Pl.unwanted 18 13 31 false (by kernel_rfl) (by kernel_rfl) (by decide) rfl) hS1 ?_
  refine Pl.H.skip 19 37 (by kernel_rfl) (by kernel_rfl) (by kernel_rfl) (Pl.unwanted 19 13 31 false (by kernel_rfl) (by kernel_rfl) (by decide) rfl) hS1 ?_
  refine Pl.H.skip 20 38 (by kernel_rfl) (by kernel_rfl) (by kernel_rfl) (Pl.unwanted 20 13 31 false (by kernel_rfl) (by kernel_rfl) (by decide) rfl) hS1 ?_
  refine Pl.H.skip 21 39 (by kernel_rfl) (by kernel_rfl) (by kernel_rfl) (Pl.unwanted 21 13 31 false (by kernel_rfl) (by kernel_rfl) (by decide) rfl) hS1 ?_
  refine Pl.H.skip 22 40 (by kernel_rfl) (by kernel_rfl) (by kernel_rfl) (Pl.unwanted 22 13 31 false (by kernel_rfl) (by kernel_rfl) (by decide) rfl) hS1 ?_
  refine Pl.H.take 23 41 (.bool true) (by kernel_rfl) (by kernel_rfl) (by kernel_rfl) (Pl.guarded 23 5 23 true (by kernel_rfl) (by kernel_rfl) (by decide) rfl) (Pl.pick 23 (.tmp 31) (.const (.bool true)) (.tmp 40) (by kernel_rfl) (by decide) (by decide) rfl) hS1 ?_
  refine Pl.H.take 24 42 (.bool true) (by kernel_rfl) (by kernel_rfl) (by kernel_rfl) (Pl.guarded 24 2 20 false (by kernel_rfl) (by kernel_rfl) (by decide) rfl) (Pl.pick 24 (.tmp 23) (.tmp 41) (.const (.bool false)) (by kernel_rfl) (by decide) (by decide) rfl) hS1 ?_
  refine Pl.H.take 25 43 (.bool true) (by kernel_rfl) (by kernel_rfl) (by kernel_rfl) (Pl.free 25 (by kernel_rfl)) (Pl.pickF 25 (.tmp 20) (.const (.bool true)) (.tmp 42) (by kernel_rfl) (by decide) (by decide) rfl) hS1 ?_
  refine Pl.H.done (by kernel_rfl) (fun A' hA' => ?_)
  rw [Pl.At.ext hA' ((((((((((((((((((((((((((hA.put 18 _).put 19 _).put 20 _).put 21 _).put 22 _).put 23 _).put 24 _).put 25 _).put 26 _).put 27 _).put 28 _).put 29 _).put 30 _).put 31 _).put 32 _).put 33 _).put 34 _).put 35 _).put 36 _).put 37 _).put 38 _).put 39 _).put 40 _).put 41 _).put 42 _).put 43 _)]
  exact hend (fun d => if d = 18 then y.val else if d = 19 then .bool false else if d = 20 then .bool false else if d = 21 then .int .i64 ((k : Nat) : Int) else if d = 22 then .bool true else if d = 23 then .bool true else if d = 24 then .pointer (some ⟨g, 0, none⟩) else if d = 25 then .int .i64 y.u.tx else if d = 26 then .slice (some ⟨b1, o1, none⟩) k c1 else if d = 27 then .pointer (some ⟨b1, o1, none⟩) else if d = 28 then .pointer (some ⟨b1, o1, none⟩) else if d = 29 then .int .i64 z.u.tx else if d = 30 then .bool true else if d = 31 then .bool true else if d = 32 then undef else if d = 33 then undef else if d = 34 then undef else if d = 35 then undef else if d = 36 then undef else if d = 37 then undef else if d = 38 then undef else if d = 39 then undef else if d = 40 then undef else if d = 41 then .bool true else if d = 42 then .bool true else undef) _ hS1

set_option maxHeartbeats 2000000 in
set_option maxRecDepth 100000 in
theorem rch6N (w0 w : World) (g : Nat) (y : Ux) (hy : UnBlk w0 g y.u (.slice y.a y.n y.c)) (hfy : Fs w0 y.a y.n y.c y.u.row.xs) (b1 o1 c1 k : Nat) (hk : 0 < k) (hm : k ≤ 1000000) (z x : Ux) (hz : UnAt w0 b1 o1 z) (hx : UnAt w0 b1 (o1 + (k - 1) * 12) x) (htx : ¬ (y.u.tx ≠ z.u.tx)) (hno : x.u.no ≤ y.u.no) (hem : y.u.emp = false) (hW : Below w0.heap.size w0 w)
    {Q : Exit → Act → World → Prop} {A : Act} (hsz : A.tmps.size = 52) (hdf : A.defers = []) (s5 : A.tmps.getD 5 undef = .slice (some ⟨b1, o1, none⟩) k c1) (s6 : A.tmps.getD 6 undef = .int .i64 ((k : Nat) : Int)) (s7 : A.tmps.getD 7 undef = .pointer (some ⟨g, 0, none⟩))
    (hend : ∀ (u : Nat → Value) w', Below w0.heap.size w0 w' → Q .normal (((((((((((((((((((((((((((A).put (some 18) (u 18)).put (some 19) (u 19)).put (some 20) (u 20)).put (some 21) (u 21)).put (some 22) (u 22)).put (some 23) (u 23)).put (some 24) (u 24)).put (some 25) (u 25)).put (some 26) (u 26)).put (some 27) (u 27)).put (some 28) (u 28)).put (some 29) (u 29)).put (some 30) (u 30)).put (some 31) (u 31)).put (some 32) (u 32)).put (some 33) (u 33)).put (some 34) (u 34)).put (some 35) (u 35)).put (some 36) (u 36)).put (some 37) (u 37)).put (some 38) (u 38)).put (some 39) (u 39)).put (some 40) (u 40)).put (some 41) (u 41)).put (some 42) (u 42)).put (some 43) (.bool true)) w') :
    (Code.region 6 (Pl.find 6 ((Try.f24.body).getD .skip)) true).wp Try.prog Q A w := by
  have hS0 : Below w0.heap.size w0 w.drew := hW.drew
  have hA := Pl.At.same (v := .pointer (some ⟨g, 0, none⟩)) (d := 7) (Pl.At.same (v := .int .i64 ((k : Nat) : Int)) (d := 6) (Pl.At.same (v := .slice (some ⟨b1, o1, none⟩) k c1) (d := 5) (Pl.At.here hsz hdf) s5) s6) s7
  refine Pl.H.start (S := fun w' => Below w0.heap.size w0 w') (by kernel_rfl) hA hS0 ?_
  rw [show (Pl.find 6 ((Try.f24.body).getD .skip)).size = 26 by kernel_rfl]
  refine Pl.H.take 0 18 (y.val) (by kernel_rfl) (by kernel_rfl) (by kernel_rfl) (Pl.free 0 (by kernel_rfl)) (Pl.load 0 30 (.tmp 7) _ (by kernel_rfl) (by decide) (fun w' hS => load_un g y.u _ ⟨_, _, _, rfl⟩ w' (hy.keep hS))) hS0 ?_
  refine Pl.H.call 1 19 33 [(.tmp 18)] #[30] (by kernel_rfl) (by kernel_rfl) (by kernel_rfl) (Pl.free 1 (by kernel_rfl)) (by kernel_rfl) (by decide) enters33 (Calls.mono (empty_is hem w.drew (hfy.keep hS0 (Nat.le_refl _))) ?_)
  rintro e w1 ⟨rfl, hb1⟩
  have hS1 : Below w0.heap.size w0 w1 := rBelow hS0 hb1
  refine ⟨.bool false, rfl, hS1, ?_⟩
  refine Pl.H.take 2 20 (.bool false) (by kernel_rfl) (by kernel_rfl) (by kernel_rfl) (Pl.free 2 (by kernel_rfl)) (Pl.move 2 (.tmp 19) (by kernel_rfl) (by decide)) hS1 ?_
  refine Pl.H.take 3 21 (.int .i64 ((k : Nat) : Int)) (by kernel_rfl) (by kernel_rfl) (by kernel_rfl) (Pl.guarded 3 2 20 false (by kernel_rfl) (by kernel_rfl) (by decide) rfl) (Pl.move 3 (.tmp 6) (by kernel_rfl) (by decide)) hS1 ?_
  refine Pl.H.take 4 22 (.bool true) (by kernel_rfl) (by kernel_rfl) (by kernel_rfl) (Pl.guarded 4 2 20 false (by kernel_rfl) (by kernel_rfl) (by decide) rfl) (Pl.binV 4 .gtr 3 3 (.tmp 21) (.const (.int .i64 0)) (.int .i64 ((k : Nat) : Int)) (.int .i64 0) _ (by kernel_rfl) (by decide) (by decide) rfl rfl (gtrTI _ _ _ _ (by omega))) hS1 ?_
  refine Pl.H.take 5 23 (.bool true) (by kernel_rfl) (by kernel_rfl) (by kernel_rfl) (Pl.guarded 5 2 20 false (by kernel_rfl) (by kernel_rfl) (by decide) rfl) (Pl.move 5 (.tmp 22) (by kernel_rfl) (by decide)) hS1 ?_
  refine Pl.H.take 6 24 (.pointer (some ⟨g, 0, none⟩)) (by kernel_rfl) (by kernel_rfl) (by kernel_rfl) (Pl.guarded 6 5 23 true (by kernel_rfl) (by kernel_rfl) (by decide) rfl) (Pl.field 6 30 (.tmp 7) 0 _ (by kernel_rfl) (by decide) (fdUB0 g)) hS1 ?_
  refine Pl.H.take 7 25 (.int .i64 y.u.tx) (by kernel_rfl) (by kernel_rfl) (by kernel_rfl) (Pl.guarded 7 5 23 true (by kernel_rfl) (by kernel_rfl) (by decide) rfl) (Pl.load 7 3 (.tmp 24) _ (by kernel_rfl) (by decide) (fun w' hS => load_intC (hy.keep hS).c0)) hS1 ?_
  refine Pl.H.take 8 26 (.slice (some ⟨b1, o1, none⟩) k c1) (by kernel_rfl) (by kernel_rfl) (by kernel_rfl) (Pl.guarded 8 5 23 true (by kernel_rfl) (by kernel_rfl) (by decide) rfl) (Pl.move 8 (.tmp 5) (by kernel_rfl) (by decide)) hS1 ?_
  refine Pl.H.take 9 27 (.pointer (some ⟨b1, o1, none⟩)) (by kernel_rfl) (by kernel_rfl) (by kernel_rfl) (Pl.guarded 9 5 23 true (by kernel_rfl) (by kernel_rfl) (by decide) rfl) (Pl.index 9 22 (.tmp 26) (.const (.int .i64 0)) _ (by kernel_rfl) (by decide) (by decide) (index_un0 b1 o1 k c1 hk)) hS1 ?_
  refine Pl.H.take 10 28 (.pointer (some ⟨b1, o1, none⟩)) (by kernel_rfl) (by kernel_rfl) (by kernel_rfl) (Pl.guarded 10 5 23 true (by kernel_rfl) (by kernel_rfl) (by decide) rfl) (Pl.field 10 30 (.tmp 27) 0 _ (by kernel_rfl) (by decide) (fdU0 b1 o1)) hS1 ?_
  refine Pl.H.take 11 29 (.int .i64 z.u.tx) (by kernel_rfl) (by kernel_rfl) (by kernel_rfl) (Pl.guarded 11 5 23 true (by kernel_rfl) (by kernel_rfl) (by decide) rfl) (Pl.load 11 3 (.tmp 28) _ (by kernel_rfl) (by decide) (fun w' hS => load_intC (hz.keep hS (Nat.le_refl _)).c0)) hS1 ?_
  refine Pl.H.take 12 30 (.bool false) (by kernel_rfl) (by kernel_rfl) (by kernel_rfl) (Pl.guarded 12 5 23 true (by kernel_rfl) (by kernel_rfl) (by decide) rfl) (Pl.binV 12 .neq 3 3 (.tmp 25) (.tmp 29) (.int .i64 y.u.tx) (.int .i64 z.u.tx) _ (by kernel_rfl) (by decide) (by decide) rfl rfl (neqFI _ _ _ _ htx)) hS1 ?_
  refine Pl.H.take 13 31 (.bool false) (by kernel_rfl) (by kernel_rfl) (by kernel_rfl) (Pl.guarded 13 5 23 true (by kernel_rfl) (by kernel_rfl) (by decide) rfl) (Pl.move 13 (.tmp 30) (by kernel_rfl) (by decide)) hS1 ?_
  refine Pl.H.take 14 32 (.pointer (some ⟨g, 1, none⟩)) (by kernel_rfl) (by kernel_rfl) (by kernel_rfl) (Pl.guarded 14 13 31 false (by kernel_rfl) (by kernel_rfl) (by decide) rfl) (Pl.field 14 30 (.tmp 7) 1 _ (by kernel_rfl) (by decide) (fdUB1 g)) hS1 ?_
  refine Pl.H.take 15 33 (.int .i64 y.u.no) (by kernel_rfl) (by kernel_rfl) (by kernel_rfl) (Pl.guarded 15 13 31 false (by kernel_rfl) (by kernel_rfl) (by decide) rfl) (Pl.load 15 3 (.tmp 32) _ (by kernel_rfl) (by decide) (fun w' hS => load_intC (hy.keep hS).c1)) hS1 ?_
  refine Pl.H.take 16 34 (.slice (some ⟨b1, o1, none⟩) k c1) (by kernel_rfl) (by kernel_rfl) (by kernel_rfl) (Pl.guarded 16 13 31 false (by kernel_rfl) (by kernel_rfl) (by decide) rfl) (Pl.move 16 (.tmp 5) (by kernel_rfl) (by decide)) hS1 ?_
  refine Pl.H.take 17 35 (.int .i64 ((k : Nat) : Int)) (by kernel_rfl) (by kernel_rfl) (by kernel_rfl) (Pl.guarded 17 13 31 false (by kernel_rfl) (by kernel_rfl) (by decide) rfl) (Pl.move 17 (.tmp 6) (by kernel_rfl) (by decide)) hS1 ?_
  refine Pl.H.take 18 36 (.int .i64 ((k - 1 : Nat) : Int)) (by kernel_rfl) (by kernel_rfl) (by kernel_rfl) (Pl.guarded 18 13 31 false (by kernel_rfl) (by kernel_rfl) (by decide) rfl) (Pl.binV 18 .sub 3 3 (.tmp 35) (.const (.int .i64 1)) (.int .i64 ((k : Nat) : Int)) (.int .i64 1) _ (by kernel_rfl) (by decide) (by decide) rfl rfl (subN1 k hk hm _ _)) hS1 ?_
  refine Pl.H.take 19 37 (.pointer (some ⟨b1, o1 + (k - 1) * 12, none⟩)) (by kernel_rfl) (by kernel_rfl) (by kernel_rfl) (Pl.guarded 19 13 31 false (by kernel_rfl) (by kernel_rfl) (by decide) rfl) (Pl.index 19 22 (.tmp 34) (.tmp 36) _ (by kernel_rfl) (by decide) (by decide) (index_un b1 o1 k c1 (k - 1) (by omega))) hS1 ?_
  refine Pl.H.take 20 38 (.pointer (some ⟨b1, o1 + (k - 1) * 12 + 1, none⟩)) (by kernel_rfl) (by kernel_rfl) (by kernel_rfl) (Pl.guarded 20 13 31 false (by kernel_rfl) (by kernel_rfl) (by decide) rfl) (Pl.field 20 30 (.tmp 37) 1 _ (by kernel_rfl) (by decide) (fdU1 b1 (o1 + (k - 1) * 12))) hS1 ?_
  refine Pl.H.take 21 39 (.int .i64 x.u.no) (by kernel_rfl) (by kernel_rfl) (by kernel_rfl) (Pl.guarded 21 13 31 false (by kernel_rfl) (by kernel_rfl) (by decide) rfl) (Pl.load 21 3 (.tmp 38) _ (by kernel_rfl) (by decide) (fun w' hS => load_intC (hx.keep hS (Nat.le_refl _)).c1)) hS1 ?_
  refine Pl.H.take 22 40 (.bool true) (by kernel_rfl) (by kernel_rfl) (by kernel_rfl) (Pl.guarded 22 13 31 false (by kernel_rfl) (by kernel_rfl) (by decide) rfl) (Pl.binV 22 .geq 3 3 (.tmp 33) (.tmp 39) (.int .i64 y.u.no) (.int .i64 x.u.no) _ (by kernel_rfl) (by decide) (by decide) rfl rfl (geqTI _ _ _ _ hno)) hS1 ?_
  refine Pl.H.take 23 41 (.bool true) (by kernel_rfl) (by kernel_rfl) (by kernel_rfl) (Pl.guarded 23 5 23 true (by kernel_rfl) (by kernel_rfl) (by decide) rfl) (Pl.pickF 23 (.tmp 31) (.const (.bool true)) (.tmp 40) (by kernel_rfl) (by decide) (by decide) rfl) hS1 ?_
  refine Pl.H.take 24 42 (.bool true) (by kernel_rfl) (by kernel_rfl) (by kernel_rfl) (Pl.guarded 24 2 20 false (by kernel_rfl) (by kernel_rfl) (by decide) rfl) (Pl.pick 24 (.tmp 23) (.tmp 41) (.const (.bool false)) (by kernel_rfl) (by decide) (by decide) rfl) hS1 ?_
  refine Pl.H.take 25 43 (.bool true) (by kernel_rfl) (by kernel_rfl) (by kernel_rfl) (Pl.free 25 (by kernel_rfl)) (Pl.pickF 25 (.tmp 20) (.const (.bool true)) (.tmp 42) (by kernel_rfl) (by decide) (by decide) rfl) hS1 ?_
  refine Pl.H.done (by kernel_rfl) (fun A' hA' => ?_)
  rw [Pl.At.ext hA' ((((((((((((((((((((((((((hA.put 18 _).put 19 _).put 20 _).put 21 _).put 22 _).put 23 _).put 24 _).put 25 _).put 26 _).put 27 _).put 28 _).put 29 _).put 30 _).put 31 _).put 32 _).put 33 _).put 34 _).put 35 _).put 36 _).put 37 _).put 38 _).put 39 _).put 40 _).put 41 _).put 42 _).put 43 _)]
  exact hend (fun d => if d = 18 then y.val else if d = 19 then .bool false else if d = 20 then .bool false else if d = 21 then .int .i64 ((k : Nat) : Int) else if d = 22 then .bool true else if d = 23 then .bool true else if d = 24 then .pointer (some ⟨g, 0, none⟩) else if d = 25 then .int .i64 y.u.tx else if d = 26 then .slice (some ⟨b1, o1, none⟩) k c1 else if d = 27 then .pointer (some ⟨b1, o1, none⟩) else if d = 28 then .pointer (some ⟨b1, o1, none⟩) else if d = 29 then .int .i64 z.u.tx else if d = 30 then .bool false else if d = 31 then .bool false else if d = 32 then .pointer (some ⟨g, 1, none⟩) else if d = 33 then .int .i64 y.u.no else if d = 34 then .slice (some ⟨b1, o1, none⟩) k c1 else if d = 35 then .int .i64 ((k : Nat) : Int) else if d = 36 then .int .i64 ((k - 1 : Nat) : Int) else if d = 37 then .pointer (some ⟨b1, o1 + (k - 1) * 12, none⟩) else if d = 38 then .pointer (some ⟨b1, o1 + (k - 1) * 12 + 1, none⟩) else if d = 39 then .int .i64 x.u.no else if d = 40 then .bool true else if d = 41 then .bool true else if d = 42 then .bool true else undef) _ hS1

set_option maxHeartbeats 2000000 in
set_option maxRecDepth 100000 in
theorem rch6F (w0 w : World) (g : Nat) (y : Ux) (hy : UnBlk w0 g y.u (.slice y.a y.n y.c)) (hfy : Fs w0 y.a y.n y.c y.u.row.xs) (b1 o1 c1 k : Nat) (hk : 0 < k) (hm : k ≤ 1000000) (z x : Ux) (hz : UnAt w0 b1 o1 z) (hx : UnAt w0 b1 (o1 + (k - 1) * 12) x) (htx : ¬ (y.u.tx ≠ z.u.tx)) (hno : ¬ (x.u.no ≤ y.u.no)) (hem : y.u.emp = false) (hW : Below w0.heap.size w0 w)
    {Q : Exit → Act → World → Prop} {A : Act} (hsz : A.tmps.size = 52) (hdf : A.defers = []) (s5 : A.tmps.getD 5 undef = .slice (some ⟨b1, o1, none⟩) k c1) (s6 : A.tmps.getD 6 undef = .int .i64 ((k : Nat) : Int)) (s7 : A.tmps.getD 7 undef = .pointer (some ⟨g, 0, none⟩))
    (hend : ∀ (u : Nat → Value) w', Below w0.heap.size w0 w' → Q .normal (((((((((((((((((((((((((((A).put (some 18) (u 18)).put (some 19) (u 19)).put (some 20) (u 20)).put (some 21) (u 21)).put (some 22) (u 22)).put (some 23) (u 23)).put (some 24) (u 24)).put (some 25) (u 25)).put (some 26) (u 26)).put (some 27) (u 27)).put (some 28) (u 28)).put (some 29) (u 29)).put (some 30) (u 30)).put (some 31) (u 31)).put (some 32) (u 32)).put (some 33) (u 33)).put (some 34) (u 34)).put (some 35) (u 35)).put (some 36) (u 36)).put (some 37) (u 37)).put (some 38) (u 38)).put (some 39) (u 39)).put (some 40) (u 40)).put (some 41) (u 41)).put (some 42) (u 42)).put (some 43) (.bool false)) w') :
    (Code.region 6 (Pl.find 6 ((Try.f24.body).getD .skip)) true).wp Try.prog Q A w := by
  have hS0 : Below w0.heap.size w0 w.drew := hW.drew
  have hA := Pl.At.same (v := .pointer (some ⟨g, 0, none⟩)) (d := 7) (Pl.At.same (v := .int .i64 ((k : Nat) : Int)) (d := 6) (Pl.At.same (v := .slice (some ⟨b1, o1, none⟩) k c1) (d := 5) (Pl.At.here hsz hdf) s5) s6) s7
  refine Pl.H.start (S := fun w' => Below w0.heap.size w0 w') (by kernel_rfl) hA hS0 ?_
  rw [show (Pl.find 6 ((Try.f24.body).getD .skip)).size = 26 by kernel_rfl]
  refine Pl.H.take 0 18 (y.val) (by kernel_rfl) (by kernel_rfl) (by kernel_rfl) (Pl.free 0 (by kernel_rfl)) (Pl.load 0 30 (.tmp 7) _ (by kernel_rfl) (by decide) (fun w' hS => load_un g y.u _ ⟨_, _, _, rfl⟩ w' (hy.keep hS))) hS0 ?_
  refine Pl.H.call 1 19 33 [(.tmp 18)] #[30] (by kernel_rfl) (by kernel_rfl) (by kernel_rfl) (Pl.free 1 (by kernel_rfl)) (by kernel_rfl) (by decide) enters33 (Calls.mono (empty_is hem w.drew (hfy.keep hS0 (Nat.le_refl _))) ?_)
  rintro e w1 ⟨rfl, hb1⟩
  have hS1 : Below w0.heap.size w0 w1 := rBelow hS0 hb1
  refine ⟨.bool false, rfl, hS1, ?_⟩
  refine Pl.H.take 2 20 (.bool false) (by kernel_rfl) (by kernel_rfl) (by kernel_rfl) (Pl.free 2 (by kernel_rfl)) (Pl.move 2 (.tmp 19) (by kernel_rfl) (by decide)) hS1 ?_
  refine Pl.H.take 3 21 (.int .i64 ((k : Nat) : Int)) (by kernel_rfl) (by kernel_rfl) (by kernel_rfl) (Pl.guarded 3 2 20 false (by kernel_rfl) (by kernel_rfl) (by decide) rfl) (Pl.move 3 (.tmp 6) (by kernel_rfl) (by decide)) hS1 ?_
  refine Pl.H.take 4 22 (.bool true) (by kernel_rfl) (by kernel_rfl) (by kernel_rfl) (Pl.guarded 4 2 20 false (by kernel_rfl) (by kernel_rfl) (by decide) rfl) (Pl.binV 4 .gtr 3 3 (.tmp 21) (.const (.int .i64 0)) (.int .i64 ((k : Nat) : Int)) (.int .i64 0) _ (by kernel_rfl) (by decide) (by decide) rfl rfl (gtrTI _ _ _ _ (by omega))) hS1 ?_
  refine Pl.H.take 5 23 (.bool true) (by kernel_rfl) (by kernel_rfl) (by kernel_rfl) (Pl.guarded 5 2 20 false (by kernel_rfl) (by kernel_rfl) (by decide) rfl) (Pl.move 5 (.tmp 22) (by kernel_rfl) (by decide)) hS1 ?_
  refine Pl.H.take 6 24 (.pointer (some ⟨g, 0, none⟩)) (by kernel_rfl) (by kernel_rfl) (by kernel_rfl) (Pl.guarded 6 5 23 true (by kernel_rfl) (by kernel_rfl) (by decide) rfl) (Pl.field 6 30 (.tmp 7) 0 _ (by kernel_rfl) (by decide) (fdUB0 g)) hS1 ?_
  refine Pl.H.take 7 25 (.int .i64 y.u.tx) (by kernel_rfl) (by kernel_rfl) (by kernel_rfl) (Pl.guarded 7 5 23 true (by kernel_rfl) (by kernel_rfl) (by decide) rfl) (Pl.load 7 3 (.tmp 24) _ (by kernel_rfl) (by decide) (fun w' hS => load_intC (hy.keep hS).c0)) hS1 ?_
  refine Pl.H.take 8 26 (.slice (some ⟨b1, o1, none⟩) k c1) (by kernel_rfl) (by kernel_rfl) (by kernel_rfl) (Pl.guarded 8 5 23 true (by kernel_rfl) (by kernel_rfl) (by decide) rfl) (Pl.move 8 (.tmp 5) (by kernel_rfl) (by decide)) hS1 ?_
  refine Pl.H.take 9 27 (.pointer (some ⟨b1, o1, none⟩)) (by kernel_rfl) (by kernel_rfl) (by kernel_rfl) (Pl.guarded 9 5 23 true (by kernel_rfl) (by kernel_rfl) (by decide) rfl) (Pl.index 9 22 (.tmp 26) (.const (.int .i64 0)) _ (by kernel_rfl) (by decide) (by decide) (index_un0 b1 o1 k c1 hk)) hS1 ?_
  refine Pl.H.take 10 28 (.pointer (some ⟨b1, o1, none⟩)) (by kernel_rfl) (by kernel_rfl) (by kernel_rfl) (Pl.guarded 10 5 23 true (by kernel_rfl) (by kernel_rfl) (by decide) rfl) (Pl.field 10 30 (.tmp 27) 0 _ (by kernel_rfl) (by decide) (fdU0 b1 o1)) hS1 ?_
  refine Pl.H.take 11 29 (.int .i64 z.u.tx) (by kernel_rfl) (by kernel_rfl) (by kernel_rfl) (Pl.guarded 11 5 23 true (by kernel_rfl) (by kernel_rfl) (by decide) rfl) (Pl.load 11 3 (.tmp 28) _ (by kernel_rfl) (by decide) (fun w' hS => load_intC (hz.keep hS (Nat.le_refl _)).c0)) hS1 ?_
  refine Pl.H.take 12 30 (.bool false) (by kernel_rfl) (by kernel_rfl) (by kernel_rfl) (Pl.guarded 12 5 23 true (by kernel_rfl) (by kernel_rfl) (by decide) rfl) (Pl.binV 12 .neq 3 3 (.tmp 25) (.tmp 29) (.int .i64 y.u.tx) (.int .i64 z.u.tx) _ (by kernel_rfl) (by decide) (by decide) rfl rfl (neqFI _ _ _ _ htx)) hS1 ?_
  refine Pl.H.take 13 31 (.bool false) (by kernel_rfl) (by kernel_rfl) (by kernel_rfl) (Pl.guarded 13 5 23 true (by kernel_rfl) (by kernel_rfl) (by decide) rfl) (Pl.move 13 (.tmp 30) (by kernel_rfl) (by decide)) hS1 ?_
  refine Pl.H.take 14 32 (.pointer (some ⟨g, 1, none⟩)) (by kernel_rfl) (by kernel_rfl) (by kernel_rfl) (Pl.guarded 14 13 31 false (by kernel_rfl) (by kernel_rfl) (by decide) rfl) (Pl.field 14 30 (.tmp 7) 1 _ (by kernel_rfl) (by decide) (fdUB1 g)) hS1 ?_
  refine Pl.H.take 15 33 (.int .i64 y.u.no) (by kernel_rfl) (by kernel_rfl) (by kernel_rfl) (Pl.guarded 15 13 31 false (by kernel_rfl) (by kernel_rfl) (by decide) rfl) (Pl.load 15 3 (.tmp 32) _ (by kernel_rfl) (by decide) (fun w' hS => load_intC (hy.keep hS).c1)) hS1 ?_
  refine Pl.H.take 16 34 (.slice (some ⟨b1, o1, none⟩) k c1) (by kernel_rfl) (by kernel_rfl) (by kernel_rfl) (Pl.guarded 16 13 31 false (by kernel_rfl) (by kernel_rfl) (by decide) rfl) (Pl.move 16 (.tmp 5) (by kernel_rfl) (by decide)) hS1 ?_
  refine Pl.H.take 17 35 (.int .i64 ((k : Nat) : Int)) (by kernel_rfl) (by kernel_rfl) (by kernel_rfl) (Pl.guarded 17 13 31 false (by kernel_rfl) (by kernel_rfl) (by decide) rfl) (Pl.move 17 (.tmp 6) (by kernel_rfl) (by decide)) hS1 ?_
  refine Pl.H.take 18 36 (.int .i64 ((k - 1 : Nat) : Int)) (by kernel_rfl) (by kernel_rfl) (by kernel_rfl) (Pl.guarded 18 13 31 false (by kernel_rfl) (by kernel_rfl) (by decide) rfl) (Pl.binV 18 .sub 3 3 (.tmp 35) (.const (.int .i64 1)) (.int .i64 ((k : Nat) : Int)) (.int .i64 1) _ (by kernel_rfl) (by decide) (by decide) rfl rfl (subN1 k hk hm _ _)) hS1 ?_
  refine Pl.H.take 19 37 (.pointer (some ⟨b1, o1 + (k - 1) * 12, none⟩)) (by kernel_rfl) (by kernel_rfl) (by kernel_rfl) (Pl.guarded 19 13 31 false (by kernel_rfl) (by kernel_rfl) (by decide) rfl) (Pl.index 19 22 (.tmp 34) (.tmp 36) _ (by kernel_rfl) (by decide) (by decide) (index_un b1 o1 k c1 (k - 1) (by omega))) hS1 ?_
  refine Pl.H.take 20 38 (.pointer (some ⟨b1, o1 + (k - 1) * 12 + 1, none⟩)) (by kernel_rfl) (by kernel_rfl) (by kernel_rfl) (Pl.guarded 20 13 31 false (by kernel_rfl) (by kernel_rfl) (by decide) rfl) (Pl.field 20 30 (.tmp 37) 1 _ (by kernel_rfl) (by decide) (fdU1 b1 (o1 + (k - 1) * 12))) hS1 ?_
  refine Pl.H.take 21 39 (.int .i64 x.u.no) (by kernel_rfl) (by kernel_rfl) (by kernel_rfl) (Pl.guarded 21 13 31 false (by kernel_rfl) (by kernel_rfl) (by decide) rfl) (Pl.load 21 3 (.tmp 38) _ (by kernel_rfl) (by decide) (fun w' hS => load_intC (hx.keep hS (Nat.le_refl _)).c1)) hS1 ?_
  refine Pl.H.take 22 40 (.bool false) (by kernel_rfl) (by kernel_rfl) (by kernel_rfl) (Pl.guarded 22 13 31 false (by kernel_rfl) (by kernel_rfl) (by decide) rfl) (Pl.binV 22 .geq 3 3 (.tmp 33) (.tmp 39) (.int .i64 y.u.no) (.int .i64 x.u.no) _ (by kernel_rfl) (by decide) (by decide) rfl rfl (geqFI _ _ _ _ hno)) hS1 ?_
  refine Pl.H.take 23 41 (.bool false) (by kernel_rfl) (by kernel_rfl) (by kernel_rfl) (Pl.guarded 23 5 23 true (by kernel_rfl) (by kernel_rfl) (by decide) rfl) (Pl.pickF 23 (.tmp 31) (.const (.bool true)) (.tmp 40) (by kernel_rfl) (by decide) (by decide) rfl) hS1 ?_
  refine Pl.H.take 24 42 (.bool false) (by kernel_rfl) (by kernel_rfl) (by kernel_rfl) (Pl.guarded 24 2 20 false (by kernel_rfl) (by kernel_rfl) (by decide) rfl) (Pl.pick 24 (.tmp 23) (.tmp 41) (.const (.bool false)) (by kernel_rfl) (by decide) (by decide) rfl) hS1 ?_
  refine Pl.H.take 25 43 (.bool false) (by kernel_rfl) (by kernel_rfl) (by kernel_rfl) (Pl.free 25 (by kernel_rfl)) (Pl.pickF 25 (.tmp 20) (.const (.bool true)) (.tmp 42) (by kernel_rfl) (by decide) (by decide) rfl) hS1 ?_
  refine Pl.H.done (by kernel_rfl) (fun A' hA' => ?_)
  rw [Pl.At.ext hA' ((((((((((((((((((((((((((hA.put 18 _).put 19 _).put 20 _).put 21 _).put 22 _).put 23 _).put 24 _).put 25 _).put 26 _).put 27 _).put 28 _).put 29 _).put 30 _).put 31 _).put 32 _).put 33 _).put 34 _).put 35 _).put 36 _).put 37 _).put 38 _).put 39 _).put 40 _).put 41 _).put 42 _).put 43 _)]
  exact hend (fun d => if d = 18 then y.val else if d = 19 then .bool false else if d = 20 then .bool false else if d = 21 then .int .i64 ((k : Nat) : Int) else if d = 22 then .bool true else if d = 23 then .bool true else if d = 24 then .pointer (some ⟨g, 0, none⟩) else if d = 25 then .int .i64 y.u.tx else if d = 26 then .slice (some ⟨b1, o1, none⟩) k c1 else if d = 27 then .pointer (some ⟨b1, o1, none⟩) else if d = 28 then .pointer (some ⟨b1, o1, none⟩) else if d = 29 then .int .i64 z.u.tx else if d = 30 then .bool false else if d = 31 then .bool false else if d = 32 then .pointer (some ⟨g, 1, none⟩) else if d = 33 then .int .i64 y.u.no else if d = 34 then .slice (some ⟨b1, o1, none⟩) k c1 else if d = 35 then .int .i64 ((k : Nat) : Int) else if d = 36 then .int .i64 ((k - 1 : Nat) : Int) else if d = 37 then .pointer (some ⟨b1, o1 + (k - 1) * 12, none⟩) else if d = 38 then .pointer (some ⟨b1, o1 + (k - 1) * 12 + 1, none⟩) else if d = 39 then .int .i64 x.u.no else if d = 40 then .bool false else if d = 41 then .bool false else if d = 42 then .bool false else undef) _ hS1

set_option maxHeartbeats 4000000 in
set_option maxRecDepth 100000 in
/-- Lists that are alike. -/
theorem refListU_same (a : Option Addr) (len cap : Nat) (l : List Ux) (b : Option Addr) (cap' : Nat) (m : List Ux) (w : World) (h : Us w a len l) (h' : Us w b len m) (he : uns l = uns m) (hlen : len ≤ 9223372036854775807) :
    Calls Try.prog 16 #[.slice a len cap, .slice b len cap'] w fun e w' => e = .returned (.bool true) ∧ Below w.heap.size w w' := by
  have H := hide h
  have H' := hide h'
  have HU : Hid (∀ j, (l.getD j Ux.zero).u = (m.getD j Ux.zero).u) := fun j => by rw [← uns_get, ← uns_get, he]
  clear h h' he
  go_enter Try.func16, Try.ntmps16
  go_wp2_with fail
  go_loopw [5] (fun i wr => ∃ k : Nat, k ≤ len ∧ i = .int .i64 k ∧ Hid (Below w.heap.size w wr)) (fun i _ => len - (intOf i).toNat)
  case atStart => exact ⟨0, by omega, rfl, Below.refl _ _⟩
  case round =>
    obtain ⟨k, hk, rfl, hWr⟩ := hrel
    rcases Nat.lt_or_ge k len with hlt | hge
    · have hr := H.out.keep hWr.out (Nat.le_refl _)
      have hr' := H'.out.keep hWr.out (Nat.le_refl _)
      obtain ⟨b1, o1, rfl, c1⟩ := hr.at' k hlt
      obtain ⟨b2, o2, rfl, c2⟩ := hr'.at' k hlt
      have C1 := hide c1
      have C2 := hide c2
      have F1 := hide (hr.cols _ (hr.mem hlt))
      have F2 := hide (hr'.cols _ (hr'.mem hlt))
      clear c1 c2 hr hr'
      go_wp2_with fail
      refine Pl.region_is (ops := Pl.find 6 ((Try.f16.body).getD .skip)) (by kernel_rfl) ?_
      refine lst6 wr wr b1 o1 cap b2 o2 cap' len k hlt _ _ C1.out C2.out (HU.out k) F1.out F2.out (Below.refl _ _) (by rfl) (by rfl) (by rfl) (by rfl) (by rfl) ?_
      intro u w' hb
      have HB := hide (rBelow hWr.out hb)
      clear hb
      simp only [Act.put, List.setIfInBounds_toArray, List.set_cons_zero, List.set_cons_succ]
      go_wp2_with fail
      go_roundw
      case rel => exact ⟨k + 1, by omega, by go_num, HB⟩
      case measure => simp only [intOf]; omega
    · go_wp2_with fail
      go_ret
      exact ⟨rfl, hWr.out⟩

end Go.Proofs.Ytpdkeghmpnanpaa
