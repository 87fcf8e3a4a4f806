/-
  The landed pool: its drawn regions, every order.
  The landed pool: has, Synced, write.
  The landed pool: write, out, let.
  The landed pool: out, let, Evict.
-/
import Derived.Test.YtpggkfdnpdhkfaaGreatBi
import Derived.Test.YtpggkfdnpdhkfaaGreatBa
import Derived.Test.YtpggkfdnpdhkfaaGreatBb
import Derived.Test.YtpggkfdnpdhkfaaGreatBc
import Derived.Test.YtpggkfdnpdhkfaaGreatBf
namespace Go.Proofs.YtpggkfdnpdhkfaaGreat
open Go.RowKit
set_option maxRecDepth 100000
set_option linter.unusedVariables false

theorem Pl.mapUp {P : Program} {ops : Array Oper} {n : Nat} {f : Nat → Value} {w : World} (i : Nat) (t : TypeId) (m x y : Operand) (w' : World) (h : (Pl.op ops i).op = .mapUpdate t m x y) (hm : Pl.inB n m = true) (hx : Pl.inB n x = true) (hy : Pl.inB n y = true) (hv : (Instr.mapUpdate t (Pl.ev f m) (Pl.ev f x) (Pl.ev f y)).run P w = .ok () w') :
    ∀ A, Pl.At n A f → (execOp A.eval (Pl.op ops i)).run P w = .ok .skip w' := by
  intro A hA
  have e : execOp A.eval (Pl.op ops i) = (do Instr.mapUpdate t (A.eval m) (A.eval x) (A.eval y); pure .skip) := by
    unfold execOp
    rw [h]
  rw [e, hA.ev m hm, hA.ev x hx, hA.ev y hy]
  simp [hv]
theorem fdPool0_0 (p : Nat) (w : World) : (Instr.fieldAt 126 (.pointer (some ⟨p, 0, none⟩)) 0).run Tryz.prog w = .ok (.pointer (some ⟨p, 0, none⟩)) w := by simp [go_sem, Instr.fieldAt]
theorem fdPool2_0 (p : Nat) (w : World) : (Instr.fieldAt 126 (.pointer (some ⟨p, 0, none⟩)) 2).run Tryz.prog w = .ok (.pointer (some ⟨p, 3, none⟩)) w := by simp [go_sem, Instr.fieldAt]
theorem fdPool3_0 (p : Nat) (w : World) : (Instr.fieldAt 126 (.pointer (some ⟨p, 0, none⟩)) 3).run Tryz.prog w = .ok (.pointer (some ⟨p, 4, none⟩)) w := by simp [go_sem, Instr.fieldAt]
theorem fdFr0_0 (p : Nat) (w : World) : (Instr.fieldAt 140 (.pointer (some ⟨p, 0, none⟩)) 0).run Tryz.prog w = .ok (.pointer (some ⟨p, 0, none⟩)) w := by simp [go_sem, Instr.fieldAt]
theorem fdFr2_0 (p : Nat) (w : World) : (Instr.fieldAt 140 (.pointer (some ⟨p, 0, none⟩)) 2).run Tryz.prog w = .ok (.pointer (some ⟨p, 2, none⟩)) w := by simp [go_sem, Instr.fieldAt]
theorem ldDev (b o d : Nat) (w : World) (h : w.cell? ⟨b, o, none⟩ = some (.pointer (some ⟨d, 0, none⟩))) : (Instr.loadAt 23 (.pointer (some ⟨b, o, none⟩))).run Tryz.prog w = .ok (.pointer (some ⟨d, 0, none⟩)) w := by simp [go_sem, h]
theorem ldMap (b o : Nat) (m : Option Nat) (w : World) (h : w.cell? ⟨b, o, none⟩ = some (.map m)) : (Instr.loadAt 124 (.pointer (some ⟨b, o, none⟩))).run Tryz.prog w = .ok (.map m) w := by simp [go_sem, h]
theorem gtrI (a b : Int) (x y : Operand) (w : World) : (do eqGuard .gtr 3 x y (.int .i64 a) (.int .i64 b); binOp .gtr 3 (.int .i64 a) (.int .i64 b) : Sem Value).run Tryz.prog w = .ok (.bool (decide (b < a))) w := by simp [go_sem, eqGuard]
/-- A frame in its box. -/
def FrBlk (w : World) (g : Nat) (s : Sl) (d : Bool) (z : Int) : Prop := w.heap[g]? = some (.cells #[s.val, .bool d, .int .i64 z] 140 (0, 0))
theorem FrBlk.c0 {w : World} {g : Nat} {s : Sl} {d : Bool} {z : Int} (h : FrBlk w g s d z) : w.cell? ⟨g, 0, none⟩ = some (.slice s.a s.len s.cap) := (Addr.cell0 h).trans rfl
theorem FrBlk.c1 {w : World} {g : Nat} {s : Sl} {d : Bool} {z : Int} (h : FrBlk w g s d z) : w.cell? ⟨g, 1, none⟩ = some (.bool d) := (Addr.cell0 h).trans rfl
theorem FrBlk.c2 {w : World} {g : Nat} {s : Sl} {d : Bool} {z : Int} (h : FrBlk w g s d z) : w.cell? ⟨g, 2, none⟩ = some (.int .i64 z) := (Addr.cell0 h).trans rfl
theorem FrBlk.fz {w : World} {g : Nat} {s : Sl} {d : Bool} {z : Int} (h : FrBlk w g s d z) (o : Nat) : w.frozen? ⟨g, o, none⟩ = false := frozen_of_row w g _ _ 140 h
theorem FrBlk.lt {w : World} {g : Nat} {s : Sl} {d : Bool} {z : Int} (h : FrBlk w g s d z) : g < w.heap.size := (Array.getElem?_eq_some_iff.1 h).1
theorem ldFr (g : Nat) (s : Sl) (d : Bool) (z : Int) (w : World) (h : FrBlk w g s d z) : (Instr.loadAt 140 (.pointer (some ⟨g, 0, none⟩))).run Tryz.prog w = .ok (frV s d z) w := by
  have c0 := h.c0
  have c1 := h.c1
  have c2 := h.c2
  obtain ⟨a, len, cap⟩ := s
  unfold frV Sl.val
  simp [go_sem, Instr.loadAt, c0, c1, c2]
theorem buildFr1 (s : Sl) (w : World) : (Instr.build 140 #[(0, s.val)]).run Tryz.prog w = .ok (frV s false 0) w := by
  unfold frV Sl.val
  simp [go_sem, Instr.build]
theorem buildFr3 (s : Sl) (z : Int) (w : World) : (Instr.build 140 #[(0, s.val), (1, .bool true), (2, .int .i64 z)]).run Tryz.prog w = .ok (frV s true z) w := by
  unfold frV Sl.val
  simp [go_sem, Instr.build]

theorem entWrite : ∀ args w, (callFunc 113 args).run Tryz.prog w = .ok (.enter 113 args) w := Pl.enters Tryz.func113 (by kernel_rfl) (by kernel_rfl)
set_option maxHeartbeats 2000000 in
set_option maxRecDepth 100000 in
theorem pw1 (w : World) (p g : Nat) (z sy : Int) (h0 : w.cell? ⟨g, 2, none⟩ = some (.int .i64 z) ∧ w.cell? ⟨p, 4, none⟩ = some (.int .i64 sy))
    {Q : Exit → Act → World → Prop} {A : Act} (hsz : A.tmps.size = 41) (hdf : A.defers = []) (s0 : A.tmps.getD 0 undef = .pointer (some ⟨p, 0, none⟩)) (s4 : A.tmps.getD 4 undef = .pointer (some ⟨g, 0, none⟩))
    (hend : ∀ (u : Nat → Value) w', w' = w.drew → Q .normal ((((((((A).put (some 11) (u 11)).put (some 12) (u 12)).put (some 13) (u 13)).put (some 14) (u 14)).put (some 15) (u 15)).put (some 16) (u 16)).put (some 17) (.bool (decide (sy < z)))) w') :
    (Code.region 1 (Pl.find 1 ((Tryz.f90.body).getD .skip)) true).wp Tryz.prog Q A w := by
  have hA := Pl.At.same (v := .pointer (some ⟨g, 0, none⟩)) (d := 4) (Pl.At.same (v := .pointer (some ⟨p, 0, none⟩)) (d := 0) (Pl.At.here hsz hdf) s0) s4
  refine Pl.H.start (S := fun w' => w'.cell? ⟨g, 2, none⟩ = some (.int .i64 z) ∧ w'.cell? ⟨p, 4, none⟩ = some (.int .i64 sy)) (by kernel_rfl) hA (show (fun w' => w'.cell? ⟨g, 2, none⟩ = some (.int .i64 z) ∧ w'.cell? ⟨p, 4, none⟩ = some (.int .i64 sy)) w.drew from h0) ?_
  rw [show (Pl.find 1 ((Tryz.f90.body).getD .skip)).size = 7 by kernel_rfl]
  refine Pl.H.take 0 11 (.pointer (some ⟨g, 2, none⟩)) (by kernel_rfl) (by kernel_rfl) (by kernel_rfl) (Pl.free 0 (by kernel_rfl)) (Pl.field 0 140 (.tmp 4) 2 _ (by kernel_rfl) (by decide) (fdFr2_0 g)) (show (fun w' => w'.cell? ⟨g, 2, none⟩ = some (.int .i64 z) ∧ w'.cell? ⟨p, 4, none⟩ = some (.int .i64 sy)) w.drew from h0) ?_
  refine Pl.H.take 1 12 (.int .i64 z) (by kernel_rfl) (by kernel_rfl) (by kernel_rfl) (Pl.free 1 (by kernel_rfl)) (Pl.load 1 3 (.tmp 11) _ (by kernel_rfl) (by decide) (fun w' hS => ldInt g 2 _ w' hS.1)) (show (fun w' => w'.cell? ⟨g, 2, none⟩ = some (.int .i64 z) ∧ w'.cell? ⟨p, 4, none⟩ = some (.int .i64 sy)) w.drew from h0) ?_
  refine Pl.H.take 2 13 (.pointer (some ⟨p, 0, none⟩)) (by kernel_rfl) (by kernel_rfl) (by kernel_rfl) (Pl.free 2 (by kernel_rfl)) (Pl.move 2 (.tmp 0) (by kernel_rfl) (by decide)) (show (fun w' => w'.cell? ⟨g, 2, none⟩ = some (.int .i64 z) ∧ w'.cell? ⟨p, 4, none⟩ = some (.int .i64 sy)) w.drew from h0) ?_
  refine Pl.H.take 3 14 (.pointer (some ⟨p, 0, none⟩)) (by kernel_rfl) (by kernel_rfl) (by kernel_rfl) (Pl.free 3 (by kernel_rfl)) (Pl.nilc 3 (.tmp 13) _ (by kernel_rfl) (by decide) rfl) (show (fun w' => w'.cell? ⟨g, 2, none⟩ = some (.int .i64 z) ∧ w'.cell? ⟨p, 4, none⟩ = some (.int .i64 sy)) w.drew from h0) ?_
  refine Pl.H.take 4 15 (.pointer (some ⟨p, 4, none⟩)) (by kernel_rfl) (by kernel_rfl) (by kernel_rfl) (Pl.free 4 (by kernel_rfl)) (Pl.field 4 126 (.tmp 14) 3 _ (by kernel_rfl) (by decide) (fdPool3_0 p)) (show (fun w' => w'.cell? ⟨g, 2, none⟩ = some (.int .i64 z) ∧ w'.cell? ⟨p, 4, none⟩ = some (.int .i64 sy)) w.drew from h0) ?_
  refine Pl.H.take 5 16 (.int .i64 sy) (by kernel_rfl) (by kernel_rfl) (by kernel_rfl) (Pl.free 5 (by kernel_rfl)) (Pl.load 5 3 (.tmp 15) _ (by kernel_rfl) (by decide) (fun w' hS => ldInt p 4 _ w' hS.2)) (show (fun w' => w'.cell? ⟨g, 2, none⟩ = some (.int .i64 z) ∧ w'.cell? ⟨p, 4, none⟩ = some (.int .i64 sy)) w.drew from h0) ?_
  refine Pl.H.take 6 17 (.bool (decide (sy < z))) (by kernel_rfl) (by kernel_rfl) (by kernel_rfl) (Pl.free 6 (by kernel_rfl)) (Pl.binV 6 .gtr 3 3 (.tmp 12) (.tmp 16) (.int .i64 z) (.int .i64 sy) _ (by kernel_rfl) (by decide) (by decide) rfl rfl (fun w => gtrI z sy _ _ w)) (show (fun w' => w'.cell? ⟨g, 2, none⟩ = some (.int .i64 z) ∧ w'.cell? ⟨p, 4, none⟩ = some (.int .i64 sy)) w.drew from h0) ?_
  refine Pl.H.done (by kernel_rfl) (fun A' hA' => ?_)
  rw [Pl.At.ext hA' (((((((hA.put 11 _).put 12 _).put 13 _).put 14 _).put 15 _).put 16 _).put 17 _)]
  exact hend (fun d => if d = 11 then .pointer (some ⟨g, 2, none⟩) else if d = 12 then .int .i64 z else if d = 13 then .pointer (some ⟨p, 0, none⟩) else if d = 14 then .pointer (some ⟨p, 0, none⟩) else if d = 15 then .pointer (some ⟨p, 4, none⟩) else if d = 16 then .int .i64 sy else undef) _ rfl

set_option maxHeartbeats 2000000 in
set_option maxRecDepth 100000 in
theorem pw4 (w : World) (p g dv k : Nat) (a : Option Addr) (l c : Nat) (R : World → Prop) (h0 : (fun (w' : World) => w'.cell? ⟨p, 0, none⟩ = some (.pointer (some ⟨dv, 0, none⟩)) ∧ w'.cell? ⟨g, 0, none⟩ = some (.slice a l c)) w) (hc : Calls Tryz.prog 113 #[.pointer (some ⟨dv, 0, none⟩), .int .i64 ((k : Nat) : Int), .slice a l c] w.drew fun e w2 => e = .returned (.int .i64 0) ∧ R w2) (hRS : ∀ w2, R w2 → (fun (w' : World) => w'.cell? ⟨p, 0, none⟩ = some (.pointer (some ⟨dv, 0, none⟩)) ∧ w'.cell? ⟨g, 0, none⟩ = some (.slice a l c)) w2)
    {Q : Exit → Act → World → Prop} {A : Act} (hsz : A.tmps.size = 41) (hdf : A.defers = []) (s0 : A.tmps.getD 0 undef = .pointer (some ⟨p, 0, none⟩)) (s1 : A.tmps.getD 1 undef = .int .i64 ((k : Nat) : Int)) (s4 : A.tmps.getD 4 undef = .pointer (some ⟨g, 0, none⟩))
    (hend : ∀ (u : Nat → Value) w', R w' → Q .normal (((((((((A).put (some 25) (u 25)).put (some 26) (u 26)).put (some 27) (u 27)).put (some 28) (u 28)).put (some 29) (u 29)).put (some 30) (u 30)).put (some 31) (u 31)).put (some 32) (u 32)) w') :
    (Code.region 4 (Pl.find 4 ((Tryz.f90.body).getD .skip)) true).wp Tryz.prog Q A w := by
  have hA := Pl.At.same (v := .pointer (some ⟨g, 0, none⟩)) (d := 4) (Pl.At.same (v := .int .i64 ((k : Nat) : Int)) (d := 1) (Pl.At.same (v := .pointer (some ⟨p, 0, none⟩)) (d := 0) (Pl.At.here hsz hdf) s0) s1) s4
  refine Pl.H.start (S := fun w' => w'.cell? ⟨p, 0, none⟩ = some (.pointer (some ⟨dv, 0, none⟩)) ∧ w'.cell? ⟨g, 0, none⟩ = some (.slice a l c)) (by kernel_rfl) hA (show (fun w' => w'.cell? ⟨p, 0, none⟩ = some (.pointer (some ⟨dv, 0, none⟩)) ∧ w'.cell? ⟨g, 0, none⟩ = some (.slice a l c)) w.drew from h0) ?_
  rw [show (Pl.find 4 ((Tryz.f90.body).getD .skip)).size = 8 by kernel_rfl]
  refine Pl.H.take 0 25 (.pointer (some ⟨p, 0, none⟩)) (by kernel_rfl) (by kernel_rfl) (by kernel_rfl) (Pl.free 0 (by kernel_rfl)) (Pl.move 0 (.tmp 0) (by kernel_rfl) (by decide)) (show (fun w' => w'.cell? ⟨p, 0, none⟩ = some (.pointer (some ⟨dv, 0, none⟩)) ∧ w'.cell? ⟨g, 0, none⟩ = some (.slice a l c)) w.drew from h0) ?_
  refine Pl.H.take 1 26 (.pointer (some ⟨p, 0, none⟩)) (by kernel_rfl) (by kernel_rfl) (by kernel_rfl) (Pl.free 1 (by kernel_rfl)) (Pl.nilc 1 (.tmp 25) _ (by kernel_rfl) (by decide) rfl) (show (fun w' => w'.cell? ⟨p, 0, none⟩ = some (.pointer (some ⟨dv, 0, none⟩)) ∧ w'.cell? ⟨g, 0, none⟩ = some (.slice a l c)) w.drew from h0) ?_
  refine Pl.H.take 2 27 (.pointer (some ⟨p, 0, none⟩)) (by kernel_rfl) (by kernel_rfl) (by kernel_rfl) (Pl.free 2 (by kernel_rfl)) (Pl.field 2 126 (.tmp 26) 0 _ (by kernel_rfl) (by decide) (fdPool0_0 p)) (show (fun w' => w'.cell? ⟨p, 0, none⟩ = some (.pointer (some ⟨dv, 0, none⟩)) ∧ w'.cell? ⟨g, 0, none⟩ = some (.slice a l c)) w.drew from h0) ?_
  refine Pl.H.take 3 28 (.pointer (some ⟨dv, 0, none⟩)) (by kernel_rfl) (by kernel_rfl) (by kernel_rfl) (Pl.free 3 (by kernel_rfl)) (Pl.load 3 23 (.tmp 27) _ (by kernel_rfl) (by decide) (fun w' hS => ldDev p 0 dv w' hS.1)) (show (fun w' => w'.cell? ⟨p, 0, none⟩ = some (.pointer (some ⟨dv, 0, none⟩)) ∧ w'.cell? ⟨g, 0, none⟩ = some (.slice a l c)) w.drew from h0) ?_
  refine Pl.H.take 4 29 (.int .i64 ((k : Nat) : Int)) (by kernel_rfl) (by kernel_rfl) (by kernel_rfl) (Pl.free 4 (by kernel_rfl)) (Pl.move 4 (.tmp 1) (by kernel_rfl) (by decide)) (show (fun w' => w'.cell? ⟨p, 0, none⟩ = some (.pointer (some ⟨dv, 0, none⟩)) ∧ w'.cell? ⟨g, 0, none⟩ = some (.slice a l c)) w.drew from h0) ?_
  refine Pl.H.take 5 30 (.pointer (some ⟨g, 0, none⟩)) (by kernel_rfl) (by kernel_rfl) (by kernel_rfl) (Pl.free 5 (by kernel_rfl)) (Pl.field 5 140 (.tmp 4) 0 _ (by kernel_rfl) (by decide) (fdFr0_0 g)) (show (fun w' => w'.cell? ⟨p, 0, none⟩ = some (.pointer (some ⟨dv, 0, none⟩)) ∧ w'.cell? ⟨g, 0, none⟩ = some (.slice a l c)) w.drew from h0) ?_
  refine Pl.H.take 6 31 (.slice a l c) (by kernel_rfl) (by kernel_rfl) (by kernel_rfl) (Pl.free 6 (by kernel_rfl)) (Pl.load 6 32 (.tmp 30) _ (by kernel_rfl) (by decide) (fun w' hS => ldBs g 0 _ _ _ w' hS.2)) (show (fun w' => w'.cell? ⟨p, 0, none⟩ = some (.pointer (some ⟨dv, 0, none⟩)) ∧ w'.cell? ⟨g, 0, none⟩ = some (.slice a l c)) w.drew from h0) ?_
  refine Pl.H.call 7 32 113 [(.tmp 28), (.tmp 29), (.tmp 31)] #[23, 3, 32] (by kernel_rfl) (by kernel_rfl) (by kernel_rfl) (Pl.free 7 (by kernel_rfl)) (by kernel_rfl) (by decide) entWrite (Calls.mono (hc) ?_)
  rintro e w2 ⟨rfl, hr2⟩
  refine ⟨.int .i64 0, rfl, (hRS w2 hr2), ?_⟩
  refine Pl.H.done (by kernel_rfl) (fun A' hA' => ?_)
  rw [Pl.At.ext hA' ((((((((hA.put 25 _).put 26 _).put 27 _).put 28 _).put 29 _).put 30 _).put 31 _).put 32 _)]
  exact hend (fun d => if d = 25 then .pointer (some ⟨p, 0, none⟩) else if d = 26 then .pointer (some ⟨p, 0, none⟩) else if d = 27 then .pointer (some ⟨p, 0, none⟩) else if d = 28 then .pointer (some ⟨dv, 0, none⟩) else if d = 29 then .int .i64 ((k : Nat) : Int) else if d = 30 then .pointer (some ⟨g, 0, none⟩) else if d = 31 then .slice a l c else if d = 32 then .int .i64 0 else undef) _ hr2

set_option maxHeartbeats 2000000 in
set_option maxRecDepth 100000 in
theorem pw5 (w : World) (p g mb k : Nat) (s : Sl) (w1 : World) (h0 : (fun (w' : World) => w'.cell? ⟨p, 3, none⟩ = some (.map (some mb)) ∧ w'.cell? ⟨g, 0, none⟩ = some (.slice s.a s.len s.cap)) w) (hrun : (Instr.mapUpdate 124 (.map (some mb)) (.int .i64 ((k : Nat) : Int)) (frV s false 0)).run Tryz.prog w.drew = .ok () w1) (hS1 : (fun (w' : World) => w'.cell? ⟨p, 3, none⟩ = some (.map (some mb)) ∧ w'.cell? ⟨g, 0, none⟩ = some (.slice s.a s.len s.cap)) w1)
    {Q : Exit → Act → World → Prop} {A : Act} (hsz : A.tmps.size = 41) (hdf : A.defers = []) (s0 : A.tmps.getD 0 undef = .pointer (some ⟨p, 0, none⟩)) (s1 : A.tmps.getD 1 undef = .int .i64 ((k : Nat) : Int)) (s4 : A.tmps.getD 4 undef = .pointer (some ⟨g, 0, none⟩))
    (hend : ∀ (u : Nat → Value) w', w' = w1 → Q .normal (((((((((A).put (some 33) (u 33)).put (some 34) (u 34)).put (some 35) (u 35)).put (some 36) (u 36)).put (some 37) (u 37)).put (some 38) (u 38)).put (some 39) (u 39)).put (some 40) (u 40)) w') :
    (Code.region 5 (Pl.find 5 ((Tryz.f90.body).getD .skip)) true).wp Tryz.prog Q A w := by
  have hA := Pl.At.same (v := .pointer (some ⟨g, 0, none⟩)) (d := 4) (Pl.At.same (v := .int .i64 ((k : Nat) : Int)) (d := 1) (Pl.At.same (v := .pointer (some ⟨p, 0, none⟩)) (d := 0) (Pl.At.here hsz hdf) s0) s1) s4
  refine Pl.H.start (S := fun w' => w'.cell? ⟨p, 3, none⟩ = some (.map (some mb)) ∧ w'.cell? ⟨g, 0, none⟩ = some (.slice s.a s.len s.cap)) (by kernel_rfl) hA (show (fun w' => w'.cell? ⟨p, 3, none⟩ = some (.map (some mb)) ∧ w'.cell? ⟨g, 0, none⟩ = some (.slice s.a s.len s.cap)) w.drew from h0) ?_
  rw [show (Pl.find 5 ((Tryz.f90.body).getD .skip)).size = 9 by kernel_rfl]
  refine Pl.H.take 0 33 (.pointer (some ⟨p, 0, none⟩)) (by kernel_rfl) (by kernel_rfl) (by kernel_rfl) (Pl.free 0 (by kernel_rfl)) (Pl.move 0 (.tmp 0) (by kernel_rfl) (by decide)) (show (fun w' => w'.cell? ⟨p, 3, none⟩ = some (.map (some mb)) ∧ w'.cell? ⟨g, 0, none⟩ = some (.slice s.a s.len s.cap)) w.drew from h0) ?_
  refine Pl.H.take 1 34 (.pointer (some ⟨p, 0, none⟩)) (by kernel_rfl) (by kernel_rfl) (by kernel_rfl) (Pl.free 1 (by kernel_rfl)) (Pl.nilc 1 (.tmp 33) _ (by kernel_rfl) (by decide) rfl) (show (fun w' => w'.cell? ⟨p, 3, none⟩ = some (.map (some mb)) ∧ w'.cell? ⟨g, 0, none⟩ = some (.slice s.a s.len s.cap)) w.drew from h0) ?_
  refine Pl.H.take 2 35 (.pointer (some ⟨p, 3, none⟩)) (by kernel_rfl) (by kernel_rfl) (by kernel_rfl) (Pl.free 2 (by kernel_rfl)) (Pl.field 2 126 (.tmp 34) 2 _ (by kernel_rfl) (by decide) (fdPool2_0 p)) (show (fun w' => w'.cell? ⟨p, 3, none⟩ = some (.map (some mb)) ∧ w'.cell? ⟨g, 0, none⟩ = some (.slice s.a s.len s.cap)) w.drew from h0) ?_
  refine Pl.H.take 3 36 (.map (some mb)) (by kernel_rfl) (by kernel_rfl) (by kernel_rfl) (Pl.free 3 (by kernel_rfl)) (Pl.load 3 124 (.tmp 35) _ (by kernel_rfl) (by decide) (fun w' hS => ldMap p 3 _ w' hS.1)) (show (fun w' => w'.cell? ⟨p, 3, none⟩ = some (.map (some mb)) ∧ w'.cell? ⟨g, 0, none⟩ = some (.slice s.a s.len s.cap)) w.drew from h0) ?_
  refine Pl.H.take 4 37 (.int .i64 ((k : Nat) : Int)) (by kernel_rfl) (by kernel_rfl) (by kernel_rfl) (Pl.free 4 (by kernel_rfl)) (Pl.move 4 (.tmp 1) (by kernel_rfl) (by decide)) (show (fun w' => w'.cell? ⟨p, 3, none⟩ = some (.map (some mb)) ∧ w'.cell? ⟨g, 0, none⟩ = some (.slice s.a s.len s.cap)) w.drew from h0) ?_
  refine Pl.H.take 5 38 (.pointer (some ⟨g, 0, none⟩)) (by kernel_rfl) (by kernel_rfl) (by kernel_rfl) (Pl.free 5 (by kernel_rfl)) (Pl.field 5 140 (.tmp 4) 0 _ (by kernel_rfl) (by decide) (fdFr0_0 g)) (show (fun w' => w'.cell? ⟨p, 3, none⟩ = some (.map (some mb)) ∧ w'.cell? ⟨g, 0, none⟩ = some (.slice s.a s.len s.cap)) w.drew from h0) ?_
  refine Pl.H.take 6 39 (s.val) (by kernel_rfl) (by kernel_rfl) (by kernel_rfl) (Pl.free 6 (by kernel_rfl)) (Pl.load 6 32 (.tmp 38) _ (by kernel_rfl) (by decide) (fun w' hS => ldBs g 0 _ _ _ w' hS.2)) (show (fun w' => w'.cell? ⟨p, 3, none⟩ = some (.map (some mb)) ∧ w'.cell? ⟨g, 0, none⟩ = some (.slice s.a s.len s.cap)) w.drew from h0) ?_
  refine Pl.H.take 7 40 (frV s false 0) (by kernel_rfl) (by kernel_rfl) (by kernel_rfl) (Pl.free 7 (by kernel_rfl)) (Pl.buildV 7 140 [(0, .tmp 39)] _ (by kernel_rfl) (by decide) (fun w => buildFr1 s w)) (show (fun w' => w'.cell? ⟨p, 3, none⟩ = some (.map (some mb)) ∧ w'.cell? ⟨g, 0, none⟩ = some (.slice s.a s.len s.cap)) w.drew from h0) ?_
  refine Pl.H.store 8 w1 (by kernel_rfl) (by kernel_rfl) (by kernel_rfl) (Pl.free 8 (by kernel_rfl)) (Pl.mapUp 8 124 (.tmp 36) (.tmp 37) (.tmp 40) w1 (by kernel_rfl) (by decide) (by decide) (by decide) hrun) hS1 ?_
  refine Pl.H.done (by kernel_rfl) (fun A' hA' => ?_)
  rw [Pl.At.ext hA' ((((((((hA.put 33 _).put 34 _).put 35 _).put 36 _).put 37 _).put 38 _).put 39 _).put 40 _)]
  exact hend (fun d => if d = 33 then .pointer (some ⟨p, 0, none⟩) else if d = 34 then .pointer (some ⟨p, 0, none⟩) else if d = 35 then .pointer (some ⟨p, 3, none⟩) else if d = 36 then .map (some mb) else if d = 37 then .int .i64 ((k : Nat) : Int) else if d = 38 then .pointer (some ⟨g, 0, none⟩) else if d = 39 then s.val else if d = 40 then frV s false 0 else undef) _ rfl

set_option maxHeartbeats 2000000 in
set_option maxRecDepth 100000 in
theorem pp6 (w : World) (p mb k : Nat) (a : Option Addr) (l c : Nat) (z : Int) (R : Sl → World → Prop) (R1 : World → Prop) (h0 : (fun (w' : World) => w'.cell? ⟨p, 3, none⟩ = some (.map (some mb))) w) (hc : Calls Tryz.prog 72 #[.slice a l c] w.drew fun e w2 => ∃ s : Sl, e = .returned s.val ∧ R s w2) (hRS : ∀ s w2, R s w2 → (fun (w' : World) => w'.cell? ⟨p, 3, none⟩ = some (.map (some mb))) w2) (hU : ∀ s w2, R s w2 → ∃ w1, (Instr.mapUpdate 124 (.map (some mb)) (.int .i64 ((k : Nat) : Int)) (frV s true z)).run Tryz.prog w2 = .ok () w1 ∧ (fun (w' : World) => w'.cell? ⟨p, 3, none⟩ = some (.map (some mb))) w1 ∧ R1 w1)
    {Q : Exit → Act → World → Prop} {A : Act} (hsz : A.tmps.size = 28) (hdf : A.defers = []) (s0 : A.tmps.getD 0 undef = .pointer (some ⟨p, 0, none⟩)) (s1 : A.tmps.getD 1 undef = .int .i64 ((k : Nat) : Int)) (s2 : A.tmps.getD 2 undef = .slice a l c) (s3 : A.tmps.getD 3 undef = .int .i64 z)
    (hend : ∀ (u : Nat → Value) w', R1 w' → Q .normal ((((((((((A).put (some 19) (u 19)).put (some 20) (u 20)).put (some 21) (u 21)).put (some 22) (u 22)).put (some 23) (u 23)).put (some 24) (u 24)).put (some 26) (u 26)).put (some 25) (u 25)).put (some 27) (u 27)) w') :
    (Code.region 6 (Pl.find 6 ((Tryz.f87.body).getD .skip)) true).wp Tryz.prog Q A w := by
  have hA := Pl.At.same (v := .int .i64 z) (d := 3) (Pl.At.same (v := .slice a l c) (d := 2) (Pl.At.same (v := .int .i64 ((k : Nat) : Int)) (d := 1) (Pl.At.same (v := .pointer (some ⟨p, 0, none⟩)) (d := 0) (Pl.At.here hsz hdf) s0) s1) s2) s3
  refine Pl.H.start (S := fun w' => w'.cell? ⟨p, 3, none⟩ = some (.map (some mb))) (by kernel_rfl) hA (show (fun w' => w'.cell? ⟨p, 3, none⟩ = some (.map (some mb))) w.drew from h0) ?_
  rw [show (Pl.find 6 ((Tryz.f87.body).getD .skip)).size = 10 by kernel_rfl]
  refine Pl.H.take 0 19 (.pointer (some ⟨p, 0, none⟩)) (by kernel_rfl) (by kernel_rfl) (by kernel_rfl) (Pl.free 0 (by kernel_rfl)) (Pl.move 0 (.tmp 0) (by kernel_rfl) (by decide)) (show (fun w' => w'.cell? ⟨p, 3, none⟩ = some (.map (some mb))) w.drew from h0) ?_
  refine Pl.H.take 1 20 (.pointer (some ⟨p, 0, none⟩)) (by kernel_rfl) (by kernel_rfl) (by kernel_rfl) (Pl.free 1 (by kernel_rfl)) (Pl.nilc 1 (.tmp 19) _ (by kernel_rfl) (by decide) rfl) (show (fun w' => w'.cell? ⟨p, 3, none⟩ = some (.map (some mb))) w.drew from h0) ?_
  refine Pl.H.take 2 21 (.pointer (some ⟨p, 3, none⟩)) (by kernel_rfl) (by kernel_rfl) (by kernel_rfl) (Pl.free 2 (by kernel_rfl)) (Pl.field 2 126 (.tmp 20) 2 _ (by kernel_rfl) (by decide) (fdPool2_0 p)) (show (fun w' => w'.cell? ⟨p, 3, none⟩ = some (.map (some mb))) w.drew from h0) ?_
  refine Pl.H.take 3 22 (.map (some mb)) (by kernel_rfl) (by kernel_rfl) (by kernel_rfl) (Pl.free 3 (by kernel_rfl)) (Pl.load 3 124 (.tmp 21) _ (by kernel_rfl) (by decide) (fun w' hS => ldMap p 3 _ w' hS)) (show (fun w' => w'.cell? ⟨p, 3, none⟩ = some (.map (some mb))) w.drew from h0) ?_
  refine Pl.H.take 4 23 (.int .i64 ((k : Nat) : Int)) (by kernel_rfl) (by kernel_rfl) (by kernel_rfl) (Pl.free 4 (by kernel_rfl)) (Pl.move 4 (.tmp 1) (by kernel_rfl) (by decide)) (show (fun w' => w'.cell? ⟨p, 3, none⟩ = some (.map (some mb))) w.drew from h0) ?_
  refine Pl.H.take 5 24 (.slice a l c) (by kernel_rfl) (by kernel_rfl) (by kernel_rfl) (Pl.free 5 (by kernel_rfl)) (Pl.move 5 (.tmp 2) (by kernel_rfl) (by decide)) (show (fun w' => w'.cell? ⟨p, 3, none⟩ = some (.map (some mb))) w.drew from h0) ?_
  refine Pl.H.take 7 26 (.int .i64 z) (by kernel_rfl) (by kernel_rfl) (by kernel_rfl) (Pl.free 7 (by kernel_rfl)) (Pl.move 7 (.tmp 3) (by kernel_rfl) (by decide)) (show (fun w' => w'.cell? ⟨p, 3, none⟩ = some (.map (some mb))) w.drew from h0) ?_
  refine Pl.H.call 6 25 72 [(.tmp 24)] #[32] (by kernel_rfl) (by kernel_rfl) (by kernel_rfl) (Pl.free 6 (by kernel_rfl)) (by kernel_rfl) (by decide) entClone (Calls.mono (hc) ?_)
  rintro e w2 ⟨s, rfl, hr2⟩
  obtain ⟨w1, hrun, hS1, hQ1⟩ := hU s w2 hr2
  refine ⟨s.val, rfl, (hRS s w2 hr2), ?_⟩
  refine Pl.H.take 8 27 (frV s true z) (by kernel_rfl) (by kernel_rfl) (by kernel_rfl) (Pl.free 8 (by kernel_rfl)) (Pl.buildV 8 140 [(0, .tmp 25), (1, .const (.bool true)), (2, .tmp 26)] _ (by kernel_rfl) (by decide) (fun w => buildFr3 s z w)) (hRS s w2 hr2) ?_
  refine Pl.H.store 9 w1 (by kernel_rfl) (by kernel_rfl) (by kernel_rfl) (Pl.free 9 (by kernel_rfl)) (Pl.mapUp 9 124 (.tmp 22) (.tmp 23) (.tmp 27) w1 (by kernel_rfl) (by decide) (by decide) (by decide) hrun) hS1 ?_
  refine Pl.H.done (by kernel_rfl) (fun A' hA' => ?_)
  rw [Pl.At.ext hA' (((((((((hA.put 19 _).put 20 _).put 21 _).put 22 _).put 23 _).put 24 _).put 26 _).put 25 _).put 27 _)]
  exact hend (fun d => if d = 19 then .pointer (some ⟨p, 0, none⟩) else if d = 20 then .pointer (some ⟨p, 0, none⟩) else if d = 21 then .pointer (some ⟨p, 3, none⟩) else if d = 22 then .map (some mb) else if d = 23 then .int .i64 ((k : Nat) : Int) else if d = 24 then .slice a l c else if d = 26 then .int .i64 z else if d = 25 then s.val else if d = 27 then frV s true z else undef) _ hQ1

set_option maxHeartbeats 2000000 in
set_option maxRecDepth 100000 in
theorem pr7 (w : World) (p g mb k : Nat) (s : Sl) (dt : Bool) (z : Int) (w1 : World) (h0 : (fun (w' : World) => w'.cell? ⟨p, 3, none⟩ = some (.map (some mb)) ∧ FrBlk w' g s dt z) w) (hrun : (Instr.mapUpdate 124 (.map (some mb)) (.int .i64 ((k : Nat) : Int)) (frV s dt z)).run Tryz.prog w.drew = .ok () w1) (hS1 : (fun (w' : World) => w'.cell? ⟨p, 3, none⟩ = some (.map (some mb)) ∧ FrBlk w' g s dt z) w1)
    {Q : Exit → Act → World → Prop} {A : Act} (hsz : A.tmps.size = 45) (hdf : A.defers = []) (s0 : A.tmps.getD 0 undef = .pointer (some ⟨p, 0, none⟩)) (s1 : A.tmps.getD 1 undef = .int .i64 ((k : Nat) : Int)) (s6 : A.tmps.getD 6 undef = .pointer (some ⟨g, 0, none⟩))
    (hend : ∀ (u : Nat → Value) w', w' = w1 → Q .normal (((((((A).put (some 36) (u 36)).put (some 37) (u 37)).put (some 38) (u 38)).put (some 39) (u 39)).put (some 40) (u 40)).put (some 41) (u 41)) w') :
    (Code.region 7 (Pl.find 7 ((Tryz.f68.body).getD .skip)) true).wp Tryz.prog Q A w := by
  have hA := Pl.At.same (v := .pointer (some ⟨g, 0, none⟩)) (d := 6) (Pl.At.same (v := .int .i64 ((k : Nat) : Int)) (d := 1) (Pl.At.same (v := .pointer (some ⟨p, 0, none⟩)) (d := 0) (Pl.At.here hsz hdf) s0) s1) s6
  refine Pl.H.start (S := fun w' => w'.cell? ⟨p, 3, none⟩ = some (.map (some mb)) ∧ FrBlk w' g s dt z) (by kernel_rfl) hA (show (fun w' => w'.cell? ⟨p, 3, none⟩ = some (.map (some mb)) ∧ FrBlk w' g s dt z) w.drew from h0) ?_
  rw [show (Pl.find 7 ((Tryz.f68.body).getD .skip)).size = 7 by kernel_rfl]
  refine Pl.H.take 0 36 (.pointer (some ⟨p, 0, none⟩)) (by kernel_rfl) (by kernel_rfl) (by kernel_rfl) (Pl.free 0 (by kernel_rfl)) (Pl.move 0 (.tmp 0) (by kernel_rfl) (by decide)) (show (fun w' => w'.cell? ⟨p, 3, none⟩ = some (.map (some mb)) ∧ FrBlk w' g s dt z) w.drew from h0) ?_
  refine Pl.H.take 1 37 (.pointer (some ⟨p, 0, none⟩)) (by kernel_rfl) (by kernel_rfl) (by kernel_rfl) (Pl.free 1 (by kernel_rfl)) (Pl.nilc 1 (.tmp 36) _ (by kernel_rfl) (by decide) rfl) (show (fun w' => w'.cell? ⟨p, 3, none⟩ = some (.map (some mb)) ∧ FrBlk w' g s dt z) w.drew from h0) ?_
  refine Pl.H.take 2 38 (.pointer (some ⟨p, 3, none⟩)) (by kernel_rfl) (by kernel_rfl) (by kernel_rfl) (Pl.free 2 (by kernel_rfl)) (Pl.field 2 126 (.tmp 37) 2 _ (by kernel_rfl) (by decide) (fdPool2_0 p)) (show (fun w' => w'.cell? ⟨p, 3, none⟩ = some (.map (some mb)) ∧ FrBlk w' g s dt z) w.drew from h0) ?_
  refine Pl.H.take 3 39 (.map (some mb)) (by kernel_rfl) (by kernel_rfl) (by kernel_rfl) (Pl.free 3 (by kernel_rfl)) (Pl.load 3 124 (.tmp 38) _ (by kernel_rfl) (by decide) (fun w' hS => ldMap p 3 _ w' hS.1)) (show (fun w' => w'.cell? ⟨p, 3, none⟩ = some (.map (some mb)) ∧ FrBlk w' g s dt z) w.drew from h0) ?_
  refine Pl.H.take 4 40 (.int .i64 ((k : Nat) : Int)) (by kernel_rfl) (by kernel_rfl) (by kernel_rfl) (Pl.free 4 (by kernel_rfl)) (Pl.move 4 (.tmp 1) (by kernel_rfl) (by decide)) (show (fun w' => w'.cell? ⟨p, 3, none⟩ = some (.map (some mb)) ∧ FrBlk w' g s dt z) w.drew from h0) ?_
  refine Pl.H.take 5 41 (frV s dt z) (by kernel_rfl) (by kernel_rfl) (by kernel_rfl) (Pl.free 5 (by kernel_rfl)) (Pl.load 5 140 (.tmp 6) _ (by kernel_rfl) (by decide) (fun w' hS => ldFr g s dt z w' hS.2)) (show (fun w' => w'.cell? ⟨p, 3, none⟩ = some (.map (some mb)) ∧ FrBlk w' g s dt z) w.drew from h0) ?_
  refine Pl.H.store 6 w1 (by kernel_rfl) (by kernel_rfl) (by kernel_rfl) (Pl.free 6 (by kernel_rfl)) (Pl.mapUp 6 124 (.tmp 39) (.tmp 40) (.tmp 41) w1 (by kernel_rfl) (by decide) (by decide) (by decide) hrun) hS1 ?_
  refine Pl.H.done (by kernel_rfl) (fun A' hA' => ?_)
  rw [Pl.At.ext hA' ((((((hA.put 36 _).put 37 _).put 38 _).put 39 _).put 40 _).put 41 _)]
  exact hend (fun d => if d = 36 then .pointer (some ⟨p, 0, none⟩) else if d = 37 then .pointer (some ⟨p, 0, none⟩) else if d = 38 then .pointer (some ⟨p, 3, none⟩) else if d = 39 then .map (some mb) else if d = 40 then .int .i64 ((k : Nat) : Int) else if d = 41 then frV s dt z else undef) _ rfl
end Go.Proofs.YtpggkfdnpdhkfaaGreat

namespace Go.Proofs.YtpggkfdnpdhkfaaGreat
open Go.RowKit
set_option maxRecDepth 100000
set_option linter.unusedVariables false

set_option maxHeartbeats 2000000 in
theorem hasP_any {w : World} {p d : Nat} {P : Po} {L : Dl} {Y : Nat → Prop} {v : Sl} {mb : Nat} {f : Int → Option Value} (h : PoIn w p d P L Y v mb f) (n : Nat) (hn : P.D.sp.length = 512 * n) (hn2 : n ≤ 64) (k : Int) : Calls Tryz.prog 99 #[at0 p, .int .i64 k] w fun e w' => e = .returned (.bool (decide (0 ≤ k ∧ k < (n : Nat)))) ∧ w' = w := by
  have HP := hide (pages_any w d P.D L h.dev n hn hn2)
  have c0 := h.blk.c0
  clear h hn
  unfold at0 at *
  by_cases h0 : 0 ≤ k
  · by_cases h1 : k < ((n : Nat) : Int)
    · have h2 : decide (k < ((n : Nat) : Int)) = true := decide_eq_true h1
      rw [decide_eq_true (show 0 ≤ k ∧ k < ((n : Nat) : Int) from ⟨h0, h1⟩)]
      go_enter Tryz.func99, Tryz.ntmps99
      go_wp2_with fail
      refine HP.out.mono ?_
      rintro e w' ⟨rfl, hw⟩
      obtain rfl := hw.symm
      go_wp2_with fail
      go_ret
      exact ⟨rfl, rfl⟩
    · have h2 : decide (k < ((n : Nat) : Int)) = false := decide_eq_false h1
      rw [decide_eq_false (show ¬ (0 ≤ k ∧ k < ((n : Nat) : Int)) from fun e => h1 e.2)]
      go_enter Tryz.func99, Tryz.ntmps99
      go_wp2_with fail
      refine HP.out.mono ?_
      rintro e w' ⟨rfl, hw⟩
      obtain rfl := hw.symm
      go_wp2_with fail
      go_ret
      exact ⟨rfl, rfl⟩
  · rw [decide_eq_false (show ¬ (0 ≤ k ∧ k < ((n : Nat) : Int)) from fun e => h0 e.1)]
    go_enter Tryz.func99, Tryz.ntmps99
    go_wp2_with fail
    go_ret
    exact ⟨rfl, rfl⟩

set_option maxHeartbeats 4000000 in
theorem syncedP_any {w : World} {p d : Nat} {P : Po} {L : Dl} {Y : Nat → Prop} {v : Sl} {mb : Nat} {f : Int → Option Value} (h : PoIn w p d P L Y v mb f) {n c : Nat} (hE : P.D.Easy n c) (hss : P.D.ss.length ≤ 65536) : Calls Tryz.prog 56 #[at0 p] w fun e w' => e = .returned (.tuple #[]) ∧ PoIn w' p d P.synced L Y v mb f ∧ Frm (fun i => i = p) w w' := by
  have hst := stream_any w d P.D L h.dev n hE.sp hE.n2 hE.n1 (by omega)
  have c0 := h.blk.c0
  have HI := hide h
  have HSB := hide hE.sbn
  obtain ⟨sb, hsb⟩ : ∃ sb, sb = P.D.sb := ⟨_, rfl⟩
  rw [← hsb] at hst HSB
  have HST := hide hst
  have HSS := hide hss
  have HSBE := hide hsb
  clear h hE hst hss hsb
  unfold at0 at *
  go_enter Tryz.func56, Tryz.ntmps56
  go_wp2_with fail
  refine HST.out.mono ?_
  rintro e w1 ⟨hb1, ⟨sa, sl, sc⟩, rfl, _, hl, _⟩
  simp only [Sl.val] at hl ⊢
  have I1 := HI.out.keep hb1
  obtain ⟨W, hs1, hblk, hfr, hsz⟩ := stSy I1.blk P.D.fin
  have HW1 := hide (I1.sync P.D.fin hblk hfr)
  have HF1 := hide ((Frm.ofBelow (F := fun i => i = p) hb1).trans hfr (fun _ _ e => e))
  have hsl : sl ≤ 65536 := by rw [hl]; exact HSS.out
  have HFN : Hid (P.D.fin = ((sb : Nat) : Int) + ((sl : Nat) : Int)) := by show P.D.fin = _; unfold Ds.fin; rw [hl, ← HSBE.out]; omega
  have hsb9 : sb ≤ 900000000000 := HSB.out
  have HS1 := hide hs1
  rw [HFN.out] at HS1
  clear I1 hs1 hblk hfr hsz hb1 hl c0
  go_wp2_with (refine wpList_store _ rfl rfl 3 (.tmp 20) (.tmp 18) rfl (.pointer (some ⟨p, 4, none⟩)) (.int .i64 (((sb : Nat) : Int) + ((sl : Nat) : Int))) rfl rfl W HS1.out ?_)
  go_end0
  exact ⟨rfl, HW1.out, HF1.out⟩
end Go.Proofs.YtpggkfdnpdhkfaaGreat

namespace Go.Proofs.YtpggkfdnpdhkfaaGreat
open Go.RowKit
set_option maxRecDepth 100000
set_option linter.unusedVariables false

/-- A pool whose device and sheets may be. -/
structure Po.Lite (P : Po) (n c : Nat) : Prop where
  wet : P.Wet n c
  cap : c ≤ 9600
  ss : P.D.ss.length ≤ 65536
theorem Po.Fine.lite {P : Po} {n c : Nat} (h : P.Fine n c) : P.Lite n c := ⟨h.wet, Nat.le_trans h.cap (by omega), h.ss⟩
theorem FrBlk.frm {w w' : World} {g : Nat} {s : Sl} {d : Bool} {z : Int} (h : FrBlk w g s d z) {F : Nat → Prop} (hf : Frm F w w') (hF : ¬ F g) : FrBlk w' g s d z := (hf.block g h.lt hF).trans h
theorem frBlk_new (w : World) (s : Sl) (d : Bool) (z : Int) : FrBlk (w.alloc (.cells #[s.val, .bool d, .int .i64 z] 140)) w.heap.size s d z := heap_alloc_new w _
/-- A box is new: it is apart from the pool. -/
theorem PoIn.new {w : World} {p d : Nat} {P : Po} {L : Dl} {Y : Nat → Prop} {v : Sl} {mb : Nat} {f : Int → Option Value} (h : PoIn w p d P L Y v mb f) {g : Nat} (hg : w.heap.size ≤ g) : ¬ (g = p ∨ g = mb ∨ L.F d g) ∧ ¬ Y g := by
  refine ⟨fun e => ?_, fun e => ?_⟩
  · rcases e with e | e | e
    · have := h.blk.lt; omega
    · have := h.map.lt; omega
    · have := h.dev.lt e; omega
  · have := h.lt g e; omega
/-- The bytes of a sheet, to be written. -/
theorem PoIn.bytes {w : World} {p d : Nat} {P : Po} {L : Dl} {Y : Nat → Prop} {v : Sl} {mb : Nat} {f : Int → Option Value} (h : PoIn w p d P L Y v mb f) {s : Sh} {u : Value} {sl : Sl} {z : Int} (hs : ShIs w Y s u sl z) (hx : Bytes s.b) : Came w sl.a sl.len sl.cap s.b ∧ Off (L.F d) sl.a 512 := by
  refine ⟨hs.own.came hx, fun ad e hl hk => h.ap ad.block (.inr (.inr (hs.home _ ?_))) hk⟩
  unfold Sl.blk
  rw [e]
  rfl

set_option maxHeartbeats 8000000 in
set_option maxRecDepth 100000 in
theorem writeP_any {w : World} {p d : Nat} {P : Po} {L : Dl} {Y : Nat → Prop} {v : Sl} {mb : Nat} {f : Int → Option Value} (h : PoIn w p d P L Y v mb f) {n c : Nat} (hF : P.Lite n c) (k : Nat) (s : Sh) (hm : P.m k = some s) (hd : s.dirty = true) : Calls Tryz.prog 90 #[at0 p, .int .i64 ((k : Nat) : Int)] w fun e w' => Did w p d mb L Y w' (P.wrote k s) ∧ e = .returned (.tuple #[]) := by
  obtain ⟨hkn, hsb, hsx⟩ := hF.wet.sh k s hm
  have hE := hF.wet.dev
  have hn64 := hE.n2
  rcases h.sh k with ⟨e, _⟩ | ⟨s', u, sl, z, e1, e2, hsh⟩
  · rw [hm] at e; cases e
  obtain rfl : s = s' := by rw [hm] at e1; exact Option.some.inj e1
  have hz := hsh.place hd
  have hlook := h.map.look (k := ((k : Nat) : Int)) (wf_page k (by omega))
  rw [e2, hsh.val, hd] at hlook
  simp only [Option.getD_some, frV] at hlook
  subst hz
  -- the box of the frame
  obtain ⟨w1, hw1⟩ : ∃ w1, w1 = w.alloc (.cells #[sl.val, .bool true, .int .i64 s.place] 140) := ⟨_, rfl⟩
  have hB1 : Below w.heap.size w w1 := by rw [hw1]; exact below_alloc w _
  have hFB1 : FrBlk w1 w.heap.size sl true s.place := by rw [hw1]; exact frBlk_new w sl true s.place
  have hg := (h.new (Nat.le_refl w.heap.size))
  have hI1 := h.keep hB1
  have hsh1 : ShIs w1 Y s u sl s.place := hsh.frm (fun i hi => hB1.block i (h.lt i hi)) (fun _ e => e)
  -- region 4
  have HT4 : Hid (∀ (W3 : World) (L3 : Dl), PoIn W3 p d (P.ahead s.place) L3 Y v mb f ∧ (∀ i, L3.F d i → L.F d i ∨ w1.heap.size ≤ i) ∧ Frm (fun i => i = p ∨ i = mb ∨ L.F d i) w1 W3 → FrBlk W3 w.heap.size sl true s.place → ∀ {Q : Exit → Act → World → Prop} {A : Act}, A.tmps.size = 41 → A.defers = [] → A.tmps.getD 0 undef = .pointer (some ⟨p, 0, none⟩) → A.tmps.getD 1 undef = .int .i64 ((k : Nat) : Int) → A.tmps.getD 4 undef = .pointer (some ⟨w.heap.size, 0, none⟩) →
      (∀ (u : Nat → Value) (w4 : World), (∃ L4, PoIn w4 p d { P.ahead s.place with D := (P.ahead s.place).D.write k s.b } L4 Y v mb f ∧ FrBlk w4 w.heap.size sl true s.place ∧ Frm (fun i => i = p ∨ i = mb ∨ L3.F d i) W3 w4 ∧ ∀ i, L4.F d i → L3.F d i ∨ W3.heap.size ≤ i) → Q .normal (((((((((A).put (some 25) (u 25)).put (some 26) (u 26)).put (some 27) (u 27)).put (some 28) (u 28)).put (some 29) (u 29)).put (some 30) (u 30)).put (some 31) (u 31)).put (some 32) (u 32)) w4) →
      (Code.region 4 (Pl.find 4 ((Tryz.f90.body).getD .skip)) true).wp Tryz.prog Q A W3) := by
    show ∀ _, _
    intro W3 L3 hI3' hFB3 Q A a1 a2 a3 a4 a5 hend
    obtain ⟨hI3, hFO, hFR⟩ := hI3'
    have hI3d := hI3.keep (below_drew W3)
    have hsh3 : ShIs W3.drew Y s u sl s.place := hsh1.frm (fun i hi => hFR.block i (hI1.lt i hi) (fun e => by
      rcases e with e | e | e
      · exact h.yp (e ▸ hi)
      · exact h.ym (e ▸ hi)
      · exact h.ap i (.inr (.inr hi)) e)) (fun _ e => e)
    have hEa := (hF.wet.ahead s.place).dev
    obtain ⟨hcm, hoff⟩ := hI3d.bytes hsh3 hsx
    rw [hsh.len] at hcm
    have hwr := write_ok W3.drew d (P.ahead s.place).D L3 hI3d.dev n hEa.sp hEa.n2 (fun x hx => (hEa.wr x hx).len) (Nat.le_trans hEa.wl (by have := hF.cap; omega)) hEa.al k hkn sl.a sl.cap s.b hcm hoff
    refine pw4 W3 p w.heap.size d k sl.a 512 sl.cap (fun w4 => ∃ L4, Turned W3.drew d L3 w4 ((P.ahead s.place).D.write k s.b) L4) ⟨hI3.blk.c0, by have := hFB3.c0; rw [hsh.len] at this; exact this⟩ (hwr.mono (fun e w' r => r)) (fun w2 hw2 => ?_) a1 a2 a3 a4 a5 (fun u w4 hw4 => ?_)
    · obtain ⟨L4, t⟩ := hw2
      have hg3 : ¬ L3.F d w.heap.size := fun e => by
        rcases hFO _ e with e | e
        · exact hg.1 (.inr (.inr e))
        · have := hFB1.lt
          omega
      refine ⟨(hI3d.turn t).blk.c0, ?_⟩
      have := (FrBlk.frm (show FrBlk W3.drew _ _ _ _ from hFB3) t.frm hg3).c0
      rw [hsh.len] at this
      exact this
    · obtain ⟨L4, t⟩ := hw4
      have hg3 : ¬ L3.F d w.heap.size := fun e => by
        rcases hFO _ e with e | e
        · exact hg.1 (.inr (.inr e))
        · have := hFB1.lt
          omega
      exact hend u w4 ⟨L4, hI3d.turn t, FrBlk.frm (show FrBlk W3.drew _ _ _ _ from hFB3) t.frm hg3, (Frm.ofBelow (below_drew W3)).trans (t.frm.mono (fun i _ e => .inr (.inr e))) (fun _ _ e => e), t.foot⟩
  -- region 5
  have HT5 : Hid (∀ (w4 : World) (L4 : Dl), PoIn w4 p d { P.ahead s.place with D := (P.ahead s.place).D.write k s.b } L4 Y v mb f → FrBlk w4 w.heap.size sl true s.place → ∀ {Q : Exit → Act → World → Prop} {A : Act}, A.tmps.size = 41 → A.defers = [] → A.tmps.getD 0 undef = .pointer (some ⟨p, 0, none⟩) → A.tmps.getD 1 undef = .int .i64 ((k : Nat) : Int) → A.tmps.getD 4 undef = .pointer (some ⟨w.heap.size, 0, none⟩) →
      (∀ (u : Nat → Value) (w5 : World), (Did w4 p d mb L4 Y w5 (P.wrote k s)) → Q .normal (((((((((A).put (some 33) (u 33)).put (some 34) (u 34)).put (some 35) (u 35)).put (some 36) (u 36)).put (some 37) (u 37)).put (some 38) (u 38)).put (some 39) (u 39)).put (some 40) (u 40)) w5) →
      (Code.region 5 (Pl.find 5 ((Tryz.f90.body).getD .skip)) true).wp Tryz.prog Q A w4) := by
    show ∀ _, _
    intro w4 L4 hI4 hFB4 Q A a1 a2 a3 a4 a5 hend
    have hI4d := hI4.keep (below_drew w4)
    obtain ⟨w5, hrun, hm5, hf5, hs5⟩ := hI4d.map.put k (by omega) (frV sl false 0)
    have hsh4 : ShIs w4 Y s u sl s.place := by
      rcases hI4.sh k with ⟨e, _⟩ | ⟨s', u', sl', z', f1, f2, hs'⟩
      · rw [show ({ P.ahead s.place with D := (P.ahead s.place).D.write k s.b } : Po).m k = P.m k from congrFun (ahead_rest P s.place).1 k, hm] at e; cases e
      · rw [show ({ P.ahead s.place with D := (P.ahead s.place).D.write k s.b } : Po).m k = P.m k from congrFun (ahead_rest P s.place).1 k, hm] at f1
        obtain rfl := Option.some.inj f1
        rw [e2] at f2
        obtain rfl := Option.some.inj f2
        have h1 := hs'.val
        rw [hsh.val] at h1
        simp only [frV, Value.agg.injEq, Array.mk.injEq, List.cons.injEq, Sl.val, Value.slice.injEq] at h1
        obtain ⟨⟨q1, q2, q3⟩, _, q4, _⟩ := h1
        obtain rfl : sl = sl' := by cases sl; cases sl'; simp_all
        exact ⟨hsh.val, fun _ => rfl, hs'.own, hs'.len, hs'.home⟩
    have hI5 := hI4d.put k (some { s with dirty := false }) (putF f ((k : Nat) : Int) (some (frV sl false 0))) hm5 (fun j hj => if_neg hj) hf5 (by
      refine .inr ⟨_, _, sl, 0, rfl, if_pos rfl, rfl, (fun e => by cases e), (hsh4.own.frame fun i hi => hf5.block i (hI4d.lt i (hsh4.home i hi)) (fun e => h.ym (e ▸ hsh4.home i hi))), hsh4.len, hsh4.home⟩)
    refine pw5 w4 p w.heap.size mb k sl w5 ⟨hI4.blk.c3, hFB4.c0⟩ hrun ⟨hI5.blk.c3, (FrBlk.frm (show FrBlk w4.drew _ _ _ _ from hFB4) hf5 (fun e => hg.1 (.inr (.inl e)))).c0⟩ a1 a2 a3 a4 a5 (fun u w' hw' => ?_)
    subst hw'
    exact hend u _ ⟨⟨L4, Y, v, _, hI5, fun _ e => .inl e, fun _ e => .inl e⟩, (Frm.ofBelow (below_drew w4)).trans (hf5.mono (fun i _ e => .inr (.inl e))) (fun _ _ e => e)⟩
  have HDONE : Hid (∀ (W3 : World) (L3 : Dl) (w4 : World) (L4 : Dl) (w5 : World), Frm (fun i => i = p ∨ i = mb ∨ L.F d i) w1 W3 → (∀ i, L3.F d i → L.F d i ∨ w1.heap.size ≤ i) → Frm (fun i => i = p ∨ i = mb ∨ L3.F d i) W3 w4 → (∀ i, L4.F d i → L3.F d i ∨ W3.heap.size ≤ i) → Did w4 p d mb L4 Y w5 (P.wrote k s) → Did w p d mb L Y w5 (P.wrote k s)) := by
    show ∀ _, _
    intro W3 L3 w4 L4 w5 fr3 fo3 fr4 fo4 hD
    have s1 : w.heap.size ≤ w1.heap.size := hB1.size
    obtain ⟨L5, Y5, v5, f5, hI5, hy5, hl5⟩ := hD.ex
    have k4 : ∀ i, L4.F d i → L.F d i ∨ w1.heap.size ≤ i := fun i e => by
      rcases fo4 i e with e | e
      · exact fo3 i e
      · exact .inr (Nat.le_trans fr3.size e)
    have fr : Frm (fun i => i = p ∨ i = mb ∨ L.F d i) w1 w5 := (fr3.trans fr4 (fun i hlt e => by
      rcases e with e | e | e
      · exact .inl e
      · exact .inr (.inl e)
      · rcases fo3 i e with e | e
        · exact .inr (.inr e)
        · omega)).trans hD.frm (fun i hlt e => by
      rcases e with e | e | e
      · exact .inl e
      · exact .inr (.inl e)
      · rcases k4 i e with e | e
        · exact .inr (.inr e)
        · omega)
    have s4 : w1.heap.size ≤ w4.heap.size := Nat.le_trans fr3.size fr4.size
    refine ⟨⟨L5, Y5, v5, f5, hI5, fun i e => ?_, fun i e => ?_⟩, (Frm.ofBelow hB1).trans fr (fun _ _ e => e)⟩
    · rcases hy5 i e with e | e
      · exact .inl e
      · exact .inr (by omega)
    · rcases hl5 i e with e | e
      · rcases k4 i e with e | e
        · exact .inl e
        · exact .inr (by omega)
      · exact .inr (by omega)
  have HI1 := hide hI1
  have HFB1 := hide hFB1
  have HF := hide hF
  have HG := hide hg
  have c3 := h.blk.c3
  have c4w := hI1.blk.c4
  have c0w := hI1.blk.c0
  have HR1 : Hid (∀ {Q : Exit → Act → World → Prop} {A : Act}, _) := fun {Q A} => pw1 w1 p w.heap.size s.place P.sy ⟨hFB1.c2, c4w⟩ (Q := Q) (A := A)
  have HW1 := hide hw1
  clear hw1
  have hB1' := hide hB1
  clear hI1 hFB1 hB1 hF hg h hsh hsh1 hE hsb hsx hm hd e1 e2 c4w
  obtain ⟨sa, sln, sc⟩ := sl
  simp only [Sl.val] at *
  unfold at0
  by_cases hzs : P.sy < s.place
  · have hAh : P.ahead s.place = { P with D := P.D.sync, sy := P.D.fin } := if_pos hzs
    rw [decide_eq_true hzs] at HR1
    clear hzs
    go_enter Tryz.func90, Tryz.ntmps90
    go_wp2_with fail
    rw [← HW1.out]
    refine Pl.region_is (ops := Pl.find 1 ((Tryz.f90.body).getD .skip)) (by kernel_rfl) ?_
    refine HR1.out (by rfl) rfl (by rfl) (by rfl) ?_
    intro u1 w2 hw2
    simp only [Act.put, List.setIfInBounds_toArray, List.set_cons_zero, List.set_cons_succ]
    have I2 : Hid (PoIn w2 p d P L Y v mb f) := by rw [hw2]; exact HI1.out.keep (below_drew w1)
    have FB2 : Hid (FrBlk w2 w.heap.size ⟨sa, sln, sc⟩ true s.place) := by rw [hw2]; exact HFB1
    have BL2 : Hid (Below w1.heap.size w1 w2) := by rw [hw2]; exact below_drew w1
    clear hw2
    have hE2 := HF.out.wet.dev
    have hss2 := HF.out.ss
    have HSY := hide (sync_any w2 d P.D L I2.out.dev n (hE2.sane (Nat.le_trans HF.out.cap (by omega)) (by omega)) (fun _ => hE2.fit))
    have c02 := I2.out.blk.c0
    unfold at0 at HSY
    clear hE2 hss2
    go_wp2_with fail
    refine HSY.out.mono ?_
    rintro e w3 ⟨rfl, L3, hT3⟩
    have I3 := hide (I2.out.turn hT3)
    have FB3 : Hid (FrBlk w3 w.heap.size ⟨sa, sln, sc⟩ true s.place) := FB2.out.frm hT3.frm (fun e => HG.out.1 (.inr (.inr e)))
    have hE3 := HF.out.wet.dev.sync
    have hss3 : P.D.sync.ss.length ≤ 65536 := by rw [P.D.sync_sp.2.1]; exact HF.out.ss
    have HSN := hide (syncedP_any I3.out hE3 hss3)
    have HFO3' : Hid (∀ i, L3.F d i → L.F d i ∨ w1.heap.size ≤ i) := fun i e => (hT3.foot i e).imp id (fun e => Nat.le_trans BL2.out.size e)
    have HFR3' := hide ((Frm.ofBelow (F := fun i => i = p ∨ i = mb ∨ L.F d i) BL2.out).trans (hT3.frm.mono (fun i _ e => .inr (.inr e))) (fun _ _ e => e))
    unfold at0 at HSN
    clear hT3 hE3 hss3 c02
    go_wp2_with fail
    refine HSN.out.mono ?_
    rintro e W3 ⟨rfl, hI, hFr⟩
    have HI3 : Hid (PoIn W3 p d (P.ahead s.place) L3 Y v mb f ∧ (∀ i, L3.F d i → L.F d i ∨ w1.heap.size ≤ i) ∧ Frm (fun i => i = p ∨ i = mb ∨ L.F d i) w1 W3) := by
      refine ⟨?_, HFO3'.out, HFR3'.out.trans (hFr.mono (fun i _ e => .inl e)) (fun _ _ e => e)⟩
      rw [hAh]
      have e : P.D.sync.fin = P.D.fin := P.D.sync_fin
      unfold Po.synced at hI
      simp only [e] at hI
      exact hI
    have HFR3 := hide HI3.out.2.2
    have HFO3 := HFO3'
    have HFB3 : Hid (FrBlk W3 w.heap.size ⟨sa, sln, sc⟩ true s.place) := FB3.out.frm hFr (fun e => HG.out.1 (.inl e))
    clear hI hFr hAh
    go_wp2_with fail
    -- region 4: the device's Write
    refine Pl.region_is (ops := Pl.find 4 ((Tryz.f90.body).getD .skip)) (by kernel_rfl) ?_
    refine HT4.out W3 L3 HI3.out HFB3.out (by rfl) rfl (by rfl) (by rfl) (by rfl) ?_
    intro u4 w4 hw4
    obtain ⟨L4, HI4, HFB4, HFR4, HFO4⟩ := hw4
    simp only [Act.put, List.setIfInBounds_toArray, List.set_cons_zero, List.set_cons_succ]
    go_wp2_with fail
    refine Pl.region_is (ops := Pl.find 5 ((Tryz.f90.body).getD .skip)) (by kernel_rfl) ?_
    refine HT5.out w4 L4 HI4 HFB4 (by rfl) rfl (by rfl) (by rfl) (by rfl) ?_
    intro u5 w5 hw5
    simp only [Act.put, List.setIfInBounds_toArray, List.set_cons_zero, List.set_cons_succ]
    go_end0
    exact ⟨(HDONE.out W3 L3 w4 L4 w5 HFR3.out HFO3.out HFR4 HFO4 hw5), rfl⟩
  · have hAh : P.ahead s.place = P := if_neg hzs
    rw [decide_eq_false hzs] at HR1
    clear hzs
    go_enter Tryz.func90, Tryz.ntmps90
    go_wp2_with fail
    rw [← HW1.out]
    refine Pl.region_is (ops := Pl.find 1 ((Tryz.f90.body).getD .skip)) (by kernel_rfl) ?_
    refine HR1.out (by rfl) rfl (by rfl) (by rfl) ?_
    intro u1 W3 hw2
    simp only [Act.put, List.setIfInBounds_toArray, List.set_cons_zero, List.set_cons_succ]
    have HI3 : Hid (PoIn W3 p d (P.ahead s.place) L Y v mb f ∧ (∀ i, L.F d i → L.F d i ∨ w1.heap.size ≤ i) ∧ Frm (fun i => i = p ∨ i = mb ∨ L.F d i) w1 W3) := by
      rw [hw2, hAh]
      exact ⟨HI1.out.keep (below_drew w1), fun _ e => .inl e, Frm.ofBelow (below_drew w1)⟩
    have HFB3 : Hid (FrBlk W3 w.heap.size ⟨sa, sln, sc⟩ true s.place) := by rw [hw2]; exact HFB1
    have HFR3 := hide HI3.out.2.2
    have HFO3 := hide HI3.out.2.1
    clear hw2 hAh
    go_wp2_with fail
    -- region 4: the device's Write
    refine Pl.region_is (ops := Pl.find 4 ((Tryz.f90.body).getD .skip)) (by kernel_rfl) ?_
    refine HT4.out W3 L HI3.out HFB3.out (by rfl) rfl (by rfl) (by rfl) (by rfl) ?_
    intro u4 w4 hw4
    obtain ⟨L4, HI4, HFB4, HFR4, HFO4⟩ := hw4
    simp only [Act.put, List.setIfInBounds_toArray, List.set_cons_zero, List.set_cons_succ]
    go_wp2_with fail
    refine Pl.region_is (ops := Pl.find 5 ((Tryz.f90.body).getD .skip)) (by kernel_rfl) ?_
    refine HT5.out w4 L4 HI4 HFB4 (by rfl) rfl (by rfl) (by rfl) (by rfl) ?_
    intro u5 w5 hw5
    simp only [Act.put, List.setIfInBounds_toArray, List.set_cons_zero, List.set_cons_succ]
    go_end0
    exact ⟨(HDONE.out W3 L w4 L4 w5 HFR3.out HFO3.out HFR4 HFO4 hw5), rfl⟩
end Go.Proofs.YtpggkfdnpdhkfaaGreat

namespace Go.Proofs.YtpggkfdnpdhkfaaGreat
open Go.RowKit
set_option maxRecDepth 100000
set_option linter.unusedVariables false

section
variable {ops : Array Oper} {rest : List Oper} {o : Oper} {a : Act} {Q : Exit → Act → World → Prop}
theorem wpList_del (w : World) (hgd : o.guard = none) (t k ty : TypeId) (hty : o.type = ty) (m x : Operand) (ho : o.op = .call { callee := .builtin .delete, args := #[m, x], argTypes := #[t, k] }) (vm vx : Value) (hm : a.eval m = vm) (hx : a.eval x = vx) (w' : World) (hrun : (Builtin.delete_ #[t, k] ty #[vm, vx]).run Tryz.prog w = .ok (.tuple #[]) w') (hK : wpList Tryz.prog ops Q rest (a.put o.dst (.tuple #[])) w') : wpList Tryz.prog ops Q (o :: rest) a w := by
  refine wpList_plain hgd fun K' hK' => ?_
  unfold Oper.wp
  simp [execOp, ho, resolve, invoke, builtin, hm, hx, hty, hrun, Result.andThen]
  exact hK' _ _ hK
end

theorem write_clean (P : Po) (k : Nat) (h : ∀ s, P.m k = some s → s.dirty = false) : P.write k = P := by
  unfold Po.write
  cases e : P.m k with
  | none => rfl
  | some s => simp only; rw [if_neg (by rw [h s e]; decide)]
theorem write_dirty (P : Po) (k : Nat) (s : Sh) (h : P.m k = some s) (hd : s.dirty = true) : P.write k = P.wrote k s := by
  unfold Po.write
  rw [h]
  simp only
  rw [if_pos hd]
/-- A page is taken out of the map. -/
theorem PoIn.drop {w : World} {p d : Nat} {P : Po} {L : Dl} {Y : Nat → Prop} {v : Sl} {mb : Nat} {f : Int → Option Value} (h : PoIn w p d P L Y v mb f) (k : Nat) (hk : k < 1000000) (ty : TypeId) : ∃ w', (Builtin.delete_ #[124, 3] ty #[.map (some mb), .int .i64 ((k : Nat) : Int)]).run Tryz.prog w = .ok (.tuple #[]) w' ∧ Did w p d mb L Y w' (P.put k none) := by
  obtain ⟨w', hrun, hm, hf, _⟩ := h.map.del (wf_page k hk) ty
  exact ⟨w', hrun, ⟨L, Y, v, _, h.put k none _ hm (fun j hj => if_neg hj) hf (.inl ⟨rfl, if_pos rfl⟩), fun _ e => .inl e, fun _ e => .inl e⟩, hf.mono (fun i _ e => .inr (.inl e))⟩
/-- What the map holds of a page. -/
theorem PoIn.looks {w : World} {p d : Nat} {P : Po} {L : Dl} {Y : Nat → Prop} {v : Sl} {mb : Nat} {f : Int → Option Value} (h : PoIn w p d P L Y v mb f) (k : Nat) (hk : k < 1000000) : ∃ (sl : Sl) (z : Int), (Instr.lookup 124 (.map (some mb)) (.int .i64 ((k : Nat) : Int)) false).run Tryz.prog w = .ok (.agg #[.slice sl.a sl.len sl.cap, .bool (P.isDirty k), .int .i64 z]) w ∧ (Instr.lookup 124 (.map (some mb)) (.int .i64 ((k : Nat) : Int)) true).run Tryz.prog w = .ok (.tuple #[.agg #[.slice sl.a sl.len sl.cap, .bool (P.isDirty k), .int .i64 z], .bool (P.m k).isSome]) w ∧ ((P.m k = none ∧ sl = Sl.nil ∧ z = 0) ∨ ∃ s u, P.m k = some s ∧ f ((k : Nat) : Int) = some u ∧ ShIs w Y s u sl z) := by
  have h1 := h.map.look (wf_page k hk)
  have h2 := h.map.lookOk (wf_page k hk)
  unfold Po.isDirty
  rcases h.sh k with ⟨e1, e2⟩ | ⟨s, u, sl, z, e1, e2, hs⟩
  · rw [e2] at h1 h2
    rw [e1]
    exact ⟨Sl.nil, 0, h1, h2, .inl ⟨rfl, rfl, rfl⟩⟩
  · rw [e2] at h1 h2
    rw [e1]
    refine ⟨sl, z, ?_, ?_, .inr ⟨s, u, rfl, e2, hs⟩⟩
    · rw [h1, Option.getD_some, hs.val]; rfl
    · rw [h2, Option.getD_some, hs.val]; rfl

theorem fldFr (x : Value) (b : Bool) (y : Value) (w : World) : (Instr.field 140 (.agg #[x, .bool b, y]) 1).run Tryz.prog w = .ok (.bool b) w := by simp [go_sem, Instr.field, asAgg]

set_option maxHeartbeats 4000000 in
theorem outP_any {w : World} {p d : Nat} {P : Po} {L : Dl} {Y : Nat → Prop} {v : Sl} {mb : Nat} {f : Int → Option Value} (h : PoIn w p d P L Y v mb f) {n c : Nat} (hF : P.Lite n c) (k : Nat) (hk : k < 1000000) : Calls Tryz.prog 93 #[at0 p, .int .i64 ((k : Nat) : Int)] w fun e w' => Did w p d mb L Y w' (P.out k) ∧ e = .returned (.tuple #[]) := by
  obtain ⟨sl, z, hlook, _, hcs⟩ := h.looks k hk
  have c3 := h.blk.c3
  unfold Po.out
  cases hd : P.isDirty k with
  | true =>
    obtain ⟨s, hs, hsd⟩ : ∃ s, P.m k = some s ∧ s.dirty = true := by
      unfold Po.isDirty at hd
      cases e : P.m k with
      | none => rw [e] at hd; cases hd
      | some s => rw [e] at hd; exact ⟨s, rfl, hd⟩
    have HW := hide (writeP_any h hF k s hs hsd)
    rw [← write_dirty P k s hs hsd] at HW
    rw [hd] at hlook
    have HK : Hid (k < 1000000) := hk
    clear hcs h hF hd hs hsd hk
    unfold at0 at *
    obtain ⟨sa, sln, sc⟩ := sl
    simp only at hlook
    have hfd := fldFr
    go_enter Tryz.func93, Tryz.ntmps93
    go_wp2_with fail
    refine HW.out.mono ?_
    rintro e w1 ⟨hD1, rfl⟩
    obtain ⟨L1, Y1, v1, f1, hI1, hy1, hl1⟩ := hD1.ex
    obtain ⟨w2, hrun, hD2⟩ := hI1.drop k HK.out 0
    have c31 := hI1.blk.c3
    have HD1 := hide hD1
    have HD : Hid (Did w p d mb L Y w2 ((P.write k).put k none)) := by
      obtain ⟨L2, Y2, v2, f2, hI2, hy2, hl2⟩ := hD2.ex
      refine ⟨⟨L2, Y2, v2, f2, hI2, fun i e => ?_, fun i e => ?_⟩, HD1.out.frm.trans hD2.frm (fun i hlt e => ?_)⟩
      · rcases hy2 i e with e | e
        · exact hy1 i e
        · exact .inr (Nat.le_trans HD1.out.frm.size e)
      · rcases hl2 i e with e | e
        · exact hl1 i e
        · exact .inr (Nat.le_trans HD1.out.frm.size e)
      · rcases e with e | e | e
        · exact .inl e
        · exact .inr (.inl e)
        · rcases hl1 i e with e | e
          · exact .inr (.inr e)
          · omega
    have HRUN := hide hrun
    clear hD1 hI1 hy1 hl1 hD2 hrun hlook c3
    go_wp2_with (refine wpList_del _ rfl 124 3 0 rfl (.tmp 17) (.tmp 18) rfl _ _ rfl rfl w2 HRUN.out ?_)
    go_end0
    exact ⟨HD.out, rfl⟩
  | false =>
    rw [write_clean P k (fun s hs => by unfold Po.isDirty at hd; rw [hs] at hd; exact hd)]
    rw [hd] at hlook
    obtain ⟨w2, hrun, hD2⟩ := h.drop k hk 0
    have HRUN := hide hrun
    have HD := hide hD2
    clear hcs h hF hd hD2 hrun hk
    unfold at0 at *
    obtain ⟨sa, sln, sc⟩ := sl
    simp only at hlook
    have hfd := fldFr
    go_enter Tryz.func93, Tryz.ntmps93
    go_wp2_with (refine wpList_del _ rfl 124 3 0 rfl (.tmp 17) (.tmp 18) rfl _ _ rfl rfl w2 HRUN.out ?_)
    go_end0
    exact ⟨HD.out, rfl⟩
end Go.Proofs.YtpggkfdnpdhkfaaGreat
