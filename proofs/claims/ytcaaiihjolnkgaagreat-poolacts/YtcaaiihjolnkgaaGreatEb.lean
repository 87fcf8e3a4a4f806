/-
  The document's pool: set.
  The document's pool: Synced, write.
-/
import Derived.Test.YtcaaiihjolnkgaaGreatEa
namespace Go.Proofs.YtcaaiihjolnkgaaGreat
open Go.RowKit
set_option maxRecDepth 100000
set_option linter.unusedVariables false
variable {K : Home}

theorem fdRp2 (g : Nat) (w : World) : (Instr.fieldAt 43 (.pointer (some ⟨g, 0, none⟩)) 2).run Tryz.prog w = .ok (.pointer (some ⟨g, 11, none⟩)) w := by simp [go_sem, Instr.fieldAt]
theorem fdSh0 (p o : Nat) (w : World) : (Instr.fieldAt 94 (.pointer (some ⟨p, o, none⟩)) 0).run Tryz.prog w = .ok (.pointer (some ⟨p, o, none⟩)) w := by simp [go_sem, Instr.fieldAt]
theorem ixSh (b o len cap k : Nat) (hk : k < len) (w : World) : (Instr.indexAt 41 (.slice (some ⟨b, o, none⟩) len cap) (.int .i64 ((k : Nat) : Int))).run Tryz.prog w = .ok (.pointer (some ⟨b, o + k * 4, none⟩)) w := by
  have h1 : ¬ (((k : Nat) : Int) < 0) := by omega
  have h2 : ((k : Nat) : Int).toNat = k := by omega
  simp [go_sem, Instr.indexAt, Int.toNat_natCast, hk]
theorem ldSh (b o : Nat) (a : Option Addr) (l c : Nat) (w : World) (h : w.cell? ⟨b, o, none⟩ = some (.slice a l c)) : (Instr.loadAt 41 (.pointer (some ⟨b, o, none⟩))).run Tryz.prog w = .ok (.slice a l c) w := by simp [go_sem, h]
theorem geqI (a b : Int) (x y : Operand) (w : World) : (do eqGuard .geq 3 x y (.int .i64 a) (.int .i64 b); binOp .geq 3 (.int .i64 a) (.int .i64 b) : Sem Value).run Tryz.prog w = .ok (.bool (decide (b ≤ a))) w := by simp [go_sem, eqGuard]
theorem neqI (a b : Int) (x y : Operand) (w : World) : (do eqGuard .neq 3 x y (.int .i64 a) (.int .i64 b); binOp .neq 3 (.int .i64 a) (.int .i64 b) : Sem Value).run Tryz.prog w = .ok (.bool (a != b)) w := by simp [go_sem, eqGuard]


set_option maxHeartbeats 2000000 in
set_option maxRecDepth 100000 in
theorem set6a (w : World) (g gx b off sl sc j : Nat) (x y : Int) (hj : j < sl) (h0 : (fun (w' : World) => w'.cell? ⟨g, 11, none⟩ = some (.slice (some ⟨b, off, none⟩) sl sc) ∧ w'.cell? ⟨b, off + j * 4, none⟩ = some (.int .i64 y) ∧ w'.cell? ⟨gx, 0, none⟩ = some (.int .i64 x)) w)
    {Q : Exit → Act → World → Prop} {A : Act} (hsz : A.tmps.size = 59) (hdf : A.defers = []) (s2 : A.tmps.getD 2 undef = .pointer (some ⟨g, 0, none⟩)) (s3 : A.tmps.getD 3 undef = .pointer (some ⟨gx, 0, none⟩)) (s6 : A.tmps.getD 6 undef = .bool false) (s7 : A.tmps.getD 7 undef = .int .i64 ((j : Nat) : Int))
    (hend : ∀ (u : Nat → Value) w', w' = w.drew → Q .normal ((((((((((((((A).put (some 16) (u 16)).put (some 17) (u 17)).put (some 18) (u 18)).put (some 19) (u 19)).put (some 20) (u 20)).put (some 21) (u 21)).put (some 22) (u 22)).put (some 23) (u 23)).put (some 24) (u 24)).put (some 25) (u 25)).put (some 26) (u 26)).put (some 27) (u 27)).put (some 28) (.bool (decide (x ≤ y)))) w') :
    (Code.region 6 (Pl.find 6 ((Tryz.f38.body).getD .skip)) true).wp Tryz.prog Q A w := by
  have hA := Pl.At.same (v := .int .i64 ((j : Nat) : Int)) (d := 7) (Pl.At.same (v := .bool false) (d := 6) (Pl.At.same (v := .pointer (some ⟨gx, 0, none⟩)) (d := 3) (Pl.At.same (v := .pointer (some ⟨g, 0, none⟩)) (d := 2) (Pl.At.here hsz hdf) s2) s3) s6) s7
  refine Pl.H.start (S := fun w' => w'.cell? ⟨g, 11, none⟩ = some (.slice (some ⟨b, off, none⟩) sl sc) ∧ w'.cell? ⟨b, off + j * 4, none⟩ = some (.int .i64 y) ∧ w'.cell? ⟨gx, 0, none⟩ = some (.int .i64 x)) (by kernel_rfl) hA (show (fun w' => w'.cell? ⟨g, 11, none⟩ = some (.slice (some ⟨b, off, none⟩) sl sc) ∧ w'.cell? ⟨b, off + j * 4, none⟩ = some (.int .i64 y) ∧ w'.cell? ⟨gx, 0, none⟩ = some (.int .i64 x)) w.drew from h0) ?_
  rw [show (Pl.find 6 ((Tryz.f38.body).getD .skip)).size = 13 by kernel_rfl]
  refine Pl.H.take 0 16 (.bool false) (by kernel_rfl) (by kernel_rfl) (by kernel_rfl) (Pl.free 0 (by kernel_rfl)) (Pl.move 0 (.tmp 6) (by kernel_rfl) (by decide)) (show (fun w' => w'.cell? ⟨g, 11, none⟩ = some (.slice (some ⟨b, off, none⟩) sl sc) ∧ w'.cell? ⟨b, off + j * 4, none⟩ = some (.int .i64 y) ∧ w'.cell? ⟨gx, 0, none⟩ = some (.int .i64 x)) w.drew from h0) ?_
  refine Pl.H.take 1 17 (.bool true) (by kernel_rfl) (by kernel_rfl) (by kernel_rfl) (Pl.free 1 (by kernel_rfl)) (Pl.neg 1 4 (.tmp 16) false (by kernel_rfl) (by decide) rfl) (show (fun w' => w'.cell? ⟨g, 11, none⟩ = some (.slice (some ⟨b, off, none⟩) sl sc) ∧ w'.cell? ⟨b, off + j * 4, none⟩ = some (.int .i64 y) ∧ w'.cell? ⟨gx, 0, none⟩ = some (.int .i64 x)) w.drew from h0) ?_
  refine Pl.H.take 2 18 (.bool true) (by kernel_rfl) (by kernel_rfl) (by kernel_rfl) (Pl.free 2 (by kernel_rfl)) (Pl.move 2 (.tmp 17) (by kernel_rfl) (by decide)) (show (fun w' => w'.cell? ⟨g, 11, none⟩ = some (.slice (some ⟨b, off, none⟩) sl sc) ∧ w'.cell? ⟨b, off + j * 4, none⟩ = some (.int .i64 y) ∧ w'.cell? ⟨gx, 0, none⟩ = some (.int .i64 x)) w.drew from h0) ?_
  refine Pl.H.take 3 19 (.pointer (some ⟨g, 11, none⟩)) (by kernel_rfl) (by kernel_rfl) (by kernel_rfl) (Pl.guarded 3 2 18 true (by kernel_rfl) (by kernel_rfl) (by decide) rfl) (Pl.field 3 43 (.tmp 2) 2 _ (by kernel_rfl) (by decide) (fdRp2 g)) (show (fun w' => w'.cell? ⟨g, 11, none⟩ = some (.slice (some ⟨b, off, none⟩) sl sc) ∧ w'.cell? ⟨b, off + j * 4, none⟩ = some (.int .i64 y) ∧ w'.cell? ⟨gx, 0, none⟩ = some (.int .i64 x)) w.drew from h0) ?_
  refine Pl.H.take 4 20 (.slice (some ⟨b, off, none⟩) sl sc) (by kernel_rfl) (by kernel_rfl) (by kernel_rfl) (Pl.guarded 4 2 18 true (by kernel_rfl) (by kernel_rfl) (by decide) rfl) (Pl.load 4 41 (.tmp 19) _ (by kernel_rfl) (by decide) (fun w' hS => ldSh g 11 _ _ _ w' hS.1)) (show (fun w' => w'.cell? ⟨g, 11, none⟩ = some (.slice (some ⟨b, off, none⟩) sl sc) ∧ w'.cell? ⟨b, off + j * 4, none⟩ = some (.int .i64 y) ∧ w'.cell? ⟨gx, 0, none⟩ = some (.int .i64 x)) w.drew from h0) ?_
  refine Pl.H.take 5 21 (.int .i64 ((j : Nat) : Int)) (by kernel_rfl) (by kernel_rfl) (by kernel_rfl) (Pl.guarded 5 2 18 true (by kernel_rfl) (by kernel_rfl) (by decide) rfl) (Pl.move 5 (.tmp 7) (by kernel_rfl) (by decide)) (show (fun w' => w'.cell? ⟨g, 11, none⟩ = some (.slice (some ⟨b, off, none⟩) sl sc) ∧ w'.cell? ⟨b, off + j * 4, none⟩ = some (.int .i64 y) ∧ w'.cell? ⟨gx, 0, none⟩ = some (.int .i64 x)) w.drew from h0) ?_
  refine Pl.H.take 6 22 (.pointer (some ⟨b, off + j * 4, none⟩)) (by kernel_rfl) (by kernel_rfl) (by kernel_rfl) (Pl.guarded 6 2 18 true (by kernel_rfl) (by kernel_rfl) (by decide) rfl) (Pl.index 6 41 (.tmp 20) (.tmp 21) _ (by kernel_rfl) (by decide) (by decide) (ixSh b off sl sc j hj)) (show (fun w' => w'.cell? ⟨g, 11, none⟩ = some (.slice (some ⟨b, off, none⟩) sl sc) ∧ w'.cell? ⟨b, off + j * 4, none⟩ = some (.int .i64 y) ∧ w'.cell? ⟨gx, 0, none⟩ = some (.int .i64 x)) w.drew from h0) ?_
  refine Pl.H.take 7 23 (.pointer (some ⟨b, off + j * 4, none⟩)) (by kernel_rfl) (by kernel_rfl) (by kernel_rfl) (Pl.guarded 7 2 18 true (by kernel_rfl) (by kernel_rfl) (by decide) rfl) (Pl.field 7 94 (.tmp 22) 0 _ (by kernel_rfl) (by decide) (fdSh0 b (off + j * 4))) (show (fun w' => w'.cell? ⟨g, 11, none⟩ = some (.slice (some ⟨b, off, none⟩) sl sc) ∧ w'.cell? ⟨b, off + j * 4, none⟩ = some (.int .i64 y) ∧ w'.cell? ⟨gx, 0, none⟩ = some (.int .i64 x)) w.drew from h0) ?_
  refine Pl.H.take 8 24 (.int .i64 y) (by kernel_rfl) (by kernel_rfl) (by kernel_rfl) (Pl.guarded 8 2 18 true (by kernel_rfl) (by kernel_rfl) (by decide) rfl) (Pl.load 8 3 (.tmp 23) _ (by kernel_rfl) (by decide) (fun w' hS => ldInt b _ _ w' hS.2.1)) (show (fun w' => w'.cell? ⟨g, 11, none⟩ = some (.slice (some ⟨b, off, none⟩) sl sc) ∧ w'.cell? ⟨b, off + j * 4, none⟩ = some (.int .i64 y) ∧ w'.cell? ⟨gx, 0, none⟩ = some (.int .i64 x)) w.drew from h0) ?_
  refine Pl.H.take 9 25 (.pointer (some ⟨gx, 0, none⟩)) (by kernel_rfl) (by kernel_rfl) (by kernel_rfl) (Pl.guarded 9 2 18 true (by kernel_rfl) (by kernel_rfl) (by decide) rfl) (Pl.field 9 94 (.tmp 3) 0 _ (by kernel_rfl) (by decide) (fdSh0 gx 0)) (show (fun w' => w'.cell? ⟨g, 11, none⟩ = some (.slice (some ⟨b, off, none⟩) sl sc) ∧ w'.cell? ⟨b, off + j * 4, none⟩ = some (.int .i64 y) ∧ w'.cell? ⟨gx, 0, none⟩ = some (.int .i64 x)) w.drew from h0) ?_
  refine Pl.H.take 10 26 (.int .i64 x) (by kernel_rfl) (by kernel_rfl) (by kernel_rfl) (Pl.guarded 10 2 18 true (by kernel_rfl) (by kernel_rfl) (by decide) rfl) (Pl.load 10 3 (.tmp 25) _ (by kernel_rfl) (by decide) (fun w' hS => ldInt gx 0 _ w' hS.2.2)) (show (fun w' => w'.cell? ⟨g, 11, none⟩ = some (.slice (some ⟨b, off, none⟩) sl sc) ∧ w'.cell? ⟨b, off + j * 4, none⟩ = some (.int .i64 y) ∧ w'.cell? ⟨gx, 0, none⟩ = some (.int .i64 x)) w.drew from h0) ?_
  refine Pl.H.take 11 27 (.bool (decide (x ≤ y))) (by kernel_rfl) (by kernel_rfl) (by kernel_rfl) (Pl.guarded 11 2 18 true (by kernel_rfl) (by kernel_rfl) (by decide) rfl) (Pl.binV 11 .geq 3 3 (.tmp 24) (.tmp 26) (.int .i64 y) (.int .i64 x) _ (by kernel_rfl) (by decide) (by decide) rfl rfl (fun w => geqI y x _ _ w)) (show (fun w' => w'.cell? ⟨g, 11, none⟩ = some (.slice (some ⟨b, off, none⟩) sl sc) ∧ w'.cell? ⟨b, off + j * 4, none⟩ = some (.int .i64 y) ∧ w'.cell? ⟨gx, 0, none⟩ = some (.int .i64 x)) w.drew from h0) ?_
  refine Pl.H.take 12 28 (.bool (decide (x ≤ y))) (by kernel_rfl) (by kernel_rfl) (by kernel_rfl) (Pl.free 12 (by kernel_rfl)) (Pl.pick 12 (.tmp 18) (.tmp 27) (.const (.bool false)) (by kernel_rfl) (by decide) (by decide) rfl) (show (fun w' => w'.cell? ⟨g, 11, none⟩ = some (.slice (some ⟨b, off, none⟩) sl sc) ∧ w'.cell? ⟨b, off + j * 4, none⟩ = some (.int .i64 y) ∧ w'.cell? ⟨gx, 0, none⟩ = some (.int .i64 x)) w.drew from h0) ?_
  refine Pl.H.done (by kernel_rfl) (fun A' hA' => ?_)
  rw [Pl.At.ext hA' (((((((((((((hA.put 16 _).put 17 _).put 18 _).put 19 _).put 20 _).put 21 _).put 22 _).put 23 _).put 24 _).put 25 _).put 26 _).put 27 _).put 28 _)]
  exact hend (fun d => if d = 16 then .bool false else if d = 17 then .bool true else if d = 18 then .bool true else if d = 19 then .pointer (some ⟨g, 11, none⟩) else if d = 20 then .slice (some ⟨b, off, none⟩) sl sc else if d = 21 then .int .i64 ((j : Nat) : Int) else if d = 22 then .pointer (some ⟨b, off + j * 4, none⟩) else if d = 23 then .pointer (some ⟨b, off + j * 4, none⟩) else if d = 24 then .int .i64 y else if d = 25 then .pointer (some ⟨gx, 0, none⟩) else if d = 26 then .int .i64 x else if d = 27 then .bool (decide (x ≤ y)) else undef) _ rfl

set_option maxHeartbeats 2000000 in
set_option maxRecDepth 100000 in
theorem set6b (w : World)
    {Q : Exit → Act → World → Prop} {A : Act} (hsz : A.tmps.size = 59) (hdf : A.defers = []) (s6 : A.tmps.getD 6 undef = .bool true)
    (hend : ∀ (u : Nat → Value) w', w' = w.drew → Q .normal ((((((((((((((A).put (some 16) (u 16)).put (some 17) (u 17)).put (some 18) (u 18)).put (some 19) (u 19)).put (some 20) (u 20)).put (some 21) (u 21)).put (some 22) (u 22)).put (some 23) (u 23)).put (some 24) (u 24)).put (some 25) (u 25)).put (some 26) (u 26)).put (some 27) (u 27)).put (some 28) (.bool false)) w') :
    (Code.region 6 (Pl.find 6 ((Tryz.f38.body).getD .skip)) true).wp Tryz.prog Q A w := by
  have hA := Pl.At.same (v := .bool true) (d := 6) (Pl.At.here hsz hdf) s6
  refine Pl.H.start (S := fun _ => True) (by kernel_rfl) hA trivial ?_
  rw [show (Pl.find 6 ((Tryz.f38.body).getD .skip)).size = 13 by kernel_rfl]
  refine Pl.H.take 0 16 (.bool true) (by kernel_rfl) (by kernel_rfl) (by kernel_rfl) (Pl.free 0 (by kernel_rfl)) (Pl.move 0 (.tmp 6) (by kernel_rfl) (by decide)) trivial ?_
  refine Pl.H.take 1 17 (.bool false) (by kernel_rfl) (by kernel_rfl) (by kernel_rfl) (Pl.free 1 (by kernel_rfl)) (Pl.neg 1 4 (.tmp 16) true (by kernel_rfl) (by decide) rfl) trivial ?_
  refine Pl.H.take 2 18 (.bool false) (by kernel_rfl) (by kernel_rfl) (by kernel_rfl) (Pl.free 2 (by kernel_rfl)) (Pl.move 2 (.tmp 17) (by kernel_rfl) (by decide)) trivial ?_
  refine Pl.H.skip 3 19 (by kernel_rfl) (by kernel_rfl) (by kernel_rfl) (Pl.unwanted 3 2 18 true (by kernel_rfl) (by kernel_rfl) (by decide) rfl) trivial ?_
  refine Pl.H.skip 4 20 (by kernel_rfl) (by kernel_rfl) (by kernel_rfl) (Pl.unwanted 4 2 18 true (by kernel_rfl) (by kernel_rfl) (by decide) rfl) trivial ?_
  refine Pl.H.skip 5 21 (by kernel_rfl) (by kernel_rfl) (by kernel_rfl) (Pl.unwanted 5 2 18 true (by kernel_rfl) (by kernel_rfl) (by decide) rfl) trivial ?_
  refine Pl.H.skip 6 22 (by kernel_rfl) (by kernel_rfl) (by kernel_rfl) (Pl.unwanted 6 2 18 true (by kernel_rfl) (by kernel_rfl) (by decide) rfl) trivial ?_
  refine Pl.H.skip 7 23 (by kernel_rfl) (by kernel_rfl) (by kernel_rfl) (Pl.unwanted 7 2 18 true (by kernel_rfl) (by kernel_rfl) (by decide) rfl) trivial ?_
  refine Pl.H.skip 8 24 (by kernel_rfl) (by kernel_rfl) (by kernel_rfl) (Pl.unwanted 8 2 18 true (by kernel_rfl) (by kernel_rfl) (by decide) rfl) trivial ?_
  refine Pl.H.skip 9 25 (by kernel_rfl) (by kernel_rfl) (by kernel_rfl) (Pl.unwanted 9 2 18 true (by kernel_rfl) (by kernel_rfl) (by decide) rfl) trivial ?_
  refine Pl.H.skip 10 26 (by kernel_rfl) (by kernel_rfl) (by kernel_rfl) (Pl.unwanted 10 2 18 true (by kernel_rfl) (by kernel_rfl) (by decide) rfl) trivial ?_
  refine Pl.H.skip 11 27 (by kernel_rfl) (by kernel_rfl) (by kernel_rfl) (Pl.unwanted 11 2 18 true (by kernel_rfl) (by kernel_rfl) (by decide) rfl) trivial ?_
  refine Pl.H.take 12 28 (.bool false) (by kernel_rfl) (by kernel_rfl) (by kernel_rfl) (Pl.free 12 (by kernel_rfl)) (Pl.pickF 12 (.tmp 18) (.tmp 27) (.const (.bool false)) (by kernel_rfl) (by decide) (by decide) rfl) trivial ?_
  refine Pl.H.done (by kernel_rfl) (fun A' hA' => ?_)
  rw [Pl.At.ext hA' (((((((((((((hA.put 16 _).put 17 _).put 18 _).put 19 _).put 20 _).put 21 _).put 22 _).put 23 _).put 24 _).put 25 _).put 26 _).put 27 _).put 28 _)]
  exact hend (fun d => if d = 16 then .bool true else if d = 17 then .bool false else if d = 18 then .bool false else if d = 19 then undef else if d = 20 then undef else if d = 21 then undef else if d = 22 then undef else if d = 23 then undef else if d = 24 then undef else if d = 25 then undef else if d = 26 then undef else if d = 27 then undef else undef) _ rfl

set_option maxHeartbeats 2000000 in
set_option maxRecDepth 100000 in
theorem set9 (w : World) (g gx b off sl sc j : Nat) (x y : Int) (hj : j < sl) (h0 : (fun (w' : World) => w'.cell? ⟨g, 11, none⟩ = some (.slice (some ⟨b, off, none⟩) sl sc) ∧ w'.cell? ⟨b, off + j * 4, none⟩ = some (.int .i64 y) ∧ w'.cell? ⟨gx, 0, none⟩ = some (.int .i64 x)) w)
    {Q : Exit → Act → World → Prop} {A : Act} (hsz : A.tmps.size = 59) (hdf : A.defers = []) (s2 : A.tmps.getD 2 undef = .pointer (some ⟨g, 0, none⟩)) (s3 : A.tmps.getD 3 undef = .pointer (some ⟨gx, 0, none⟩)) (s7 : A.tmps.getD 7 undef = .int .i64 ((j : Nat) : Int))
    (hend : ∀ (u : Nat → Value) w', w' = w.drew → Q .normal ((((((((((A).put (some 33) (u 33)).put (some 34) (u 34)).put (some 35) (u 35)).put (some 36) (u 36)).put (some 37) (u 37)).put (some 38) (u 38)).put (some 39) (u 39)).put (some 40) (u 40)).put (some 41) (.bool (y != x))) w') :
    (Code.region 9 (Pl.find 9 ((Tryz.f38.body).getD .skip)) true).wp Tryz.prog Q A w := by
  have hA := Pl.At.same (v := .int .i64 ((j : Nat) : Int)) (d := 7) (Pl.At.same (v := .pointer (some ⟨gx, 0, none⟩)) (d := 3) (Pl.At.same (v := .pointer (some ⟨g, 0, none⟩)) (d := 2) (Pl.At.here hsz hdf) s2) s3) s7
  refine Pl.H.start (S := fun w' => w'.cell? ⟨g, 11, none⟩ = some (.slice (some ⟨b, off, none⟩) sl sc) ∧ w'.cell? ⟨b, off + j * 4, none⟩ = some (.int .i64 y) ∧ w'.cell? ⟨gx, 0, none⟩ = some (.int .i64 x)) (by kernel_rfl) hA (show (fun w' => w'.cell? ⟨g, 11, none⟩ = some (.slice (some ⟨b, off, none⟩) sl sc) ∧ w'.cell? ⟨b, off + j * 4, none⟩ = some (.int .i64 y) ∧ w'.cell? ⟨gx, 0, none⟩ = some (.int .i64 x)) w.drew from h0) ?_
  rw [show (Pl.find 9 ((Tryz.f38.body).getD .skip)).size = 9 by kernel_rfl]
  refine Pl.H.take 0 33 (.pointer (some ⟨g, 11, none⟩)) (by kernel_rfl) (by kernel_rfl) (by kernel_rfl) (Pl.free 0 (by kernel_rfl)) (Pl.field 0 43 (.tmp 2) 2 _ (by kernel_rfl) (by decide) (fdRp2 g)) (show (fun w' => w'.cell? ⟨g, 11, none⟩ = some (.slice (some ⟨b, off, none⟩) sl sc) ∧ w'.cell? ⟨b, off + j * 4, none⟩ = some (.int .i64 y) ∧ w'.cell? ⟨gx, 0, none⟩ = some (.int .i64 x)) w.drew from h0) ?_
  refine Pl.H.take 1 34 (.slice (some ⟨b, off, none⟩) sl sc) (by kernel_rfl) (by kernel_rfl) (by kernel_rfl) (Pl.free 1 (by kernel_rfl)) (Pl.load 1 41 (.tmp 33) _ (by kernel_rfl) (by decide) (fun w' hS => ldSh g 11 _ _ _ w' hS.1)) (show (fun w' => w'.cell? ⟨g, 11, none⟩ = some (.slice (some ⟨b, off, none⟩) sl sc) ∧ w'.cell? ⟨b, off + j * 4, none⟩ = some (.int .i64 y) ∧ w'.cell? ⟨gx, 0, none⟩ = some (.int .i64 x)) w.drew from h0) ?_
  refine Pl.H.take 2 35 (.int .i64 ((j : Nat) : Int)) (by kernel_rfl) (by kernel_rfl) (by kernel_rfl) (Pl.free 2 (by kernel_rfl)) (Pl.move 2 (.tmp 7) (by kernel_rfl) (by decide)) (show (fun w' => w'.cell? ⟨g, 11, none⟩ = some (.slice (some ⟨b, off, none⟩) sl sc) ∧ w'.cell? ⟨b, off + j * 4, none⟩ = some (.int .i64 y) ∧ w'.cell? ⟨gx, 0, none⟩ = some (.int .i64 x)) w.drew from h0) ?_
  refine Pl.H.take 3 36 (.pointer (some ⟨b, off + j * 4, none⟩)) (by kernel_rfl) (by kernel_rfl) (by kernel_rfl) (Pl.free 3 (by kernel_rfl)) (Pl.index 3 41 (.tmp 34) (.tmp 35) _ (by kernel_rfl) (by decide) (by decide) (ixSh b off sl sc j hj)) (show (fun w' => w'.cell? ⟨g, 11, none⟩ = some (.slice (some ⟨b, off, none⟩) sl sc) ∧ w'.cell? ⟨b, off + j * 4, none⟩ = some (.int .i64 y) ∧ w'.cell? ⟨gx, 0, none⟩ = some (.int .i64 x)) w.drew from h0) ?_
  refine Pl.H.take 4 37 (.pointer (some ⟨b, off + j * 4, none⟩)) (by kernel_rfl) (by kernel_rfl) (by kernel_rfl) (Pl.free 4 (by kernel_rfl)) (Pl.field 4 94 (.tmp 36) 0 _ (by kernel_rfl) (by decide) (fdSh0 b (off + j * 4))) (show (fun w' => w'.cell? ⟨g, 11, none⟩ = some (.slice (some ⟨b, off, none⟩) sl sc) ∧ w'.cell? ⟨b, off + j * 4, none⟩ = some (.int .i64 y) ∧ w'.cell? ⟨gx, 0, none⟩ = some (.int .i64 x)) w.drew from h0) ?_
  refine Pl.H.take 5 38 (.int .i64 y) (by kernel_rfl) (by kernel_rfl) (by kernel_rfl) (Pl.free 5 (by kernel_rfl)) (Pl.load 5 3 (.tmp 37) _ (by kernel_rfl) (by decide) (fun w' hS => ldInt b _ _ w' hS.2.1)) (show (fun w' => w'.cell? ⟨g, 11, none⟩ = some (.slice (some ⟨b, off, none⟩) sl sc) ∧ w'.cell? ⟨b, off + j * 4, none⟩ = some (.int .i64 y) ∧ w'.cell? ⟨gx, 0, none⟩ = some (.int .i64 x)) w.drew from h0) ?_
  refine Pl.H.take 6 39 (.pointer (some ⟨gx, 0, none⟩)) (by kernel_rfl) (by kernel_rfl) (by kernel_rfl) (Pl.free 6 (by kernel_rfl)) (Pl.field 6 94 (.tmp 3) 0 _ (by kernel_rfl) (by decide) (fdSh0 gx 0)) (show (fun w' => w'.cell? ⟨g, 11, none⟩ = some (.slice (some ⟨b, off, none⟩) sl sc) ∧ w'.cell? ⟨b, off + j * 4, none⟩ = some (.int .i64 y) ∧ w'.cell? ⟨gx, 0, none⟩ = some (.int .i64 x)) w.drew from h0) ?_
  refine Pl.H.take 7 40 (.int .i64 x) (by kernel_rfl) (by kernel_rfl) (by kernel_rfl) (Pl.free 7 (by kernel_rfl)) (Pl.load 7 3 (.tmp 39) _ (by kernel_rfl) (by decide) (fun w' hS => ldInt gx 0 _ w' hS.2.2)) (show (fun w' => w'.cell? ⟨g, 11, none⟩ = some (.slice (some ⟨b, off, none⟩) sl sc) ∧ w'.cell? ⟨b, off + j * 4, none⟩ = some (.int .i64 y) ∧ w'.cell? ⟨gx, 0, none⟩ = some (.int .i64 x)) w.drew from h0) ?_
  refine Pl.H.take 8 41 (.bool (y != x)) (by kernel_rfl) (by kernel_rfl) (by kernel_rfl) (Pl.free 8 (by kernel_rfl)) (Pl.binV 8 .neq 3 3 (.tmp 38) (.tmp 40) (.int .i64 y) (.int .i64 x) _ (by kernel_rfl) (by decide) (by decide) rfl rfl (fun w => neqI y x _ _ w)) (show (fun w' => w'.cell? ⟨g, 11, none⟩ = some (.slice (some ⟨b, off, none⟩) sl sc) ∧ w'.cell? ⟨b, off + j * 4, none⟩ = some (.int .i64 y) ∧ w'.cell? ⟨gx, 0, none⟩ = some (.int .i64 x)) w.drew from h0) ?_
  refine Pl.H.done (by kernel_rfl) (fun A' hA' => ?_)
  rw [Pl.At.ext hA' (((((((((hA.put 33 _).put 34 _).put 35 _).put 36 _).put 37 _).put 38 _).put 39 _).put 40 _).put 41 _)]
  exact hend (fun d => if d = 33 then .pointer (some ⟨g, 11, none⟩) else if d = 34 then .slice (some ⟨b, off, none⟩) sl sc else if d = 35 then .int .i64 ((j : Nat) : Int) else if d = 36 then .pointer (some ⟨b, off + j * 4, none⟩) else if d = 37 then .pointer (some ⟨b, off + j * 4, none⟩) else if d = 38 then .int .i64 y else if d = 39 then .pointer (some ⟨gx, 0, none⟩) else if d = 40 then .int .i64 x else undef) _ rfl

def stS (x : SS) (a : List SS × Bool) (y : SS) : List SS × Bool := (fun (b : List SS × Bool) => if y.1.1 ≠ x.1.1 then (b.1 ++ [y], b.2) else b) (if a.2 = false ∧ x.1.1 ≤ y.1.1 then (a.1 ++ [x], true) else a)
def finS (x : SS) (a : List SS × Bool) : List SS := if a.2 = false then a.1 ++ [x] else a.1
theorem setS_true (x : SS) : ∀ (ls : List SS) (acc : List SS), (ls.foldl (stS x) (acc, true)).2 = true ∧ (ls.foldl (stS x) (acc, true)).1.map Prod.fst = acc.map Prod.fst ++ (ls.map Prod.fst).filter (fun z => decide (z.1 ≠ x.1.1))
  | [], acc => ⟨rfl, by simp⟩
  | y :: r, acc => by
    rw [List.foldl_cons]
    have e : stS x (acc, true) y = if y.1.1 ≠ x.1.1 then (acc ++ [y], true) else (acc, true) := by simp [stS]
    rw [e]
    by_cases h : y.1.1 ≠ x.1.1
    · rw [if_pos h]
      obtain ⟨h1, h2⟩ := setS_true x r (acc ++ [y])
      refine ⟨h1, ?_⟩
      rw [h2]
      simp [h]
    · rw [if_neg h]
      obtain ⟨h1, h2⟩ := setS_true x r acc
      refine ⟨h1, ?_⟩
      rw [h2]
      simp at h
      simp [h]
theorem setS_is (x : SS) : ∀ (ls : List SS) (acc : List SS), (finS x (ls.foldl (stS x) (acc, false))).map Prod.fst = acc.map Prod.fst ++ setL (ls.map Prod.fst) x.1
  | [], acc => by simp [finS, setL]
  | y :: r, acc => by
    rw [List.foldl_cons]
    by_cases h : x.1.1 ≤ y.1.1
    · have e : stS x (acc, false) y = if y.1.1 ≠ x.1.1 then (acc ++ [x] ++ [y], true) else (acc ++ [x], true) := by simp [stS, h]
      rw [e]
      have hs : setL ((y :: r).map Prod.fst) x.1 = x.1 :: ((y :: r).map Prod.fst).filter (fun z => decide (z.1 ≠ x.1.1)) := by
        show (if x.1.1 ≤ y.1.1 then _ else _) = _
        rw [if_pos h]
        rfl
      rw [hs]
      by_cases h2 : y.1.1 ≠ x.1.1
      · rw [if_pos h2]
        obtain ⟨q1, q2⟩ := setS_true x r (acc ++ [x] ++ [y])
        unfold finS
        rw [if_neg (by rw [q1]; decide), q2]
        simp [h2]
      · rw [if_neg h2]
        obtain ⟨q1, q2⟩ := setS_true x r (acc ++ [x])
        unfold finS
        rw [if_neg (by rw [q1]; decide), q2]
        simp at h2
        simp [h2]
    · have hne : y.1.1 ≠ x.1.1 := by omega
      have e : stS x (acc, false) y = (acc ++ [y], false) := by simp [stS, h, hne]
      rw [e, setS_is x r (acc ++ [y])]
      have hs : setL ((y :: r).map Prod.fst) x.1 = y.1 :: setL (r.map Prod.fst) x.1 := by
        show (if x.1.1 ≤ y.1.1 then _ else _) = _
        rw [if_neg h]
      rw [hs]
      simp
theorem stS_mem (x y : SS) (a : List SS × Bool) (z : SS) (h : z ∈ (stS x a y).1) : z ∈ a.1 ∨ z = x ∨ z = y := by
  unfold stS at h
  by_cases h1 : a.2 = false ∧ x.1.1 ≤ y.1.1
  · rw [if_pos h1] at h
    by_cases h2 : y.1.1 ≠ x.1.1
    · simp only at h
      rw [if_pos h2] at h
      simp at h
      first | exact .inl h | (rcases h with h | h | h <;> first | exact .inl h | exact .inr (.inl h) | exact .inr (.inr h)) | (rcases h with h | h <;> first | exact .inl h | exact .inr (.inl h) | exact .inr (.inr h))
    · simp only at h
      rw [if_neg h2] at h
      simp at h
      first | exact .inl h | (rcases h with h | h | h <;> first | exact .inl h | exact .inr (.inl h) | exact .inr (.inr h)) | (rcases h with h | h <;> first | exact .inl h | exact .inr (.inl h) | exact .inr (.inr h))
  · rw [if_neg h1] at h
    by_cases h2 : y.1.1 ≠ x.1.1
    · simp only at h
      rw [if_pos h2] at h
      simp at h
      first | exact .inl h | (rcases h with h | h | h <;> first | exact .inl h | exact .inr (.inl h) | exact .inr (.inr h)) | (rcases h with h | h <;> first | exact .inl h | exact .inr (.inl h) | exact .inr (.inr h))
    · simp only at h
      rw [if_neg h2] at h
      first | exact .inl h | (rcases h with h | h | h <;> first | exact .inl h | exact .inr (.inl h) | exact .inr (.inr h)) | (rcases h with h | h <;> first | exact .inl h | exact .inr (.inl h) | exact .inr (.inr h))
theorem setS_mem (x : SS) : ∀ (ls : List SS) (a : List SS × Bool) (z : SS), z ∈ (ls.foldl (stS x) a).1 → z ∈ a.1 ∨ z = x ∨ z ∈ ls
  | [], a, z, h => .inl h
  | y :: r, a, z, h => by
    rw [List.foldl_cons] at h
    rcases setS_mem x r _ z h with h | h | h
    · rcases stS_mem x y a z h with h | h | h
      · exact .inl h
      · exact .inr (.inl h)
      · exact .inr (.inr (by simp [h]))
    · exact .inr (.inl h)
    · exact .inr (.inr (by simp [h]))
theorem stS_len (x y : SS) (a : List SS × Bool) : (stS x a y).1.length ≤ a.1.length + 2 := by
  unfold stS
  by_cases h1 : a.2 = false ∧ x.1.1 ≤ y.1.1
  · rw [if_pos h1]
    simp only
    split <;> simp
  · rw [if_neg h1]
    simp only
    split <;> simp
theorem setS_len (x : SS) : ∀ (ls : List SS) (a : List SS × Bool), (ls.foldl (stS x) a).1.length ≤ a.1.length + 2 * ls.length
  | [], a => by simp
  | y :: r, a => by
    rw [List.foldl_cons, List.length_cons]
    have := setS_len x r (stS x a y)
    have := stS_len x y a
    omega
def XBlk (w : World) (g : Nat) (x : SS) : Prop := w.heap[g]? = some (.cells (SS.cells x).toArray 94 (0, 0))

theorem XBlk.c0 {w : World} {g : Nat} {x : SS} (h : XBlk w g x) : w.cell? ⟨g, 0, none⟩ = some (.int .i64 ((x.1.1 : Nat) : Int)) := (Addr.cell0 h).trans rfl
theorem XBlk.c1 {w : World} {g : Nat} {x : SS} (h : XBlk w g x) : w.cell? ⟨g, 1, none⟩ = some (.slice x.2.a x.2.len x.2.cap) := (Addr.cell0 h).trans rfl
theorem XBlk.c2 {w : World} {g : Nat} {x : SS} (h : XBlk w g x) : w.cell? ⟨g, 2, none⟩ = some (.bool x.1.2.dirty) := (Addr.cell0 h).trans rfl
theorem XBlk.c3 {w : World} {g : Nat} {x : SS} (h : XBlk w g x) : w.cell? ⟨g, 3, none⟩ = some (.int .i64 x.1.2.place) := (Addr.cell0 h).trans rfl
theorem XBlk.fz {w : World} {g : Nat} {x : SS} (h : XBlk w g x) (o : Nat) : w.frozen? ⟨g, o, none⟩ = false := frozen_of_row w g _ _ 94 h
theorem XBlk.lt {w : World} {g : Nat} {x : SS} (h : XBlk w g x) : g < w.heap.size := (Array.getElem?_eq_some_iff.1 h).1
theorem XBlk.frm {w w' : World} {g : Nat} {x : SS} {F : Nat → Prop} (h : XBlk w g x) (hf : Frm F w w') (hF : ¬ F g) : XBlk w' g x := (hf.block g h.lt hF).trans h
/-- What stands between two rounds. -/
structure St (w wr : World) (x : SS) (t : Sl) (l : List SS) (d : Dv) (Ld : DvL) (v : Sl) (h : Int) (s : Sl) (sy : Int) : Prop where
  o : Bd4 w wr (w.heap.size + 2) t l
  rx : Rx w wr (w.heap.size + 2) d Ld v h s sy
  b : XBlk wr (w.heap.size + 1) x
theorem St.room {w wr : World} {x : SS} {t : Sl} {l : List SS} {d : Dv} {Ld : DvL} {v : Sl} {h : Int} {s : Sl} {sy : Int} (st : St w wr x t l d Ld v h s sy) : w.heap.size + 2 < wr.heap.size := by
  obtain ⟨_, _, _, _, _, _, k⟩ := st.rx.ans
  exact k.lt
/-- One more. -/
theorem St.app {w wr : World} {x : SS} {t : Sl} {l : List SS} {d : Dv} {Ld : DvL} {v : Sl} {h : Int} {s : Sl} {sy : Int} (st : St w wr x t l d Ld v h s sy) (z : SS) (hl : l.length + 1 ≤ 1000000) :
    ∃ t' W', (∀ ty, (Builtin.append_ #[41, 41] ty #[t.val, .slice (some ⟨wr.heap.size, 0, none⟩) 1 1]).run Tryz.prog (wr.alloc (.cells (SS.cells z).toArray 94)) = .ok t'.val W') ∧ St w W' x t' (l ++ [z]) d Ld v h s sy := by
  obtain ⟨t', W', hrun, hB, hfr⟩ := st.o.app st.room z hl
  exact ⟨t', W', hrun, hB, st.rx.other hfr (fun k hk => st.o.far k hk), st.b.frm hfr (fun e => by have := st.o.far _ e; omega)⟩
theorem St.drew {w wr : World} {x : SS} {t : Sl} {l : List SS} {d : Dv} {Ld : DvL} {v : Sl} {h : Int} {s : Sl} {sy : Int} (st : St w wr x t l d Ld v h s sy) : St w wr.drew x t l d Ld v h s sy :=
  ⟨st.o.keep (fun _ _ => rfl), st.rx.keep (below_drew wr), st.b⟩

set_option maxHeartbeats 16000000 in
set_option maxRecDepth 100000 in
theorem rpset_any {w : World} {s : Sl} {l : List (Nat × Sh)} (hs : ShRow K w s l) (hl : l.length ≤ 1000) (d : Dv) (Ld : DvL) (v : Sl) (h : Int) (sy : Int) (x : SS) (hx : BsS K w x.2 x.1.2.b) (hx2 : x.2.len = 512) : Calls Tryz.prog 38 #[rV d Ld v h s sy, SS.val x] w fun e w' => Below w.heap.size w w' ∧ ∃ s', e = .returned (rV d Ld v h s' sy) ∧ ShRow K w' s' (setL l x.1) := by
  obtain ⟨ls, rfl, hc, hz⟩ := hs
  obtain ⟨W0, hW0⟩ : ∃ W, W = (((w.alloc (.cells (rCells d Ld v h s sy) 43)).alloc (.cells (SS.cells x).toArray 94)).alloc (.cells (rCells dv0 dvl0 Sl.nil 0 Sl.nil 0) 43)) := ⟨_, rfl⟩
  have hX : Rx w W0 (w.heap.size + 2) d Ld v h s sy := by rw [hW0]; exact rx_new3 w _ d Ld v h s sy
  have hs0 : W0.heap.size = w.heap.size + 3 := by rw [hW0]; simp
  have hXB0 : XBlk W0 (w.heap.size + 1) x := by
    rw [hW0]
    have h1 := heap_alloc_new (w.alloc (.cells (rCells d Ld v h s sy) 43)) (.cells (SS.cells x).toArray 94)
    rw [show (w.alloc (.cells (rCells d Ld v h s sy) 43)).heap.size = w.heap.size + 1 by simp] at h1
    exact ((below_alloc _ _).block _ (by simp)).trans h1
  obtain ⟨W1, hW1⟩ : ∃ W, W = W0.alloc (.cells #[] 94) := ⟨_, rfl⟩
  have hA1 : Below W0.heap.size W0 W1 := by rw [hW1]; exact below_alloc W0 _
  have hST : St w W1 x ⟨some ⟨w.heap.size + 3, 0, none⟩, 0, 0⟩ [] d Ld v h s sy := by
    refine ⟨⟨?_, fun k hk => ?_⟩, hX.keep hA1, (hA1.block _ (by omega)).trans hXB0⟩
    · rw [hW1, ← hs0]; exact OwnT.new W0
    · have : w.heap.size + 3 = k := by simpa [Sl.blk] using hk
      omega
  have HST := hide hST
  have HZ := hide hz
  have HC := hide hc
  have HX := hide hx
  have HX2 := hide hx2
  have hlen := hc.len
  rw [List.length_map] at hl
  have HLS := hide hl
  rw [hW0, r0_is] at hW1
  have HW1 := hide hW1
  clear hX hA1 hST hz hc hW0 hW1 hXB0 hx hx2 hs0
  obtain ⟨sa, sl, sc⟩ := s
  simp only at hlen
  have HL : Hid (ls.length = sl) := hlen
  have hsb : sl ≤ 1000 := by omega
  clear hlen hl
  obtain ⟨⟨xk, xs⟩, ⟨xa, xl, xc⟩⟩ := x
  simp only [SS.cells, Sl.val] at HW1
  unfold rV
  simp only [SS.val, SS.cells, Sl.val]
  go_enter Tryz.func38, Tryz.ntmps38
  go_wp2_with fail
  rw [← HW1.out]
  go_loopw [5, 6, 7] (fun t5 t6 i wr => ∃ (j : Nat) (t : Sl), j ≤ sl ∧ i = .int .i64 j ∧ t5 = .slice t.a t.len t.cap ∧ t6 = .bool ((ls.take j).foldl (stS ((xk, xs), ⟨xa, xl, xc⟩)) ([], false)).2 ∧ Hid (St w wr ((xk, xs), ⟨xa, xl, xc⟩) t ((ls.take j).foldl (stS ((xk, xs), ⟨xa, xl, xc⟩)) ([], false)).1 d Ld v h ⟨sa, sl, sc⟩ sy)) (fun _ _ i _ => sl - (intOf i).toNat)
  case atStart => exact ⟨0, ⟨some ⟨w.heap.size + 3, 0, none⟩, 0, 0⟩, by omega, rfl, rfl, rfl, HST⟩
  case round =>
    obtain ⟨j, ⟨ta, tl, tc⟩, hj, rfl, rfl, rfl, hS⟩ := hrel
    simp only at *
    by_cases hlt : j < sl
    · have hjl : j < ls.length := by rw [HL.out]; exact hlt
      have c11 := hS.out.rx.b.c11
      simp only [Sl.val] at c11
      have i1 : ((j : Nat) : Int) < ((sl : Nat) : Int) := by omega
      have hcr := HC.out.keep hS.out.rx.e
      obtain ⟨b, off, ha, k0, k1, k2, k3, _⟩ := hcr.at_ j ls[j] (List.getElem?_eq_getElem hjl)
      simp only at ha
      subst ha
      have htk : (ls.take (j + 1)).foldl (stS ((xk, xs), ⟨xa, xl, xc⟩)) ([], false) = stS ((xk, xs), ⟨xa, xl, xc⟩) ((ls.take j).foldl (stS ((xk, xs), ⟨xa, xl, xc⟩)) ([], false)) ls[j] := by
        rw [List.take_succ_eq_append_getElem hjl, List.foldl_append]
        rfl
      have hal := setS_len ((xk, xs), ⟨xa, xl, xc⟩) (ls.take j) ([], false)
      rw [List.length_take] at hal
      simp only [List.length_nil, Nat.zero_add] at hal
      have hroom : ((ls.take j).foldl (stS ((xk, xs), ⟨xa, xl, xc⟩)) ([], false)).1.length + 2 ≤ 1000000 := by have := HLS.out; omega
      have HF : Hid (∀ U t' l', St w U ((xk, xs), ⟨xa, xl, xc⟩) t' l' d Ld v h ⟨some ⟨b, off, none⟩, sl, sc⟩ sy → (U.cell? ⟨w.heap.size, 11, none⟩ = some (.slice (some ⟨b, off, none⟩) sl sc) ∧ U.cell? ⟨b, off + j * 4, none⟩ = some (.int .i64 ((ls[j].1.1 : Nat) : Int)) ∧ U.cell? ⟨w.heap.size + 1, 0, none⟩ = some (.int .i64 ((xk : Nat) : Int))) ∧ (U.cell? ⟨b, off + j * 4 + 1, none⟩ = some (.slice ls[j].2.a ls[j].2.len ls[j].2.cap) ∧ U.cell? ⟨b, off + j * 4 + 2, none⟩ = some (.bool ls[j].1.2.dirty) ∧ U.cell? ⟨b, off + j * 4 + 3, none⟩ = some (.int .i64 ls[j].1.2.place)) ∧ (U.cell? ⟨w.heap.size + 1, 1, none⟩ = some (.slice xa xl xc) ∧ U.cell? ⟨w.heap.size + 1, 2, none⟩ = some (.bool xs.dirty) ∧ U.cell? ⟨w.heap.size + 1, 3, none⟩ = some (.int .i64 xs.place))) := by
        intro U t' l' st
        obtain ⟨b', off', ha', q0, q1, q2, q3, _⟩ := (HC.out.keep st.rx.e).at_ j ls[j] (List.getElem?_eq_getElem hjl)
        cases ha'
        exact ⟨⟨st.rx.b.c11, q0, st.b.c0⟩, ⟨q1, q2, q3⟩, ⟨st.b.c1, st.b.c2, st.b.c3⟩⟩
      have HTK := hide htk
      have HROOM := hide hroom
      clear htk hroom hal k0 k1 k2 k3 hcr c11
      generalize hst : (ls.take j).foldl (stS ((xk, xs), ⟨xa, xl, xc⟩)) ([], false) = st at *
      clear hst
      obtain ⟨acc, p⟩ := st
      have hzn : ∃ z, z = ls[j] := ⟨_, rfl⟩
      obtain ⟨z, hzz⟩ := hzn
      rw [← hzz] at HF HTK
      obtain ⟨⟨yk, ys⟩, ⟨ya, yl, yc⟩⟩ := z
      clear hzz
      simp only at *
      have hFr := HF.out wr _ _ hS.out
      obtain ⟨f1, f2, f3⟩ := hFr
      have F1 := hide f1
      clear f1 f2 f3
      cases p with
      | true =>
        by_cases he : yk = xk
        · have he2 := he
          have e11 := F1.out.1
          go_wp2_with fail
          clear e11
          refine Pl.region_is (ops := Pl.find 6 ((Tryz.f38.body).getD .skip)) (by kernel_rfl) ?_
          refine set6b wr (by rfl) rfl (by rfl) ?_
          intro u6 w6 hw6
          simp only [Act.put, List.setIfInBounds_toArray, List.set_cons_zero, List.set_cons_succ]
          have S6 : Hid (St w w6 ((xk, xs), ⟨xa, xl, xc⟩) ⟨ta, tl, tc⟩ acc d Ld v h ⟨some ⟨b, off, none⟩, sl, sc⟩ sy) := by rw [hw6]; exact hS.out.drew
          clear hw6

          have F9 := (HF.out w6 _ _ S6.out).1
          have H9 : Hid (∀ {Q : Exit → Act → World → Prop} {A : Act}, _) := fun {Q A} => set9 w6 w.heap.size (w.heap.size + 1) b off sl sc j ((xk : Nat) : Int) ((yk : Nat) : Int) hlt F9 (Q := Q) (A := A)
          rw [show (((yk : Nat) : Int) != ((xk : Nat) : Int)) = false by simp; omega] at H9
          clear F9
          go_wp2_with fail
          refine Pl.region_is (ops := Pl.find 9 ((Tryz.f38.body).getD .skip)) (by kernel_rfl) ?_
          refine H9.out (by rfl) rfl (by rfl) (by rfl) (by rfl) ?_
          intro u9 w9 hw9
          simp only [Act.put, List.setIfInBounds_toArray, List.set_cons_zero, List.set_cons_succ]
          have S9 : Hid (St w w9 ((xk, xs), ⟨xa, xl, xc⟩) ⟨ta, tl, tc⟩ (acc) d Ld v h ⟨some ⟨b, off, none⟩, sl, sc⟩ sy) := by rw [hw9]; exact S6.out.drew
          clear hw9 H9

          go_wp2_with fail

          go_roundw
          case rel =>
            have hres : stS ((xk, xs), ⟨xa, xl, xc⟩) (acc, true) ((yk, ys), ⟨ya, yl, yc⟩) = (acc, true) := by simp [stS, he2]
            refine ⟨j + 1, ⟨ta, tl, tc⟩, by omega, by go_num, rfl, ?_, ?_⟩
            · rw [HTK.out, hres]
            · rw [HTK.out, hres]
              exact S9
          case measure => simp only [intOf]; omega
        ·
          have e11 := F1.out.1
          go_wp2_with fail
          clear e11
          refine Pl.region_is (ops := Pl.find 6 ((Tryz.f38.body).getD .skip)) (by kernel_rfl) ?_
          refine set6b wr (by rfl) rfl (by rfl) ?_
          intro u6 w6 hw6
          simp only [Act.put, List.setIfInBounds_toArray, List.set_cons_zero, List.set_cons_succ]
          have S6 : Hid (St w w6 ((xk, xs), ⟨xa, xl, xc⟩) ⟨ta, tl, tc⟩ acc d Ld v h ⟨some ⟨b, off, none⟩, sl, sc⟩ sy) := by rw [hw6]; exact hS.out.drew
          clear hw6

          have F9 := (HF.out w6 _ _ S6.out).1
          have H9 : Hid (∀ {Q : Exit → Act → World → Prop} {A : Act}, _) := fun {Q A} => set9 w6 w.heap.size (w.heap.size + 1) b off sl sc j ((xk : Nat) : Int) ((yk : Nat) : Int) hlt F9 (Q := Q) (A := A)
          rw [show (((yk : Nat) : Int) != ((xk : Nat) : Int)) = true by simp; omega] at H9
          clear F9
          go_wp2_with fail
          refine Pl.region_is (ops := Pl.find 9 ((Tryz.f38.body).getD .skip)) (by kernel_rfl) ?_
          refine H9.out (by rfl) rfl (by rfl) (by rfl) (by rfl) ?_
          intro u9 w9 hw9
          simp only [Act.put, List.setIfInBounds_toArray, List.set_cons_zero, List.set_cons_succ]
          have S9 : Hid (St w w9 ((xk, xs), ⟨xa, xl, xc⟩) ⟨ta, tl, tc⟩ (acc) d Ld v h ⟨some ⟨b, off, none⟩, sl, sc⟩ sy) := by rw [hw9]; exact S6.out.drew
          clear hw9 H9

          obtain ⟨⟨na, nl, nc⟩, WN, hrunN, hSN⟩ := S9.out.app ((yk, ys), ⟨ya, yl, yc⟩) (by have := HROOM.out; (try simp only [List.length_append, List.length_cons, List.length_nil] at *); omega)
          have HRUNN := hide hrunN
          have SN := hide hSN
          simp only [SS.cells, Sl.val] at HRUNN
          clear hrunN hSN

          obtain ⟨f1, f2, f3⟩ := HF.out w9 _ _ S9.out
          have F1 := hide f1
          obtain ⟨g1, g2, g3⟩ := f1
          obtain ⟨g4, g5, g6⟩ := f2
          obtain ⟨g7, g8, g9⟩ := f3

          go_wp2_with (refine wpList_app _ rfl 41 (.tmp 42) (.tmp 48) rfl (.slice ta tl tc) (.slice (some ⟨w9.heap.size, 0, none⟩) 1 1) rfl rfl (.slice na nl nc) WN HRUNN.out ?_)

          go_roundw
          case rel =>
            have hres : stS ((xk, xs), ⟨xa, xl, xc⟩) (acc, true) ((yk, ys), ⟨ya, yl, yc⟩) = (acc ++ [((yk, ys), ⟨ya, yl, yc⟩)], true) := by simp [stS, he]
            refine ⟨j + 1, ⟨na, nl, nc⟩, by omega, by go_num, rfl, ?_, ?_⟩
            · rw [HTK.out, hres]
            · rw [HTK.out, hres]
              exact SN
          case measure => simp only [intOf]; omega
      | false =>
        have H6 : Hid (∀ {Q : Exit → Act → World → Prop} {A : Act}, _) := fun {Q A} => set6a wr w.heap.size (w.heap.size + 1) b off sl sc j ((xk : Nat) : Int) ((yk : Nat) : Int) hlt F1.out (Q := Q) (A := A)
        by_cases hle : xk ≤ yk
        · rw [decide_eq_true (show ((xk : Nat) : Int) ≤ ((yk : Nat) : Int) by omega)] at H6
          by_cases he : yk = xk
          ·
            have e11 := F1.out.1
            go_wp2_with fail
            clear e11
            refine Pl.region_is (ops := Pl.find 6 ((Tryz.f38.body).getD .skip)) (by kernel_rfl) ?_
            refine H6.out (by rfl) rfl (by rfl) (by rfl) (by rfl) (by rfl) ?_
            intro u6 w6 hw6
            simp only [Act.put, List.setIfInBounds_toArray, List.set_cons_zero, List.set_cons_succ]
            have S6 : Hid (St w w6 ((xk, xs), ⟨xa, xl, xc⟩) ⟨ta, tl, tc⟩ acc d Ld v h ⟨some ⟨b, off, none⟩, sl, sc⟩ sy) := by rw [hw6]; exact hS.out.drew
            clear hw6

            obtain ⟨⟨ma, ml, mc⟩, WM, hrunM, hSM⟩ := S6.out.app ((xk, xs), ⟨xa, xl, xc⟩) (by have := HROOM.out; omega)
            have HRUNM := hide hrunM
            have SM := hide hSM
            simp only [SS.cells, Sl.val] at HRUNM
            clear hrunM hSM

            obtain ⟨f1, f2, f3⟩ := HF.out w6 _ _ S6.out
            have F1 := hide f1
            obtain ⟨g1, g2, g3⟩ := f1
            obtain ⟨g4, g5, g6⟩ := f2
            obtain ⟨g7, g8, g9⟩ := f3

            go_wp2_with (refine wpList_app _ rfl 41 (.tmp 29) (.tmp 31) rfl (.slice ta tl tc) (.slice (some ⟨w6.heap.size, 0, none⟩) 1 1) rfl rfl (.slice ma ml mc) WM HRUNM.out ?_)
            clear F1 g1 g2 g3 g4 g5 g6 g7 g8 g9

            have F9 := (HF.out WM _ _ SM.out).1
            have H9 : Hid (∀ {Q : Exit → Act → World → Prop} {A : Act}, _) := fun {Q A} => set9 WM w.heap.size (w.heap.size + 1) b off sl sc j ((xk : Nat) : Int) ((yk : Nat) : Int) hlt F9 (Q := Q) (A := A)
            rw [show (((yk : Nat) : Int) != ((xk : Nat) : Int)) = false by simp; omega] at H9
            clear F9
            go_wp2_with fail
            refine Pl.region_is (ops := Pl.find 9 ((Tryz.f38.body).getD .skip)) (by kernel_rfl) ?_
            refine H9.out (by rfl) rfl (by rfl) (by rfl) (by rfl) ?_
            intro u9 w9 hw9
            simp only [Act.put, List.setIfInBounds_toArray, List.set_cons_zero, List.set_cons_succ]
            have S9 : Hid (St w w9 ((xk, xs), ⟨xa, xl, xc⟩) ⟨ma, ml, mc⟩ (acc ++ [((xk, xs), ⟨xa, xl, xc⟩)]) d Ld v h ⟨some ⟨b, off, none⟩, sl, sc⟩ sy) := by rw [hw9]; exact SM.out.drew
            clear hw9 H9

            go_wp2_with fail

            go_roundw
            case rel =>
              have hres : stS ((xk, xs), ⟨xa, xl, xc⟩) (acc, false) ((yk, ys), ⟨ya, yl, yc⟩) = (acc ++ [((xk, xs), ⟨xa, xl, xc⟩)], true) := by simp [stS, he]
              refine ⟨j + 1, ⟨ma, ml, mc⟩, by omega, by go_num, rfl, ?_, ?_⟩
              · rw [HTK.out, hres]
              · rw [HTK.out, hres]
                exact S9
            case measure => simp only [intOf]; omega
          ·
            have e11 := F1.out.1
            go_wp2_with fail
            clear e11
            refine Pl.region_is (ops := Pl.find 6 ((Tryz.f38.body).getD .skip)) (by kernel_rfl) ?_
            refine H6.out (by rfl) rfl (by rfl) (by rfl) (by rfl) (by rfl) ?_
            intro u6 w6 hw6
            simp only [Act.put, List.setIfInBounds_toArray, List.set_cons_zero, List.set_cons_succ]
            have S6 : Hid (St w w6 ((xk, xs), ⟨xa, xl, xc⟩) ⟨ta, tl, tc⟩ acc d Ld v h ⟨some ⟨b, off, none⟩, sl, sc⟩ sy) := by rw [hw6]; exact hS.out.drew
            clear hw6

            obtain ⟨⟨ma, ml, mc⟩, WM, hrunM, hSM⟩ := S6.out.app ((xk, xs), ⟨xa, xl, xc⟩) (by have := HROOM.out; omega)
            have HRUNM := hide hrunM
            have SM := hide hSM
            simp only [SS.cells, Sl.val] at HRUNM
            clear hrunM hSM

            obtain ⟨f1, f2, f3⟩ := HF.out w6 _ _ S6.out
            have F1 := hide f1
            obtain ⟨g1, g2, g3⟩ := f1
            obtain ⟨g4, g5, g6⟩ := f2
            obtain ⟨g7, g8, g9⟩ := f3

            go_wp2_with (refine wpList_app _ rfl 41 (.tmp 29) (.tmp 31) rfl (.slice ta tl tc) (.slice (some ⟨w6.heap.size, 0, none⟩) 1 1) rfl rfl (.slice ma ml mc) WM HRUNM.out ?_)
            clear F1 g1 g2 g3 g4 g5 g6 g7 g8 g9

            have F9 := (HF.out WM _ _ SM.out).1
            have H9 : Hid (∀ {Q : Exit → Act → World → Prop} {A : Act}, _) := fun {Q A} => set9 WM w.heap.size (w.heap.size + 1) b off sl sc j ((xk : Nat) : Int) ((yk : Nat) : Int) hlt F9 (Q := Q) (A := A)
            rw [show (((yk : Nat) : Int) != ((xk : Nat) : Int)) = true by simp; omega] at H9
            clear F9
            go_wp2_with fail
            refine Pl.region_is (ops := Pl.find 9 ((Tryz.f38.body).getD .skip)) (by kernel_rfl) ?_
            refine H9.out (by rfl) rfl (by rfl) (by rfl) (by rfl) ?_
            intro u9 w9 hw9
            simp only [Act.put, List.setIfInBounds_toArray, List.set_cons_zero, List.set_cons_succ]
            have S9 : Hid (St w w9 ((xk, xs), ⟨xa, xl, xc⟩) ⟨ma, ml, mc⟩ (acc ++ [((xk, xs), ⟨xa, xl, xc⟩)]) d Ld v h ⟨some ⟨b, off, none⟩, sl, sc⟩ sy) := by rw [hw9]; exact SM.out.drew
            clear hw9 H9

            obtain ⟨⟨na, nl, nc⟩, WN, hrunN, hSN⟩ := S9.out.app ((yk, ys), ⟨ya, yl, yc⟩) (by have := HROOM.out; (try simp only [List.length_append, List.length_cons, List.length_nil] at *); omega)
            have HRUNN := hide hrunN
            have SN := hide hSN
            simp only [SS.cells, Sl.val] at HRUNN
            clear hrunN hSN

            obtain ⟨f1, f2, f3⟩ := HF.out w9 _ _ S9.out
            have F1 := hide f1
            obtain ⟨g1, g2, g3⟩ := f1
            obtain ⟨g4, g5, g6⟩ := f2
            obtain ⟨g7, g8, g9⟩ := f3

            go_wp2_with (refine wpList_app _ rfl 41 (.tmp 42) (.tmp 48) rfl (.slice ma ml mc) (.slice (some ⟨w9.heap.size, 0, none⟩) 1 1) rfl rfl (.slice na nl nc) WN HRUNN.out ?_)

            go_roundw
            case rel =>
              have hres : stS ((xk, xs), ⟨xa, xl, xc⟩) (acc, false) ((yk, ys), ⟨ya, yl, yc⟩) = (acc ++ [((xk, xs), ⟨xa, xl, xc⟩)] ++ [((yk, ys), ⟨ya, yl, yc⟩)], true) := by simp [stS, he, hle]
              refine ⟨j + 1, ⟨na, nl, nc⟩, by omega, by go_num, rfl, ?_, ?_⟩
              · rw [HTK.out, hres]
              · rw [HTK.out, hres]
                exact SN
            case measure => simp only [intOf]; omega
        · rw [decide_eq_false (show ¬ ((xk : Nat) : Int) ≤ ((yk : Nat) : Int) by omega)] at H6
          have he : ¬ yk = xk := by omega
          have e11 := F1.out.1
          go_wp2_with fail
          clear e11
          refine Pl.region_is (ops := Pl.find 6 ((Tryz.f38.body).getD .skip)) (by kernel_rfl) ?_
          refine H6.out (by rfl) rfl (by rfl) (by rfl) (by rfl) (by rfl) ?_
          intro u6 w6 hw6
          simp only [Act.put, List.setIfInBounds_toArray, List.set_cons_zero, List.set_cons_succ]
          have S6 : Hid (St w w6 ((xk, xs), ⟨xa, xl, xc⟩) ⟨ta, tl, tc⟩ acc d Ld v h ⟨some ⟨b, off, none⟩, sl, sc⟩ sy) := by rw [hw6]; exact hS.out.drew
          clear hw6

          have F9 := (HF.out w6 _ _ S6.out).1
          have H9 : Hid (∀ {Q : Exit → Act → World → Prop} {A : Act}, _) := fun {Q A} => set9 w6 w.heap.size (w.heap.size + 1) b off sl sc j ((xk : Nat) : Int) ((yk : Nat) : Int) hlt F9 (Q := Q) (A := A)
          rw [show (((yk : Nat) : Int) != ((xk : Nat) : Int)) = true by simp; omega] at H9
          clear F9
          go_wp2_with fail
          refine Pl.region_is (ops := Pl.find 9 ((Tryz.f38.body).getD .skip)) (by kernel_rfl) ?_
          refine H9.out (by rfl) rfl (by rfl) (by rfl) (by rfl) ?_
          intro u9 w9 hw9
          simp only [Act.put, List.setIfInBounds_toArray, List.set_cons_zero, List.set_cons_succ]
          have S9 : Hid (St w w9 ((xk, xs), ⟨xa, xl, xc⟩) ⟨ta, tl, tc⟩ (acc) d Ld v h ⟨some ⟨b, off, none⟩, sl, sc⟩ sy) := by rw [hw9]; exact S6.out.drew
          clear hw9 H9

          obtain ⟨⟨na, nl, nc⟩, WN, hrunN, hSN⟩ := S9.out.app ((yk, ys), ⟨ya, yl, yc⟩) (by have := HROOM.out; (try simp only [List.length_append, List.length_cons, List.length_nil] at *); omega)
          have HRUNN := hide hrunN
          have SN := hide hSN
          simp only [SS.cells, Sl.val] at HRUNN
          clear hrunN hSN

          obtain ⟨f1, f2, f3⟩ := HF.out w9 _ _ S9.out
          have F1 := hide f1
          obtain ⟨g1, g2, g3⟩ := f1
          obtain ⟨g4, g5, g6⟩ := f2
          obtain ⟨g7, g8, g9⟩ := f3

          go_wp2_with (refine wpList_app _ rfl 41 (.tmp 42) (.tmp 48) rfl (.slice ta tl tc) (.slice (some ⟨w9.heap.size, 0, none⟩) 1 1) rfl rfl (.slice na nl nc) WN HRUNN.out ?_)

          go_roundw
          case rel =>
            have hres : stS ((xk, xs), ⟨xa, xl, xc⟩) (acc, false) ((yk, ys), ⟨ya, yl, yc⟩) = (acc ++ [((yk, ys), ⟨ya, yl, yc⟩)], false) := by simp [stS, he, hle]
            refine ⟨j + 1, ⟨na, nl, nc⟩, by omega, by go_num, rfl, ?_, ?_⟩
            · rw [HTK.out, hres]
            · rw [HTK.out, hres]
              exact SN
          case measure => simp only [intOf]; omega
    · have i1 : ¬ ((j : Nat) : Int) < ((sl : Nat) : Int) := by omega
      have hje : (ls.take j) = ls := List.take_of_length_le (by rw [HL.out]; omega)
      rw [hje] at hS
      rw [hje]
      have e11 := hS.out.rx.b.c11
      simp only [Sl.val] at e11
      have hset := setS_is ((xk, xs), ⟨xa, xl, xc⟩) ls []
      simp only [List.map_nil, List.nil_append] at hset
      have hmem := setS_mem ((xk, xs), ⟨xa, xl, xc⟩) ls ([], false)
      have hlen := setS_len ((xk, xs), ⟨xa, xl, xc⟩) ls ([], false)
      simp only [List.length_nil, Nat.zero_add] at hlen
      have hl2000 : (ls.foldl (stS ((xk, xs), ⟨xa, xl, xc⟩)) ([], false)).1.length ≤ 2000 := by have := HLS.out; omega
      have HEND : Hid (∀ (U : World) (t : Sl) (l : List SS), St w U ((xk, xs), ⟨xa, xl, xc⟩) t l d Ld v h ⟨sa, sl, sc⟩ sy → l.length ≤ 3000 → l.map Prod.fst = setL (ls.map Prod.fst) (xk, xs) → (∀ z ∈ l, z = ((xk, xs), ⟨xa, xl, xc⟩) ∨ z ∈ ls) → ∃ W2 W3, (Instr.storeAt 41 (.pointer (some ⟨w.heap.size, 11, none⟩)) (.slice t.a t.len t.cap)).run Tryz.prog U = .ok () W2 ∧ (Instr.loadAt 43 (.pointer (some ⟨w.heap.size, 0, none⟩))).run Tryz.prog W2 = .ok (.agg (rCells d Ld v h t sy)) W2 ∧ (Instr.storeAt 43 (.pointer (some ⟨w.heap.size + 2, 0, none⟩)) (.agg (rCells d Ld v h t sy))).run Tryz.prog W2 = .ok () W3 ∧ RBlk W3 (w.heap.size + 2) d Ld v h t sy ∧ Below w.heap.size w W3 ∧ ShRow K W3 t (setL (ls.map Prod.fst) (xk, xs))) := by
        intro U t l st h3 hmap hm
        obtain ⟨W2, hst2, hb2, hf2, _⟩ := stRI st.rx.b t
        have hX2 := st.rx.turn hb2 hf2
        obtain ⟨W3, hst3, hb3, hB3, hf3⟩ := hX2.tell d Ld v h t sy
        have hO3 := (st.o.keep (W' := W2) (fun q hq => hf2.block q (Own.lt st.o.own hq) (by have := st.o.far q hq; omega))).keep (W' := W3) (fun q hq => hf3.block q (by have := Own.lt st.o.own hq; have := hf2.size; omega) (by have := st.o.far q hq; omega))
        have hrow : ShRow K W3 t (l.map Prod.fst) := ⟨l, rfl, hO3.own.sh (by rw [← hO3.own.len]; omega), fun z hz => by
          rcases hm z hz with e | e
          · subst e
            exact ⟨HX.out.keep hB3 (Nat.le_refl _), HX2.out⟩
          · exact ⟨(HZ.out z e).1.keep hB3 (Nat.le_refl _), (HZ.out z e).2⟩⟩
        rw [hmap] at hrow
        exact ⟨W2, W3, hst2, ldR hb2, hst3, hb3, hB3, hrow⟩
      generalize hfs : ls.foldl (stS ((xk, xs), ⟨xa, xl, xc⟩)) ([], false) = st at *
      obtain ⟨acc, p⟩ := st
      simp only at *
      have HMEM : Hid (∀ z ∈ acc, z = ((xk, xs), ⟨xa, xl, xc⟩) ∨ z ∈ ls) := fun z hz => by
        rcases hmem z hz with e | e | e
        · cases e
        · exact .inl e
        · exact .inr e
      have HSET := hide hset
      have H2 := hide hl2000
      clear hje hset hmem hlen hl2000 hfs
      cases p with
      | true =>
        have hset2 := HSET.out
        simp only [finS] at hset2
        obtain ⟨W2, W3, hst2, hld, hst3, hb3, hB3, hrow⟩ := HEND.out wr ⟨ta, tl, tc⟩ acc hS.out (by have := H2.out; omega) (by simpa using hset2) HMEM.out
        have HS2 := hide hst2
        have HLD := hide hld
        have HS3 := hide hst3
        have HB3 := hide hb3
        have HBB := hide hB3
        have HROW := hide hrow
        clear hset2 hst2 hld hst3 hb3 hB3 hrow
        go_wp2_with (first | refine wpList_store _ rfl rfl 41 (.tmp 57) (.tmp 56) rfl (.pointer (some ⟨w.heap.size, 11, none⟩)) (.slice ta tl tc) rfl rfl W2 HS2.out ?_ | refine wpList_load _ rfl 43 (.tmp 2) rfl (.pointer (some ⟨w.heap.size, 0, none⟩)) _ rfl HLD.out ?_ | refine wpList_store _ rfl rfl 43 (.tmp 4) (.tmp 58) rfl (.pointer (some ⟨w.heap.size + 2, 0, none⟩)) _ rfl rfl W3 HS3.out ?_)
        refine bodyPost_ret (rp_results rfl HB3.out _ rfl) rfl ?_
        exact ⟨HBB.out, ⟨ta, tl, tc⟩, rfl, HROW.out⟩
      | false =>
        obtain ⟨⟨na, nl, nc⟩, WN, hrunN, hSN⟩ := hS.out.app ((xk, xs), ⟨xa, xl, xc⟩) (by have := H2.out; omega)
        have HRUNN := hide hrunN
        simp only [SS.cells, Sl.val] at HRUNN
        have hset2 := HSET.out
        simp only [finS, if_true] at hset2
        obtain ⟨W2, W3, hst2, hld, hst3, hb3, hB3, hrow⟩ := HEND.out WN ⟨na, nl, nc⟩ (acc ++ [((xk, xs), ⟨xa, xl, xc⟩)]) hSN (by have := H2.out; simp; omega) (by simpa using hset2) (fun z hz => by
          rcases List.mem_append.1 hz with e | e
          · exact HMEM.out z e
          · exact .inl (by simpa using e))
        have HS2 := hide hst2
        have HLD := hide hld
        have HS3 := hide hst3
        have HB3 := hide hb3
        have HBB := hide hB3
        have HROW := hide hrow
        have x0 := hS.out.b.c0
        have x1 := hS.out.b.c1
        have x2 := hS.out.b.c2
        have x3 := hS.out.b.c3
        simp only at x0 x1 x2 x3
        clear hset2 hst2 hld hst3 hb3 hB3 hrow hrunN hSN
        go_wp2_with (first | refine wpList_app _ rfl 41 (.tmp 52) (.tmp 54) rfl (.slice ta tl tc) (.slice (some ⟨wr.heap.size, 0, none⟩) 1 1) rfl rfl (.slice na nl nc) WN HRUNN.out ?_ | refine wpList_store _ rfl rfl 41 (.tmp 57) (.tmp 56) rfl (.pointer (some ⟨w.heap.size, 11, none⟩)) (.slice na nl nc) rfl rfl W2 HS2.out ?_ | refine wpList_load _ rfl 43 (.tmp 2) rfl (.pointer (some ⟨w.heap.size, 0, none⟩)) _ rfl HLD.out ?_ | refine wpList_store _ rfl rfl 43 (.tmp 4) (.tmp 58) rfl (.pointer (some ⟨w.heap.size + 2, 0, none⟩)) _ rfl rfl W3 HS3.out ?_)
        refine bodyPost_ret (rp_results rfl HB3.out _ rfl) rfl ?_
        exact ⟨HBB.out, ⟨na, nl, nc⟩, rfl, HROW.out⟩
end Go.Proofs.YtcaaiihjolnkgaaGreat

namespace Go.Proofs.YtcaaiihjolnkgaaGreat
open Go.RowKit
set_option maxRecDepth 100000
set_option linter.unusedVariables false
variable {K : Home}

set_option maxHeartbeats 8000000 in
set_option maxRecDepth 100000 in
theorem rSynced_any {w : World} {n tot m : Nat} {P : Po} {d : Dv} {Ld : DvL} {v s : Sl} (hI : RpIn K w n tot m P d Ld v s) (ht : tot ≤ 600) : Calls Tryz.prog 25 #[rV d Ld v P.h s P.sy] w fun e w' => Below w.heap.size w w' ∧ e = .returned (rV d Ld v P.h s P.D.fin) := by
  have hfin : P.D.fin = d.now.base + ((Ld.ns.len : Nat) : Int) := by
    unfold Ds.fin
    rw [hI.rel.sb, hI.rel.ss, ← hI.dv.now.st.len]
    have := hI.good.nb0
    show ((d.now.base.toNat + d.now.st.length : Nat) : Int) = _
    have : 0 ≤ d.now.base := this
    omega
  have hbd : 0 ≤ d.now.base ∧ d.now.base ≤ 600 ∧ Ld.ns.len ≤ 600 := by
    have h1 : 0 ≤ d.now.base := hI.good.nb0
    have h2 : d.now.base.toNat + d.now.st.length ≤ tot := hI.good.nt
    have h3 := hI.dv.now.st.len
    omega
  obtain ⟨W0, hW0⟩ : ∃ W, W = ((w.alloc (.cells (rCells d Ld v P.h s P.sy) 43)).alloc (.cells (rCells dv0 dvl0 Sl.nil 0 Sl.nil 0) 43)) := ⟨_, rfl⟩
  have hX : Rx w W0 (w.heap.size + 1) d Ld v P.h s P.sy := by rw [hW0]; exact rx_new w d Ld v P.h s P.sy
  have HX := hide hX
  have HLD := hide (ldRD hX.b)
  have HSN := hide (refSeen_any d Ld W0)
  rw [r0_is] at hW0
  have HLDL := HLD
  rw [hW0] at HLDL
  have HW0 := hide hW0
  rw [hfin]
  have HWR : IntKind.i64.wrap (d.now.base + ((Ld.ns.len : Nat) : Int)) = d.now.base + ((Ld.ns.len : Nat) : Int) := by rw [IntKind.wrap_i64]; omega
  clear hI hX hW0 hfin
  unfold rV
  unfold Dk.val Sl.val at HSN
  generalize hnl : Ld.ns.len = nl at *
  clear hnl
  generalize hnb : d.now.base = B at *
  have HNB := hide hnb
  clear hnb
  go_enter Tryz.func25, Tryz.ntmps25
  go_wp2_with (refine wpList_load _ rfl 37 (.tmp 4) rfl (.pointer (some ⟨w.heap.size, 0, none⟩)) _ rfl HLDL.out ?_)
  rw [← HW0.out]
  refine HSN.out.mono ?_
  rintro e w1 ⟨hb1, rfl⟩
  have hX1 := HX.out.keep hb1
  have hA2 := below_alloc w1 (.cells #[.slice Ld.np.a Ld.np.len Ld.np.cap, .int .i64 B, .slice Ld.ns.a nl Ld.ns.cap] 34)
  have hX2 := hX1.keep hA2
  obtain ⟨W3, hst3, hb3, hf3, _⟩ := stRS hX2.b (B + ((nl : Nat) : Int))
  have hX3 := hX2.turn hb3 hf3
  obtain ⟨W4, hst4, hb4, hB4, _⟩ := hX3.tell d Ld v P.h s (B + ((nl : Nat) : Int))
  have HS3 := hide hst3
  have HL3 := hide (ldR hb3)
  have HS4 := hide hst4
  have HB4 := hide hb4
  have HBB := hide hB4
  unfold rV at HL3 HS4
  clear hb1 hX1 hA2 hX2 hst3 hb3 hf3 hX3 hst4 hb4 hB4
  go_wp2_with (first | refine wpList_store _ rfl rfl 3 (.tmp 13) (.tmp 12) rfl (.pointer (some ⟨w.heap.size, 12, none⟩)) (.int .i64 (B + ((nl : Nat) : Int))) rfl rfl W3 HS3.out ?_ | refine wpList_load _ rfl 43 (.tmp 1) rfl (.pointer (some ⟨w.heap.size, 0, none⟩)) _ rfl HL3.out ?_ | refine wpList_store _ rfl rfl 43 (.tmp 2) (.tmp 14) rfl (.pointer (some ⟨w.heap.size + 1, 0, none⟩)) _ rfl rfl W4 HS4.out ?_)
  refine bodyPost_ret (rp_results rfl HB4.out _ rfl) rfl ?_
  exact ⟨HBB.out, rfl⟩
end Go.Proofs.YtcaaiihjolnkgaaGreat
