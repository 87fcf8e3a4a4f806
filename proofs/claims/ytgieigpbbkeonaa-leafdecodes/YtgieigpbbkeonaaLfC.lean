/-
  Layer 8: drawn statements of the document's May and Same.
-/
import Derived.Test.YtgieigpbbkeonaaLfB
namespace Go.Proofs.Ytgieigpbbkeonaa
open Go.RowKit

theorem Pl.unwantedU {ops : Array Oper} {n : Nat} {f : Nat → Value} (i j dj : Nat) (b : Bool) (h : (Pl.op ops i).guard = some (j, b)) (hj : (ops[j]?).bind (·.dst) = some dj) (hn : dj < n) (hv : f dj = undef) :
    ∀ A, Pl.At n A f → Region.wanted (Pl.op ops i) (yielded ops A.tmps) = false := by
  intro A hA
  have hs := hA.1
  have h1 := hA.2.2 dj hn
  have h2 : A.tmps[dj]? = some undef := by
    rw [hv] at h1
    have hlt : dj < A.tmps.size := by omega
    simp only [Array.getD, hlt, dif_pos] at h1
    rw [Array.getElem?_eq_getElem hlt]
    exact congrArg some h1
  simp [Region.wanted, h, yielded, hj, h2, undef]

theorem lssT (a c : Int) (x y : Operand) (h : a < c) (w : World) : (do eqGuard .lss 3 x y (.int .i64 a) (.int .i64 c); binOp .lss 3 (.int .i64 a) (.int .i64 c) : Sem Value).run Try.prog w = .ok (.bool true) w := by
  simp [go_sem, eqGuard]
  first | done | omega
theorem lssF (a c : Int) (x y : Operand) (h : ¬ (a < c)) (w : World) : (do eqGuard .lss 3 x y (.int .i64 a) (.int .i64 c); binOp .lss 3 (.int .i64 a) (.int .i64 c) : Sem Value).run Try.prog w = .ok (.bool false) w := by
  simp [go_sem, eqGuard]
  first | done | omega
theorem leqT (a c : Int) (x y : Operand) (h : a ≤ c) (w : World) : (do eqGuard .leq 3 x y (.int .i64 a) (.int .i64 c); binOp .leq 3 (.int .i64 a) (.int .i64 c) : Sem Value).run Try.prog w = .ok (.bool true) w := by
  simp [go_sem, eqGuard]
  first | done | omega
theorem leqF (a c : Int) (x y : Operand) (h : ¬ (a ≤ c)) (w : World) : (do eqGuard .leq 3 x y (.int .i64 a) (.int .i64 c); binOp .leq 3 (.int .i64 a) (.int .i64 c) : Sem Value).run Try.prog w = .ok (.bool false) w := by
  simp [go_sem, eqGuard]
  first | done | omega
theorem gtrT (a c : Int) (x y : Operand) (h : c < a) (w : World) : (do eqGuard .gtr 3 x y (.int .i64 a) (.int .i64 c); binOp .gtr 3 (.int .i64 a) (.int .i64 c) : Sem Value).run Try.prog w = .ok (.bool true) w := by
  simp [go_sem, eqGuard]
  first | done | omega
theorem gtrF (a c : Int) (x y : Operand) (h : ¬ (c < a)) (w : World) : (do eqGuard .gtr 3 x y (.int .i64 a) (.int .i64 c); binOp .gtr 3 (.int .i64 a) (.int .i64 c) : Sem Value).run Try.prog w = .ok (.bool false) w := by
  simp [go_sem, eqGuard]
  first | done | omega
theorem geqT (a c : Int) (x y : Operand) (h : c ≤ a) (w : World) : (do eqGuard .geq 3 x y (.int .i64 a) (.int .i64 c); binOp .geq 3 (.int .i64 a) (.int .i64 c) : Sem Value).run Try.prog w = .ok (.bool true) w := by
  simp [go_sem, eqGuard]
  first | done | omega
theorem geqF (a c : Int) (x y : Operand) (h : ¬ (c ≤ a)) (w : World) : (do eqGuard .geq 3 x y (.int .i64 a) (.int .i64 c); binOp .geq 3 (.int .i64 a) (.int .i64 c) : Sem Value).run Try.prog w = .ok (.bool false) w := by
  simp [go_sem, eqGuard]
  first | done | omega
theorem eqlT (a c : Int) (x y : Operand) (h : a = c) (w : World) : (do eqGuard .eql 3 x y (.int .i64 a) (.int .i64 c); binOp .eql 3 (.int .i64 a) (.int .i64 c) : Sem Value).run Try.prog w = .ok (.bool true) w := by
  simp [go_sem, eqGuard]
  first | done | omega
theorem eqlF (a c : Int) (x y : Operand) (h : ¬ (a = c)) (w : World) : (do eqGuard .eql 3 x y (.int .i64 a) (.int .i64 c); binOp .eql 3 (.int .i64 a) (.int .i64 c) : Sem Value).run Try.prog w = .ok (.bool false) w := by
  simp [go_sem, eqGuard]
  first | done | omega
theorem neqT (a c : Int) (x y : Operand) (h : a ≠ c) (w : World) : (do eqGuard .neq 3 x y (.int .i64 a) (.int .i64 c); binOp .neq 3 (.int .i64 a) (.int .i64 c) : Sem Value).run Try.prog w = .ok (.bool true) w := by
  simp [go_sem, eqGuard]
  first | done | omega
theorem neqF (a c : Int) (x y : Operand) (h : ¬ (a ≠ c)) (w : World) : (do eqGuard .neq 3 x y (.int .i64 a) (.int .i64 c); binOp .neq 3 (.int .i64 a) (.int .i64 c) : Sem Value).run Try.prog w = .ok (.bool false) w := by
  simp [go_sem, eqGuard]
  first | done | omega
theorem below_drew (w : World) : Below w.heap.size w w.drew := (Below.refl _ _).drew
theorem fdLf0 (p : Nat) (w : World) : (Instr.fieldAt 25 (.pointer (some ⟨p, 0, none⟩)) 0).run Try.prog w = .ok (.pointer (some ⟨p, 0, none⟩)) w := by simp [go_sem, Instr.fieldAt]
theorem fdLf1 (p : Nat) (w : World) : (Instr.fieldAt 25 (.pointer (some ⟨p, 0, none⟩)) 1).run Try.prog w = .ok (.pointer (some ⟨p, 1, none⟩)) w := by simp [go_sem, Instr.fieldAt]
theorem ixI1 (b o len cap k : Nat) (hk : k < len) (w : World) : (Instr.indexAt 22 (.slice (some ⟨b, o, none⟩) len cap) (.int .i64 ((k : Nat) : Int))).run Try.prog w = .ok (.pointer (some ⟨b, o + k, none⟩)) w := by
  have h2 : ((k : Nat) : Int) < ((len : Nat) : Int) := by omega
  simp [go_sem, Instr.indexAt, hk, Addr.add_lit]
theorem ixB1 (b o len cap k : Nat) (hk : k < len) (w : World) : (Instr.indexAt 23 (.slice (some ⟨b, o, none⟩) len cap) (.int .i64 ((k : Nat) : Int))).run Try.prog w = .ok (.pointer (some ⟨b, o + k, none⟩)) w := by
  have h2 : ((k : Nat) : Int) < ((len : Nat) : Int) := by omega
  simp [go_sem, Instr.indexAt, hk, Addr.add_lit]
theorem ldI1 (b o : Nat) (x : Int) (w : World) (h : w.cell? ⟨b, o, none⟩ = some (.int .i64 x)) : (Instr.loadAt 3 (.pointer (some ⟨b, o, none⟩))).run Try.prog w = .ok (.int .i64 x) w := by
  simp [go_sem, Instr.loadAt, h]
theorem ldS1 (b o : Nat) (s : Sl) (w : World) (h : w.cell? ⟨b, o, none⟩ = some s.val) : (Instr.loadAt 28 (.pointer (some ⟨b, o, none⟩))).run Try.prog w = .ok s.val w := by
  obtain ⟨a, len, cap⟩ := s
  unfold Sl.val at *
  simp [go_sem, Instr.loadAt, h]
theorem ldLf0 (p : Nat) (u : Sl) (v : Value) (w : World) (k : LfBlk w p u.val v) : (Instr.loadAt 22 (.pointer (some ⟨p, 0, none⟩))).run Try.prog w = .ok u.val w := by
  have c0 := k.c0
  obtain ⟨a, len, cap⟩ := u
  unfold Sl.val at *
  simp [go_sem, Instr.loadAt, c0]
theorem ldLf1 (p : Nat) (u : Value) (v : Sl) (w : World) (k : LfBlk w p u v.val) : (Instr.loadAt 23 (.pointer (some ⟨p, 1, none⟩))).run Try.prog w = .ok v.val w := by
  have c1 := k.c1
  obtain ⟨a, len, cap⟩ := v
  unfold Sl.val at *
  simp [go_sem, Instr.loadAt, c1]
theorem cell_below {w w' : World} {b o : Nat} {u : Value} (h : w.cell? ⟨b, o, none⟩ = some u) (hb : Below w.heap.size w w') : w'.cell? ⟨b, o, none⟩ = some u := (hb.cell (p := ⟨b, o, none⟩) (World.block_lt_of_cell? w _ h)).trans h

set_option maxHeartbeats 2000000 in
set_option maxRecDepth 100000 in
theorem may11A (w : World) (g b o len cap i k : Nat) (v : Value) (x : Int) (hk : k < len) (hg : LfBlk w g (.slice (some ⟨b, o, none⟩) len cap) v) (hx : w.cell? ⟨b, o + k, none⟩ = some (.int .i64 x)) (h0 : ¬ (x ≠ 0))
    {Q : Exit → Act → World → Prop} {A : Act} (hsz : A.tmps.size = 92) (hdf : A.defers = []) (s1 : A.tmps.getD 1 undef = .pointer (some ⟨g, 0, none⟩)) (s3 : A.tmps.getD 3 undef = .int .i64 ((i : Nat) : Int)) (s4 : A.tmps.getD 4 undef = .int .i64 ((k : Nat) : Int))
    (hend : ∀ (u : Nat → Value) w', Below w.heap.size w w' → Q .normal ((((((((((((((((((((A).put (some 39) (u 39)).put (some 40) (u 40)).put (some 41) (u 41)).put (some 42) (u 42)).put (some 43) (u 43)).put (some 44) (u 44)).put (some 45) (u 45)).put (some 46) (u 46)).put (some 47) (u 47)).put (some 48) (u 48)).put (some 49) (u 49)).put (some 50) (u 50)).put (some 51) (u 51)).put (some 52) (u 52)).put (some 53) (u 53)).put (some 54) (u 54)).put (some 55) (u 55)).put (some 56) (u 56)).put (some 57) (.bool false)) w') :
    (Code.region 11 (Pl.find 11 ((Try.f11.body).getD .skip)) true).wp Try.prog Q A w := by
  have hA := Pl.At.same (v := .int .i64 ((k : Nat) : Int)) (d := 4) (Pl.At.same (v := .int .i64 ((i : Nat) : Int)) (d := 3) (Pl.At.same (v := .pointer (some ⟨g, 0, none⟩)) (d := 1) (Pl.At.here hsz hdf) s1) s3) s4
  refine Pl.H.start (S := (fun w' => Below w.heap.size w w')) (by kernel_rfl) hA (below_drew w) ?_
  rw [show (Pl.find 11 ((Try.f11.body).getD .skip)).size = 19 by kernel_rfl]
  refine Pl.H.take 0 39 (.pointer (some ⟨g, 0, none⟩)) (by kernel_rfl) (by kernel_rfl) (by kernel_rfl) (Pl.free 0 (by kernel_rfl)) (Pl.field 0 25 (.tmp 1) 0 _ (by kernel_rfl) (by decide) (fdLf0 g)) (below_drew w) ?_
  refine Pl.H.take 1 40 (.slice (some ⟨b, o, none⟩) len cap) (by kernel_rfl) (by kernel_rfl) (by kernel_rfl) (Pl.free 1 (by kernel_rfl)) (Pl.load 1 22 (.tmp 39) _ (by kernel_rfl) (by decide) (fun w' hS => ldLf0 g ⟨some ⟨b, o, none⟩, len, cap⟩ v w' (hg.below hS))) (below_drew w) ?_
  refine Pl.H.take 2 41 (.int .i64 ((k : Nat) : Int)) (by kernel_rfl) (by kernel_rfl) (by kernel_rfl) (Pl.free 2 (by kernel_rfl)) (Pl.move 2 (.tmp 4) (by kernel_rfl) (by decide)) (below_drew w) ?_
  refine Pl.H.take 3 42 (.pointer (some ⟨b, o + k, none⟩)) (by kernel_rfl) (by kernel_rfl) (by kernel_rfl) (Pl.free 3 (by kernel_rfl)) (Pl.index 3 22 (.tmp 40) (.tmp 41) _ (by kernel_rfl) (by decide) (by decide) (ixI1 b o len cap k hk)) (below_drew w) ?_
  refine Pl.H.take 4 43 (.int .i64 x) (by kernel_rfl) (by kernel_rfl) (by kernel_rfl) (Pl.free 4 (by kernel_rfl)) (Pl.load 4 3 (.tmp 42) _ (by kernel_rfl) (by decide) (fun w' hS => ldI1 b (o + k) x w' (cell_below hx hS))) (below_drew w) ?_
  refine Pl.H.take 5 44 (.bool false) (by kernel_rfl) (by kernel_rfl) (by kernel_rfl) (Pl.free 5 (by kernel_rfl)) (Pl.binV 5 .neq 3 3 (.tmp 43) (.const (.int .i64 0)) (.int .i64 x) (.int .i64 0) _ (by kernel_rfl) (by decide) (by decide) rfl rfl (neqF x 0 _ _ h0)) (below_drew w) ?_
  refine Pl.H.take 6 45 (.bool false) (by kernel_rfl) (by kernel_rfl) (by kernel_rfl) (Pl.free 6 (by kernel_rfl)) (Pl.move 6 (.tmp 44) (by kernel_rfl) (by decide)) (below_drew w) ?_
  refine Pl.H.skip 7 46 (by kernel_rfl) (by kernel_rfl) (by kernel_rfl) (Pl.unwanted 7 6 45 true (by kernel_rfl) (by kernel_rfl) (by decide) rfl) (below_drew w) ?_
  refine Pl.H.skip 8 47 (by kernel_rfl) (by kernel_rfl) (by kernel_rfl) (Pl.unwanted 8 6 45 true (by kernel_rfl) (by kernel_rfl) (by decide) rfl) (below_drew w) ?_
  refine Pl.H.skip 9 48 (by kernel_rfl) (by kernel_rfl) (by kernel_rfl) (Pl.unwanted 9 6 45 true (by kernel_rfl) (by kernel_rfl) (by decide) rfl) (below_drew w) ?_
  refine Pl.H.skip 10 49 (by kernel_rfl) (by kernel_rfl) (by kernel_rfl) (Pl.unwanted 10 6 45 true (by kernel_rfl) (by kernel_rfl) (by decide) rfl) (below_drew w) ?_
  refine Pl.H.skip 11 50 (by kernel_rfl) (by kernel_rfl) (by kernel_rfl) (Pl.unwanted 11 6 45 true (by kernel_rfl) (by kernel_rfl) (by decide) rfl) (below_drew w) ?_
  refine Pl.H.skip 12 51 (by kernel_rfl) (by kernel_rfl) (by kernel_rfl) (Pl.unwanted 12 6 45 true (by kernel_rfl) (by kernel_rfl) (by decide) rfl) (below_drew w) ?_
  refine Pl.H.skip 13 52 (by kernel_rfl) (by kernel_rfl) (by kernel_rfl) (Pl.unwanted 13 6 45 true (by kernel_rfl) (by kernel_rfl) (by decide) rfl) (below_drew w) ?_
  refine Pl.H.skip 14 53 (by kernel_rfl) (by kernel_rfl) (by kernel_rfl) (Pl.unwanted 14 6 45 true (by kernel_rfl) (by kernel_rfl) (by decide) rfl) (below_drew w) ?_
  refine Pl.H.skip 15 54 (by kernel_rfl) (by kernel_rfl) (by kernel_rfl) (Pl.unwanted 15 6 45 true (by kernel_rfl) (by kernel_rfl) (by decide) rfl) (below_drew w) ?_
  refine Pl.H.skip 16 55 (by kernel_rfl) (by kernel_rfl) (by kernel_rfl) (Pl.unwanted 16 6 45 true (by kernel_rfl) (by kernel_rfl) (by decide) rfl) (below_drew w) ?_
  refine Pl.H.skip 17 56 (by kernel_rfl) (by kernel_rfl) (by kernel_rfl) (Pl.unwanted 17 6 45 true (by kernel_rfl) (by kernel_rfl) (by decide) rfl) (below_drew w) ?_
  refine Pl.H.take 18 57 (.bool false) (by kernel_rfl) (by kernel_rfl) (by kernel_rfl) (Pl.free 18 (by kernel_rfl)) (Pl.pickF 18 (.tmp 45) (.tmp 56) (.const (.bool false)) (by kernel_rfl) (by decide) (by decide) rfl) (below_drew w) ?_
  refine Pl.H.done (by kernel_rfl) (fun A' hA' => ?_)
  rw [Pl.At.ext hA' (((((((((((((((((((hA.put 39 _).put 40 _).put 41 _).put 42 _).put 43 _).put 44 _).put 45 _).put 46 _).put 47 _).put 48 _).put 49 _).put 50 _).put 51 _).put 52 _).put 53 _).put 54 _).put 55 _).put 56 _).put 57 _)]
  exact hend (fun d => if d = 39 then .pointer (some ⟨g, 0, none⟩) else if d = 40 then .slice (some ⟨b, o, none⟩) len cap else if d = 41 then .int .i64 ((k : Nat) : Int) else if d = 42 then .pointer (some ⟨b, o + k, none⟩) else if d = 43 then .int .i64 x else if d = 44 then .bool false else if d = 45 then .bool false else if d = 46 then undef else if d = 47 then undef else if d = 48 then undef else if d = 49 then undef else if d = 50 then undef else if d = 51 then undef else if d = 52 then undef else if d = 53 then undef else if d = 54 then undef else if d = 55 then undef else if d = 56 then undef else undef) _ (below_drew w)

set_option maxHeartbeats 2000000 in
set_option maxRecDepth 100000 in
theorem may11B (w : World) (g b o len cap i k : Nat) (v : Value) (x y : Int) (hi : i < len) (hk : k < len) (hg : LfBlk w g (.slice (some ⟨b, o, none⟩) len cap) v) (hx : w.cell? ⟨b, o + k, none⟩ = some (.int .i64 x)) (hy : w.cell? ⟨b, o + i, none⟩ = some (.int .i64 y)) (h0 : x ≠ 0) (h1 : x = y)
    {Q : Exit → Act → World → Prop} {A : Act} (hsz : A.tmps.size = 92) (hdf : A.defers = []) (s1 : A.tmps.getD 1 undef = .pointer (some ⟨g, 0, none⟩)) (s3 : A.tmps.getD 3 undef = .int .i64 ((i : Nat) : Int)) (s4 : A.tmps.getD 4 undef = .int .i64 ((k : Nat) : Int))
    (hend : ∀ (u : Nat → Value) w', Below w.heap.size w w' → Q .normal ((((((((((((((((((((A).put (some 39) (u 39)).put (some 40) (u 40)).put (some 41) (u 41)).put (some 42) (u 42)).put (some 43) (u 43)).put (some 44) (u 44)).put (some 45) (u 45)).put (some 46) (u 46)).put (some 47) (u 47)).put (some 48) (u 48)).put (some 49) (u 49)).put (some 50) (u 50)).put (some 51) (u 51)).put (some 52) (u 52)).put (some 53) (u 53)).put (some 54) (u 54)).put (some 55) (u 55)).put (some 56) (u 56)).put (some 57) (.bool true)) w') :
    (Code.region 11 (Pl.find 11 ((Try.f11.body).getD .skip)) true).wp Try.prog Q A w := by
  have hA := Pl.At.same (v := .int .i64 ((k : Nat) : Int)) (d := 4) (Pl.At.same (v := .int .i64 ((i : Nat) : Int)) (d := 3) (Pl.At.same (v := .pointer (some ⟨g, 0, none⟩)) (d := 1) (Pl.At.here hsz hdf) s1) s3) s4
  refine Pl.H.start (S := (fun w' => Below w.heap.size w w')) (by kernel_rfl) hA (below_drew w) ?_
  rw [show (Pl.find 11 ((Try.f11.body).getD .skip)).size = 19 by kernel_rfl]
  refine Pl.H.take 0 39 (.pointer (some ⟨g, 0, none⟩)) (by kernel_rfl) (by kernel_rfl) (by kernel_rfl) (Pl.free 0 (by kernel_rfl)) (Pl.field 0 25 (.tmp 1) 0 _ (by kernel_rfl) (by decide) (fdLf0 g)) (below_drew w) ?_
  refine Pl.H.take 1 40 (.slice (some ⟨b, o, none⟩) len cap) (by kernel_rfl) (by kernel_rfl) (by kernel_rfl) (Pl.free 1 (by kernel_rfl)) (Pl.load 1 22 (.tmp 39) _ (by kernel_rfl) (by decide) (fun w' hS => ldLf0 g ⟨some ⟨b, o, none⟩, len, cap⟩ v w' (hg.below hS))) (below_drew w) ?_
  refine Pl.H.take 2 41 (.int .i64 ((k : Nat) : Int)) (by kernel_rfl) (by kernel_rfl) (by kernel_rfl) (Pl.free 2 (by kernel_rfl)) (Pl.move 2 (.tmp 4) (by kernel_rfl) (by decide)) (below_drew w) ?_
  refine Pl.H.take 3 42 (.pointer (some ⟨b, o + k, none⟩)) (by kernel_rfl) (by kernel_rfl) (by kernel_rfl) (Pl.free 3 (by kernel_rfl)) (Pl.index 3 22 (.tmp 40) (.tmp 41) _ (by kernel_rfl) (by decide) (by decide) (ixI1 b o len cap k hk)) (below_drew w) ?_
  refine Pl.H.take 4 43 (.int .i64 x) (by kernel_rfl) (by kernel_rfl) (by kernel_rfl) (Pl.free 4 (by kernel_rfl)) (Pl.load 4 3 (.tmp 42) _ (by kernel_rfl) (by decide) (fun w' hS => ldI1 b (o + k) x w' (cell_below hx hS))) (below_drew w) ?_
  refine Pl.H.take 5 44 (.bool true) (by kernel_rfl) (by kernel_rfl) (by kernel_rfl) (Pl.free 5 (by kernel_rfl)) (Pl.binV 5 .neq 3 3 (.tmp 43) (.const (.int .i64 0)) (.int .i64 x) (.int .i64 0) _ (by kernel_rfl) (by decide) (by decide) rfl rfl (neqT x 0 _ _ h0)) (below_drew w) ?_
  refine Pl.H.take 6 45 (.bool true) (by kernel_rfl) (by kernel_rfl) (by kernel_rfl) (Pl.free 6 (by kernel_rfl)) (Pl.move 6 (.tmp 44) (by kernel_rfl) (by decide)) (below_drew w) ?_
  refine Pl.H.take 7 46 (.pointer (some ⟨g, 0, none⟩)) (by kernel_rfl) (by kernel_rfl) (by kernel_rfl) (Pl.guarded 7 6 45 true (by kernel_rfl) (by kernel_rfl) (by decide) rfl) (Pl.field 7 25 (.tmp 1) 0 _ (by kernel_rfl) (by decide) (fdLf0 g)) (below_drew w) ?_
  refine Pl.H.take 8 47 (.slice (some ⟨b, o, none⟩) len cap) (by kernel_rfl) (by kernel_rfl) (by kernel_rfl) (Pl.guarded 8 6 45 true (by kernel_rfl) (by kernel_rfl) (by decide) rfl) (Pl.load 8 22 (.tmp 46) _ (by kernel_rfl) (by decide) (fun w' hS => ldLf0 g ⟨some ⟨b, o, none⟩, len, cap⟩ v w' (hg.below hS))) (below_drew w) ?_
  refine Pl.H.take 9 48 (.int .i64 ((k : Nat) : Int)) (by kernel_rfl) (by kernel_rfl) (by kernel_rfl) (Pl.guarded 9 6 45 true (by kernel_rfl) (by kernel_rfl) (by decide) rfl) (Pl.move 9 (.tmp 4) (by kernel_rfl) (by decide)) (below_drew w) ?_
  refine Pl.H.take 10 49 (.pointer (some ⟨b, o + k, none⟩)) (by kernel_rfl) (by kernel_rfl) (by kernel_rfl) (Pl.guarded 10 6 45 true (by kernel_rfl) (by kernel_rfl) (by decide) rfl) (Pl.index 10 22 (.tmp 47) (.tmp 48) _ (by kernel_rfl) (by decide) (by decide) (ixI1 b o len cap k hk)) (below_drew w) ?_
  refine Pl.H.take 11 50 (.int .i64 x) (by kernel_rfl) (by kernel_rfl) (by kernel_rfl) (Pl.guarded 11 6 45 true (by kernel_rfl) (by kernel_rfl) (by decide) rfl) (Pl.load 11 3 (.tmp 49) _ (by kernel_rfl) (by decide) (fun w' hS => ldI1 b (o + k) x w' (cell_below hx hS))) (below_drew w) ?_
  refine Pl.H.take 12 51 (.pointer (some ⟨g, 0, none⟩)) (by kernel_rfl) (by kernel_rfl) (by kernel_rfl) (Pl.guarded 12 6 45 true (by kernel_rfl) (by kernel_rfl) (by decide) rfl) (Pl.field 12 25 (.tmp 1) 0 _ (by kernel_rfl) (by decide) (fdLf0 g)) (below_drew w) ?_
  refine Pl.H.take 13 52 (.slice (some ⟨b, o, none⟩) len cap) (by kernel_rfl) (by kernel_rfl) (by kernel_rfl) (Pl.guarded 13 6 45 true (by kernel_rfl) (by kernel_rfl) (by decide) rfl) (Pl.load 13 22 (.tmp 51) _ (by kernel_rfl) (by decide) (fun w' hS => ldLf0 g ⟨some ⟨b, o, none⟩, len, cap⟩ v w' (hg.below hS))) (below_drew w) ?_
  refine Pl.H.take 14 53 (.int .i64 ((i : Nat) : Int)) (by kernel_rfl) (by kernel_rfl) (by kernel_rfl) (Pl.guarded 14 6 45 true (by kernel_rfl) (by kernel_rfl) (by decide) rfl) (Pl.move 14 (.tmp 3) (by kernel_rfl) (by decide)) (below_drew w) ?_
  refine Pl.H.take 15 54 (.pointer (some ⟨b, o + i, none⟩)) (by kernel_rfl) (by kernel_rfl) (by kernel_rfl) (Pl.guarded 15 6 45 true (by kernel_rfl) (by kernel_rfl) (by decide) rfl) (Pl.index 15 22 (.tmp 52) (.tmp 53) _ (by kernel_rfl) (by decide) (by decide) (ixI1 b o len cap i hi)) (below_drew w) ?_
  refine Pl.H.take 16 55 (.int .i64 y) (by kernel_rfl) (by kernel_rfl) (by kernel_rfl) (Pl.guarded 16 6 45 true (by kernel_rfl) (by kernel_rfl) (by decide) rfl) (Pl.load 16 3 (.tmp 54) _ (by kernel_rfl) (by decide) (fun w' hS => ldI1 b (o + i) y w' (cell_below hy hS))) (below_drew w) ?_
  refine Pl.H.take 17 56 (.bool true) (by kernel_rfl) (by kernel_rfl) (by kernel_rfl) (Pl.guarded 17 6 45 true (by kernel_rfl) (by kernel_rfl) (by decide) rfl) (Pl.binV 17 .eql 3 3 (.tmp 50) (.tmp 55) (.int .i64 x) (.int .i64 y) _ (by kernel_rfl) (by decide) (by decide) rfl rfl (eqlT x y _ _ h1)) (below_drew w) ?_
  refine Pl.H.take 18 57 (.bool true) (by kernel_rfl) (by kernel_rfl) (by kernel_rfl) (Pl.free 18 (by kernel_rfl)) (Pl.pick 18 (.tmp 45) (.tmp 56) (.const (.bool false)) (by kernel_rfl) (by decide) (by decide) rfl) (below_drew w) ?_
  refine Pl.H.done (by kernel_rfl) (fun A' hA' => ?_)
  rw [Pl.At.ext hA' (((((((((((((((((((hA.put 39 _).put 40 _).put 41 _).put 42 _).put 43 _).put 44 _).put 45 _).put 46 _).put 47 _).put 48 _).put 49 _).put 50 _).put 51 _).put 52 _).put 53 _).put 54 _).put 55 _).put 56 _).put 57 _)]
  exact hend (fun d => if d = 39 then .pointer (some ⟨g, 0, none⟩) else if d = 40 then .slice (some ⟨b, o, none⟩) len cap else if d = 41 then .int .i64 ((k : Nat) : Int) else if d = 42 then .pointer (some ⟨b, o + k, none⟩) else if d = 43 then .int .i64 x else if d = 44 then .bool true else if d = 45 then .bool true else if d = 46 then .pointer (some ⟨g, 0, none⟩) else if d = 47 then .slice (some ⟨b, o, none⟩) len cap else if d = 48 then .int .i64 ((k : Nat) : Int) else if d = 49 then .pointer (some ⟨b, o + k, none⟩) else if d = 50 then .int .i64 x else if d = 51 then .pointer (some ⟨g, 0, none⟩) else if d = 52 then .slice (some ⟨b, o, none⟩) len cap else if d = 53 then .int .i64 ((i : Nat) : Int) else if d = 54 then .pointer (some ⟨b, o + i, none⟩) else if d = 55 then .int .i64 y else if d = 56 then .bool true else undef) _ (below_drew w)

set_option maxHeartbeats 2000000 in
set_option maxRecDepth 100000 in
theorem may11C (w : World) (g b o len cap i k : Nat) (v : Value) (x y : Int) (hi : i < len) (hk : k < len) (hg : LfBlk w g (.slice (some ⟨b, o, none⟩) len cap) v) (hx : w.cell? ⟨b, o + k, none⟩ = some (.int .i64 x)) (hy : w.cell? ⟨b, o + i, none⟩ = some (.int .i64 y)) (h0 : x ≠ 0) (h1 : ¬ (x = y))
    {Q : Exit → Act → World → Prop} {A : Act} (hsz : A.tmps.size = 92) (hdf : A.defers = []) (s1 : A.tmps.getD 1 undef = .pointer (some ⟨g, 0, none⟩)) (s3 : A.tmps.getD 3 undef = .int .i64 ((i : Nat) : Int)) (s4 : A.tmps.getD 4 undef = .int .i64 ((k : Nat) : Int))
    (hend : ∀ (u : Nat → Value) w', Below w.heap.size w w' → Q .normal ((((((((((((((((((((A).put (some 39) (u 39)).put (some 40) (u 40)).put (some 41) (u 41)).put (some 42) (u 42)).put (some 43) (u 43)).put (some 44) (u 44)).put (some 45) (u 45)).put (some 46) (u 46)).put (some 47) (u 47)).put (some 48) (u 48)).put (some 49) (u 49)).put (some 50) (u 50)).put (some 51) (u 51)).put (some 52) (u 52)).put (some 53) (u 53)).put (some 54) (u 54)).put (some 55) (u 55)).put (some 56) (u 56)).put (some 57) (.bool false)) w') :
    (Code.region 11 (Pl.find 11 ((Try.f11.body).getD .skip)) true).wp Try.prog Q A w := by
  have hA := Pl.At.same (v := .int .i64 ((k : Nat) : Int)) (d := 4) (Pl.At.same (v := .int .i64 ((i : Nat) : Int)) (d := 3) (Pl.At.same (v := .pointer (some ⟨g, 0, none⟩)) (d := 1) (Pl.At.here hsz hdf) s1) s3) s4
  refine Pl.H.start (S := (fun w' => Below w.heap.size w w')) (by kernel_rfl) hA (below_drew w) ?_
  rw [show (Pl.find 11 ((Try.f11.body).getD .skip)).size = 19 by kernel_rfl]
  refine Pl.H.take 0 39 (.pointer (some ⟨g, 0, none⟩)) (by kernel_rfl) (by kernel_rfl) (by kernel_rfl) (Pl.free 0 (by kernel_rfl)) (Pl.field 0 25 (.tmp 1) 0 _ (by kernel_rfl) (by decide) (fdLf0 g)) (below_drew w) ?_
  refine Pl.H.take 1 40 (.slice (some ⟨b, o, none⟩) len cap) (by kernel_rfl) (by kernel_rfl) (by kernel_rfl) (Pl.free 1 (by kernel_rfl)) (Pl.load 1 22 (.tmp 39) _ (by kernel_rfl) (by decide) (fun w' hS => ldLf0 g ⟨some ⟨b, o, none⟩, len, cap⟩ v w' (hg.below hS))) (below_drew w) ?_
  refine Pl.H.take 2 41 (.int .i64 ((k : Nat) : Int)) (by kernel_rfl) (by kernel_rfl) (by kernel_rfl) (Pl.free 2 (by kernel_rfl)) (Pl.move 2 (.tmp 4) (by kernel_rfl) (by decide)) (below_drew w) ?_
  refine Pl.H.take 3 42 (.pointer (some ⟨b, o + k, none⟩)) (by kernel_rfl) (by kernel_rfl) (by kernel_rfl) (Pl.free 3 (by kernel_rfl)) (Pl.index 3 22 (.tmp 40) (.tmp 41) _ (by kernel_rfl) (by decide) (by decide) (ixI1 b o len cap k hk)) (below_drew w) ?_
  refine Pl.H.take 4 43 (.int .i64 x) (by kernel_rfl) (by kernel_rfl) (by kernel_rfl) (Pl.free 4 (by kernel_rfl)) (Pl.load 4 3 (.tmp 42) _ (by kernel_rfl) (by decide) (fun w' hS => ldI1 b (o + k) x w' (cell_below hx hS))) (below_drew w) ?_
  refine Pl.H.take 5 44 (.bool true) (by kernel_rfl) (by kernel_rfl) (by kernel_rfl) (Pl.free 5 (by kernel_rfl)) (Pl.binV 5 .neq 3 3 (.tmp 43) (.const (.int .i64 0)) (.int .i64 x) (.int .i64 0) _ (by kernel_rfl) (by decide) (by decide) rfl rfl (neqT x 0 _ _ h0)) (below_drew w) ?_
  refine Pl.H.take 6 45 (.bool true) (by kernel_rfl) (by kernel_rfl) (by kernel_rfl) (Pl.free 6 (by kernel_rfl)) (Pl.move 6 (.tmp 44) (by kernel_rfl) (by decide)) (below_drew w) ?_
  refine Pl.H.take 7 46 (.pointer (some ⟨g, 0, none⟩)) (by kernel_rfl) (by kernel_rfl) (by kernel_rfl) (Pl.guarded 7 6 45 true (by kernel_rfl) (by kernel_rfl) (by decide) rfl) (Pl.field 7 25 (.tmp 1) 0 _ (by kernel_rfl) (by decide) (fdLf0 g)) (below_drew w) ?_
  refine Pl.H.take 8 47 (.slice (some ⟨b, o, none⟩) len cap) (by kernel_rfl) (by kernel_rfl) (by kernel_rfl) (Pl.guarded 8 6 45 true (by kernel_rfl) (by kernel_rfl) (by decide) rfl) (Pl.load 8 22 (.tmp 46) _ (by kernel_rfl) (by decide) (fun w' hS => ldLf0 g ⟨some ⟨b, o, none⟩, len, cap⟩ v w' (hg.below hS))) (below_drew w) ?_
  refine Pl.H.take 9 48 (.int .i64 ((k : Nat) : Int)) (by kernel_rfl) (by kernel_rfl) (by kernel_rfl) (Pl.guarded 9 6 45 true (by kernel_rfl) (by kernel_rfl) (by decide) rfl) (Pl.move 9 (.tmp 4) (by kernel_rfl) (by decide)) (below_drew w) ?_
  refine Pl.H.take 10 49 (.pointer (some ⟨b, o + k, none⟩)) (by kernel_rfl) (by kernel_rfl) (by kernel_rfl) (Pl.guarded 10 6 45 true (by kernel_rfl) (by kernel_rfl) (by decide) rfl) (Pl.index 10 22 (.tmp 47) (.tmp 48) _ (by kernel_rfl) (by decide) (by decide) (ixI1 b o len cap k hk)) (below_drew w) ?_
  refine Pl.H.take 11 50 (.int .i64 x) (by kernel_rfl) (by kernel_rfl) (by kernel_rfl) (Pl.guarded 11 6 45 true (by kernel_rfl) (by kernel_rfl) (by decide) rfl) (Pl.load 11 3 (.tmp 49) _ (by kernel_rfl) (by decide) (fun w' hS => ldI1 b (o + k) x w' (cell_below hx hS))) (below_drew w) ?_
  refine Pl.H.take 12 51 (.pointer (some ⟨g, 0, none⟩)) (by kernel_rfl) (by kernel_rfl) (by kernel_rfl) (Pl.guarded 12 6 45 true (by kernel_rfl) (by kernel_rfl) (by decide) rfl) (Pl.field 12 25 (.tmp 1) 0 _ (by kernel_rfl) (by decide) (fdLf0 g)) (below_drew w) ?_
  refine Pl.H.take 13 52 (.slice (some ⟨b, o, none⟩) len cap) (by kernel_rfl) (by kernel_rfl) (by kernel_rfl) (Pl.guarded 13 6 45 true (by kernel_rfl) (by kernel_rfl) (by decide) rfl) (Pl.load 13 22 (.tmp 51) _ (by kernel_rfl) (by decide) (fun w' hS => ldLf0 g ⟨some ⟨b, o, none⟩, len, cap⟩ v w' (hg.below hS))) (below_drew w) ?_
  refine Pl.H.take 14 53 (.int .i64 ((i : Nat) : Int)) (by kernel_rfl) (by kernel_rfl) (by kernel_rfl) (Pl.guarded 14 6 45 true (by kernel_rfl) (by kernel_rfl) (by decide) rfl) (Pl.move 14 (.tmp 3) (by kernel_rfl) (by decide)) (below_drew w) ?_
  refine Pl.H.take 15 54 (.pointer (some ⟨b, o + i, none⟩)) (by kernel_rfl) (by kernel_rfl) (by kernel_rfl) (Pl.guarded 15 6 45 true (by kernel_rfl) (by kernel_rfl) (by decide) rfl) (Pl.index 15 22 (.tmp 52) (.tmp 53) _ (by kernel_rfl) (by decide) (by decide) (ixI1 b o len cap i hi)) (below_drew w) ?_
  refine Pl.H.take 16 55 (.int .i64 y) (by kernel_rfl) (by kernel_rfl) (by kernel_rfl) (Pl.guarded 16 6 45 true (by kernel_rfl) (by kernel_rfl) (by decide) rfl) (Pl.load 16 3 (.tmp 54) _ (by kernel_rfl) (by decide) (fun w' hS => ldI1 b (o + i) y w' (cell_below hy hS))) (below_drew w) ?_
  refine Pl.H.take 17 56 (.bool false) (by kernel_rfl) (by kernel_rfl) (by kernel_rfl) (Pl.guarded 17 6 45 true (by kernel_rfl) (by kernel_rfl) (by decide) rfl) (Pl.binV 17 .eql 3 3 (.tmp 50) (.tmp 55) (.int .i64 x) (.int .i64 y) _ (by kernel_rfl) (by decide) (by decide) rfl rfl (eqlF x y _ _ h1)) (below_drew w) ?_
  refine Pl.H.take 18 57 (.bool false) (by kernel_rfl) (by kernel_rfl) (by kernel_rfl) (Pl.free 18 (by kernel_rfl)) (Pl.pick 18 (.tmp 45) (.tmp 56) (.const (.bool false)) (by kernel_rfl) (by decide) (by decide) rfl) (below_drew w) ?_
  refine Pl.H.done (by kernel_rfl) (fun A' hA' => ?_)
  rw [Pl.At.ext hA' (((((((((((((((((((hA.put 39 _).put 40 _).put 41 _).put 42 _).put 43 _).put 44 _).put 45 _).put 46 _).put 47 _).put 48 _).put 49 _).put 50 _).put 51 _).put 52 _).put 53 _).put 54 _).put 55 _).put 56 _).put 57 _)]
  exact hend (fun d => if d = 39 then .pointer (some ⟨g, 0, none⟩) else if d = 40 then .slice (some ⟨b, o, none⟩) len cap else if d = 41 then .int .i64 ((k : Nat) : Int) else if d = 42 then .pointer (some ⟨b, o + k, none⟩) else if d = 43 then .int .i64 x else if d = 44 then .bool true else if d = 45 then .bool true else if d = 46 then .pointer (some ⟨g, 0, none⟩) else if d = 47 then .slice (some ⟨b, o, none⟩) len cap else if d = 48 then .int .i64 ((k : Nat) : Int) else if d = 49 then .pointer (some ⟨b, o + k, none⟩) else if d = 50 then .int .i64 x else if d = 51 then .pointer (some ⟨g, 0, none⟩) else if d = 52 then .slice (some ⟨b, o, none⟩) len cap else if d = 53 then .int .i64 ((i : Nat) : Int) else if d = 54 then .pointer (some ⟨b, o + i, none⟩) else if d = 55 then .int .i64 y else if d = 56 then .bool false else undef) _ (below_drew w)

set_option maxHeartbeats 2000000 in
set_option maxRecDepth 100000 in
theorem lsame6E (w : World) (g g2 b o len cap b2 o2 len2 cap2 i : Nat) (v v2 : Value) (x y : Int) (hi : i < len) (hi2 : i < len2) (hg : LfBlk w g (.slice (some ⟨b, o, none⟩) len cap) v) (hg2 : LfBlk w g2 (.slice (some ⟨b2, o2, none⟩) len2 cap2) v2) (hx : w.cell? ⟨b, o + i, none⟩ = some (.int .i64 x)) (hy : w.cell? ⟨b2, o2 + i, none⟩ = some (.int .i64 y)) (h0 : ¬ (x ≠ y))
    {Q : Exit → Act → World → Prop} {A : Act} (hsz : A.tmps.size = 61) (hdf : A.defers = []) (s2 : A.tmps.getD 2 undef = .pointer (some ⟨g, 0, none⟩)) (s3 : A.tmps.getD 3 undef = .pointer (some ⟨g2, 0, none⟩)) (s5 : A.tmps.getD 5 undef = .int .i64 ((i : Nat) : Int))
    (hend : ∀ (u : Nat → Value) w', Below w.heap.size w w' → Q .normal ((((((((((((A).put (some 30) (u 30)).put (some 31) (u 31)).put (some 32) (u 32)).put (some 33) (u 33)).put (some 34) (u 34)).put (some 35) (u 35)).put (some 36) (u 36)).put (some 37) (u 37)).put (some 38) (u 38)).put (some 39) (u 39)).put (some 40) (.bool false)) w') :
    (Code.region 6 (Pl.find 6 ((Try.f17.body).getD .skip)) true).wp Try.prog Q A w := by
  have hA := Pl.At.same (v := .int .i64 ((i : Nat) : Int)) (d := 5) (Pl.At.same (v := .pointer (some ⟨g2, 0, none⟩)) (d := 3) (Pl.At.same (v := .pointer (some ⟨g, 0, none⟩)) (d := 2) (Pl.At.here hsz hdf) s2) s3) s5
  refine Pl.H.start (S := (fun w' => Below w.heap.size w w')) (by kernel_rfl) hA (below_drew w) ?_
  rw [show (Pl.find 6 ((Try.f17.body).getD .skip)).size = 11 by kernel_rfl]
  refine Pl.H.take 0 30 (.pointer (some ⟨g, 0, none⟩)) (by kernel_rfl) (by kernel_rfl) (by kernel_rfl) (Pl.free 0 (by kernel_rfl)) (Pl.field 0 25 (.tmp 2) 0 _ (by kernel_rfl) (by decide) (fdLf0 g)) (below_drew w) ?_
  refine Pl.H.take 1 31 (.slice (some ⟨b, o, none⟩) len cap) (by kernel_rfl) (by kernel_rfl) (by kernel_rfl) (Pl.free 1 (by kernel_rfl)) (Pl.load 1 22 (.tmp 30) _ (by kernel_rfl) (by decide) (fun w' hS => ldLf0 g ⟨some ⟨b, o, none⟩, len, cap⟩ v w' (hg.below hS))) (below_drew w) ?_
  refine Pl.H.take 2 32 (.int .i64 ((i : Nat) : Int)) (by kernel_rfl) (by kernel_rfl) (by kernel_rfl) (Pl.free 2 (by kernel_rfl)) (Pl.move 2 (.tmp 5) (by kernel_rfl) (by decide)) (below_drew w) ?_
  refine Pl.H.take 3 33 (.pointer (some ⟨b, o + i, none⟩)) (by kernel_rfl) (by kernel_rfl) (by kernel_rfl) (Pl.free 3 (by kernel_rfl)) (Pl.index 3 22 (.tmp 31) (.tmp 32) _ (by kernel_rfl) (by decide) (by decide) (ixI1 b o len cap i hi)) (below_drew w) ?_
  refine Pl.H.take 4 34 (.int .i64 x) (by kernel_rfl) (by kernel_rfl) (by kernel_rfl) (Pl.free 4 (by kernel_rfl)) (Pl.load 4 3 (.tmp 33) _ (by kernel_rfl) (by decide) (fun w' hS => ldI1 b (o + i) x w' (cell_below hx hS))) (below_drew w) ?_
  refine Pl.H.take 5 35 (.pointer (some ⟨g2, 0, none⟩)) (by kernel_rfl) (by kernel_rfl) (by kernel_rfl) (Pl.free 5 (by kernel_rfl)) (Pl.field 5 25 (.tmp 3) 0 _ (by kernel_rfl) (by decide) (fdLf0 g2)) (below_drew w) ?_
  refine Pl.H.take 6 36 (.slice (some ⟨b2, o2, none⟩) len2 cap2) (by kernel_rfl) (by kernel_rfl) (by kernel_rfl) (Pl.free 6 (by kernel_rfl)) (Pl.load 6 22 (.tmp 35) _ (by kernel_rfl) (by decide) (fun w' hS => ldLf0 g2 ⟨some ⟨b2, o2, none⟩, len2, cap2⟩ v2 w' (hg2.below hS))) (below_drew w) ?_
  refine Pl.H.take 7 37 (.int .i64 ((i : Nat) : Int)) (by kernel_rfl) (by kernel_rfl) (by kernel_rfl) (Pl.free 7 (by kernel_rfl)) (Pl.move 7 (.tmp 5) (by kernel_rfl) (by decide)) (below_drew w) ?_
  refine Pl.H.take 8 38 (.pointer (some ⟨b2, o2 + i, none⟩)) (by kernel_rfl) (by kernel_rfl) (by kernel_rfl) (Pl.free 8 (by kernel_rfl)) (Pl.index 8 22 (.tmp 36) (.tmp 37) _ (by kernel_rfl) (by decide) (by decide) (ixI1 b2 o2 len2 cap2 i hi2)) (below_drew w) ?_
  refine Pl.H.take 9 39 (.int .i64 y) (by kernel_rfl) (by kernel_rfl) (by kernel_rfl) (Pl.free 9 (by kernel_rfl)) (Pl.load 9 3 (.tmp 38) _ (by kernel_rfl) (by decide) (fun w' hS => ldI1 b2 (o2 + i) y w' (cell_below hy hS))) (below_drew w) ?_
  refine Pl.H.take 10 40 (.bool false) (by kernel_rfl) (by kernel_rfl) (by kernel_rfl) (Pl.free 10 (by kernel_rfl)) (Pl.binV 10 .neq 3 3 (.tmp 34) (.tmp 39) (.int .i64 x) (.int .i64 y) _ (by kernel_rfl) (by decide) (by decide) rfl rfl (neqF x y _ _ h0)) (below_drew w) ?_
  refine Pl.H.done (by kernel_rfl) (fun A' hA' => ?_)
  rw [Pl.At.ext hA' (((((((((((hA.put 30 _).put 31 _).put 32 _).put 33 _).put 34 _).put 35 _).put 36 _).put 37 _).put 38 _).put 39 _).put 40 _)]
  exact hend (fun d => if d = 30 then .pointer (some ⟨g, 0, none⟩) else if d = 31 then .slice (some ⟨b, o, none⟩) len cap else if d = 32 then .int .i64 ((i : Nat) : Int) else if d = 33 then .pointer (some ⟨b, o + i, none⟩) else if d = 34 then .int .i64 x else if d = 35 then .pointer (some ⟨g2, 0, none⟩) else if d = 36 then .slice (some ⟨b2, o2, none⟩) len2 cap2 else if d = 37 then .int .i64 ((i : Nat) : Int) else if d = 38 then .pointer (some ⟨b2, o2 + i, none⟩) else if d = 39 then .int .i64 y else undef) _ (below_drew w)

set_option maxHeartbeats 2000000 in
set_option maxRecDepth 100000 in
theorem lsame6N (w : World) (g g2 b o len cap b2 o2 len2 cap2 i : Nat) (v v2 : Value) (x y : Int) (hi : i < len) (hi2 : i < len2) (hg : LfBlk w g (.slice (some ⟨b, o, none⟩) len cap) v) (hg2 : LfBlk w g2 (.slice (some ⟨b2, o2, none⟩) len2 cap2) v2) (hx : w.cell? ⟨b, o + i, none⟩ = some (.int .i64 x)) (hy : w.cell? ⟨b2, o2 + i, none⟩ = some (.int .i64 y)) (h0 : x ≠ y)
    {Q : Exit → Act → World → Prop} {A : Act} (hsz : A.tmps.size = 61) (hdf : A.defers = []) (s2 : A.tmps.getD 2 undef = .pointer (some ⟨g, 0, none⟩)) (s3 : A.tmps.getD 3 undef = .pointer (some ⟨g2, 0, none⟩)) (s5 : A.tmps.getD 5 undef = .int .i64 ((i : Nat) : Int))
    (hend : ∀ (u : Nat → Value) w', Below w.heap.size w w' → Q .normal ((((((((((((A).put (some 30) (u 30)).put (some 31) (u 31)).put (some 32) (u 32)).put (some 33) (u 33)).put (some 34) (u 34)).put (some 35) (u 35)).put (some 36) (u 36)).put (some 37) (u 37)).put (some 38) (u 38)).put (some 39) (u 39)).put (some 40) (.bool true)) w') :
    (Code.region 6 (Pl.find 6 ((Try.f17.body).getD .skip)) true).wp Try.prog Q A w := by
  have hA := Pl.At.same (v := .int .i64 ((i : Nat) : Int)) (d := 5) (Pl.At.same (v := .pointer (some ⟨g2, 0, none⟩)) (d := 3) (Pl.At.same (v := .pointer (some ⟨g, 0, none⟩)) (d := 2) (Pl.At.here hsz hdf) s2) s3) s5
  refine Pl.H.start (S := (fun w' => Below w.heap.size w w')) (by kernel_rfl) hA (below_drew w) ?_
  rw [show (Pl.find 6 ((Try.f17.body).getD .skip)).size = 11 by kernel_rfl]
  refine Pl.H.take 0 30 (.pointer (some ⟨g, 0, none⟩)) (by kernel_rfl) (by kernel_rfl) (by kernel_rfl) (Pl.free 0 (by kernel_rfl)) (Pl.field 0 25 (.tmp 2) 0 _ (by kernel_rfl) (by decide) (fdLf0 g)) (below_drew w) ?_
  refine Pl.H.take 1 31 (.slice (some ⟨b, o, none⟩) len cap) (by kernel_rfl) (by kernel_rfl) (by kernel_rfl) (Pl.free 1 (by kernel_rfl)) (Pl.load 1 22 (.tmp 30) _ (by kernel_rfl) (by decide) (fun w' hS => ldLf0 g ⟨some ⟨b, o, none⟩, len, cap⟩ v w' (hg.below hS))) (below_drew w) ?_
  refine Pl.H.take 2 32 (.int .i64 ((i : Nat) : Int)) (by kernel_rfl) (by kernel_rfl) (by kernel_rfl) (Pl.free 2 (by kernel_rfl)) (Pl.move 2 (.tmp 5) (by kernel_rfl) (by decide)) (below_drew w) ?_
  refine Pl.H.take 3 33 (.pointer (some ⟨b, o + i, none⟩)) (by kernel_rfl) (by kernel_rfl) (by kernel_rfl) (Pl.free 3 (by kernel_rfl)) (Pl.index 3 22 (.tmp 31) (.tmp 32) _ (by kernel_rfl) (by decide) (by decide) (ixI1 b o len cap i hi)) (below_drew w) ?_
  refine Pl.H.take 4 34 (.int .i64 x) (by kernel_rfl) (by kernel_rfl) (by kernel_rfl) (Pl.free 4 (by kernel_rfl)) (Pl.load 4 3 (.tmp 33) _ (by kernel_rfl) (by decide) (fun w' hS => ldI1 b (o + i) x w' (cell_below hx hS))) (below_drew w) ?_
  refine Pl.H.take 5 35 (.pointer (some ⟨g2, 0, none⟩)) (by kernel_rfl) (by kernel_rfl) (by kernel_rfl) (Pl.free 5 (by kernel_rfl)) (Pl.field 5 25 (.tmp 3) 0 _ (by kernel_rfl) (by decide) (fdLf0 g2)) (below_drew w) ?_
  refine Pl.H.take 6 36 (.slice (some ⟨b2, o2, none⟩) len2 cap2) (by kernel_rfl) (by kernel_rfl) (by kernel_rfl) (Pl.free 6 (by kernel_rfl)) (Pl.load 6 22 (.tmp 35) _ (by kernel_rfl) (by decide) (fun w' hS => ldLf0 g2 ⟨some ⟨b2, o2, none⟩, len2, cap2⟩ v2 w' (hg2.below hS))) (below_drew w) ?_
  refine Pl.H.take 7 37 (.int .i64 ((i : Nat) : Int)) (by kernel_rfl) (by kernel_rfl) (by kernel_rfl) (Pl.free 7 (by kernel_rfl)) (Pl.move 7 (.tmp 5) (by kernel_rfl) (by decide)) (below_drew w) ?_
  refine Pl.H.take 8 38 (.pointer (some ⟨b2, o2 + i, none⟩)) (by kernel_rfl) (by kernel_rfl) (by kernel_rfl) (Pl.free 8 (by kernel_rfl)) (Pl.index 8 22 (.tmp 36) (.tmp 37) _ (by kernel_rfl) (by decide) (by decide) (ixI1 b2 o2 len2 cap2 i hi2)) (below_drew w) ?_
  refine Pl.H.take 9 39 (.int .i64 y) (by kernel_rfl) (by kernel_rfl) (by kernel_rfl) (Pl.free 9 (by kernel_rfl)) (Pl.load 9 3 (.tmp 38) _ (by kernel_rfl) (by decide) (fun w' hS => ldI1 b2 (o2 + i) y w' (cell_below hy hS))) (below_drew w) ?_
  refine Pl.H.take 10 40 (.bool true) (by kernel_rfl) (by kernel_rfl) (by kernel_rfl) (Pl.free 10 (by kernel_rfl)) (Pl.binV 10 .neq 3 3 (.tmp 34) (.tmp 39) (.int .i64 x) (.int .i64 y) _ (by kernel_rfl) (by decide) (by decide) rfl rfl (neqT x y _ _ h0)) (below_drew w) ?_
  refine Pl.H.done (by kernel_rfl) (fun A' hA' => ?_)
  rw [Pl.At.ext hA' (((((((((((hA.put 30 _).put 31 _).put 32 _).put 33 _).put 34 _).put 35 _).put 36 _).put 37 _).put 38 _).put 39 _).put 40 _)]
  exact hend (fun d => if d = 30 then .pointer (some ⟨g, 0, none⟩) else if d = 31 then .slice (some ⟨b, o, none⟩) len cap else if d = 32 then .int .i64 ((i : Nat) : Int) else if d = 33 then .pointer (some ⟨b, o + i, none⟩) else if d = 34 then .int .i64 x else if d = 35 then .pointer (some ⟨g2, 0, none⟩) else if d = 36 then .slice (some ⟨b2, o2, none⟩) len2 cap2 else if d = 37 then .int .i64 ((i : Nat) : Int) else if d = 38 then .pointer (some ⟨b2, o2 + i, none⟩) else if d = 39 then .int .i64 y else undef) _ (below_drew w)

set_option maxHeartbeats 2000000 in
set_option maxRecDepth 100000 in
theorem lsame11 (w : World) (g g2 b o len cap b2 o2 len2 cap2 i : Nat) (v v2 : Value) (sx sy : Sl) (xs ys : List Nat) (hi : i < len) (hi2 : i < len2) (hg : LfBlk w g v (.slice (some ⟨b, o, none⟩) len cap)) (hg2 : LfBlk w g2 v2 (.slice (some ⟨b2, o2, none⟩) len2 cap2)) (hx : w.cell? ⟨b, o + i, none⟩ = some sx.val) (hy : w.cell? ⟨b2, o2 + i, none⟩ = some sy.val) (hs : Bs w sx.a sx.len xs) (hs2 : Bs w sy.a sy.len ys) (r : Bool) (hr : ((bstr xs).toList == (bstr ys).toList) = r)
    {Q : Exit → Act → World → Prop} {A : Act} (hsz : A.tmps.size = 61) (hdf : A.defers = []) (s2 : A.tmps.getD 2 undef = .pointer (some ⟨g, 0, none⟩)) (s3 : A.tmps.getD 3 undef = .pointer (some ⟨g2, 0, none⟩)) (s6 : A.tmps.getD 6 undef = .int .i64 ((i : Nat) : Int))
    (hend : ∀ (u : Nat → Value) w', Below w.heap.size w w' → Q .normal ((((((((((((((A).put (some 48) (u 48)).put (some 49) (u 49)).put (some 50) (u 50)).put (some 51) (u 51)).put (some 52) (u 52)).put (some 53) (u 53)).put (some 54) (u 54)).put (some 55) (u 55)).put (some 56) (u 56)).put (some 57) (u 57)).put (some 58) (u 58)).put (some 59) (u 59)).put (some 60) (.bool (!r))) w') :
    (Code.region 11 (Pl.find 11 ((Try.f17.body).getD .skip)) true).wp Try.prog Q A w := by
  have hA := Pl.At.same (v := .int .i64 ((i : Nat) : Int)) (d := 6) (Pl.At.same (v := .pointer (some ⟨g2, 0, none⟩)) (d := 3) (Pl.At.same (v := .pointer (some ⟨g, 0, none⟩)) (d := 2) (Pl.At.here hsz hdf) s2) s3) s6
  refine Pl.H.start (S := (fun w' => Below w.heap.size w w')) (by kernel_rfl) hA (below_drew w) ?_
  rw [show (Pl.find 11 ((Try.f17.body).getD .skip)).size = 13 by kernel_rfl]
  refine Pl.H.take 0 48 (.pointer (some ⟨g, 1, none⟩)) (by kernel_rfl) (by kernel_rfl) (by kernel_rfl) (Pl.free 0 (by kernel_rfl)) (Pl.field 0 25 (.tmp 2) 1 _ (by kernel_rfl) (by decide) (fdLf1 g)) (below_drew w) ?_
  refine Pl.H.take 1 49 (.slice (some ⟨b, o, none⟩) len cap) (by kernel_rfl) (by kernel_rfl) (by kernel_rfl) (Pl.free 1 (by kernel_rfl)) (Pl.load 1 23 (.tmp 48) _ (by kernel_rfl) (by decide) (fun w' hS => ldLf1 g v ⟨some ⟨b, o, none⟩, len, cap⟩ w' (hg.below hS))) (below_drew w) ?_
  refine Pl.H.take 2 50 (.int .i64 ((i : Nat) : Int)) (by kernel_rfl) (by kernel_rfl) (by kernel_rfl) (Pl.free 2 (by kernel_rfl)) (Pl.move 2 (.tmp 6) (by kernel_rfl) (by decide)) (below_drew w) ?_
  refine Pl.H.take 3 51 (.pointer (some ⟨b, o + i, none⟩)) (by kernel_rfl) (by kernel_rfl) (by kernel_rfl) (Pl.free 3 (by kernel_rfl)) (Pl.index 3 23 (.tmp 49) (.tmp 50) _ (by kernel_rfl) (by decide) (by decide) (ixB1 b o len cap i hi)) (below_drew w) ?_
  refine Pl.H.take 4 52 (Sl.val sx) (by kernel_rfl) (by kernel_rfl) (by kernel_rfl) (Pl.free 4 (by kernel_rfl)) (Pl.load 4 28 (.tmp 51) _ (by kernel_rfl) (by decide) (fun w' hS => ldS1 b (o + i) sx w' (cell_below hx hS))) (below_drew w) ?_
  refine Pl.H.take 5 53 (.string (bstr xs)) (by kernel_rfl) (by kernel_rfl) (by kernel_rfl) (Pl.free 5 (by kernel_rfl)) (Pl.convV 5 28 9 (.tmp 52) (Sl.val sx) _ (by kernel_rfl) (by decide) rfl (fun w' hS => run_string_of sx.cap (hs.keep hS (Nat.le_refl _)))) (below_drew w) ?_
  refine Pl.H.take 6 54 (.pointer (some ⟨g2, 1, none⟩)) (by kernel_rfl) (by kernel_rfl) (by kernel_rfl) (Pl.free 6 (by kernel_rfl)) (Pl.field 6 25 (.tmp 3) 1 _ (by kernel_rfl) (by decide) (fdLf1 g2)) (below_drew w) ?_
  refine Pl.H.take 7 55 (.slice (some ⟨b2, o2, none⟩) len2 cap2) (by kernel_rfl) (by kernel_rfl) (by kernel_rfl) (Pl.free 7 (by kernel_rfl)) (Pl.load 7 23 (.tmp 54) _ (by kernel_rfl) (by decide) (fun w' hS => ldLf1 g2 v2 ⟨some ⟨b2, o2, none⟩, len2, cap2⟩ w' (hg2.below hS))) (below_drew w) ?_
  refine Pl.H.take 8 56 (.int .i64 ((i : Nat) : Int)) (by kernel_rfl) (by kernel_rfl) (by kernel_rfl) (Pl.free 8 (by kernel_rfl)) (Pl.move 8 (.tmp 6) (by kernel_rfl) (by decide)) (below_drew w) ?_
  refine Pl.H.take 9 57 (.pointer (some ⟨b2, o2 + i, none⟩)) (by kernel_rfl) (by kernel_rfl) (by kernel_rfl) (Pl.free 9 (by kernel_rfl)) (Pl.index 9 23 (.tmp 55) (.tmp 56) _ (by kernel_rfl) (by decide) (by decide) (ixB1 b2 o2 len2 cap2 i hi2)) (below_drew w) ?_
  refine Pl.H.take 10 58 (Sl.val sy) (by kernel_rfl) (by kernel_rfl) (by kernel_rfl) (Pl.free 10 (by kernel_rfl)) (Pl.load 10 28 (.tmp 57) _ (by kernel_rfl) (by decide) (fun w' hS => ldS1 b2 (o2 + i) sy w' (cell_below hy hS))) (below_drew w) ?_
  refine Pl.H.take 11 59 (.string (bstr ys)) (by kernel_rfl) (by kernel_rfl) (by kernel_rfl) (Pl.free 11 (by kernel_rfl)) (Pl.convV 11 28 9 (.tmp 58) (Sl.val sy) _ (by kernel_rfl) (by decide) rfl (fun w' hS => run_string_of sy.cap (hs2.keep hS (Nat.le_refl _)))) (below_drew w) ?_
  refine Pl.H.take 12 60 (.bool (!r)) (by kernel_rfl) (by kernel_rfl) (by kernel_rfl) (Pl.free 12 (by kernel_rfl)) (Pl.binV 12 .neq 9 9 (.tmp 53) (.tmp 59) (.string (bstr xs)) (.string (bstr ys)) _ (by kernel_rfl) (by decide) (by decide) rfl rfl (fun w => by rw [← hr]; simp [go_sem, eqGuard])) (below_drew w) ?_
  refine Pl.H.done (by kernel_rfl) (fun A' hA' => ?_)
  rw [Pl.At.ext hA' (((((((((((((hA.put 48 _).put 49 _).put 50 _).put 51 _).put 52 _).put 53 _).put 54 _).put 55 _).put 56 _).put 57 _).put 58 _).put 59 _).put 60 _)]
  exact hend (fun d => if d = 48 then .pointer (some ⟨g, 1, none⟩) else if d = 49 then .slice (some ⟨b, o, none⟩) len cap else if d = 50 then .int .i64 ((i : Nat) : Int) else if d = 51 then .pointer (some ⟨b, o + i, none⟩) else if d = 52 then Sl.val sx else if d = 53 then .string (bstr xs) else if d = 54 then .pointer (some ⟨g2, 1, none⟩) else if d = 55 then .slice (some ⟨b2, o2, none⟩) len2 cap2 else if d = 56 then .int .i64 ((i : Nat) : Int) else if d = 57 then .pointer (some ⟨b2, o2 + i, none⟩) else if d = 58 then Sl.val sy else if d = 59 then .string (bstr ys) else undef) _ (below_drew w)
end Go.Proofs.Ytgieigpbbkeonaa
