/-
  Entries compared; drawn statements of the document's Same, Ints, May and Eldest.
-/
import Derived.Test.YtdbgbldmjgonjaaTbB
namespace Go.Proofs.Ytdbgbldmjgonjaa
open Go.RowKit
set_option linter.unusedVariables false

theorem below_drew (w : World) : Below w.heap.size w w.drew := (Below.refl _ w).drew

theorem Pl.unwantedU {ops : Array Oper} {n : Nat} {f : Nat → Value} (i j dj : Nat) (b : Bool) (h : (Pl.op ops i).guard = some (j, b)) (hj : (ops[j]?).bind (·.dst) = some dj) (hn : dj < n) (hv : f dj = undef) :
    ∀ A, Pl.At n A f → Region.wanted (Pl.op ops i) (yielded ops A.tmps) = false := by
  intro A hA
  have hs := hA.1
  have h1 := hA.2.2 dj hn
  have h2 : A.tmps[dj]? = some undef := by
    rw [hv] at h1
    have hlt : dj < A.tmps.size := by omega
    simp only [Array.getD, hlt, dif_pos] at h1
    rw [Array.getElem?_eq_getElem hlt]
    exact congrArg some h1
  simp [Region.wanted, h, yielded, hj, h2, undef]

theorem lssT (a c : Int) (x y : Operand) (h : a < c) (w : World) : (do eqGuard .lss 3 x y (.int .i64 a) (.int .i64 c); binOp .lss 3 (.int .i64 a) (.int .i64 c) : Sem Value).run Try.prog w = .ok (.bool true) w := by
  simp [go_sem, eqGuard]
  first | done | omega
theorem lssF (a c : Int) (x y : Operand) (h : ¬ (a < c)) (w : World) : (do eqGuard .lss 3 x y (.int .i64 a) (.int .i64 c); binOp .lss 3 (.int .i64 a) (.int .i64 c) : Sem Value).run Try.prog w = .ok (.bool false) w := by
  simp [go_sem, eqGuard]
  first | done | omega
theorem leqT (a c : Int) (x y : Operand) (h : a ≤ c) (w : World) : (do eqGuard .leq 3 x y (.int .i64 a) (.int .i64 c); binOp .leq 3 (.int .i64 a) (.int .i64 c) : Sem Value).run Try.prog w = .ok (.bool true) w := by
  simp [go_sem, eqGuard]
  first | done | omega
theorem leqF (a c : Int) (x y : Operand) (h : ¬ (a ≤ c)) (w : World) : (do eqGuard .leq 3 x y (.int .i64 a) (.int .i64 c); binOp .leq 3 (.int .i64 a) (.int .i64 c) : Sem Value).run Try.prog w = .ok (.bool false) w := by
  simp [go_sem, eqGuard]
  first | done | omega
theorem gtrT (a c : Int) (x y : Operand) (h : c < a) (w : World) : (do eqGuard .gtr 3 x y (.int .i64 a) (.int .i64 c); binOp .gtr 3 (.int .i64 a) (.int .i64 c) : Sem Value).run Try.prog w = .ok (.bool true) w := by
  simp [go_sem, eqGuard]
  first | done | omega
theorem gtrF (a c : Int) (x y : Operand) (h : ¬ (c < a)) (w : World) : (do eqGuard .gtr 3 x y (.int .i64 a) (.int .i64 c); binOp .gtr 3 (.int .i64 a) (.int .i64 c) : Sem Value).run Try.prog w = .ok (.bool false) w := by
  simp [go_sem, eqGuard]
  first | done | omega
theorem geqT (a c : Int) (x y : Operand) (h : c ≤ a) (w : World) : (do eqGuard .geq 3 x y (.int .i64 a) (.int .i64 c); binOp .geq 3 (.int .i64 a) (.int .i64 c) : Sem Value).run Try.prog w = .ok (.bool true) w := by
  simp [go_sem, eqGuard]
  first | done | omega
theorem geqF (a c : Int) (x y : Operand) (h : ¬ (c ≤ a)) (w : World) : (do eqGuard .geq 3 x y (.int .i64 a) (.int .i64 c); binOp .geq 3 (.int .i64 a) (.int .i64 c) : Sem Value).run Try.prog w = .ok (.bool false) w := by
  simp [go_sem, eqGuard]
  first | done | omega
theorem eqlT (a c : Int) (x y : Operand) (h : a = c) (w : World) : (do eqGuard .eql 3 x y (.int .i64 a) (.int .i64 c); binOp .eql 3 (.int .i64 a) (.int .i64 c) : Sem Value).run Try.prog w = .ok (.bool true) w := by
  simp [go_sem, eqGuard]
  first | done | omega
theorem eqlF (a c : Int) (x y : Operand) (h : ¬ (a = c)) (w : World) : (do eqGuard .eql 3 x y (.int .i64 a) (.int .i64 c); binOp .eql 3 (.int .i64 a) (.int .i64 c) : Sem Value).run Try.prog w = .ok (.bool false) w := by
  simp [go_sem, eqGuard]
  first | done | omega
theorem neqT (a c : Int) (x y : Operand) (h : a ≠ c) (w : World) : (do eqGuard .neq 3 x y (.int .i64 a) (.int .i64 c); binOp .neq 3 (.int .i64 a) (.int .i64 c) : Sem Value).run Try.prog w = .ok (.bool true) w := by
  simp [go_sem, eqGuard]
  first | done | omega
theorem neqF (a c : Int) (x y : Operand) (h : ¬ (a ≠ c)) (w : World) : (do eqGuard .neq 3 x y (.int .i64 a) (.int .i64 c); binOp .neq 3 (.int .i64 a) (.int .i64 c) : Sem Value).run Try.prog w = .ok (.bool false) w := by
  simp [go_sem, eqGuard]
  first | done | omega

/-- Entries are compared whole. -/
theorem guard_en : Try.prog.eqGuardType Try.prog.depth 58 = false := by kernel_rfl
theorem stood_en : Try.prog.stoodInHeld 58 = false := by kernel_rfl
theorem fields_en : Try.prog.underlying 58 = some (.struct (Try.prog.fieldsOf 58)) := by kernel_rfl
theorem equal_en (x y : En) (w : World) : (Op.equalIn 10000 58 x.val y.val).run Try.prog w = .ok (x.beq y) w := by
  obtain ⟨p, u, q, r⟩ := x
  obtain ⟨p', u', q', r'⟩ := y
  unfold En.val En.beq
  rw [run_equalIn_struct w 9999 58 _ _ fields_en stood_en]
  simp only [Program.fieldsOf, Try.underlying58]
  simp [go_sem, Op.eqFields, part, run_equalIn_int, Try.underlying3]
  by_cases h1 : p = p' <;> by_cases h2 : u = u' <;> by_cases h3 : q = q' <;> by_cases h4 : r = r' <;> simp [h1, h2, h3, h4]
theorem neq_en (x y : En) (a c : Operand) (w : World) : (do eqGuard .neq 58 a c x.val y.val; binOp .neq 58 x.val y.val : Sem Value).run Try.prog w = .ok (.bool (!(x.beq y))) w := by
  have h := equal_en x y w
  unfold En.val at *
  rw [Sem.run_bind, run_eqGuard_agg w .neq 58 a c _ _ guard_en, Result.andThen_ok, run_neq_struct, h]
  rfl
theorem bin_neq_en (x y : En) (w : World) : (binOp .neq 58 (.agg #[.int .i64 x.tx, .int .i64 x.st, .int .i64 x.last, .int .i64 x.com]) (.agg #[.int .i64 y.tx, .int .i64 y.st, .int .i64 y.last, .int .i64 y.com])).run Try.prog w = .ok (.bool (!(x.beq y))) w := by
  have h := equal_en x y w
  unfold En.val at h
  rw [run_neq_struct, h]
  rfl
theorem guard_neq_en (a c : Operand) (x y : En) (w : World) : (eqGuard .neq 58 a c (.agg #[.int .i64 x.tx, .int .i64 x.st, .int .i64 x.last, .int .i64 x.com]) (.agg #[.int .i64 y.tx, .int .i64 y.st, .int .i64 y.last, .int .i64 y.com])).run Try.prog w = .ok () w := run_eqGuard_agg w .neq 58 a c _ _ guard_en

theorem ixI1 (b o len cap k : Nat) (hk : k < len) (w : World) : (Instr.indexAt 32 (.slice (some ⟨b, o, none⟩) len cap) (.int .i64 (k : Nat))).run Try.prog w = .ok (.pointer (some ⟨b, o + k, none⟩)) w := by
  have h22 : Try.prog.underlying 32 = some (.slice (Try.prog.elem 32)) := by kernel_rfl
  have h1 : (0 : Int) ≤ (k : Int) := by omega
  simp [go_sem, Instr.indexAt, run_underlying h22, h1, Addr.add_lit]
  omega

set_option maxHeartbeats 2000000 in
set_option maxRecDepth 100000 in
theorem rsameT6 (w : World) (b o len cap b2 o2 len2 cap2 i g g2 : Nat) (t t2 : Tb) (x y : En) (r : Bool) (hi : i < len) (hi2 : i < len2) (hg : TbBlk w g t ⟨some ⟨b, o, none⟩, len, cap⟩) (hg2 : TbBlk w g2 t2 ⟨some ⟨b2, o2, none⟩, len2, cap2⟩) (hx : EnAt w b (o + i * 4) x) (hy : EnAt w b2 (o2 + i * 4) y) (hr : x.beq y = r)
    {Q : Exit → Act → World → Prop} {A : Act} (hsz : A.tmps.size = 52) (hdf : A.defers = []) (s2 : A.tmps.getD 2 undef = .pointer (some ⟨g, 0, none⟩)) (s3 : A.tmps.getD 3 undef = .pointer (some ⟨g2, 0, none⟩)) (s5 : A.tmps.getD 5 undef = .int .i64 ((i : Nat) : Int))
    (hend : ∀ (u : Nat → Value) w', Below w.heap.size w w' → Q .normal ((((((((((((A).put (some 41) (u 41)).put (some 42) (u 42)).put (some 43) (u 43)).put (some 44) (u 44)).put (some 45) (u 45)).put (some 46) (u 46)).put (some 47) (u 47)).put (some 48) (u 48)).put (some 49) (u 49)).put (some 50) (u 50)).put (some 51) (.bool (!r))) w') :
    (Code.region 6 (Pl.find 6 ((Try.f17.body).getD .skip)) true).wp Try.prog Q A w := by
  have hA := Pl.At.same (v := .int .i64 ((i : Nat) : Int)) (d := 5) (Pl.At.same (v := .pointer (some ⟨g2, 0, none⟩)) (d := 3) (Pl.At.same (v := .pointer (some ⟨g, 0, none⟩)) (d := 2) (Pl.At.here hsz hdf) s2) s3) s5
  refine Pl.H.start (S := (fun w' => Below w.heap.size w w')) (by kernel_rfl) hA (below_drew w) ?_
  rw [show (Pl.find 6 ((Try.f17.body).getD .skip)).size = 11 by kernel_rfl]
  refine Pl.H.take 0 41 (.pointer (some ⟨g, 3, none⟩)) (by kernel_rfl) (by kernel_rfl) (by kernel_rfl) (Pl.free 0 (by kernel_rfl)) (Pl.field 0 24 (.tmp 2) 3 _ (by kernel_rfl) (by decide) (fdTb3 g)) (below_drew w) ?_
  refine Pl.H.take 1 42 (.slice (some ⟨b, o, none⟩) len cap) (by kernel_rfl) (by kernel_rfl) (by kernel_rfl) (Pl.free 1 (by kernel_rfl)) (Pl.load 1 22 (.tmp 41) _ (by kernel_rfl) (by decide) (fun w' hS => ldEs g 3 _ _ _ w' (hg.keep hS).c3)) (below_drew w) ?_
  refine Pl.H.take 2 43 (.int .i64 ((i : Nat) : Int)) (by kernel_rfl) (by kernel_rfl) (by kernel_rfl) (Pl.free 2 (by kernel_rfl)) (Pl.move 2 (.tmp 5) (by kernel_rfl) (by decide)) (below_drew w) ?_
  refine Pl.H.take 3 44 (.pointer (some ⟨b, o + i * 4, none⟩)) (by kernel_rfl) (by kernel_rfl) (by kernel_rfl) (Pl.free 3 (by kernel_rfl)) (Pl.index 3 22 (.tmp 42) (.tmp 43) _ (by kernel_rfl) (by decide) (by decide) (ixEn b o len cap i hi)) (below_drew w) ?_
  refine Pl.H.take 4 45 (En.val x) (by kernel_rfl) (by kernel_rfl) (by kernel_rfl) (Pl.free 4 (by kernel_rfl)) (Pl.load 4 58 (.tmp 44) _ (by kernel_rfl) (by decide) (fun w' hS => load_en b (o + i * 4) x w' (hx.keep hS (Nat.le_refl _)))) (below_drew w) ?_
  refine Pl.H.take 5 46 (.pointer (some ⟨g2, 3, none⟩)) (by kernel_rfl) (by kernel_rfl) (by kernel_rfl) (Pl.free 5 (by kernel_rfl)) (Pl.field 5 24 (.tmp 3) 3 _ (by kernel_rfl) (by decide) (fdTb3 g2)) (below_drew w) ?_
  refine Pl.H.take 6 47 (.slice (some ⟨b2, o2, none⟩) len2 cap2) (by kernel_rfl) (by kernel_rfl) (by kernel_rfl) (Pl.free 6 (by kernel_rfl)) (Pl.load 6 22 (.tmp 46) _ (by kernel_rfl) (by decide) (fun w' hS => ldEs g2 3 _ _ _ w' (hg2.keep hS).c3)) (below_drew w) ?_
  refine Pl.H.take 7 48 (.int .i64 ((i : Nat) : Int)) (by kernel_rfl) (by kernel_rfl) (by kernel_rfl) (Pl.free 7 (by kernel_rfl)) (Pl.move 7 (.tmp 5) (by kernel_rfl) (by decide)) (below_drew w) ?_
  refine Pl.H.take 8 49 (.pointer (some ⟨b2, o2 + i * 4, none⟩)) (by kernel_rfl) (by kernel_rfl) (by kernel_rfl) (Pl.free 8 (by kernel_rfl)) (Pl.index 8 22 (.tmp 47) (.tmp 48) _ (by kernel_rfl) (by decide) (by decide) (ixEn b2 o2 len2 cap2 i hi2)) (below_drew w) ?_
  refine Pl.H.take 9 50 (En.val y) (by kernel_rfl) (by kernel_rfl) (by kernel_rfl) (Pl.free 9 (by kernel_rfl)) (Pl.load 9 58 (.tmp 49) _ (by kernel_rfl) (by decide) (fun w' hS => load_en b2 (o2 + i * 4) y w' (hy.keep hS (Nat.le_refl _)))) (below_drew w) ?_
  refine Pl.H.take 10 51 (.bool (!r)) (by kernel_rfl) (by kernel_rfl) (by kernel_rfl) (Pl.free 10 (by kernel_rfl)) (Pl.binV 10 .neq 58 58 (.tmp 45) (.tmp 50) (En.val x) (En.val y) _ (by kernel_rfl) (by decide) (by decide) rfl rfl (fun w => hr ▸ neq_en x y _ _ w)) (below_drew w) ?_
  refine Pl.H.done (by kernel_rfl) (fun A' hA' => ?_)
  rw [Pl.At.ext hA' (((((((((((hA.put 41 _).put 42 _).put 43 _).put 44 _).put 45 _).put 46 _).put 47 _).put 48 _).put 49 _).put 50 _).put 51 _)]
  exact hend (fun d => if d = 41 then .pointer (some ⟨g, 3, none⟩) else if d = 42 then .slice (some ⟨b, o, none⟩) len cap else if d = 43 then .int .i64 ((i : Nat) : Int) else if d = 44 then .pointer (some ⟨b, o + i * 4, none⟩) else if d = 45 then En.val x else if d = 46 then .pointer (some ⟨g2, 3, none⟩) else if d = 47 then .slice (some ⟨b2, o2, none⟩) len2 cap2 else if d = 48 then .int .i64 ((i : Nat) : Int) else if d = 49 then .pointer (some ⟨b2, o2 + i * 4, none⟩) else if d = 50 then En.val y else undef) _ (below_drew w)

set_option maxHeartbeats 2000000 in
set_option maxRecDepth 100000 in
theorem rints6a (w : World) (b o len cap b2 o2 len2 cap2 i : Nat) (x y : Int) (hi : i < len) (hi2 : i < len2) (hx : w.cell? ⟨b, o + i, none⟩ = some (.int .i64 x)) (hy : w.cell? ⟨b2, o2 + i, none⟩ = some (.int .i64 y)) (hr : x ≠ y)
    {Q : Exit → Act → World → Prop} {A : Act} (hsz : A.tmps.size = 26) (hdf : A.defers = []) (s0 : A.tmps.getD 0 undef = .slice (some ⟨b, o, none⟩) len cap) (s1 : A.tmps.getD 1 undef = .slice (some ⟨b2, o2, none⟩) len2 cap2) (s5 : A.tmps.getD 5 undef = .int .i64 ((i : Nat) : Int))
    (hend : ∀ (u : Nat → Value) w', Below w.heap.size w w' → Q .normal ((((((((((A).put (some 17) (u 17)).put (some 18) (u 18)).put (some 19) (u 19)).put (some 20) (u 20)).put (some 21) (u 21)).put (some 22) (u 22)).put (some 23) (u 23)).put (some 24) (u 24)).put (some 25) (.bool true)) w') :
    (Code.region 6 (Pl.find 6 ((Try.f31.body).getD .skip)) true).wp Try.prog Q A w := by
  have hA := Pl.At.same (v := .int .i64 ((i : Nat) : Int)) (d := 5) (Pl.At.same (v := .slice (some ⟨b2, o2, none⟩) len2 cap2) (d := 1) (Pl.At.same (v := .slice (some ⟨b, o, none⟩) len cap) (d := 0) (Pl.At.here hsz hdf) s0) s1) s5
  refine Pl.H.start (S := (fun w' => Below w.heap.size w w')) (by kernel_rfl) hA (below_drew w) ?_
  rw [show (Pl.find 6 ((Try.f31.body).getD .skip)).size = 9 by kernel_rfl]
  refine Pl.H.take 0 17 (.slice (some ⟨b, o, none⟩) len cap) (by kernel_rfl) (by kernel_rfl) (by kernel_rfl) (Pl.free 0 (by kernel_rfl)) (Pl.move 0 (.tmp 0) (by kernel_rfl) (by decide)) (below_drew w) ?_
  refine Pl.H.take 1 18 (.int .i64 ((i : Nat) : Int)) (by kernel_rfl) (by kernel_rfl) (by kernel_rfl) (Pl.free 1 (by kernel_rfl)) (Pl.move 1 (.tmp 5) (by kernel_rfl) (by decide)) (below_drew w) ?_
  refine Pl.H.take 2 19 (.pointer (some ⟨b, o + i, none⟩)) (by kernel_rfl) (by kernel_rfl) (by kernel_rfl) (Pl.free 2 (by kernel_rfl)) (Pl.index 2 32 (.tmp 17) (.tmp 18) _ (by kernel_rfl) (by decide) (by decide) (ixI1 b o len cap i hi)) (below_drew w) ?_
  refine Pl.H.take 3 20 (.int .i64 x) (by kernel_rfl) (by kernel_rfl) (by kernel_rfl) (Pl.free 3 (by kernel_rfl)) (Pl.load 3 3 (.tmp 19) _ (by kernel_rfl) (by decide) (fun w' hS => ldInt b (o + i) x w' ((hS.cell (p := ⟨b, o + i, none⟩) (World.block_lt_of_cell? w _ hx)).trans hx))) (below_drew w) ?_
  refine Pl.H.take 4 21 (.slice (some ⟨b2, o2, none⟩) len2 cap2) (by kernel_rfl) (by kernel_rfl) (by kernel_rfl) (Pl.free 4 (by kernel_rfl)) (Pl.move 4 (.tmp 1) (by kernel_rfl) (by decide)) (below_drew w) ?_
  refine Pl.H.take 5 22 (.int .i64 ((i : Nat) : Int)) (by kernel_rfl) (by kernel_rfl) (by kernel_rfl) (Pl.free 5 (by kernel_rfl)) (Pl.move 5 (.tmp 5) (by kernel_rfl) (by decide)) (below_drew w) ?_
  refine Pl.H.take 6 23 (.pointer (some ⟨b2, o2 + i, none⟩)) (by kernel_rfl) (by kernel_rfl) (by kernel_rfl) (Pl.free 6 (by kernel_rfl)) (Pl.index 6 32 (.tmp 21) (.tmp 22) _ (by kernel_rfl) (by decide) (by decide) (ixI1 b2 o2 len2 cap2 i hi2)) (below_drew w) ?_
  refine Pl.H.take 7 24 (.int .i64 y) (by kernel_rfl) (by kernel_rfl) (by kernel_rfl) (Pl.free 7 (by kernel_rfl)) (Pl.load 7 3 (.tmp 23) _ (by kernel_rfl) (by decide) (fun w' hS => ldInt b2 (o2 + i) y w' ((hS.cell (p := ⟨b2, o2 + i, none⟩) (World.block_lt_of_cell? w _ hy)).trans hy))) (below_drew w) ?_
  refine Pl.H.take 8 25 (.bool true) (by kernel_rfl) (by kernel_rfl) (by kernel_rfl) (Pl.free 8 (by kernel_rfl)) (Pl.binV 8 .neq 3 3 (.tmp 20) (.tmp 24) (.int .i64 x) (.int .i64 y) _ (by kernel_rfl) (by decide) (by decide) rfl rfl (fun w => neqT x y _ _ hr w)) (below_drew w) ?_
  refine Pl.H.done (by kernel_rfl) (fun A' hA' => ?_)
  rw [Pl.At.ext hA' (((((((((hA.put 17 _).put 18 _).put 19 _).put 20 _).put 21 _).put 22 _).put 23 _).put 24 _).put 25 _)]
  exact hend (fun d => if d = 17 then .slice (some ⟨b, o, none⟩) len cap else if d = 18 then .int .i64 ((i : Nat) : Int) else if d = 19 then .pointer (some ⟨b, o + i, none⟩) else if d = 20 then .int .i64 x else if d = 21 then .slice (some ⟨b2, o2, none⟩) len2 cap2 else if d = 22 then .int .i64 ((i : Nat) : Int) else if d = 23 then .pointer (some ⟨b2, o2 + i, none⟩) else if d = 24 then .int .i64 y else undef) _ (below_drew w)

set_option maxHeartbeats 2000000 in
set_option maxRecDepth 100000 in
theorem rints6b (w : World) (b o len cap b2 o2 len2 cap2 i : Nat) (x y : Int) (hi : i < len) (hi2 : i < len2) (hx : w.cell? ⟨b, o + i, none⟩ = some (.int .i64 x)) (hy : w.cell? ⟨b2, o2 + i, none⟩ = some (.int .i64 y)) (hr : x = y)
    {Q : Exit → Act → World → Prop} {A : Act} (hsz : A.tmps.size = 26) (hdf : A.defers = []) (s0 : A.tmps.getD 0 undef = .slice (some ⟨b, o, none⟩) len cap) (s1 : A.tmps.getD 1 undef = .slice (some ⟨b2, o2, none⟩) len2 cap2) (s5 : A.tmps.getD 5 undef = .int .i64 ((i : Nat) : Int))
    (hend : ∀ (u : Nat → Value) w', Below w.heap.size w w' → Q .normal ((((((((((A).put (some 17) (u 17)).put (some 18) (u 18)).put (some 19) (u 19)).put (some 20) (u 20)).put (some 21) (u 21)).put (some 22) (u 22)).put (some 23) (u 23)).put (some 24) (u 24)).put (some 25) (.bool false)) w') :
    (Code.region 6 (Pl.find 6 ((Try.f31.body).getD .skip)) true).wp Try.prog Q A w := by
  have hA := Pl.At.same (v := .int .i64 ((i : Nat) : Int)) (d := 5) (Pl.At.same (v := .slice (some ⟨b2, o2, none⟩) len2 cap2) (d := 1) (Pl.At.same (v := .slice (some ⟨b, o, none⟩) len cap) (d := 0) (Pl.At.here hsz hdf) s0) s1) s5
  refine Pl.H.start (S := (fun w' => Below w.heap.size w w')) (by kernel_rfl) hA (below_drew w) ?_
  rw [show (Pl.find 6 ((Try.f31.body).getD .skip)).size = 9 by kernel_rfl]
  refine Pl.H.take 0 17 (.slice (some ⟨b, o, none⟩) len cap) (by kernel_rfl) (by kernel_rfl) (by kernel_rfl) (Pl.free 0 (by kernel_rfl)) (Pl.move 0 (.tmp 0) (by kernel_rfl) (by decide)) (below_drew w) ?_
  refine Pl.H.take 1 18 (.int .i64 ((i : Nat) : Int)) (by kernel_rfl) (by kernel_rfl) (by kernel_rfl) (Pl.free 1 (by kernel_rfl)) (Pl.move 1 (.tmp 5) (by kernel_rfl) (by decide)) (below_drew w) ?_
  refine Pl.H.take 2 19 (.pointer (some ⟨b, o + i, none⟩)) (by kernel_rfl) (by kernel_rfl) (by kernel_rfl) (Pl.free 2 (by kernel_rfl)) (Pl.index 2 32 (.tmp 17) (.tmp 18) _ (by kernel_rfl) (by decide) (by decide) (ixI1 b o len cap i hi)) (below_drew w) ?_
  refine Pl.H.take 3 20 (.int .i64 x) (by kernel_rfl) (by kernel_rfl) (by kernel_rfl) (Pl.free 3 (by kernel_rfl)) (Pl.load 3 3 (.tmp 19) _ (by kernel_rfl) (by decide) (fun w' hS => ldInt b (o + i) x w' ((hS.cell (p := ⟨b, o + i, none⟩) (World.block_lt_of_cell? w _ hx)).trans hx))) (below_drew w) ?_
  refine Pl.H.take 4 21 (.slice (some ⟨b2, o2, none⟩) len2 cap2) (by kernel_rfl) (by kernel_rfl) (by kernel_rfl) (Pl.free 4 (by kernel_rfl)) (Pl.move 4 (.tmp 1) (by kernel_rfl) (by decide)) (below_drew w) ?_
  refine Pl.H.take 5 22 (.int .i64 ((i : Nat) : Int)) (by kernel_rfl) (by kernel_rfl) (by kernel_rfl) (Pl.free 5 (by kernel_rfl)) (Pl.move 5 (.tmp 5) (by kernel_rfl) (by decide)) (below_drew w) ?_
  refine Pl.H.take 6 23 (.pointer (some ⟨b2, o2 + i, none⟩)) (by kernel_rfl) (by kernel_rfl) (by kernel_rfl) (Pl.free 6 (by kernel_rfl)) (Pl.index 6 32 (.tmp 21) (.tmp 22) _ (by kernel_rfl) (by decide) (by decide) (ixI1 b2 o2 len2 cap2 i hi2)) (below_drew w) ?_
  refine Pl.H.take 7 24 (.int .i64 y) (by kernel_rfl) (by kernel_rfl) (by kernel_rfl) (Pl.free 7 (by kernel_rfl)) (Pl.load 7 3 (.tmp 23) _ (by kernel_rfl) (by decide) (fun w' hS => ldInt b2 (o2 + i) y w' ((hS.cell (p := ⟨b2, o2 + i, none⟩) (World.block_lt_of_cell? w _ hy)).trans hy))) (below_drew w) ?_
  refine Pl.H.take 8 25 (.bool false) (by kernel_rfl) (by kernel_rfl) (by kernel_rfl) (Pl.free 8 (by kernel_rfl)) (Pl.binV 8 .neq 3 3 (.tmp 20) (.tmp 24) (.int .i64 x) (.int .i64 y) _ (by kernel_rfl) (by decide) (by decide) rfl rfl (fun w => neqF x y _ _ (fun h => h hr) w)) (below_drew w) ?_
  refine Pl.H.done (by kernel_rfl) (fun A' hA' => ?_)
  rw [Pl.At.ext hA' (((((((((hA.put 17 _).put 18 _).put 19 _).put 20 _).put 21 _).put 22 _).put 23 _).put 24 _).put 25 _)]
  exact hend (fun d => if d = 17 then .slice (some ⟨b, o, none⟩) len cap else if d = 18 then .int .i64 ((i : Nat) : Int) else if d = 19 then .pointer (some ⟨b, o + i, none⟩) else if d = 20 then .int .i64 x else if d = 21 then .slice (some ⟨b2, o2, none⟩) len2 cap2 else if d = 22 then .int .i64 ((i : Nat) : Int) else if d = 23 then .pointer (some ⟨b2, o2 + i, none⟩) else if d = 24 then .int .i64 y else undef) _ (below_drew w)

set_option maxHeartbeats 2000000 in
set_option maxRecDepth 100000 in
theorem rmayT17a (w : World) (b o len cap k g p : Nat) (t : Tb) (x e : En) (hk : k < len) (hg : TbBlk w g t ⟨some ⟨b, o, none⟩, len, cap⟩) (he : EnBlk w p e) (hx : EnAt w b (o + k * 4) x) (h1 : x.tx = e.tx)
    {Q : Exit → Act → World → Prop} {A : Act} (hsz : A.tmps.size = 140) (hdf : A.defers = []) (s1 : A.tmps.getD 1 undef = .pointer (some ⟨g, 0, none⟩)) (s4 : A.tmps.getD 4 undef = .pointer (some ⟨p, 0, none⟩)) (s5 : A.tmps.getD 5 undef = .int .i64 ((k : Nat) : Int))
    (hend : ∀ (u : Nat → Value) w', Below w.heap.size w w' → Q .normal ((((((((((((((((((((((((((A).put (some 115) (u 115)).put (some 116) (u 116)).put (some 117) (u 117)).put (some 118) (u 118)).put (some 119) (u 119)).put (some 120) (u 120)).put (some 121) (u 121)).put (some 122) (u 122)).put (some 123) (u 123)).put (some 124) (u 124)).put (some 125) (u 125)).put (some 126) (u 126)).put (some 127) (u 127)).put (some 128) (u 128)).put (some 129) (u 129)).put (some 130) (u 130)).put (some 131) (u 131)).put (some 132) (u 132)).put (some 133) (u 133)).put (some 134) (u 134)).put (some 135) (u 135)).put (some 136) (u 136)).put (some 137) (u 137)).put (some 138) (u 138)).put (some 139) (.bool true)) w') :
    (Code.region 17 (Pl.find 17 ((Try.f10.body).getD .skip)) true).wp Try.prog Q A w := by
  have hA := Pl.At.same (v := .int .i64 ((k : Nat) : Int)) (d := 5) (Pl.At.same (v := .pointer (some ⟨p, 0, none⟩)) (d := 4) (Pl.At.same (v := .pointer (some ⟨g, 0, none⟩)) (d := 1) (Pl.At.here hsz hdf) s1) s4) s5
  refine Pl.H.start (S := (fun w' => Below w.heap.size w w')) (by kernel_rfl) hA (below_drew w) ?_
  rw [show (Pl.find 17 ((Try.f10.body).getD .skip)).size = 25 by kernel_rfl]
  refine Pl.H.take 0 115 (.pointer (some ⟨g, 3, none⟩)) (by kernel_rfl) (by kernel_rfl) (by kernel_rfl) (Pl.free 0 (by kernel_rfl)) (Pl.field 0 24 (.tmp 1) 3 _ (by kernel_rfl) (by decide) (fdTb3 g)) (below_drew w) ?_
  refine Pl.H.take 1 116 (.slice (some ⟨b, o, none⟩) len cap) (by kernel_rfl) (by kernel_rfl) (by kernel_rfl) (Pl.free 1 (by kernel_rfl)) (Pl.load 1 22 (.tmp 115) _ (by kernel_rfl) (by decide) (fun w' hS => ldEs g 3 _ _ _ w' (hg.keep hS).c3)) (below_drew w) ?_
  refine Pl.H.take 2 117 (.int .i64 ((k : Nat) : Int)) (by kernel_rfl) (by kernel_rfl) (by kernel_rfl) (Pl.free 2 (by kernel_rfl)) (Pl.move 2 (.tmp 5) (by kernel_rfl) (by decide)) (below_drew w) ?_
  refine Pl.H.take 3 118 (.pointer (some ⟨b, o + k * 4, none⟩)) (by kernel_rfl) (by kernel_rfl) (by kernel_rfl) (Pl.free 3 (by kernel_rfl)) (Pl.index 3 22 (.tmp 116) (.tmp 117) _ (by kernel_rfl) (by decide) (by decide) (ixEn b o len cap k hk)) (below_drew w) ?_
  refine Pl.H.take 4 119 (.pointer (some ⟨b, o + k * 4, none⟩)) (by kernel_rfl) (by kernel_rfl) (by kernel_rfl) (Pl.free 4 (by kernel_rfl)) (Pl.field 4 58 (.tmp 118) 0 _ (by kernel_rfl) (by decide) (fdEn0 b (o + k * 4))) (below_drew w) ?_
  refine Pl.H.take 5 120 (.int .i64 x.tx) (by kernel_rfl) (by kernel_rfl) (by kernel_rfl) (Pl.free 5 (by kernel_rfl)) (Pl.load 5 3 (.tmp 119) _ (by kernel_rfl) (by decide) (fun w' hS => ldInt b (o + k * 4) x.tx w' (hx.keep hS (Nat.le_refl _)).c0)) (below_drew w) ?_
  refine Pl.H.take 6 121 (.pointer (some ⟨p, 0, none⟩)) (by kernel_rfl) (by kernel_rfl) (by kernel_rfl) (Pl.free 6 (by kernel_rfl)) (Pl.field 6 58 (.tmp 4) 0 _ (by kernel_rfl) (by decide) (fdEnB0 p)) (below_drew w) ?_
  refine Pl.H.take 7 122 (.int .i64 e.tx) (by kernel_rfl) (by kernel_rfl) (by kernel_rfl) (Pl.free 7 (by kernel_rfl)) (Pl.load 7 3 (.tmp 121) _ (by kernel_rfl) (by decide) (fun w' hS => ldInt p 0 e.tx w' (he.keep hS).at.c0)) (below_drew w) ?_
  refine Pl.H.take 8 123 (.bool true) (by kernel_rfl) (by kernel_rfl) (by kernel_rfl) (Pl.free 8 (by kernel_rfl)) (Pl.binV 8 .eql 3 3 (.tmp 120) (.tmp 122) (.int .i64 x.tx) (.int .i64 e.tx) _ (by kernel_rfl) (by decide) (by decide) rfl rfl (fun w => eqlT x.tx e.tx _ _ h1 w)) (below_drew w) ?_
  refine Pl.H.take 9 124 (.bool true) (by kernel_rfl) (by kernel_rfl) (by kernel_rfl) (Pl.free 9 (by kernel_rfl)) (Pl.move 9 (.tmp 123) (by kernel_rfl) (by decide)) (below_drew w) ?_
  refine Pl.H.skip 10 125 (by kernel_rfl) (by kernel_rfl) (by kernel_rfl) (Pl.unwanted 10 9 124 false (by kernel_rfl) (by kernel_rfl) (by decide) rfl) (below_drew w) ?_
  refine Pl.H.skip 11 126 (by kernel_rfl) (by kernel_rfl) (by kernel_rfl) (Pl.unwanted 11 9 124 false (by kernel_rfl) (by kernel_rfl) (by decide) rfl) (below_drew w) ?_
  refine Pl.H.skip 12 127 (by kernel_rfl) (by kernel_rfl) (by kernel_rfl) (Pl.unwanted 12 9 124 false (by kernel_rfl) (by kernel_rfl) (by decide) rfl) (below_drew w) ?_
  refine Pl.H.skip 13 128 (by kernel_rfl) (by kernel_rfl) (by kernel_rfl) (Pl.unwanted 13 9 124 false (by kernel_rfl) (by kernel_rfl) (by decide) rfl) (below_drew w) ?_
  refine Pl.H.skip 14 129 (by kernel_rfl) (by kernel_rfl) (by kernel_rfl) (Pl.unwantedU 14 13 128 true (by kernel_rfl) (by kernel_rfl) (by decide) rfl) (below_drew w) ?_
  refine Pl.H.skip 15 130 (by kernel_rfl) (by kernel_rfl) (by kernel_rfl) (Pl.unwantedU 15 13 128 true (by kernel_rfl) (by kernel_rfl) (by decide) rfl) (below_drew w) ?_
  refine Pl.H.skip 16 131 (by kernel_rfl) (by kernel_rfl) (by kernel_rfl) (Pl.unwantedU 16 13 128 true (by kernel_rfl) (by kernel_rfl) (by decide) rfl) (below_drew w) ?_
  refine Pl.H.skip 17 132 (by kernel_rfl) (by kernel_rfl) (by kernel_rfl) (Pl.unwantedU 17 13 128 true (by kernel_rfl) (by kernel_rfl) (by decide) rfl) (below_drew w) ?_
  refine Pl.H.skip 18 133 (by kernel_rfl) (by kernel_rfl) (by kernel_rfl) (Pl.unwantedU 18 13 128 true (by kernel_rfl) (by kernel_rfl) (by decide) rfl) (below_drew w) ?_
  refine Pl.H.skip 19 134 (by kernel_rfl) (by kernel_rfl) (by kernel_rfl) (Pl.unwantedU 19 13 128 true (by kernel_rfl) (by kernel_rfl) (by decide) rfl) (below_drew w) ?_
  refine Pl.H.skip 20 135 (by kernel_rfl) (by kernel_rfl) (by kernel_rfl) (Pl.unwantedU 20 13 128 true (by kernel_rfl) (by kernel_rfl) (by decide) rfl) (below_drew w) ?_
  refine Pl.H.skip 21 136 (by kernel_rfl) (by kernel_rfl) (by kernel_rfl) (Pl.unwantedU 21 13 128 true (by kernel_rfl) (by kernel_rfl) (by decide) rfl) (below_drew w) ?_
  refine Pl.H.skip 22 137 (by kernel_rfl) (by kernel_rfl) (by kernel_rfl) (Pl.unwantedU 22 13 128 true (by kernel_rfl) (by kernel_rfl) (by decide) rfl) (below_drew w) ?_
  refine Pl.H.skip 23 138 (by kernel_rfl) (by kernel_rfl) (by kernel_rfl) (Pl.unwanted 23 9 124 false (by kernel_rfl) (by kernel_rfl) (by decide) rfl) (below_drew w) ?_
  refine Pl.H.take 24 139 (.bool true) (by kernel_rfl) (by kernel_rfl) (by kernel_rfl) (Pl.free 24 (by kernel_rfl)) (Pl.pick 24 (.tmp 124) (.const (.bool true)) (.tmp 138) (by kernel_rfl) (by decide) (by decide) rfl) (below_drew w) ?_
  refine Pl.H.done (by kernel_rfl) (fun A' hA' => ?_)
  rw [Pl.At.ext hA' (((((((((((((((((((((((((hA.put 115 _).put 116 _).put 117 _).put 118 _).put 119 _).put 120 _).put 121 _).put 122 _).put 123 _).put 124 _).put 125 _).put 126 _).put 127 _).put 128 _).put 129 _).put 130 _).put 131 _).put 132 _).put 133 _).put 134 _).put 135 _).put 136 _).put 137 _).put 138 _).put 139 _)]
  exact hend (fun d => if d = 115 then .pointer (some ⟨g, 3, none⟩) else if d = 116 then .slice (some ⟨b, o, none⟩) len cap else if d = 117 then .int .i64 ((k : Nat) : Int) else if d = 118 then .pointer (some ⟨b, o + k * 4, none⟩) else if d = 119 then .pointer (some ⟨b, o + k * 4, none⟩) else if d = 120 then .int .i64 x.tx else if d = 121 then .pointer (some ⟨p, 0, none⟩) else if d = 122 then .int .i64 e.tx else if d = 123 then .bool true else if d = 124 then .bool true else if d = 125 then undef else if d = 126 then undef else if d = 127 then undef else if d = 128 then undef else if d = 129 then undef else if d = 130 then undef else if d = 131 then undef else if d = 132 then undef else if d = 133 then undef else if d = 134 then undef else if d = 135 then undef else if d = 136 then undef else if d = 137 then undef else if d = 138 then undef else undef) _ (below_drew w)

set_option maxHeartbeats 2000000 in
set_option maxRecDepth 100000 in
theorem rmayT17b (w : World) (b o len cap k g p : Nat) (t : Tb) (x e : En) (hk : k < len) (hg : TbBlk w g t ⟨some ⟨b, o, none⟩, len, cap⟩) (he : EnBlk w p e) (hx : EnAt w b (o + k * 4) x) (h1 : ¬ x.tx = e.tx) (h2 : ¬ 0 < e.com)
    {Q : Exit → Act → World → Prop} {A : Act} (hsz : A.tmps.size = 140) (hdf : A.defers = []) (s1 : A.tmps.getD 1 undef = .pointer (some ⟨g, 0, none⟩)) (s4 : A.tmps.getD 4 undef = .pointer (some ⟨p, 0, none⟩)) (s5 : A.tmps.getD 5 undef = .int .i64 ((k : Nat) : Int))
    (hend : ∀ (u : Nat → Value) w', Below w.heap.size w w' → Q .normal ((((((((((((((((((((((((((A).put (some 115) (u 115)).put (some 116) (u 116)).put (some 117) (u 117)).put (some 118) (u 118)).put (some 119) (u 119)).put (some 120) (u 120)).put (some 121) (u 121)).put (some 122) (u 122)).put (some 123) (u 123)).put (some 124) (u 124)).put (some 125) (u 125)).put (some 126) (u 126)).put (some 127) (u 127)).put (some 128) (u 128)).put (some 129) (u 129)).put (some 130) (u 130)).put (some 131) (u 131)).put (some 132) (u 132)).put (some 133) (u 133)).put (some 134) (u 134)).put (some 135) (u 135)).put (some 136) (u 136)).put (some 137) (u 137)).put (some 138) (u 138)).put (some 139) (.bool false)) w') :
    (Code.region 17 (Pl.find 17 ((Try.f10.body).getD .skip)) true).wp Try.prog Q A w := by
  have hA := Pl.At.same (v := .int .i64 ((k : Nat) : Int)) (d := 5) (Pl.At.same (v := .pointer (some ⟨p, 0, none⟩)) (d := 4) (Pl.At.same (v := .pointer (some ⟨g, 0, none⟩)) (d := 1) (Pl.At.here hsz hdf) s1) s4) s5
  refine Pl.H.start (S := (fun w' => Below w.heap.size w w')) (by kernel_rfl) hA (below_drew w) ?_
  rw [show (Pl.find 17 ((Try.f10.body).getD .skip)).size = 25 by kernel_rfl]
  refine Pl.H.take 0 115 (.pointer (some ⟨g, 3, none⟩)) (by kernel_rfl) (by kernel_rfl) (by kernel_rfl) (Pl.free 0 (by kernel_rfl)) (Pl.field 0 24 (.tmp 1) 3 _ (by kernel_rfl) (by decide) (fdTb3 g)) (below_drew w) ?_
  refine Pl.H.take 1 116 (.slice (some ⟨b, o, none⟩) len cap) (by kernel_rfl) (by kernel_rfl) (by kernel_rfl) (Pl.free 1 (by kernel_rfl)) (Pl.load 1 22 (.tmp 115) _ (by kernel_rfl) (by decide) (fun w' hS => ldEs g 3 _ _ _ w' (hg.keep hS).c3)) (below_drew w) ?_
  refine Pl.H.take 2 117 (.int .i64 ((k : Nat) : Int)) (by kernel_rfl) (by kernel_rfl) (by kernel_rfl) (Pl.free 2 (by kernel_rfl)) (Pl.move 2 (.tmp 5) (by kernel_rfl) (by decide)) (below_drew w) ?_
  refine Pl.H.take 3 118 (.pointer (some ⟨b, o + k * 4, none⟩)) (by kernel_rfl) (by kernel_rfl) (by kernel_rfl) (Pl.free 3 (by kernel_rfl)) (Pl.index 3 22 (.tmp 116) (.tmp 117) _ (by kernel_rfl) (by decide) (by decide) (ixEn b o len cap k hk)) (below_drew w) ?_
  refine Pl.H.take 4 119 (.pointer (some ⟨b, o + k * 4, none⟩)) (by kernel_rfl) (by kernel_rfl) (by kernel_rfl) (Pl.free 4 (by kernel_rfl)) (Pl.field 4 58 (.tmp 118) 0 _ (by kernel_rfl) (by decide) (fdEn0 b (o + k * 4))) (below_drew w) ?_
  refine Pl.H.take 5 120 (.int .i64 x.tx) (by kernel_rfl) (by kernel_rfl) (by kernel_rfl) (Pl.free 5 (by kernel_rfl)) (Pl.load 5 3 (.tmp 119) _ (by kernel_rfl) (by decide) (fun w' hS => ldInt b (o + k * 4) x.tx w' (hx.keep hS (Nat.le_refl _)).c0)) (below_drew w) ?_
  refine Pl.H.take 6 121 (.pointer (some ⟨p, 0, none⟩)) (by kernel_rfl) (by kernel_rfl) (by kernel_rfl) (Pl.free 6 (by kernel_rfl)) (Pl.field 6 58 (.tmp 4) 0 _ (by kernel_rfl) (by decide) (fdEnB0 p)) (below_drew w) ?_
  refine Pl.H.take 7 122 (.int .i64 e.tx) (by kernel_rfl) (by kernel_rfl) (by kernel_rfl) (Pl.free 7 (by kernel_rfl)) (Pl.load 7 3 (.tmp 121) _ (by kernel_rfl) (by decide) (fun w' hS => ldInt p 0 e.tx w' (he.keep hS).at.c0)) (below_drew w) ?_
  refine Pl.H.take 8 123 (.bool false) (by kernel_rfl) (by kernel_rfl) (by kernel_rfl) (Pl.free 8 (by kernel_rfl)) (Pl.binV 8 .eql 3 3 (.tmp 120) (.tmp 122) (.int .i64 x.tx) (.int .i64 e.tx) _ (by kernel_rfl) (by decide) (by decide) rfl rfl (fun w => eqlF x.tx e.tx _ _ h1 w)) (below_drew w) ?_
  refine Pl.H.take 9 124 (.bool false) (by kernel_rfl) (by kernel_rfl) (by kernel_rfl) (Pl.free 9 (by kernel_rfl)) (Pl.move 9 (.tmp 123) (by kernel_rfl) (by decide)) (below_drew w) ?_
  refine Pl.H.take 10 125 (.pointer (some ⟨p, 3, none⟩)) (by kernel_rfl) (by kernel_rfl) (by kernel_rfl) (Pl.guarded 10 9 124 false (by kernel_rfl) (by kernel_rfl) (by decide) rfl) (Pl.field 10 58 (.tmp 4) 3 _ (by kernel_rfl) (by decide) (fdEnB3 p)) (below_drew w) ?_
  refine Pl.H.take 11 126 (.int .i64 e.com) (by kernel_rfl) (by kernel_rfl) (by kernel_rfl) (Pl.guarded 11 9 124 false (by kernel_rfl) (by kernel_rfl) (by decide) rfl) (Pl.load 11 3 (.tmp 125) _ (by kernel_rfl) (by decide) (fun w' hS => ldInt p 3 e.com w' (he.keep hS).at.c3)) (below_drew w) ?_
  refine Pl.H.take 12 127 (.bool false) (by kernel_rfl) (by kernel_rfl) (by kernel_rfl) (Pl.guarded 12 9 124 false (by kernel_rfl) (by kernel_rfl) (by decide) rfl) (Pl.binV 12 .gtr 3 3 (.tmp 126) (.const (.int .i64 0)) (.int .i64 e.com) (.int .i64 0) _ (by kernel_rfl) (by decide) (by decide) rfl rfl (fun w => gtrF e.com 0 _ _ h2 w)) (below_drew w) ?_
  refine Pl.H.take 13 128 (.bool false) (by kernel_rfl) (by kernel_rfl) (by kernel_rfl) (Pl.guarded 13 9 124 false (by kernel_rfl) (by kernel_rfl) (by decide) rfl) (Pl.move 13 (.tmp 127) (by kernel_rfl) (by decide)) (below_drew w) ?_
  refine Pl.H.skip 14 129 (by kernel_rfl) (by kernel_rfl) (by kernel_rfl) (Pl.unwanted 14 13 128 true (by kernel_rfl) (by kernel_rfl) (by decide) rfl) (below_drew w) ?_
  refine Pl.H.skip 15 130 (by kernel_rfl) (by kernel_rfl) (by kernel_rfl) (Pl.unwanted 15 13 128 true (by kernel_rfl) (by kernel_rfl) (by decide) rfl) (below_drew w) ?_
  refine Pl.H.skip 16 131 (by kernel_rfl) (by kernel_rfl) (by kernel_rfl) (Pl.unwanted 16 13 128 true (by kernel_rfl) (by kernel_rfl) (by decide) rfl) (below_drew w) ?_
  refine Pl.H.skip 17 132 (by kernel_rfl) (by kernel_rfl) (by kernel_rfl) (Pl.unwanted 17 13 128 true (by kernel_rfl) (by kernel_rfl) (by decide) rfl) (below_drew w) ?_
  refine Pl.H.skip 18 133 (by kernel_rfl) (by kernel_rfl) (by kernel_rfl) (Pl.unwanted 18 13 128 true (by kernel_rfl) (by kernel_rfl) (by decide) rfl) (below_drew w) ?_
  refine Pl.H.skip 19 134 (by kernel_rfl) (by kernel_rfl) (by kernel_rfl) (Pl.unwanted 19 13 128 true (by kernel_rfl) (by kernel_rfl) (by decide) rfl) (below_drew w) ?_
  refine Pl.H.skip 20 135 (by kernel_rfl) (by kernel_rfl) (by kernel_rfl) (Pl.unwanted 20 13 128 true (by kernel_rfl) (by kernel_rfl) (by decide) rfl) (below_drew w) ?_
  refine Pl.H.skip 21 136 (by kernel_rfl) (by kernel_rfl) (by kernel_rfl) (Pl.unwanted 21 13 128 true (by kernel_rfl) (by kernel_rfl) (by decide) rfl) (below_drew w) ?_
  refine Pl.H.skip 22 137 (by kernel_rfl) (by kernel_rfl) (by kernel_rfl) (Pl.unwanted 22 13 128 true (by kernel_rfl) (by kernel_rfl) (by decide) rfl) (below_drew w) ?_
  refine Pl.H.take 23 138 (.bool false) (by kernel_rfl) (by kernel_rfl) (by kernel_rfl) (Pl.guarded 23 9 124 false (by kernel_rfl) (by kernel_rfl) (by decide) rfl) (Pl.pickF 23 (.tmp 128) (.tmp 137) (.const (.bool false)) (by kernel_rfl) (by decide) (by decide) rfl) (below_drew w) ?_
  refine Pl.H.take 24 139 (.bool false) (by kernel_rfl) (by kernel_rfl) (by kernel_rfl) (Pl.free 24 (by kernel_rfl)) (Pl.pickF 24 (.tmp 124) (.const (.bool true)) (.tmp 138) (by kernel_rfl) (by decide) (by decide) rfl) (below_drew w) ?_
  refine Pl.H.done (by kernel_rfl) (fun A' hA' => ?_)
  rw [Pl.At.ext hA' (((((((((((((((((((((((((hA.put 115 _).put 116 _).put 117 _).put 118 _).put 119 _).put 120 _).put 121 _).put 122 _).put 123 _).put 124 _).put 125 _).put 126 _).put 127 _).put 128 _).put 129 _).put 130 _).put 131 _).put 132 _).put 133 _).put 134 _).put 135 _).put 136 _).put 137 _).put 138 _).put 139 _)]
  exact hend (fun d => if d = 115 then .pointer (some ⟨g, 3, none⟩) else if d = 116 then .slice (some ⟨b, o, none⟩) len cap else if d = 117 then .int .i64 ((k : Nat) : Int) else if d = 118 then .pointer (some ⟨b, o + k * 4, none⟩) else if d = 119 then .pointer (some ⟨b, o + k * 4, none⟩) else if d = 120 then .int .i64 x.tx else if d = 121 then .pointer (some ⟨p, 0, none⟩) else if d = 122 then .int .i64 e.tx else if d = 123 then .bool false else if d = 124 then .bool false else if d = 125 then .pointer (some ⟨p, 3, none⟩) else if d = 126 then .int .i64 e.com else if d = 127 then .bool false else if d = 128 then .bool false else if d = 129 then undef else if d = 130 then undef else if d = 131 then undef else if d = 132 then undef else if d = 133 then undef else if d = 134 then undef else if d = 135 then undef else if d = 136 then undef else if d = 137 then undef else if d = 138 then .bool false else undef) _ (below_drew w)

set_option maxHeartbeats 2000000 in
set_option maxRecDepth 100000 in
theorem rmayT17c (w : World) (b o len cap k g p : Nat) (t : Tb) (x e : En) (hk : k < len) (hg : TbBlk w g t ⟨some ⟨b, o, none⟩, len, cap⟩) (he : EnBlk w p e) (hx : EnAt w b (o + k * 4) x) (h1 : ¬ x.tx = e.tx) (h2 : 0 < e.com) (h3 : x.com = e.com)
    {Q : Exit → Act → World → Prop} {A : Act} (hsz : A.tmps.size = 140) (hdf : A.defers = []) (s1 : A.tmps.getD 1 undef = .pointer (some ⟨g, 0, none⟩)) (s4 : A.tmps.getD 4 undef = .pointer (some ⟨p, 0, none⟩)) (s5 : A.tmps.getD 5 undef = .int .i64 ((k : Nat) : Int))
    (hend : ∀ (u : Nat → Value) w', Below w.heap.size w w' → Q .normal ((((((((((((((((((((((((((A).put (some 115) (u 115)).put (some 116) (u 116)).put (some 117) (u 117)).put (some 118) (u 118)).put (some 119) (u 119)).put (some 120) (u 120)).put (some 121) (u 121)).put (some 122) (u 122)).put (some 123) (u 123)).put (some 124) (u 124)).put (some 125) (u 125)).put (some 126) (u 126)).put (some 127) (u 127)).put (some 128) (u 128)).put (some 129) (u 129)).put (some 130) (u 130)).put (some 131) (u 131)).put (some 132) (u 132)).put (some 133) (u 133)).put (some 134) (u 134)).put (some 135) (u 135)).put (some 136) (u 136)).put (some 137) (u 137)).put (some 138) (u 138)).put (some 139) (.bool true)) w') :
    (Code.region 17 (Pl.find 17 ((Try.f10.body).getD .skip)) true).wp Try.prog Q A w := by
  have hA := Pl.At.same (v := .int .i64 ((k : Nat) : Int)) (d := 5) (Pl.At.same (v := .pointer (some ⟨p, 0, none⟩)) (d := 4) (Pl.At.same (v := .pointer (some ⟨g, 0, none⟩)) (d := 1) (Pl.At.here hsz hdf) s1) s4) s5
  refine Pl.H.start (S := (fun w' => Below w.heap.size w w')) (by kernel_rfl) hA (below_drew w) ?_
  rw [show (Pl.find 17 ((Try.f10.body).getD .skip)).size = 25 by kernel_rfl]
  refine Pl.H.take 0 115 (.pointer (some ⟨g, 3, none⟩)) (by kernel_rfl) (by kernel_rfl) (by kernel_rfl) (Pl.free 0 (by kernel_rfl)) (Pl.field 0 24 (.tmp 1) 3 _ (by kernel_rfl) (by decide) (fdTb3 g)) (below_drew w) ?_
  refine Pl.H.take 1 116 (.slice (some ⟨b, o, none⟩) len cap) (by kernel_rfl) (by kernel_rfl) (by kernel_rfl) (Pl.free 1 (by kernel_rfl)) (Pl.load 1 22 (.tmp 115) _ (by kernel_rfl) (by decide) (fun w' hS => ldEs g 3 _ _ _ w' (hg.keep hS).c3)) (below_drew w) ?_
  refine Pl.H.take 2 117 (.int .i64 ((k : Nat) : Int)) (by kernel_rfl) (by kernel_rfl) (by kernel_rfl) (Pl.free 2 (by kernel_rfl)) (Pl.move 2 (.tmp 5) (by kernel_rfl) (by decide)) (below_drew w) ?_
  refine Pl.H.take 3 118 (.pointer (some ⟨b, o + k * 4, none⟩)) (by kernel_rfl) (by kernel_rfl) (by kernel_rfl) (Pl.free 3 (by kernel_rfl)) (Pl.index 3 22 (.tmp 116) (.tmp 117) _ (by kernel_rfl) (by decide) (by decide) (ixEn b o len cap k hk)) (below_drew w) ?_
  refine Pl.H.take 4 119 (.pointer (some ⟨b, o + k * 4, none⟩)) (by kernel_rfl) (by kernel_rfl) (by kernel_rfl) (Pl.free 4 (by kernel_rfl)) (Pl.field 4 58 (.tmp 118) 0 _ (by kernel_rfl) (by decide) (fdEn0 b (o + k * 4))) (below_drew w) ?_
  refine Pl.H.take 5 120 (.int .i64 x.tx) (by kernel_rfl) (by kernel_rfl) (by kernel_rfl) (Pl.free 5 (by kernel_rfl)) (Pl.load 5 3 (.tmp 119) _ (by kernel_rfl) (by decide) (fun w' hS => ldInt b (o + k * 4) x.tx w' (hx.keep hS (Nat.le_refl _)).c0)) (below_drew w) ?_
  refine Pl.H.take 6 121 (.pointer (some ⟨p, 0, none⟩)) (by kernel_rfl) (by kernel_rfl) (by kernel_rfl) (Pl.free 6 (by kernel_rfl)) (Pl.field 6 58 (.tmp 4) 0 _ (by kernel_rfl) (by decide) (fdEnB0 p)) (below_drew w) ?_
  refine Pl.H.take 7 122 (.int .i64 e.tx) (by kernel_rfl) (by kernel_rfl) (by kernel_rfl) (Pl.free 7 (by kernel_rfl)) (Pl.load 7 3 (.tmp 121) _ (by kernel_rfl) (by decide) (fun w' hS => ldInt p 0 e.tx w' (he.keep hS).at.c0)) (below_drew w) ?_
  refine Pl.H.take 8 123 (.bool false) (by kernel_rfl) (by kernel_rfl) (by kernel_rfl) (Pl.free 8 (by kernel_rfl)) (Pl.binV 8 .eql 3 3 (.tmp 120) (.tmp 122) (.int .i64 x.tx) (.int .i64 e.tx) _ (by kernel_rfl) (by decide) (by decide) rfl rfl (fun w => eqlF x.tx e.tx _ _ h1 w)) (below_drew w) ?_
  refine Pl.H.take 9 124 (.bool false) (by kernel_rfl) (by kernel_rfl) (by kernel_rfl) (Pl.free 9 (by kernel_rfl)) (Pl.move 9 (.tmp 123) (by kernel_rfl) (by decide)) (below_drew w) ?_
  refine Pl.H.take 10 125 (.pointer (some ⟨p, 3, none⟩)) (by kernel_rfl) (by kernel_rfl) (by kernel_rfl) (Pl.guarded 10 9 124 false (by kernel_rfl) (by kernel_rfl) (by decide) rfl) (Pl.field 10 58 (.tmp 4) 3 _ (by kernel_rfl) (by decide) (fdEnB3 p)) (below_drew w) ?_
  refine Pl.H.take 11 126 (.int .i64 e.com) (by kernel_rfl) (by kernel_rfl) (by kernel_rfl) (Pl.guarded 11 9 124 false (by kernel_rfl) (by kernel_rfl) (by decide) rfl) (Pl.load 11 3 (.tmp 125) _ (by kernel_rfl) (by decide) (fun w' hS => ldInt p 3 e.com w' (he.keep hS).at.c3)) (below_drew w) ?_
  refine Pl.H.take 12 127 (.bool true) (by kernel_rfl) (by kernel_rfl) (by kernel_rfl) (Pl.guarded 12 9 124 false (by kernel_rfl) (by kernel_rfl) (by decide) rfl) (Pl.binV 12 .gtr 3 3 (.tmp 126) (.const (.int .i64 0)) (.int .i64 e.com) (.int .i64 0) _ (by kernel_rfl) (by decide) (by decide) rfl rfl (fun w => gtrT e.com 0 _ _ h2 w)) (below_drew w) ?_
  refine Pl.H.take 13 128 (.bool true) (by kernel_rfl) (by kernel_rfl) (by kernel_rfl) (Pl.guarded 13 9 124 false (by kernel_rfl) (by kernel_rfl) (by decide) rfl) (Pl.move 13 (.tmp 127) (by kernel_rfl) (by decide)) (below_drew w) ?_
  refine Pl.H.take 14 129 (.pointer (some ⟨g, 3, none⟩)) (by kernel_rfl) (by kernel_rfl) (by kernel_rfl) (Pl.guarded 14 13 128 true (by kernel_rfl) (by kernel_rfl) (by decide) rfl) (Pl.field 14 24 (.tmp 1) 3 _ (by kernel_rfl) (by decide) (fdTb3 g)) (below_drew w) ?_
  refine Pl.H.take 15 130 (.slice (some ⟨b, o, none⟩) len cap) (by kernel_rfl) (by kernel_rfl) (by kernel_rfl) (Pl.guarded 15 13 128 true (by kernel_rfl) (by kernel_rfl) (by decide) rfl) (Pl.load 15 22 (.tmp 129) _ (by kernel_rfl) (by decide) (fun w' hS => ldEs g 3 _ _ _ w' (hg.keep hS).c3)) (below_drew w) ?_
  refine Pl.H.take 16 131 (.int .i64 ((k : Nat) : Int)) (by kernel_rfl) (by kernel_rfl) (by kernel_rfl) (Pl.guarded 16 13 128 true (by kernel_rfl) (by kernel_rfl) (by decide) rfl) (Pl.move 16 (.tmp 5) (by kernel_rfl) (by decide)) (below_drew w) ?_
  refine Pl.H.take 17 132 (.pointer (some ⟨b, o + k * 4, none⟩)) (by kernel_rfl) (by kernel_rfl) (by kernel_rfl) (Pl.guarded 17 13 128 true (by kernel_rfl) (by kernel_rfl) (by decide) rfl) (Pl.index 17 22 (.tmp 130) (.tmp 131) _ (by kernel_rfl) (by decide) (by decide) (ixEn b o len cap k hk)) (below_drew w) ?_
  refine Pl.H.take 18 133 (.pointer (some ⟨b, o + k * 4 + 3, none⟩)) (by kernel_rfl) (by kernel_rfl) (by kernel_rfl) (Pl.guarded 18 13 128 true (by kernel_rfl) (by kernel_rfl) (by decide) rfl) (Pl.field 18 58 (.tmp 132) 3 _ (by kernel_rfl) (by decide) (fdEn3 b (o + k * 4))) (below_drew w) ?_
  refine Pl.H.take 19 134 (.int .i64 x.com) (by kernel_rfl) (by kernel_rfl) (by kernel_rfl) (Pl.guarded 19 13 128 true (by kernel_rfl) (by kernel_rfl) (by decide) rfl) (Pl.load 19 3 (.tmp 133) _ (by kernel_rfl) (by decide) (fun w' hS => ldInt b (o + k * 4 + 3) x.com w' (hx.keep hS (Nat.le_refl _)).c3)) (below_drew w) ?_
  refine Pl.H.take 20 135 (.pointer (some ⟨p, 3, none⟩)) (by kernel_rfl) (by kernel_rfl) (by kernel_rfl) (Pl.guarded 20 13 128 true (by kernel_rfl) (by kernel_rfl) (by decide) rfl) (Pl.field 20 58 (.tmp 4) 3 _ (by kernel_rfl) (by decide) (fdEnB3 p)) (below_drew w) ?_
  refine Pl.H.take 21 136 (.int .i64 e.com) (by kernel_rfl) (by kernel_rfl) (by kernel_rfl) (Pl.guarded 21 13 128 true (by kernel_rfl) (by kernel_rfl) (by decide) rfl) (Pl.load 21 3 (.tmp 135) _ (by kernel_rfl) (by decide) (fun w' hS => ldInt p 3 e.com w' (he.keep hS).at.c3)) (below_drew w) ?_
  refine Pl.H.take 22 137 (.bool true) (by kernel_rfl) (by kernel_rfl) (by kernel_rfl) (Pl.guarded 22 13 128 true (by kernel_rfl) (by kernel_rfl) (by decide) rfl) (Pl.binV 22 .eql 3 3 (.tmp 134) (.tmp 136) (.int .i64 x.com) (.int .i64 e.com) _ (by kernel_rfl) (by decide) (by decide) rfl rfl (fun w => eqlT x.com e.com _ _ h3 w)) (below_drew w) ?_
  refine Pl.H.take 23 138 (.bool true) (by kernel_rfl) (by kernel_rfl) (by kernel_rfl) (Pl.guarded 23 9 124 false (by kernel_rfl) (by kernel_rfl) (by decide) rfl) (Pl.pick 23 (.tmp 128) (.tmp 137) (.const (.bool false)) (by kernel_rfl) (by decide) (by decide) rfl) (below_drew w) ?_
  refine Pl.H.take 24 139 (.bool true) (by kernel_rfl) (by kernel_rfl) (by kernel_rfl) (Pl.free 24 (by kernel_rfl)) (Pl.pickF 24 (.tmp 124) (.const (.bool true)) (.tmp 138) (by kernel_rfl) (by decide) (by decide) rfl) (below_drew w) ?_
  refine Pl.H.done (by kernel_rfl) (fun A' hA' => ?_)
  rw [Pl.At.ext hA' (((((((((((((((((((((((((hA.put 115 _).put 116 _).put 117 _).put 118 _).put 119 _).put 120 _).put 121 _).put 122 _).put 123 _).put 124 _).put 125 _).put 126 _).put 127 _).put 128 _).put 129 _).put 130 _).put 131 _).put 132 _).put 133 _).put 134 _).put 135 _).put 136 _).put 137 _).put 138 _).put 139 _)]
  exact hend (fun d => if d = 115 then .pointer (some ⟨g, 3, none⟩) else if d = 116 then .slice (some ⟨b, o, none⟩) len cap else if d = 117 then .int .i64 ((k : Nat) : Int) else if d = 118 then .pointer (some ⟨b, o + k * 4, none⟩) else if d = 119 then .pointer (some ⟨b, o + k * 4, none⟩) else if d = 120 then .int .i64 x.tx else if d = 121 then .pointer (some ⟨p, 0, none⟩) else if d = 122 then .int .i64 e.tx else if d = 123 then .bool false else if d = 124 then .bool false else if d = 125 then .pointer (some ⟨p, 3, none⟩) else if d = 126 then .int .i64 e.com else if d = 127 then .bool true else if d = 128 then .bool true else if d = 129 then .pointer (some ⟨g, 3, none⟩) else if d = 130 then .slice (some ⟨b, o, none⟩) len cap else if d = 131 then .int .i64 ((k : Nat) : Int) else if d = 132 then .pointer (some ⟨b, o + k * 4, none⟩) else if d = 133 then .pointer (some ⟨b, o + k * 4 + 3, none⟩) else if d = 134 then .int .i64 x.com else if d = 135 then .pointer (some ⟨p, 3, none⟩) else if d = 136 then .int .i64 e.com else if d = 137 then .bool true else if d = 138 then .bool true else undef) _ (below_drew w)

set_option maxHeartbeats 2000000 in
set_option maxRecDepth 100000 in
theorem rmayT17d (w : World) (b o len cap k g p : Nat) (t : Tb) (x e : En) (hk : k < len) (hg : TbBlk w g t ⟨some ⟨b, o, none⟩, len, cap⟩) (he : EnBlk w p e) (hx : EnAt w b (o + k * 4) x) (h1 : ¬ x.tx = e.tx) (h2 : 0 < e.com) (h3 : ¬ x.com = e.com)
    {Q : Exit → Act → World → Prop} {A : Act} (hsz : A.tmps.size = 140) (hdf : A.defers = []) (s1 : A.tmps.getD 1 undef = .pointer (some ⟨g, 0, none⟩)) (s4 : A.tmps.getD 4 undef = .pointer (some ⟨p, 0, none⟩)) (s5 : A.tmps.getD 5 undef = .int .i64 ((k : Nat) : Int))
    (hend : ∀ (u : Nat → Value) w', Below w.heap.size w w' → Q .normal ((((((((((((((((((((((((((A).put (some 115) (u 115)).put (some 116) (u 116)).put (some 117) (u 117)).put (some 118) (u 118)).put (some 119) (u 119)).put (some 120) (u 120)).put (some 121) (u 121)).put (some 122) (u 122)).put (some 123) (u 123)).put (some 124) (u 124)).put (some 125) (u 125)).put (some 126) (u 126)).put (some 127) (u 127)).put (some 128) (u 128)).put (some 129) (u 129)).put (some 130) (u 130)).put (some 131) (u 131)).put (some 132) (u 132)).put (some 133) (u 133)).put (some 134) (u 134)).put (some 135) (u 135)).put (some 136) (u 136)).put (some 137) (u 137)).put (some 138) (u 138)).put (some 139) (.bool false)) w') :
    (Code.region 17 (Pl.find 17 ((Try.f10.body).getD .skip)) true).wp Try.prog Q A w := by
  have hA := Pl.At.same (v := .int .i64 ((k : Nat) : Int)) (d := 5) (Pl.At.same (v := .pointer (some ⟨p, 0, none⟩)) (d := 4) (Pl.At.same (v := .pointer (some ⟨g, 0, none⟩)) (d := 1) (Pl.At.here hsz hdf) s1) s4) s5
  refine Pl.H.start (S := (fun w' => Below w.heap.size w w')) (by kernel_rfl) hA (below_drew w) ?_
  rw [show (Pl.find 17 ((Try.f10.body).getD .skip)).size = 25 by kernel_rfl]
  refine Pl.H.take 0 115 (.pointer (some ⟨g, 3, none⟩)) (by kernel_rfl) (by kernel_rfl) (by kernel_rfl) (Pl.free 0 (by kernel_rfl)) (Pl.field 0 24 (.tmp 1) 3 _ (by kernel_rfl) (by decide) (fdTb3 g)) (below_drew w) ?_
  refine Pl.H.take 1 116 (.slice (some ⟨b, o, none⟩) len cap) (by kernel_rfl) (by kernel_rfl) (by kernel_rfl) (Pl.free 1 (by kernel_rfl)) (Pl.load 1 22 (.tmp 115) _ (by kernel_rfl) (by decide) (fun w' hS => ldEs g 3 _ _ _ w' (hg.keep hS).c3)) (below_drew w) ?_
  refine Pl.H.take 2 117 (.int .i64 ((k : Nat) : Int)) (by kernel_rfl) (by kernel_rfl) (by kernel_rfl) (Pl.free 2 (by kernel_rfl)) (Pl.move 2 (.tmp 5) (by kernel_rfl) (by decide)) (below_drew w) ?_
  refine Pl.H.take 3 118 (.pointer (some ⟨b, o + k * 4, none⟩)) (by kernel_rfl) (by kernel_rfl) (by kernel_rfl) (Pl.free 3 (by kernel_rfl)) (Pl.index 3 22 (.tmp 116) (.tmp 117) _ (by kernel_rfl) (by decide) (by decide) (ixEn b o len cap k hk)) (below_drew w) ?_
  refine Pl.H.take 4 119 (.pointer (some ⟨b, o + k * 4, none⟩)) (by kernel_rfl) (by kernel_rfl) (by kernel_rfl) (Pl.free 4 (by kernel_rfl)) (Pl.field 4 58 (.tmp 118) 0 _ (by kernel_rfl) (by decide) (fdEn0 b (o + k * 4))) (below_drew w) ?_
  refine Pl.H.take 5 120 (.int .i64 x.tx) (by kernel_rfl) (by kernel_rfl) (by kernel_rfl) (Pl.free 5 (by kernel_rfl)) (Pl.load 5 3 (.tmp 119) _ (by kernel_rfl) (by decide) (fun w' hS => ldInt b (o + k * 4) x.tx w' (hx.keep hS (Nat.le_refl _)).c0)) (below_drew w) ?_
  refine Pl.H.take 6 121 (.pointer (some ⟨p, 0, none⟩)) (by kernel_rfl) (by kernel_rfl) (by kernel_rfl) (Pl.free 6 (by kernel_rfl)) (Pl.field 6 58 (.tmp 4) 0 _ (by kernel_rfl) (by decide) (fdEnB0 p)) (below_drew w) ?_
  refine Pl.H.take 7 122 (.int .i64 e.tx) (by kernel_rfl) (by kernel_rfl) (by kernel_rfl) (Pl.free 7 (by kernel_rfl)) (Pl.load 7 3 (.tmp 121) _ (by kernel_rfl) (by decide) (fun w' hS => ldInt p 0 e.tx w' (he.keep hS).at.c0)) (below_drew w) ?_
  refine Pl.H.take 8 123 (.bool false) (by kernel_rfl) (by kernel_rfl) (by kernel_rfl) (Pl.free 8 (by kernel_rfl)) (Pl.binV 8 .eql 3 3 (.tmp 120) (.tmp 122) (.int .i64 x.tx) (.int .i64 e.tx) _ (by kernel_rfl) (by decide) (by decide) rfl rfl (fun w => eqlF x.tx e.tx _ _ h1 w)) (below_drew w) ?_
  refine Pl.H.take 9 124 (.bool false) (by kernel_rfl) (by kernel_rfl) (by kernel_rfl) (Pl.free 9 (by kernel_rfl)) (Pl.move 9 (.tmp 123) (by kernel_rfl) (by decide)) (below_drew w) ?_
  refine Pl.H.take 10 125 (.pointer (some ⟨p, 3, none⟩)) (by kernel_rfl) (by kernel_rfl) (by kernel_rfl) (Pl.guarded 10 9 124 false (by kernel_rfl) (by kernel_rfl) (by decide) rfl) (Pl.field 10 58 (.tmp 4) 3 _ (by kernel_rfl) (by decide) (fdEnB3 p)) (below_drew w) ?_
  refine Pl.H.take 11 126 (.int .i64 e.com) (by kernel_rfl) (by kernel_rfl) (by kernel_rfl) (Pl.guarded 11 9 124 false (by kernel_rfl) (by kernel_rfl) (by decide) rfl) (Pl.load 11 3 (.tmp 125) _ (by kernel_rfl) (by decide) (fun w' hS => ldInt p 3 e.com w' (he.keep hS).at.c3)) (below_drew w) ?_
  refine Pl.H.take 12 127 (.bool true) (by kernel_rfl) (by kernel_rfl) (by kernel_rfl) (Pl.guarded 12 9 124 false (by kernel_rfl) (by kernel_rfl) (by decide) rfl) (Pl.binV 12 .gtr 3 3 (.tmp 126) (.const (.int .i64 0)) (.int .i64 e.com) (.int .i64 0) _ (by kernel_rfl) (by decide) (by decide) rfl rfl (fun w => gtrT e.com 0 _ _ h2 w)) (below_drew w) ?_
  refine Pl.H.take 13 128 (.bool true) (by kernel_rfl) (by kernel_rfl) (by kernel_rfl) (Pl.guarded 13 9 124 false (by kernel_rfl) (by kernel_rfl) (by decide) rfl) (Pl.move 13 (.tmp 127) (by kernel_rfl) (by decide)) (below_drew w) ?_
  refine Pl.H.take 14 129 (.pointer (some ⟨g, 3, none⟩)) (by kernel_rfl) (by kernel_rfl) (by kernel_rfl) (Pl.guarded 14 13 128 true (by kernel_rfl) (by kernel_rfl) (by decide) rfl) (Pl.field 14 24 (.tmp 1) 3 _ (by kernel_rfl) (by decide) (fdTb3 g)) (below_drew w) ?_
  refine Pl.H.take 15 130 (.slice (some ⟨b, o, none⟩) len cap) (by kernel_rfl) (by kernel_rfl) (by kernel_rfl) (Pl.guarded 15 13 128 true (by kernel_rfl) (by kernel_rfl) (by decide) rfl) (Pl.load 15 22 (.tmp 129) _ (by kernel_rfl) (by decide) (fun w' hS => ldEs g 3 _ _ _ w' (hg.keep hS).c3)) (below_drew w) ?_
  refine Pl.H.take 16 131 (.int .i64 ((k : Nat) : Int)) (by kernel_rfl) (by kernel_rfl) (by kernel_rfl) (Pl.guarded 16 13 128 true (by kernel_rfl) (by kernel_rfl) (by decide) rfl) (Pl.move 16 (.tmp 5) (by kernel_rfl) (by decide)) (below_drew w) ?_
  refine Pl.H.take 17 132 (.pointer (some ⟨b, o + k * 4, none⟩)) (by kernel_rfl) (by kernel_rfl) (by kernel_rfl) (Pl.guarded 17 13 128 true (by kernel_rfl) (by kernel_rfl) (by decide) rfl) (Pl.index 17 22 (.tmp 130) (.tmp 131) _ (by kernel_rfl) (by decide) (by decide) (ixEn b o len cap k hk)) (below_drew w) ?_
  refine Pl.H.take 18 133 (.pointer (some ⟨b, o + k * 4 + 3, none⟩)) (by kernel_rfl) (by kernel_rfl) (by kernel_rfl) (Pl.guarded 18 13 128 true (by kernel_rfl) (by kernel_rfl) (by decide) rfl) (Pl.field 18 58 (.tmp 132) 3 _ (by kernel_rfl) (by decide) (fdEn3 b (o + k * 4))) (below_drew w) ?_
  refine Pl.H.take 19 134 (.int .i64 x.com) (by kernel_rfl) (by kernel_rfl) (by kernel_rfl) (Pl.guarded 19 13 128 true (by kernel_rfl) (by kernel_rfl) (by decide) rfl) (Pl.load 19 3 (.tmp 133) _ (by kernel_rfl) (by decide) (fun w' hS => ldInt b (o + k * 4 + 3) x.com w' (hx.keep hS (Nat.le_refl _)).c3)) (below_drew w) ?_
  refine Pl.H.take 20 135 (.pointer (some ⟨p, 3, none⟩)) (by kernel_rfl) (by kernel_rfl) (by kernel_rfl) (Pl.guarded 20 13 128 true (by kernel_rfl) (by kernel_rfl) (by decide) rfl) (Pl.field 20 58 (.tmp 4) 3 _ (by kernel_rfl) (by decide) (fdEnB3 p)) (below_drew w) ?_
  refine Pl.H.take 21 136 (.int .i64 e.com) (by kernel_rfl) (by kernel_rfl) (by kernel_rfl) (Pl.guarded 21 13 128 true (by kernel_rfl) (by kernel_rfl) (by decide) rfl) (Pl.load 21 3 (.tmp 135) _ (by kernel_rfl) (by decide) (fun w' hS => ldInt p 3 e.com w' (he.keep hS).at.c3)) (below_drew w) ?_
  refine Pl.H.take 22 137 (.bool false) (by kernel_rfl) (by kernel_rfl) (by kernel_rfl) (Pl.guarded 22 13 128 true (by kernel_rfl) (by kernel_rfl) (by decide) rfl) (Pl.binV 22 .eql 3 3 (.tmp 134) (.tmp 136) (.int .i64 x.com) (.int .i64 e.com) _ (by kernel_rfl) (by decide) (by decide) rfl rfl (fun w => eqlF x.com e.com _ _ h3 w)) (below_drew w) ?_
  refine Pl.H.take 23 138 (.bool false) (by kernel_rfl) (by kernel_rfl) (by kernel_rfl) (Pl.guarded 23 9 124 false (by kernel_rfl) (by kernel_rfl) (by decide) rfl) (Pl.pick 23 (.tmp 128) (.tmp 137) (.const (.bool false)) (by kernel_rfl) (by decide) (by decide) rfl) (below_drew w) ?_
  refine Pl.H.take 24 139 (.bool false) (by kernel_rfl) (by kernel_rfl) (by kernel_rfl) (Pl.free 24 (by kernel_rfl)) (Pl.pickF 24 (.tmp 124) (.const (.bool true)) (.tmp 138) (by kernel_rfl) (by decide) (by decide) rfl) (below_drew w) ?_
  refine Pl.H.done (by kernel_rfl) (fun A' hA' => ?_)
  rw [Pl.At.ext hA' (((((((((((((((((((((((((hA.put 115 _).put 116 _).put 117 _).put 118 _).put 119 _).put 120 _).put 121 _).put 122 _).put 123 _).put 124 _).put 125 _).put 126 _).put 127 _).put 128 _).put 129 _).put 130 _).put 131 _).put 132 _).put 133 _).put 134 _).put 135 _).put 136 _).put 137 _).put 138 _).put 139 _)]
  exact hend (fun d => if d = 115 then .pointer (some ⟨g, 3, none⟩) else if d = 116 then .slice (some ⟨b, o, none⟩) len cap else if d = 117 then .int .i64 ((k : Nat) : Int) else if d = 118 then .pointer (some ⟨b, o + k * 4, none⟩) else if d = 119 then .pointer (some ⟨b, o + k * 4, none⟩) else if d = 120 then .int .i64 x.tx else if d = 121 then .pointer (some ⟨p, 0, none⟩) else if d = 122 then .int .i64 e.tx else if d = 123 then .bool false else if d = 124 then .bool false else if d = 125 then .pointer (some ⟨p, 3, none⟩) else if d = 126 then .int .i64 e.com else if d = 127 then .bool true else if d = 128 then .bool true else if d = 129 then .pointer (some ⟨g, 3, none⟩) else if d = 130 then .slice (some ⟨b, o, none⟩) len cap else if d = 131 then .int .i64 ((k : Nat) : Int) else if d = 132 then .pointer (some ⟨b, o + k * 4, none⟩) else if d = 133 then .pointer (some ⟨b, o + k * 4 + 3, none⟩) else if d = 134 then .int .i64 x.com else if d = 135 then .pointer (some ⟨p, 3, none⟩) else if d = 136 then .int .i64 e.com else if d = 137 then .bool false else if d = 138 then .bool false else undef) _ (below_drew w)

set_option maxHeartbeats 2000000 in
set_option maxRecDepth 100000 in
theorem reld5a (w : World) (b o len cap i g : Nat) (t : Tb) (x : En) (hi : i < len) (hg : TbBlk w g t ⟨some ⟨b, o, none⟩, len, cap⟩) (hx : EnAt w b (o + i * 4) x) (z : Int) (h1 : ¬ x.st = 2)
    {Q : Exit → Act → World → Prop} {A : Act} (hsz : A.tmps.size = 47) (hdf : A.defers = []) (s1 : A.tmps.getD 1 undef = .pointer (some ⟨g, 0, none⟩)) (s3 : A.tmps.getD 3 undef = .int .i64 z) (s4 : A.tmps.getD 4 undef = .int .i64 ((i : Nat) : Int))
    (hend : ∀ (u : Nat → Value) w', Below w.heap.size w w' → Q .normal (((((((((((((((((((((((((((A).put (some 12) (u 12)).put (some 13) (u 13)).put (some 14) (u 14)).put (some 15) (u 15)).put (some 16) (u 16)).put (some 17) (u 17)).put (some 18) (u 18)).put (some 19) (u 19)).put (some 20) (u 20)).put (some 21) (u 21)).put (some 22) (u 22)).put (some 23) (u 23)).put (some 24) (u 24)).put (some 25) (u 25)).put (some 26) (u 26)).put (some 27) (u 27)).put (some 28) (u 28)).put (some 29) (u 29)).put (some 30) (u 30)).put (some 31) (u 31)).put (some 32) (u 32)).put (some 33) (u 33)).put (some 34) (u 34)).put (some 35) (u 35)).put (some 36) (u 36)).put (some 37) (.bool false)) w') :
    (Code.region 5 (Pl.find 5 ((Try.f33.body).getD .skip)) true).wp Try.prog Q A w := by
  have hA := Pl.At.same (v := .int .i64 ((i : Nat) : Int)) (d := 4) (Pl.At.same (v := .int .i64 z) (d := 3) (Pl.At.same (v := .pointer (some ⟨g, 0, none⟩)) (d := 1) (Pl.At.here hsz hdf) s1) s3) s4
  refine Pl.H.start (S := (fun w' => Below w.heap.size w w')) (by kernel_rfl) hA (below_drew w) ?_
  rw [show (Pl.find 5 ((Try.f33.body).getD .skip)).size = 26 by kernel_rfl]
  refine Pl.H.take 0 12 (.pointer (some ⟨g, 3, none⟩)) (by kernel_rfl) (by kernel_rfl) (by kernel_rfl) (Pl.free 0 (by kernel_rfl)) (Pl.field 0 24 (.tmp 1) 3 _ (by kernel_rfl) (by decide) (fdTb3 g)) (below_drew w) ?_
  refine Pl.H.take 1 13 (.slice (some ⟨b, o, none⟩) len cap) (by kernel_rfl) (by kernel_rfl) (by kernel_rfl) (Pl.free 1 (by kernel_rfl)) (Pl.load 1 22 (.tmp 12) _ (by kernel_rfl) (by decide) (fun w' hS => ldEs g 3 _ _ _ w' (hg.keep hS).c3)) (below_drew w) ?_
  refine Pl.H.take 2 14 (.int .i64 ((i : Nat) : Int)) (by kernel_rfl) (by kernel_rfl) (by kernel_rfl) (Pl.free 2 (by kernel_rfl)) (Pl.move 2 (.tmp 4) (by kernel_rfl) (by decide)) (below_drew w) ?_
  refine Pl.H.take 3 15 (.pointer (some ⟨b, o + i * 4, none⟩)) (by kernel_rfl) (by kernel_rfl) (by kernel_rfl) (Pl.free 3 (by kernel_rfl)) (Pl.index 3 22 (.tmp 13) (.tmp 14) _ (by kernel_rfl) (by decide) (by decide) (ixEn b o len cap i hi)) (below_drew w) ?_
  refine Pl.H.take 4 16 (.pointer (some ⟨b, o + i * 4 + 1, none⟩)) (by kernel_rfl) (by kernel_rfl) (by kernel_rfl) (Pl.free 4 (by kernel_rfl)) (Pl.field 4 58 (.tmp 15) 1 _ (by kernel_rfl) (by decide) (fdEn1 b (o + i * 4))) (below_drew w) ?_
  refine Pl.H.take 5 17 (.int .i64 x.st) (by kernel_rfl) (by kernel_rfl) (by kernel_rfl) (Pl.free 5 (by kernel_rfl)) (Pl.load 5 3 (.tmp 16) _ (by kernel_rfl) (by decide) (fun w' hS => ldInt b (o + i * 4 + 1) x.st w' (hx.keep hS (Nat.le_refl _)).c1)) (below_drew w) ?_
  refine Pl.H.take 6 18 (.bool false) (by kernel_rfl) (by kernel_rfl) (by kernel_rfl) (Pl.free 6 (by kernel_rfl)) (Pl.binV 6 .eql 3 3 (.tmp 17) (.const (.int .i64 2)) (.int .i64 x.st) (.int .i64 2) _ (by kernel_rfl) (by decide) (by decide) rfl rfl (fun w => eqlF x.st 2 _ _ h1 w)) (below_drew w) ?_
  refine Pl.H.take 7 19 (.bool false) (by kernel_rfl) (by kernel_rfl) (by kernel_rfl) (Pl.free 7 (by kernel_rfl)) (Pl.move 7 (.tmp 18) (by kernel_rfl) (by decide)) (below_drew w) ?_
  refine Pl.H.skip 8 20 (by kernel_rfl) (by kernel_rfl) (by kernel_rfl) (Pl.unwanted 8 7 19 true (by kernel_rfl) (by kernel_rfl) (by decide) rfl) (below_drew w) ?_
  refine Pl.H.skip 9 21 (by kernel_rfl) (by kernel_rfl) (by kernel_rfl) (Pl.unwanted 9 7 19 true (by kernel_rfl) (by kernel_rfl) (by decide) rfl) (below_drew w) ?_
  refine Pl.H.skip 10 22 (by kernel_rfl) (by kernel_rfl) (by kernel_rfl) (Pl.unwanted 10 7 19 true (by kernel_rfl) (by kernel_rfl) (by decide) rfl) (below_drew w) ?_
  refine Pl.H.skip 11 23 (by kernel_rfl) (by kernel_rfl) (by kernel_rfl) (Pl.unwantedU 11 10 22 false (by kernel_rfl) (by kernel_rfl) (by decide) rfl) (below_drew w) ?_
  refine Pl.H.skip 12 24 (by kernel_rfl) (by kernel_rfl) (by kernel_rfl) (Pl.unwantedU 12 10 22 false (by kernel_rfl) (by kernel_rfl) (by decide) rfl) (below_drew w) ?_
  refine Pl.H.skip 13 25 (by kernel_rfl) (by kernel_rfl) (by kernel_rfl) (Pl.unwantedU 13 10 22 false (by kernel_rfl) (by kernel_rfl) (by decide) rfl) (below_drew w) ?_
  refine Pl.H.skip 14 26 (by kernel_rfl) (by kernel_rfl) (by kernel_rfl) (Pl.unwantedU 14 10 22 false (by kernel_rfl) (by kernel_rfl) (by decide) rfl) (below_drew w) ?_
  refine Pl.H.skip 15 27 (by kernel_rfl) (by kernel_rfl) (by kernel_rfl) (Pl.unwantedU 15 10 22 false (by kernel_rfl) (by kernel_rfl) (by decide) rfl) (below_drew w) ?_
  refine Pl.H.skip 16 28 (by kernel_rfl) (by kernel_rfl) (by kernel_rfl) (Pl.unwantedU 16 10 22 false (by kernel_rfl) (by kernel_rfl) (by decide) rfl) (below_drew w) ?_
  refine Pl.H.skip 17 29 (by kernel_rfl) (by kernel_rfl) (by kernel_rfl) (Pl.unwantedU 17 10 22 false (by kernel_rfl) (by kernel_rfl) (by decide) rfl) (below_drew w) ?_
  refine Pl.H.skip 18 30 (by kernel_rfl) (by kernel_rfl) (by kernel_rfl) (Pl.unwantedU 18 10 22 false (by kernel_rfl) (by kernel_rfl) (by decide) rfl) (below_drew w) ?_
  refine Pl.H.skip 19 31 (by kernel_rfl) (by kernel_rfl) (by kernel_rfl) (Pl.unwantedU 19 10 22 false (by kernel_rfl) (by kernel_rfl) (by decide) rfl) (below_drew w) ?_
  refine Pl.H.skip 20 32 (by kernel_rfl) (by kernel_rfl) (by kernel_rfl) (Pl.unwantedU 20 10 22 false (by kernel_rfl) (by kernel_rfl) (by decide) rfl) (below_drew w) ?_
  refine Pl.H.skip 21 33 (by kernel_rfl) (by kernel_rfl) (by kernel_rfl) (Pl.unwantedU 21 10 22 false (by kernel_rfl) (by kernel_rfl) (by decide) rfl) (below_drew w) ?_
  refine Pl.H.skip 22 34 (by kernel_rfl) (by kernel_rfl) (by kernel_rfl) (Pl.unwantedU 22 10 22 false (by kernel_rfl) (by kernel_rfl) (by decide) rfl) (below_drew w) ?_
  refine Pl.H.skip 23 35 (by kernel_rfl) (by kernel_rfl) (by kernel_rfl) (Pl.unwantedU 23 10 22 false (by kernel_rfl) (by kernel_rfl) (by decide) rfl) (below_drew w) ?_
  refine Pl.H.skip 24 36 (by kernel_rfl) (by kernel_rfl) (by kernel_rfl) (Pl.unwanted 24 7 19 true (by kernel_rfl) (by kernel_rfl) (by decide) rfl) (below_drew w) ?_
  refine Pl.H.take 25 37 (.bool false) (by kernel_rfl) (by kernel_rfl) (by kernel_rfl) (Pl.free 25 (by kernel_rfl)) (Pl.pickF 25 (.tmp 19) (.tmp 36) (.const (.bool false)) (by kernel_rfl) (by decide) (by decide) rfl) (below_drew w) ?_
  refine Pl.H.done (by kernel_rfl) (fun A' hA' => ?_)
  rw [Pl.At.ext hA' ((((((((((((((((((((((((((hA.put 12 _).put 13 _).put 14 _).put 15 _).put 16 _).put 17 _).put 18 _).put 19 _).put 20 _).put 21 _).put 22 _).put 23 _).put 24 _).put 25 _).put 26 _).put 27 _).put 28 _).put 29 _).put 30 _).put 31 _).put 32 _).put 33 _).put 34 _).put 35 _).put 36 _).put 37 _)]
  exact hend (fun d => if d = 12 then .pointer (some ⟨g, 3, none⟩) else if d = 13 then .slice (some ⟨b, o, none⟩) len cap else if d = 14 then .int .i64 ((i : Nat) : Int) else if d = 15 then .pointer (some ⟨b, o + i * 4, none⟩) else if d = 16 then .pointer (some ⟨b, o + i * 4 + 1, none⟩) else if d = 17 then .int .i64 x.st else if d = 18 then .bool false else if d = 19 then .bool false else if d = 20 then undef else if d = 21 then undef else if d = 22 then undef else if d = 23 then undef else if d = 24 then undef else if d = 25 then undef else if d = 26 then undef else if d = 27 then undef else if d = 28 then undef else if d = 29 then undef else if d = 30 then undef else if d = 31 then undef else if d = 32 then undef else if d = 33 then undef else if d = 34 then undef else if d = 35 then undef else if d = 36 then undef else undef) _ (below_drew w)

set_option maxHeartbeats 2000000 in
set_option maxRecDepth 100000 in
theorem reld5b (w : World) (b o len cap i g : Nat) (t : Tb) (x : En) (hi : i < len) (hg : TbBlk w g t ⟨some ⟨b, o, none⟩, len, cap⟩) (hx : EnAt w b (o + i * 4) x)  (h1 : x.st = 2)
    {Q : Exit → Act → World → Prop} {A : Act} (hsz : A.tmps.size = 47) (hdf : A.defers = []) (s1 : A.tmps.getD 1 undef = .pointer (some ⟨g, 0, none⟩)) (s3 : A.tmps.getD 3 undef = .int .i64 (-1)) (s4 : A.tmps.getD 4 undef = .int .i64 ((i : Nat) : Int))
    (hend : ∀ (u : Nat → Value) w', Below w.heap.size w w' → Q .normal (((((((((((((((((((((((((((A).put (some 12) (u 12)).put (some 13) (u 13)).put (some 14) (u 14)).put (some 15) (u 15)).put (some 16) (u 16)).put (some 17) (u 17)).put (some 18) (u 18)).put (some 19) (u 19)).put (some 20) (u 20)).put (some 21) (u 21)).put (some 22) (u 22)).put (some 23) (u 23)).put (some 24) (u 24)).put (some 25) (u 25)).put (some 26) (u 26)).put (some 27) (u 27)).put (some 28) (u 28)).put (some 29) (u 29)).put (some 30) (u 30)).put (some 31) (u 31)).put (some 32) (u 32)).put (some 33) (u 33)).put (some 34) (u 34)).put (some 35) (u 35)).put (some 36) (u 36)).put (some 37) (.bool true)) w') :
    (Code.region 5 (Pl.find 5 ((Try.f33.body).getD .skip)) true).wp Try.prog Q A w := by
  have hA := Pl.At.same (v := .int .i64 ((i : Nat) : Int)) (d := 4) (Pl.At.same (v := .int .i64 (-1)) (d := 3) (Pl.At.same (v := .pointer (some ⟨g, 0, none⟩)) (d := 1) (Pl.At.here hsz hdf) s1) s3) s4
  refine Pl.H.start (S := (fun w' => Below w.heap.size w w')) (by kernel_rfl) hA (below_drew w) ?_
  rw [show (Pl.find 5 ((Try.f33.body).getD .skip)).size = 26 by kernel_rfl]
  refine Pl.H.take 0 12 (.pointer (some ⟨g, 3, none⟩)) (by kernel_rfl) (by kernel_rfl) (by kernel_rfl) (Pl.free 0 (by kernel_rfl)) (Pl.field 0 24 (.tmp 1) 3 _ (by kernel_rfl) (by decide) (fdTb3 g)) (below_drew w) ?_
  refine Pl.H.take 1 13 (.slice (some ⟨b, o, none⟩) len cap) (by kernel_rfl) (by kernel_rfl) (by kernel_rfl) (Pl.free 1 (by kernel_rfl)) (Pl.load 1 22 (.tmp 12) _ (by kernel_rfl) (by decide) (fun w' hS => ldEs g 3 _ _ _ w' (hg.keep hS).c3)) (below_drew w) ?_
  refine Pl.H.take 2 14 (.int .i64 ((i : Nat) : Int)) (by kernel_rfl) (by kernel_rfl) (by kernel_rfl) (Pl.free 2 (by kernel_rfl)) (Pl.move 2 (.tmp 4) (by kernel_rfl) (by decide)) (below_drew w) ?_
  refine Pl.H.take 3 15 (.pointer (some ⟨b, o + i * 4, none⟩)) (by kernel_rfl) (by kernel_rfl) (by kernel_rfl) (Pl.free 3 (by kernel_rfl)) (Pl.index 3 22 (.tmp 13) (.tmp 14) _ (by kernel_rfl) (by decide) (by decide) (ixEn b o len cap i hi)) (below_drew w) ?_
  refine Pl.H.take 4 16 (.pointer (some ⟨b, o + i * 4 + 1, none⟩)) (by kernel_rfl) (by kernel_rfl) (by kernel_rfl) (Pl.free 4 (by kernel_rfl)) (Pl.field 4 58 (.tmp 15) 1 _ (by kernel_rfl) (by decide) (fdEn1 b (o + i * 4))) (below_drew w) ?_
  refine Pl.H.take 5 17 (.int .i64 x.st) (by kernel_rfl) (by kernel_rfl) (by kernel_rfl) (Pl.free 5 (by kernel_rfl)) (Pl.load 5 3 (.tmp 16) _ (by kernel_rfl) (by decide) (fun w' hS => ldInt b (o + i * 4 + 1) x.st w' (hx.keep hS (Nat.le_refl _)).c1)) (below_drew w) ?_
  refine Pl.H.take 6 18 (.bool true) (by kernel_rfl) (by kernel_rfl) (by kernel_rfl) (Pl.free 6 (by kernel_rfl)) (Pl.binV 6 .eql 3 3 (.tmp 17) (.const (.int .i64 2)) (.int .i64 x.st) (.int .i64 2) _ (by kernel_rfl) (by decide) (by decide) rfl rfl (fun w => eqlT x.st 2 _ _ h1 w)) (below_drew w) ?_
  refine Pl.H.take 7 19 (.bool true) (by kernel_rfl) (by kernel_rfl) (by kernel_rfl) (Pl.free 7 (by kernel_rfl)) (Pl.move 7 (.tmp 18) (by kernel_rfl) (by decide)) (below_drew w) ?_
  refine Pl.H.take 8 20 (.int .i64 (-1)) (by kernel_rfl) (by kernel_rfl) (by kernel_rfl) (Pl.guarded 8 7 19 true (by kernel_rfl) (by kernel_rfl) (by decide) rfl) (Pl.move 8 (.tmp 3) (by kernel_rfl) (by decide)) (below_drew w) ?_
  refine Pl.H.take 9 21 (.bool true) (by kernel_rfl) (by kernel_rfl) (by kernel_rfl) (Pl.guarded 9 7 19 true (by kernel_rfl) (by kernel_rfl) (by decide) rfl) (Pl.binV 9 .lss 3 3 (.tmp 20) (.const (.int .i64 0)) (.int .i64 (-1)) (.int .i64 0) _ (by kernel_rfl) (by decide) (by decide) rfl rfl (fun w => lssT (-1) 0 _ _ (by decide) w)) (below_drew w) ?_
  refine Pl.H.take 10 22 (.bool true) (by kernel_rfl) (by kernel_rfl) (by kernel_rfl) (Pl.guarded 10 7 19 true (by kernel_rfl) (by kernel_rfl) (by decide) rfl) (Pl.move 10 (.tmp 21) (by kernel_rfl) (by decide)) (below_drew w) ?_
  refine Pl.H.skip 11 23 (by kernel_rfl) (by kernel_rfl) (by kernel_rfl) (Pl.unwanted 11 10 22 false (by kernel_rfl) (by kernel_rfl) (by decide) rfl) (below_drew w) ?_
  refine Pl.H.skip 12 24 (by kernel_rfl) (by kernel_rfl) (by kernel_rfl) (Pl.unwanted 12 10 22 false (by kernel_rfl) (by kernel_rfl) (by decide) rfl) (below_drew w) ?_
  refine Pl.H.skip 13 25 (by kernel_rfl) (by kernel_rfl) (by kernel_rfl) (Pl.unwanted 13 10 22 false (by kernel_rfl) (by kernel_rfl) (by decide) rfl) (below_drew w) ?_
  refine Pl.H.skip 14 26 (by kernel_rfl) (by kernel_rfl) (by kernel_rfl) (Pl.unwanted 14 10 22 false (by kernel_rfl) (by kernel_rfl) (by decide) rfl) (below_drew w) ?_
  refine Pl.H.skip 15 27 (by kernel_rfl) (by kernel_rfl) (by kernel_rfl) (Pl.unwanted 15 10 22 false (by kernel_rfl) (by kernel_rfl) (by decide) rfl) (below_drew w) ?_
  refine Pl.H.skip 16 28 (by kernel_rfl) (by kernel_rfl) (by kernel_rfl) (Pl.unwanted 16 10 22 false (by kernel_rfl) (by kernel_rfl) (by decide) rfl) (below_drew w) ?_
  refine Pl.H.skip 17 29 (by kernel_rfl) (by kernel_rfl) (by kernel_rfl) (Pl.unwanted 17 10 22 false (by kernel_rfl) (by kernel_rfl) (by decide) rfl) (below_drew w) ?_
  refine Pl.H.skip 18 30 (by kernel_rfl) (by kernel_rfl) (by kernel_rfl) (Pl.unwanted 18 10 22 false (by kernel_rfl) (by kernel_rfl) (by decide) rfl) (below_drew w) ?_
  refine Pl.H.skip 19 31 (by kernel_rfl) (by kernel_rfl) (by kernel_rfl) (Pl.unwanted 19 10 22 false (by kernel_rfl) (by kernel_rfl) (by decide) rfl) (below_drew w) ?_
  refine Pl.H.skip 20 32 (by kernel_rfl) (by kernel_rfl) (by kernel_rfl) (Pl.unwanted 20 10 22 false (by kernel_rfl) (by kernel_rfl) (by decide) rfl) (below_drew w) ?_
  refine Pl.H.skip 21 33 (by kernel_rfl) (by kernel_rfl) (by kernel_rfl) (Pl.unwanted 21 10 22 false (by kernel_rfl) (by kernel_rfl) (by decide) rfl) (below_drew w) ?_
  refine Pl.H.skip 22 34 (by kernel_rfl) (by kernel_rfl) (by kernel_rfl) (Pl.unwanted 22 10 22 false (by kernel_rfl) (by kernel_rfl) (by decide) rfl) (below_drew w) ?_
  refine Pl.H.skip 23 35 (by kernel_rfl) (by kernel_rfl) (by kernel_rfl) (Pl.unwanted 23 10 22 false (by kernel_rfl) (by kernel_rfl) (by decide) rfl) (below_drew w) ?_
  refine Pl.H.take 24 36 (.bool true) (by kernel_rfl) (by kernel_rfl) (by kernel_rfl) (Pl.guarded 24 7 19 true (by kernel_rfl) (by kernel_rfl) (by decide) rfl) (Pl.pick 24 (.tmp 22) (.const (.bool true)) (.tmp 35) (by kernel_rfl) (by decide) (by decide) rfl) (below_drew w) ?_
  refine Pl.H.take 25 37 (.bool true) (by kernel_rfl) (by kernel_rfl) (by kernel_rfl) (Pl.free 25 (by kernel_rfl)) (Pl.pick 25 (.tmp 19) (.tmp 36) (.const (.bool false)) (by kernel_rfl) (by decide) (by decide) rfl) (below_drew w) ?_
  refine Pl.H.done (by kernel_rfl) (fun A' hA' => ?_)
  rw [Pl.At.ext hA' ((((((((((((((((((((((((((hA.put 12 _).put 13 _).put 14 _).put 15 _).put 16 _).put 17 _).put 18 _).put 19 _).put 20 _).put 21 _).put 22 _).put 23 _).put 24 _).put 25 _).put 26 _).put 27 _).put 28 _).put 29 _).put 30 _).put 31 _).put 32 _).put 33 _).put 34 _).put 35 _).put 36 _).put 37 _)]
  exact hend (fun d => if d = 12 then .pointer (some ⟨g, 3, none⟩) else if d = 13 then .slice (some ⟨b, o, none⟩) len cap else if d = 14 then .int .i64 ((i : Nat) : Int) else if d = 15 then .pointer (some ⟨b, o + i * 4, none⟩) else if d = 16 then .pointer (some ⟨b, o + i * 4 + 1, none⟩) else if d = 17 then .int .i64 x.st else if d = 18 then .bool true else if d = 19 then .bool true else if d = 20 then .int .i64 (-1) else if d = 21 then .bool true else if d = 22 then .bool true else if d = 23 then undef else if d = 24 then undef else if d = 25 then undef else if d = 26 then undef else if d = 27 then undef else if d = 28 then undef else if d = 29 then undef else if d = 30 then undef else if d = 31 then undef else if d = 32 then undef else if d = 33 then undef else if d = 34 then undef else if d = 35 then undef else if d = 36 then .bool true else undef) _ (below_drew w)

set_option maxHeartbeats 2000000 in
set_option maxRecDepth 100000 in
theorem reld5c (w : World) (b o len cap i g : Nat) (t : Tb) (x : En) (hi : i < len) (hg : TbBlk w g t ⟨some ⟨b, o, none⟩, len, cap⟩) (hx : EnAt w b (o + i * 4) x) (j : Nat) (hj : j < len) (y : En) (hy : EnAt w b (o + j * 4) y) (h1 : x.st = 2) (h2 : x.com < y.com)
    {Q : Exit → Act → World → Prop} {A : Act} (hsz : A.tmps.size = 47) (hdf : A.defers = []) (s1 : A.tmps.getD 1 undef = .pointer (some ⟨g, 0, none⟩)) (s3 : A.tmps.getD 3 undef = .int .i64 ((j : Nat) : Int)) (s4 : A.tmps.getD 4 undef = .int .i64 ((i : Nat) : Int))
    (hend : ∀ (u : Nat → Value) w', Below w.heap.size w w' → Q .normal (((((((((((((((((((((((((((A).put (some 12) (u 12)).put (some 13) (u 13)).put (some 14) (u 14)).put (some 15) (u 15)).put (some 16) (u 16)).put (some 17) (u 17)).put (some 18) (u 18)).put (some 19) (u 19)).put (some 20) (u 20)).put (some 21) (u 21)).put (some 22) (u 22)).put (some 23) (u 23)).put (some 24) (u 24)).put (some 25) (u 25)).put (some 26) (u 26)).put (some 27) (u 27)).put (some 28) (u 28)).put (some 29) (u 29)).put (some 30) (u 30)).put (some 31) (u 31)).put (some 32) (u 32)).put (some 33) (u 33)).put (some 34) (u 34)).put (some 35) (u 35)).put (some 36) (u 36)).put (some 37) (.bool true)) w') :
    (Code.region 5 (Pl.find 5 ((Try.f33.body).getD .skip)) true).wp Try.prog Q A w := by
  have hA := Pl.At.same (v := .int .i64 ((i : Nat) : Int)) (d := 4) (Pl.At.same (v := .int .i64 ((j : Nat) : Int)) (d := 3) (Pl.At.same (v := .pointer (some ⟨g, 0, none⟩)) (d := 1) (Pl.At.here hsz hdf) s1) s3) s4
  refine Pl.H.start (S := (fun w' => Below w.heap.size w w')) (by kernel_rfl) hA (below_drew w) ?_
  rw [show (Pl.find 5 ((Try.f33.body).getD .skip)).size = 26 by kernel_rfl]
  refine Pl.H.take 0 12 (.pointer (some ⟨g, 3, none⟩)) (by kernel_rfl) (by kernel_rfl) (by kernel_rfl) (Pl.free 0 (by kernel_rfl)) (Pl.field 0 24 (.tmp 1) 3 _ (by kernel_rfl) (by decide) (fdTb3 g)) (below_drew w) ?_
  refine Pl.H.take 1 13 (.slice (some ⟨b, o, none⟩) len cap) (by kernel_rfl) (by kernel_rfl) (by kernel_rfl) (Pl.free 1 (by kernel_rfl)) (Pl.load 1 22 (.tmp 12) _ (by kernel_rfl) (by decide) (fun w' hS => ldEs g 3 _ _ _ w' (hg.keep hS).c3)) (below_drew w) ?_
  refine Pl.H.take 2 14 (.int .i64 ((i : Nat) : Int)) (by kernel_rfl) (by kernel_rfl) (by kernel_rfl) (Pl.free 2 (by kernel_rfl)) (Pl.move 2 (.tmp 4) (by kernel_rfl) (by decide)) (below_drew w) ?_
  refine Pl.H.take 3 15 (.pointer (some ⟨b, o + i * 4, none⟩)) (by kernel_rfl) (by kernel_rfl) (by kernel_rfl) (Pl.free 3 (by kernel_rfl)) (Pl.index 3 22 (.tmp 13) (.tmp 14) _ (by kernel_rfl) (by decide) (by decide) (ixEn b o len cap i hi)) (below_drew w) ?_
  refine Pl.H.take 4 16 (.pointer (some ⟨b, o + i * 4 + 1, none⟩)) (by kernel_rfl) (by kernel_rfl) (by kernel_rfl) (Pl.free 4 (by kernel_rfl)) (Pl.field 4 58 (.tmp 15) 1 _ (by kernel_rfl) (by decide) (fdEn1 b (o + i * 4))) (below_drew w) ?_
  refine Pl.H.take 5 17 (.int .i64 x.st) (by kernel_rfl) (by kernel_rfl) (by kernel_rfl) (Pl.free 5 (by kernel_rfl)) (Pl.load 5 3 (.tmp 16) _ (by kernel_rfl) (by decide) (fun w' hS => ldInt b (o + i * 4 + 1) x.st w' (hx.keep hS (Nat.le_refl _)).c1)) (below_drew w) ?_
  refine Pl.H.take 6 18 (.bool true) (by kernel_rfl) (by kernel_rfl) (by kernel_rfl) (Pl.free 6 (by kernel_rfl)) (Pl.binV 6 .eql 3 3 (.tmp 17) (.const (.int .i64 2)) (.int .i64 x.st) (.int .i64 2) _ (by kernel_rfl) (by decide) (by decide) rfl rfl (fun w => eqlT x.st 2 _ _ h1 w)) (below_drew w) ?_
  refine Pl.H.take 7 19 (.bool true) (by kernel_rfl) (by kernel_rfl) (by kernel_rfl) (Pl.free 7 (by kernel_rfl)) (Pl.move 7 (.tmp 18) (by kernel_rfl) (by decide)) (below_drew w) ?_
  refine Pl.H.take 8 20 (.int .i64 ((j : Nat) : Int)) (by kernel_rfl) (by kernel_rfl) (by kernel_rfl) (Pl.guarded 8 7 19 true (by kernel_rfl) (by kernel_rfl) (by decide) rfl) (Pl.move 8 (.tmp 3) (by kernel_rfl) (by decide)) (below_drew w) ?_
  refine Pl.H.take 9 21 (.bool false) (by kernel_rfl) (by kernel_rfl) (by kernel_rfl) (Pl.guarded 9 7 19 true (by kernel_rfl) (by kernel_rfl) (by decide) rfl) (Pl.binV 9 .lss 3 3 (.tmp 20) (.const (.int .i64 0)) (.int .i64 ((j : Nat) : Int)) (.int .i64 0) _ (by kernel_rfl) (by decide) (by decide) rfl rfl (fun w => lssF ((j : Nat) : Int) 0 _ _ (by omega) w)) (below_drew w) ?_
  refine Pl.H.take 10 22 (.bool false) (by kernel_rfl) (by kernel_rfl) (by kernel_rfl) (Pl.guarded 10 7 19 true (by kernel_rfl) (by kernel_rfl) (by decide) rfl) (Pl.move 10 (.tmp 21) (by kernel_rfl) (by decide)) (below_drew w) ?_
  refine Pl.H.take 11 23 (.pointer (some ⟨g, 3, none⟩)) (by kernel_rfl) (by kernel_rfl) (by kernel_rfl) (Pl.guarded 11 10 22 false (by kernel_rfl) (by kernel_rfl) (by decide) rfl) (Pl.field 11 24 (.tmp 1) 3 _ (by kernel_rfl) (by decide) (fdTb3 g)) (below_drew w) ?_
  refine Pl.H.take 12 24 (.slice (some ⟨b, o, none⟩) len cap) (by kernel_rfl) (by kernel_rfl) (by kernel_rfl) (Pl.guarded 12 10 22 false (by kernel_rfl) (by kernel_rfl) (by decide) rfl) (Pl.load 12 22 (.tmp 23) _ (by kernel_rfl) (by decide) (fun w' hS => ldEs g 3 _ _ _ w' (hg.keep hS).c3)) (below_drew w) ?_
  refine Pl.H.take 13 25 (.int .i64 ((i : Nat) : Int)) (by kernel_rfl) (by kernel_rfl) (by kernel_rfl) (Pl.guarded 13 10 22 false (by kernel_rfl) (by kernel_rfl) (by decide) rfl) (Pl.move 13 (.tmp 4) (by kernel_rfl) (by decide)) (below_drew w) ?_
  refine Pl.H.take 14 26 (.pointer (some ⟨b, o + i * 4, none⟩)) (by kernel_rfl) (by kernel_rfl) (by kernel_rfl) (Pl.guarded 14 10 22 false (by kernel_rfl) (by kernel_rfl) (by decide) rfl) (Pl.index 14 22 (.tmp 24) (.tmp 25) _ (by kernel_rfl) (by decide) (by decide) (ixEn b o len cap i hi)) (below_drew w) ?_
  refine Pl.H.take 15 27 (.pointer (some ⟨b, o + i * 4 + 3, none⟩)) (by kernel_rfl) (by kernel_rfl) (by kernel_rfl) (Pl.guarded 15 10 22 false (by kernel_rfl) (by kernel_rfl) (by decide) rfl) (Pl.field 15 58 (.tmp 26) 3 _ (by kernel_rfl) (by decide) (fdEn3 b (o + i * 4))) (below_drew w) ?_
  refine Pl.H.take 16 28 (.int .i64 x.com) (by kernel_rfl) (by kernel_rfl) (by kernel_rfl) (Pl.guarded 16 10 22 false (by kernel_rfl) (by kernel_rfl) (by decide) rfl) (Pl.load 16 3 (.tmp 27) _ (by kernel_rfl) (by decide) (fun w' hS => ldInt b (o + i * 4 + 3) x.com w' (hx.keep hS (Nat.le_refl _)).c3)) (below_drew w) ?_
  refine Pl.H.take 17 29 (.pointer (some ⟨g, 3, none⟩)) (by kernel_rfl) (by kernel_rfl) (by kernel_rfl) (Pl.guarded 17 10 22 false (by kernel_rfl) (by kernel_rfl) (by decide) rfl) (Pl.field 17 24 (.tmp 1) 3 _ (by kernel_rfl) (by decide) (fdTb3 g)) (below_drew w) ?_
  refine Pl.H.take 18 30 (.slice (some ⟨b, o, none⟩) len cap) (by kernel_rfl) (by kernel_rfl) (by kernel_rfl) (Pl.guarded 18 10 22 false (by kernel_rfl) (by kernel_rfl) (by decide) rfl) (Pl.load 18 22 (.tmp 29) _ (by kernel_rfl) (by decide) (fun w' hS => ldEs g 3 _ _ _ w' (hg.keep hS).c3)) (below_drew w) ?_
  refine Pl.H.take 19 31 (.int .i64 ((j : Nat) : Int)) (by kernel_rfl) (by kernel_rfl) (by kernel_rfl) (Pl.guarded 19 10 22 false (by kernel_rfl) (by kernel_rfl) (by decide) rfl) (Pl.move 19 (.tmp 3) (by kernel_rfl) (by decide)) (below_drew w) ?_
  refine Pl.H.take 20 32 (.pointer (some ⟨b, o + j * 4, none⟩)) (by kernel_rfl) (by kernel_rfl) (by kernel_rfl) (Pl.guarded 20 10 22 false (by kernel_rfl) (by kernel_rfl) (by decide) rfl) (Pl.index 20 22 (.tmp 30) (.tmp 31) _ (by kernel_rfl) (by decide) (by decide) (ixEn b o len cap j hj)) (below_drew w) ?_
  refine Pl.H.take 21 33 (.pointer (some ⟨b, o + j * 4 + 3, none⟩)) (by kernel_rfl) (by kernel_rfl) (by kernel_rfl) (Pl.guarded 21 10 22 false (by kernel_rfl) (by kernel_rfl) (by decide) rfl) (Pl.field 21 58 (.tmp 32) 3 _ (by kernel_rfl) (by decide) (fdEn3 b (o + j * 4))) (below_drew w) ?_
  refine Pl.H.take 22 34 (.int .i64 y.com) (by kernel_rfl) (by kernel_rfl) (by kernel_rfl) (Pl.guarded 22 10 22 false (by kernel_rfl) (by kernel_rfl) (by decide) rfl) (Pl.load 22 3 (.tmp 33) _ (by kernel_rfl) (by decide) (fun w' hS => ldInt b (o + j * 4 + 3) y.com w' (hy.keep hS (Nat.le_refl _)).c3)) (below_drew w) ?_
  refine Pl.H.take 23 35 (.bool true) (by kernel_rfl) (by kernel_rfl) (by kernel_rfl) (Pl.guarded 23 10 22 false (by kernel_rfl) (by kernel_rfl) (by decide) rfl) (Pl.binV 23 .lss 3 3 (.tmp 28) (.tmp 34) (.int .i64 x.com) (.int .i64 y.com) _ (by kernel_rfl) (by decide) (by decide) rfl rfl (fun w => lssT x.com y.com _ _ h2 w)) (below_drew w) ?_
  refine Pl.H.take 24 36 (.bool true) (by kernel_rfl) (by kernel_rfl) (by kernel_rfl) (Pl.guarded 24 7 19 true (by kernel_rfl) (by kernel_rfl) (by decide) rfl) (Pl.pickF 24 (.tmp 22) (.const (.bool true)) (.tmp 35) (by kernel_rfl) (by decide) (by decide) rfl) (below_drew w) ?_
  refine Pl.H.take 25 37 (.bool true) (by kernel_rfl) (by kernel_rfl) (by kernel_rfl) (Pl.free 25 (by kernel_rfl)) (Pl.pick 25 (.tmp 19) (.tmp 36) (.const (.bool false)) (by kernel_rfl) (by decide) (by decide) rfl) (below_drew w) ?_
  refine Pl.H.done (by kernel_rfl) (fun A' hA' => ?_)
  rw [Pl.At.ext hA' ((((((((((((((((((((((((((hA.put 12 _).put 13 _).put 14 _).put 15 _).put 16 _).put 17 _).put 18 _).put 19 _).put 20 _).put 21 _).put 22 _).put 23 _).put 24 _).put 25 _).put 26 _).put 27 _).put 28 _).put 29 _).put 30 _).put 31 _).put 32 _).put 33 _).put 34 _).put 35 _).put 36 _).put 37 _)]
  exact hend (fun d => if d = 12 then .pointer (some ⟨g, 3, none⟩) else if d = 13 then .slice (some ⟨b, o, none⟩) len cap else if d = 14 then .int .i64 ((i : Nat) : Int) else if d = 15 then .pointer (some ⟨b, o + i * 4, none⟩) else if d = 16 then .pointer (some ⟨b, o + i * 4 + 1, none⟩) else if d = 17 then .int .i64 x.st else if d = 18 then .bool true else if d = 19 then .bool true else if d = 20 then .int .i64 ((j : Nat) : Int) else if d = 21 then .bool false else if d = 22 then .bool false else if d = 23 then .pointer (some ⟨g, 3, none⟩) else if d = 24 then .slice (some ⟨b, o, none⟩) len cap else if d = 25 then .int .i64 ((i : Nat) : Int) else if d = 26 then .pointer (some ⟨b, o + i * 4, none⟩) else if d = 27 then .pointer (some ⟨b, o + i * 4 + 3, none⟩) else if d = 28 then .int .i64 x.com else if d = 29 then .pointer (some ⟨g, 3, none⟩) else if d = 30 then .slice (some ⟨b, o, none⟩) len cap else if d = 31 then .int .i64 ((j : Nat) : Int) else if d = 32 then .pointer (some ⟨b, o + j * 4, none⟩) else if d = 33 then .pointer (some ⟨b, o + j * 4 + 3, none⟩) else if d = 34 then .int .i64 y.com else if d = 35 then .bool true else if d = 36 then .bool true else undef) _ (below_drew w)

set_option maxHeartbeats 2000000 in
set_option maxRecDepth 100000 in
theorem reld5d (w : World) (b o len cap i g : Nat) (t : Tb) (x : En) (hi : i < len) (hg : TbBlk w g t ⟨some ⟨b, o, none⟩, len, cap⟩) (hx : EnAt w b (o + i * 4) x) (j : Nat) (hj : j < len) (y : En) (hy : EnAt w b (o + j * 4) y) (h1 : x.st = 2) (h2 : ¬ x.com < y.com)
    {Q : Exit → Act → World → Prop} {A : Act} (hsz : A.tmps.size = 47) (hdf : A.defers = []) (s1 : A.tmps.getD 1 undef = .pointer (some ⟨g, 0, none⟩)) (s3 : A.tmps.getD 3 undef = .int .i64 ((j : Nat) : Int)) (s4 : A.tmps.getD 4 undef = .int .i64 ((i : Nat) : Int))
    (hend : ∀ (u : Nat → Value) w', Below w.heap.size w w' → Q .normal (((((((((((((((((((((((((((A).put (some 12) (u 12)).put (some 13) (u 13)).put (some 14) (u 14)).put (some 15) (u 15)).put (some 16) (u 16)).put (some 17) (u 17)).put (some 18) (u 18)).put (some 19) (u 19)).put (some 20) (u 20)).put (some 21) (u 21)).put (some 22) (u 22)).put (some 23) (u 23)).put (some 24) (u 24)).put (some 25) (u 25)).put (some 26) (u 26)).put (some 27) (u 27)).put (some 28) (u 28)).put (some 29) (u 29)).put (some 30) (u 30)).put (some 31) (u 31)).put (some 32) (u 32)).put (some 33) (u 33)).put (some 34) (u 34)).put (some 35) (u 35)).put (some 36) (u 36)).put (some 37) (.bool false)) w') :
    (Code.region 5 (Pl.find 5 ((Try.f33.body).getD .skip)) true).wp Try.prog Q A w := by
  have hA := Pl.At.same (v := .int .i64 ((i : Nat) : Int)) (d := 4) (Pl.At.same (v := .int .i64 ((j : Nat) : Int)) (d := 3) (Pl.At.same (v := .pointer (some ⟨g, 0, none⟩)) (d := 1) (Pl.At.here hsz hdf) s1) s3) s4
  refine Pl.H.start (S := (fun w' => Below w.heap.size w w')) (by kernel_rfl) hA (below_drew w) ?_
  rw [show (Pl.find 5 ((Try.f33.body).getD .skip)).size = 26 by kernel_rfl]
  refine Pl.H.take 0 12 (.pointer (some ⟨g, 3, none⟩)) (by kernel_rfl) (by kernel_rfl) (by kernel_rfl) (Pl.free 0 (by kernel_rfl)) (Pl.field 0 24 (.tmp 1) 3 _ (by kernel_rfl) (by decide) (fdTb3 g)) (below_drew w) ?_
  refine Pl.H.take 1 13 (.slice (some ⟨b, o, none⟩) len cap) (by kernel_rfl) (by kernel_rfl) (by kernel_rfl) (Pl.free 1 (by kernel_rfl)) (Pl.load 1 22 (.tmp 12) _ (by kernel_rfl) (by decide) (fun w' hS => ldEs g 3 _ _ _ w' (hg.keep hS).c3)) (below_drew w) ?_
  refine Pl.H.take 2 14 (.int .i64 ((i : Nat) : Int)) (by kernel_rfl) (by kernel_rfl) (by kernel_rfl) (Pl.free 2 (by kernel_rfl)) (Pl.move 2 (.tmp 4) (by kernel_rfl) (by decide)) (below_drew w) ?_
  refine Pl.H.take 3 15 (.pointer (some ⟨b, o + i * 4, none⟩)) (by kernel_rfl) (by kernel_rfl) (by kernel_rfl) (Pl.free 3 (by kernel_rfl)) (Pl.index 3 22 (.tmp 13) (.tmp 14) _ (by kernel_rfl) (by decide) (by decide) (ixEn b o len cap i hi)) (below_drew w) ?_
  refine Pl.H.take 4 16 (.pointer (some ⟨b, o + i * 4 + 1, none⟩)) (by kernel_rfl) (by kernel_rfl) (by kernel_rfl) (Pl.free 4 (by kernel_rfl)) (Pl.field 4 58 (.tmp 15) 1 _ (by kernel_rfl) (by decide) (fdEn1 b (o + i * 4))) (below_drew w) ?_
  refine Pl.H.take 5 17 (.int .i64 x.st) (by kernel_rfl) (by kernel_rfl) (by kernel_rfl) (Pl.free 5 (by kernel_rfl)) (Pl.load 5 3 (.tmp 16) _ (by kernel_rfl) (by decide) (fun w' hS => ldInt b (o + i * 4 + 1) x.st w' (hx.keep hS (Nat.le_refl _)).c1)) (below_drew w) ?_
  refine Pl.H.take 6 18 (.bool true) (by kernel_rfl) (by kernel_rfl) (by kernel_rfl) (Pl.free 6 (by kernel_rfl)) (Pl.binV 6 .eql 3 3 (.tmp 17) (.const (.int .i64 2)) (.int .i64 x.st) (.int .i64 2) _ (by kernel_rfl) (by decide) (by decide) rfl rfl (fun w => eqlT x.st 2 _ _ h1 w)) (below_drew w) ?_
  refine Pl.H.take 7 19 (.bool true) (by kernel_rfl) (by kernel_rfl) (by kernel_rfl) (Pl.free 7 (by kernel_rfl)) (Pl.move 7 (.tmp 18) (by kernel_rfl) (by decide)) (below_drew w) ?_
  refine Pl.H.take 8 20 (.int .i64 ((j : Nat) : Int)) (by kernel_rfl) (by kernel_rfl) (by kernel_rfl) (Pl.guarded 8 7 19 true (by kernel_rfl) (by kernel_rfl) (by decide) rfl) (Pl.move 8 (.tmp 3) (by kernel_rfl) (by decide)) (below_drew w) ?_
  refine Pl.H.take 9 21 (.bool false) (by kernel_rfl) (by kernel_rfl) (by kernel_rfl) (Pl.guarded 9 7 19 true (by kernel_rfl) (by kernel_rfl) (by decide) rfl) (Pl.binV 9 .lss 3 3 (.tmp 20) (.const (.int .i64 0)) (.int .i64 ((j : Nat) : Int)) (.int .i64 0) _ (by kernel_rfl) (by decide) (by decide) rfl rfl (fun w => lssF ((j : Nat) : Int) 0 _ _ (by omega) w)) (below_drew w) ?_
  refine Pl.H.take 10 22 (.bool false) (by kernel_rfl) (by kernel_rfl) (by kernel_rfl) (Pl.guarded 10 7 19 true (by kernel_rfl) (by kernel_rfl) (by decide) rfl) (Pl.move 10 (.tmp 21) (by kernel_rfl) (by decide)) (below_drew w) ?_
  refine Pl.H.take 11 23 (.pointer (some ⟨g, 3, none⟩)) (by kernel_rfl) (by kernel_rfl) (by kernel_rfl) (Pl.guarded 11 10 22 false (by kernel_rfl) (by kernel_rfl) (by decide) rfl) (Pl.field 11 24 (.tmp 1) 3 _ (by kernel_rfl) (by decide) (fdTb3 g)) (below_drew w) ?_
  refine Pl.H.take 12 24 (.slice (some ⟨b, o, none⟩) len cap) (by kernel_rfl) (by kernel_rfl) (by kernel_rfl) (Pl.guarded 12 10 22 false (by kernel_rfl) (by kernel_rfl) (by decide) rfl) (Pl.load 12 22 (.tmp 23) _ (by kernel_rfl) (by decide) (fun w' hS => ldEs g 3 _ _ _ w' (hg.keep hS).c3)) (below_drew w) ?_
  refine Pl.H.take 13 25 (.int .i64 ((i : Nat) : Int)) (by kernel_rfl) (by kernel_rfl) (by kernel_rfl) (Pl.guarded 13 10 22 false (by kernel_rfl) (by kernel_rfl) (by decide) rfl) (Pl.move 13 (.tmp 4) (by kernel_rfl) (by decide)) (below_drew w) ?_
  refine Pl.H.take 14 26 (.pointer (some ⟨b, o + i * 4, none⟩)) (by kernel_rfl) (by kernel_rfl) (by kernel_rfl) (Pl.guarded 14 10 22 false (by kernel_rfl) (by kernel_rfl) (by decide) rfl) (Pl.index 14 22 (.tmp 24) (.tmp 25) _ (by kernel_rfl) (by decide) (by decide) (ixEn b o len cap i hi)) (below_drew w) ?_
  refine Pl.H.take 15 27 (.pointer (some ⟨b, o + i * 4 + 3, none⟩)) (by kernel_rfl) (by kernel_rfl) (by kernel_rfl) (Pl.guarded 15 10 22 false (by kernel_rfl) (by kernel_rfl) (by decide) rfl) (Pl.field 15 58 (.tmp 26) 3 _ (by kernel_rfl) (by decide) (fdEn3 b (o + i * 4))) (below_drew w) ?_
  refine Pl.H.take 16 28 (.int .i64 x.com) (by kernel_rfl) (by kernel_rfl) (by kernel_rfl) (Pl.guarded 16 10 22 false (by kernel_rfl) (by kernel_rfl) (by decide) rfl) (Pl.load 16 3 (.tmp 27) _ (by kernel_rfl) (by decide) (fun w' hS => ldInt b (o + i * 4 + 3) x.com w' (hx.keep hS (Nat.le_refl _)).c3)) (below_drew w) ?_
  refine Pl.H.take 17 29 (.pointer (some ⟨g, 3, none⟩)) (by kernel_rfl) (by kernel_rfl) (by kernel_rfl) (Pl.guarded 17 10 22 false (by kernel_rfl) (by kernel_rfl) (by decide) rfl) (Pl.field 17 24 (.tmp 1) 3 _ (by kernel_rfl) (by decide) (fdTb3 g)) (below_drew w) ?_
  refine Pl.H.take 18 30 (.slice (some ⟨b, o, none⟩) len cap) (by kernel_rfl) (by kernel_rfl) (by kernel_rfl) (Pl.guarded 18 10 22 false (by kernel_rfl) (by kernel_rfl) (by decide) rfl) (Pl.load 18 22 (.tmp 29) _ (by kernel_rfl) (by decide) (fun w' hS => ldEs g 3 _ _ _ w' (hg.keep hS).c3)) (below_drew w) ?_
  refine Pl.H.take 19 31 (.int .i64 ((j : Nat) : Int)) (by kernel_rfl) (by kernel_rfl) (by kernel_rfl) (Pl.guarded 19 10 22 false (by kernel_rfl) (by kernel_rfl) (by decide) rfl) (Pl.move 19 (.tmp 3) (by kernel_rfl) (by decide)) (below_drew w) ?_
  refine Pl.H.take 20 32 (.pointer (some ⟨b, o + j * 4, none⟩)) (by kernel_rfl) (by kernel_rfl) (by kernel_rfl) (Pl.guarded 20 10 22 false (by kernel_rfl) (by kernel_rfl) (by decide) rfl) (Pl.index 20 22 (.tmp 30) (.tmp 31) _ (by kernel_rfl) (by decide) (by decide) (ixEn b o len cap j hj)) (below_drew w) ?_
  refine Pl.H.take 21 33 (.pointer (some ⟨b, o + j * 4 + 3, none⟩)) (by kernel_rfl) (by kernel_rfl) (by kernel_rfl) (Pl.guarded 21 10 22 false (by kernel_rfl) (by kernel_rfl) (by decide) rfl) (Pl.field 21 58 (.tmp 32) 3 _ (by kernel_rfl) (by decide) (fdEn3 b (o + j * 4))) (below_drew w) ?_
  refine Pl.H.take 22 34 (.int .i64 y.com) (by kernel_rfl) (by kernel_rfl) (by kernel_rfl) (Pl.guarded 22 10 22 false (by kernel_rfl) (by kernel_rfl) (by decide) rfl) (Pl.load 22 3 (.tmp 33) _ (by kernel_rfl) (by decide) (fun w' hS => ldInt b (o + j * 4 + 3) y.com w' (hy.keep hS (Nat.le_refl _)).c3)) (below_drew w) ?_
  refine Pl.H.take 23 35 (.bool false) (by kernel_rfl) (by kernel_rfl) (by kernel_rfl) (Pl.guarded 23 10 22 false (by kernel_rfl) (by kernel_rfl) (by decide) rfl) (Pl.binV 23 .lss 3 3 (.tmp 28) (.tmp 34) (.int .i64 x.com) (.int .i64 y.com) _ (by kernel_rfl) (by decide) (by decide) rfl rfl (fun w => lssF x.com y.com _ _ h2 w)) (below_drew w) ?_
  refine Pl.H.take 24 36 (.bool false) (by kernel_rfl) (by kernel_rfl) (by kernel_rfl) (Pl.guarded 24 7 19 true (by kernel_rfl) (by kernel_rfl) (by decide) rfl) (Pl.pickF 24 (.tmp 22) (.const (.bool true)) (.tmp 35) (by kernel_rfl) (by decide) (by decide) rfl) (below_drew w) ?_
  refine Pl.H.take 25 37 (.bool false) (by kernel_rfl) (by kernel_rfl) (by kernel_rfl) (Pl.free 25 (by kernel_rfl)) (Pl.pick 25 (.tmp 19) (.tmp 36) (.const (.bool false)) (by kernel_rfl) (by decide) (by decide) rfl) (below_drew w) ?_
  refine Pl.H.done (by kernel_rfl) (fun A' hA' => ?_)
  rw [Pl.At.ext hA' ((((((((((((((((((((((((((hA.put 12 _).put 13 _).put 14 _).put 15 _).put 16 _).put 17 _).put 18 _).put 19 _).put 20 _).put 21 _).put 22 _).put 23 _).put 24 _).put 25 _).put 26 _).put 27 _).put 28 _).put 29 _).put 30 _).put 31 _).put 32 _).put 33 _).put 34 _).put 35 _).put 36 _).put 37 _)]
  exact hend (fun d => if d = 12 then .pointer (some ⟨g, 3, none⟩) else if d = 13 then .slice (some ⟨b, o, none⟩) len cap else if d = 14 then .int .i64 ((i : Nat) : Int) else if d = 15 then .pointer (some ⟨b, o + i * 4, none⟩) else if d = 16 then .pointer (some ⟨b, o + i * 4 + 1, none⟩) else if d = 17 then .int .i64 x.st else if d = 18 then .bool true else if d = 19 then .bool true else if d = 20 then .int .i64 ((j : Nat) : Int) else if d = 21 then .bool false else if d = 22 then .bool false else if d = 23 then .pointer (some ⟨g, 3, none⟩) else if d = 24 then .slice (some ⟨b, o, none⟩) len cap else if d = 25 then .int .i64 ((i : Nat) : Int) else if d = 26 then .pointer (some ⟨b, o + i * 4, none⟩) else if d = 27 then .pointer (some ⟨b, o + i * 4 + 3, none⟩) else if d = 28 then .int .i64 x.com else if d = 29 then .pointer (some ⟨g, 3, none⟩) else if d = 30 then .slice (some ⟨b, o, none⟩) len cap else if d = 31 then .int .i64 ((j : Nat) : Int) else if d = 32 then .pointer (some ⟨b, o + j * 4, none⟩) else if d = 33 then .pointer (some ⟨b, o + j * 4 + 3, none⟩) else if d = 34 then .int .i64 y.com else if d = 35 then .bool false else if d = 36 then .bool false else undef) _ (below_drew w)

end Go.Proofs.Ytdbgbldmjgonjaa
