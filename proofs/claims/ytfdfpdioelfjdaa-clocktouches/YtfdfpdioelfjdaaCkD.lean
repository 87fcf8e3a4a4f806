/-
  Layer 7: drawn statements of the landed clock, and of the document's Same.
-/
import Derived.Test.YtfdfpdioelfjdaaCkC
namespace Go.Proofs.Ytfdfpdioelfjdaa
open Go.RowKit

namespace Pl
section
variable {P : Program} {ops : Array Oper} {S : World → Prop} {Q : Exit → Act → World → Prop} {n fuel : Nat} {listed : Array Bool} {f : Nat → Value} {w : World}
theorem extr (i : Nat) (x : Operand) (k : Nat) (v : Value) (h : (op ops i).op = .extract x k) (hx : inB n x = true) (hv : ∀ w, (Instr.extract (ev f x) k).run P w = .ok v w) :
    ∀ A, At n A f → ∀ w, S w → (execOp A.eval (op ops i)).run P w = .ok (.value v) w := by
  intro A hA w _
  have e : execOp A.eval (op ops i) = (do pure (.value (← Instr.extract (A.eval x) k))) := by
    unfold execOp
    rw [h]
  rw [e, hA.ev x hx]
  simp [hv w]
theorem allocV (i : Nat) (t : TypeId) (v : Value) (w' : World) (h : (op ops i).op = .alloc t) (hv : (Instr.alloc t true (.tuple #[])).run P w = .ok v w') :
    ∀ A, At n A f → (execOp A.eval (op ops i)).run P w = .ok (.value v) w' := by
  intro A _
  have e : execOp A.eval (op ops i) = (do pure (.value (← Instr.alloc t true (.tuple #[])))) := by
    unfold execOp
    rw [h]
  rw [e]
  simp [hv]

theorem extr0 (i : Nat) (x : Operand) (k : Nat) (v : Value) (h : (op ops i).op = .extract x k) (hx : inB n x = true) (hv : ∀ w, (Instr.extract (ev f x) k).run P w = .ok v w) :
    ∀ A, At n A f → ∀ w, S w → (execOp A.eval (op ops i)).run P w = .ok (.value v) w := by
  intro A hA w _
  have e : execOp A.eval (op ops i) = (do pure (.value (← Instr.extract (A.eval x) k))) := by
    unfold execOp
    rw [h]
  rw [e, hA.ev x hx]
  simp [hv w]

theorem buildV (i : Nat) (t : TypeId) (parts : List (Nat × Operand)) (v : Value) (h : (op ops i).op = .build t parts.toArray) (hx : parts.all (fun p => inB n p.2) = true) (hv : ∀ w, (Instr.build t (parts.map fun p => (p.1, ev f p.2)).toArray).run P w = .ok v w) :
    ∀ A, At n A f → ∀ w, S w → (execOp A.eval (op ops i)).run P w = .ok (.value v) w := by
  intro A hA w _
  have e : execOp A.eval (op ops i) = (do pure (.value (← Instr.build t (parts.toArray.map fun p => (p.1, A.eval p.2))))) := by
    unfold execOp
    rw [h]
  have hm : (parts.toArray.map fun p => (p.1, A.eval p.2)) = (parts.map fun p => (p.1, ev f p.2)).toArray := by
    simp only [List.map_toArray]
    congr 1
    apply List.map_congr_left
    intro p hp
    rw [hA.ev p.2 (List.all_eq_true.1 hx p hp)]
  rw [e, hm]
  simp [hv w]
end
end Pl

theorem Pl.unwantedU {ops : Array Oper} {n : Nat} {f : Nat → Value} (i j dj : Nat) (b : Bool) (h : (Pl.op ops i).guard = some (j, b)) (hj : (ops[j]?).bind (·.dst) = some dj) (hn : dj < n) (hv : f dj = undef) :
    ∀ A, Pl.At n A f → Region.wanted (Pl.op ops i) (yielded ops A.tmps) = false := by
  intro A hA
  have hs := hA.1
  have h1 := hA.2.2 dj hn
  have h2 : A.tmps[dj]? = some undef := by
    rw [hv] at h1
    have hlt : dj < A.tmps.size := by omega
    simp only [Array.getD, hlt, dif_pos] at h1
    rw [Array.getElem?_eq_getElem hlt]
    exact congrArg some h1
  simp [Region.wanted, h, yielded, hj, h2, undef]

theorem lssT (a c : Int) (x y : Operand) (h : a < c) (w : World) : (do eqGuard .lss 3 x y (.int .i64 a) (.int .i64 c); binOp .lss 3 (.int .i64 a) (.int .i64 c) : Sem Value).run Try.prog w = .ok (.bool true) w := by
  simp [go_sem, eqGuard]
  first | done | omega
theorem lssF (a c : Int) (x y : Operand) (h : ¬ (a < c)) (w : World) : (do eqGuard .lss 3 x y (.int .i64 a) (.int .i64 c); binOp .lss 3 (.int .i64 a) (.int .i64 c) : Sem Value).run Try.prog w = .ok (.bool false) w := by
  simp [go_sem, eqGuard]
  first | done | omega
theorem leqT (a c : Int) (x y : Operand) (h : a ≤ c) (w : World) : (do eqGuard .leq 3 x y (.int .i64 a) (.int .i64 c); binOp .leq 3 (.int .i64 a) (.int .i64 c) : Sem Value).run Try.prog w = .ok (.bool true) w := by
  simp [go_sem, eqGuard]
  first | done | omega
theorem leqF (a c : Int) (x y : Operand) (h : ¬ (a ≤ c)) (w : World) : (do eqGuard .leq 3 x y (.int .i64 a) (.int .i64 c); binOp .leq 3 (.int .i64 a) (.int .i64 c) : Sem Value).run Try.prog w = .ok (.bool false) w := by
  simp [go_sem, eqGuard]
  first | done | omega
theorem gtrT (a c : Int) (x y : Operand) (h : c < a) (w : World) : (do eqGuard .gtr 3 x y (.int .i64 a) (.int .i64 c); binOp .gtr 3 (.int .i64 a) (.int .i64 c) : Sem Value).run Try.prog w = .ok (.bool true) w := by
  simp [go_sem, eqGuard]
  first | done | omega
theorem gtrF (a c : Int) (x y : Operand) (h : ¬ (c < a)) (w : World) : (do eqGuard .gtr 3 x y (.int .i64 a) (.int .i64 c); binOp .gtr 3 (.int .i64 a) (.int .i64 c) : Sem Value).run Try.prog w = .ok (.bool false) w := by
  simp [go_sem, eqGuard]
  first | done | omega
theorem geqT (a c : Int) (x y : Operand) (h : c ≤ a) (w : World) : (do eqGuard .geq 3 x y (.int .i64 a) (.int .i64 c); binOp .geq 3 (.int .i64 a) (.int .i64 c) : Sem Value).run Try.prog w = .ok (.bool true) w := by
  simp [go_sem, eqGuard]
  first | done | omega
theorem geqF (a c : Int) (x y : Operand) (h : ¬ (c ≤ a)) (w : World) : (do eqGuard .geq 3 x y (.int .i64 a) (.int .i64 c); binOp .geq 3 (.int .i64 a) (.int .i64 c) : Sem Value).run Try.prog w = .ok (.bool false) w := by
  simp [go_sem, eqGuard]
  first | done | omega
theorem eqlT (a c : Int) (x y : Operand) (h : a = c) (w : World) : (do eqGuard .eql 3 x y (.int .i64 a) (.int .i64 c); binOp .eql 3 (.int .i64 a) (.int .i64 c) : Sem Value).run Try.prog w = .ok (.bool true) w := by
  simp [go_sem, eqGuard]
  first | done | omega
theorem eqlF (a c : Int) (x y : Operand) (h : ¬ (a = c)) (w : World) : (do eqGuard .eql 3 x y (.int .i64 a) (.int .i64 c); binOp .eql 3 (.int .i64 a) (.int .i64 c) : Sem Value).run Try.prog w = .ok (.bool false) w := by
  simp [go_sem, eqGuard]
  first | done | omega
theorem neqT (a c : Int) (x y : Operand) (h : a ≠ c) (w : World) : (do eqGuard .neq 3 x y (.int .i64 a) (.int .i64 c); binOp .neq 3 (.int .i64 a) (.int .i64 c) : Sem Value).run Try.prog w = .ok (.bool true) w := by
  simp [go_sem, eqGuard]
  first | done | omega
theorem neqF (a c : Int) (x y : Operand) (h : ¬ (a ≠ c)) (w : World) : (do eqGuard .neq 3 x y (.int .i64 a) (.int .i64 c); binOp .neq 3 (.int .i64 a) (.int .i64 c) : Sem Value).run Try.prog w = .ok (.bool false) w := by
  simp [go_sem, eqGuard]
  first | done | omega
theorem lssTE (a c : Int) (x y : Operand) (h : a < c) (w : World) : (do eqGuard .lss 26 x y (.int .i64 a) (.int .i64 c); binOp .lss 26 (.int .i64 a) (.int .i64 c) : Sem Value).run Try.prog w = .ok (.bool true) w := by
  simp [go_sem, eqGuard]
  first | done | omega
theorem lssFE (a c : Int) (x y : Operand) (h : ¬ (a < c)) (w : World) : (do eqGuard .lss 26 x y (.int .i64 a) (.int .i64 c); binOp .lss 26 (.int .i64 a) (.int .i64 c) : Sem Value).run Try.prog w = .ok (.bool false) w := by
  simp [go_sem, eqGuard]
  first | done | omega
theorem leqTE (a c : Int) (x y : Operand) (h : a ≤ c) (w : World) : (do eqGuard .leq 26 x y (.int .i64 a) (.int .i64 c); binOp .leq 26 (.int .i64 a) (.int .i64 c) : Sem Value).run Try.prog w = .ok (.bool true) w := by
  simp [go_sem, eqGuard]
  first | done | omega
theorem leqFE (a c : Int) (x y : Operand) (h : ¬ (a ≤ c)) (w : World) : (do eqGuard .leq 26 x y (.int .i64 a) (.int .i64 c); binOp .leq 26 (.int .i64 a) (.int .i64 c) : Sem Value).run Try.prog w = .ok (.bool false) w := by
  simp [go_sem, eqGuard]
  first | done | omega
theorem gtrTE (a c : Int) (x y : Operand) (h : c < a) (w : World) : (do eqGuard .gtr 26 x y (.int .i64 a) (.int .i64 c); binOp .gtr 26 (.int .i64 a) (.int .i64 c) : Sem Value).run Try.prog w = .ok (.bool true) w := by
  simp [go_sem, eqGuard]
  first | done | omega
theorem gtrFE (a c : Int) (x y : Operand) (h : ¬ (c < a)) (w : World) : (do eqGuard .gtr 26 x y (.int .i64 a) (.int .i64 c); binOp .gtr 26 (.int .i64 a) (.int .i64 c) : Sem Value).run Try.prog w = .ok (.bool false) w := by
  simp [go_sem, eqGuard]
  first | done | omega
theorem geqTE (a c : Int) (x y : Operand) (h : c ≤ a) (w : World) : (do eqGuard .geq 26 x y (.int .i64 a) (.int .i64 c); binOp .geq 26 (.int .i64 a) (.int .i64 c) : Sem Value).run Try.prog w = .ok (.bool true) w := by
  simp [go_sem, eqGuard]
  first | done | omega
theorem geqFE (a c : Int) (x y : Operand) (h : ¬ (c ≤ a)) (w : World) : (do eqGuard .geq 26 x y (.int .i64 a) (.int .i64 c); binOp .geq 26 (.int .i64 a) (.int .i64 c) : Sem Value).run Try.prog w = .ok (.bool false) w := by
  simp [go_sem, eqGuard]
  first | done | omega
theorem eqlTE (a c : Int) (x y : Operand) (h : a = c) (w : World) : (do eqGuard .eql 26 x y (.int .i64 a) (.int .i64 c); binOp .eql 26 (.int .i64 a) (.int .i64 c) : Sem Value).run Try.prog w = .ok (.bool true) w := by
  simp [go_sem, eqGuard]
  first | done | omega
theorem eqlFE (a c : Int) (x y : Operand) (h : ¬ (a = c)) (w : World) : (do eqGuard .eql 26 x y (.int .i64 a) (.int .i64 c); binOp .eql 26 (.int .i64 a) (.int .i64 c) : Sem Value).run Try.prog w = .ok (.bool false) w := by
  simp [go_sem, eqGuard]
  first | done | omega
theorem neqTE (a c : Int) (x y : Operand) (h : a ≠ c) (w : World) : (do eqGuard .neq 26 x y (.int .i64 a) (.int .i64 c); binOp .neq 26 (.int .i64 a) (.int .i64 c) : Sem Value).run Try.prog w = .ok (.bool true) w := by
  simp [go_sem, eqGuard]
  first | done | omega
theorem neqFE (a c : Int) (x y : Operand) (h : ¬ (a ≠ c)) (w : World) : (do eqGuard .neq 26 x y (.int .i64 a) (.int .i64 c); binOp .neq 26 (.int .i64 a) (.int .i64 c) : Sem Value).run Try.prog w = .ok (.bool false) w := by
  simp [go_sem, eqGuard]
  first | done | omega

/-- Three cells that are a frame. -/
def Cell3 (w : World) (b o : Nat) (x : Sp) : Prop := w.cell? ⟨b, o, none⟩ = some (.int .i64 x.page) ∧ w.cell? ⟨b, o + 1, none⟩ = some (.bool x.used) ∧ w.cell? ⟨b, o + 2, none⟩ = some (.bool x.pin)
theorem Cell3.below {w w' : World} {b o : Nat} {x : Sp} (h : Cell3 w b o x) (hb : Below w.heap.size w w') : Cell3 w' b o x := by
  obtain ⟨c0, c1, c2⟩ := h
  have hlt := World.block_lt_of_cell? w _ c0
  exact ⟨(hb.cell (p := ⟨b, o, none⟩) hlt).trans c0, (hb.cell (p := ⟨b, o + 1, none⟩) hlt).trans c1, (hb.cell (p := ⟨b, o + 2, none⟩) hlt).trans c2⟩
theorem SpBlk.cell3 {w : World} {p : Nat} {x : Sp} (k : SpBlk w p x) : Cell3 w p 0 x := ⟨k.c0, k.c1, k.c2⟩

theorem entEmpty : ∀ args w, (callFunc 23 args).run Try.prog w = .ok (.enter 23 args) w := Pl.enters Try.func23 (by kernel_rfl) (by kernel_rfl)
theorem entClone : ∀ args w, (callFunc 28 args).run Try.prog w = .ok (.enter 28 args) w := Pl.enters Try.func28 (by kernel_rfl) (by kernel_rfl)
theorem entIndex : ∀ args w, (callFunc 31 args).run Try.prog w = .ok (.enter 31 args) w := Pl.enters Try.func31 (by kernel_rfl) (by kernel_rfl)
theorem build_ck (v : Sl) (h : Int) (w : World) : (Instr.build 24 #[(0, v.val), (1, .int .i64 h)]).run Try.prog w = .ok (ckV v h) w := by
  obtain ⟨a, len, cap⟩ := v
  unfold ckV Sl.val
  simp [go_sem, Instr.build]

set_option maxHeartbeats 2000000 in
set_option maxRecDepth 100000 in
theorem index4 (w : World) (b o len cap i g : Nat) (x y : Sp) (r : Bool) (hi : i < len) (hx : SpBlk w g x) (hy : Cell3 w b (o + i * 3) y) (hr : x.beq y = r)
    {Q : Exit → Act → World → Prop} {A : Act} (hsz : A.tmps.size = 19) (hdf : A.defers = []) (s0 : A.tmps.getD 0 undef = .slice (some ⟨b, o, none⟩) len cap) (s3 : A.tmps.getD 3 undef = .pointer (some ⟨g, 0, none⟩)) (s5 : A.tmps.getD 5 undef = .int .i64 ((i : Nat) : Int))
    (hend : ∀ (u : Nat → Value) w', Below w.heap.size w w' → Q .normal (((((((A).put (some 11) (u 11)).put (some 12) (u 12)).put (some 13) (u 13)).put (some 14) (u 14)).put (some 15) (u 15)).put (some 16) (.bool r)) w') :
    (Code.region 4 (Pl.find 4 ((Try.f31.body).getD .skip)) true).wp Try.prog Q A w := by
  have hA := Pl.At.same (v := .int .i64 ((i : Nat) : Int)) (d := 5) (Pl.At.same (v := .pointer (some ⟨g, 0, none⟩)) (d := 3) (Pl.At.same (v := .slice (some ⟨b, o, none⟩) len cap) (d := 0) (Pl.At.here hsz hdf) s0) s3) s5
  refine Pl.H.start (S := (fun w' => Below w.heap.size w w')) (by kernel_rfl) hA (below_drew w) ?_
  rw [show (Pl.find 4 ((Try.f31.body).getD .skip)).size = 6 by kernel_rfl]
  refine Pl.H.take 0 11 (Sp.val x) (by kernel_rfl) (by kernel_rfl) (by kernel_rfl) (Pl.free 0 (by kernel_rfl)) (Pl.load 0 38 (.tmp 3) _ (by kernel_rfl) (by decide) (fun w' hS => ldSp g 0 x w' (hx.below hS).cell3)) (below_drew w) ?_
  refine Pl.H.take 1 12 (.slice (some ⟨b, o, none⟩) len cap) (by kernel_rfl) (by kernel_rfl) (by kernel_rfl) (Pl.free 1 (by kernel_rfl)) (Pl.move 1 (.tmp 0) (by kernel_rfl) (by decide)) (below_drew w) ?_
  refine Pl.H.take 2 13 (.int .i64 ((i : Nat) : Int)) (by kernel_rfl) (by kernel_rfl) (by kernel_rfl) (Pl.free 2 (by kernel_rfl)) (Pl.move 2 (.tmp 5) (by kernel_rfl) (by decide)) (below_drew w) ?_
  refine Pl.H.take 3 14 (.pointer (some ⟨b, o + i * 3, none⟩)) (by kernel_rfl) (by kernel_rfl) (by kernel_rfl) (Pl.free 3 (by kernel_rfl)) (Pl.index 3 22 (.tmp 12) (.tmp 13) _ (by kernel_rfl) (by decide) (by decide) (ixSp b o len cap i hi)) (below_drew w) ?_
  refine Pl.H.take 4 15 (Sp.val y) (by kernel_rfl) (by kernel_rfl) (by kernel_rfl) (Pl.free 4 (by kernel_rfl)) (Pl.load 4 38 (.tmp 14) _ (by kernel_rfl) (by decide) (fun w' hS => ldSp b (o + i * 3) y w' (hy.below hS))) (below_drew w) ?_
  refine Pl.H.take 5 16 (.bool r) (by kernel_rfl) (by kernel_rfl) (by kernel_rfl) (Pl.free 5 (by kernel_rfl)) (Pl.binV 5 .eql 38 38 (.tmp 11) (.tmp 15) (Sp.val x) (Sp.val y) _ (by kernel_rfl) (by decide) (by decide) rfl rfl (fun w => hr ▸ eql_sp x y _ _ w)) (below_drew w) ?_
  refine Pl.H.done (by kernel_rfl) (fun A' hA' => ?_)
  rw [Pl.At.ext hA' ((((((hA.put 11 _).put 12 _).put 13 _).put 14 _).put 15 _).put 16 _)]
  exact hend (fun d => if d = 11 then Sp.val x else if d = 12 then .slice (some ⟨b, o, none⟩) len cap else if d = 13 then .int .i64 ((i : Nat) : Int) else if d = 14 then .pointer (some ⟨b, o + i * 3, none⟩) else if d = 15 then Sp.val y else undef) _ (below_drew w)

set_option maxHeartbeats 2000000 in
set_option maxRecDepth 100000 in
theorem equal6 (w : World) (b o len cap b2 o2 len2 cap2 i : Nat) (x y : Sp) (r : Bool) (hi : i < len) (hi2 : i < len2) (hx : Cell3 w b (o + i * 3) x) (hy : Cell3 w b2 (o2 + i * 3) y) (hr : x.beq y = r)
    {Q : Exit → Act → World → Prop} {A : Act} (hsz : A.tmps.size = 26) (hdf : A.defers = []) (s0 : A.tmps.getD 0 undef = .slice (some ⟨b, o, none⟩) len cap) (s1 : A.tmps.getD 1 undef = .slice (some ⟨b2, o2, none⟩) len2 cap2) (s5 : A.tmps.getD 5 undef = .int .i64 ((i : Nat) : Int))
    (hend : ∀ (u : Nat → Value) w', Below w.heap.size w w' → Q .normal ((((((((((A).put (some 16) (u 16)).put (some 17) (u 17)).put (some 18) (u 18)).put (some 19) (u 19)).put (some 20) (u 20)).put (some 21) (u 21)).put (some 22) (u 22)).put (some 23) (u 23)).put (some 24) (.bool (!r))) w') :
    (Code.region 6 (Pl.find 6 ((Try.f26.body).getD .skip)) true).wp Try.prog Q A w := by
  have hA := Pl.At.same (v := .int .i64 ((i : Nat) : Int)) (d := 5) (Pl.At.same (v := .slice (some ⟨b2, o2, none⟩) len2 cap2) (d := 1) (Pl.At.same (v := .slice (some ⟨b, o, none⟩) len cap) (d := 0) (Pl.At.here hsz hdf) s0) s1) s5
  refine Pl.H.start (S := (fun w' => Below w.heap.size w w')) (by kernel_rfl) hA (below_drew w) ?_
  rw [show (Pl.find 6 ((Try.f26.body).getD .skip)).size = 9 by kernel_rfl]
  refine Pl.H.take 0 16 (.slice (some ⟨b, o, none⟩) len cap) (by kernel_rfl) (by kernel_rfl) (by kernel_rfl) (Pl.free 0 (by kernel_rfl)) (Pl.move 0 (.tmp 0) (by kernel_rfl) (by decide)) (below_drew w) ?_
  refine Pl.H.take 1 17 (.int .i64 ((i : Nat) : Int)) (by kernel_rfl) (by kernel_rfl) (by kernel_rfl) (Pl.free 1 (by kernel_rfl)) (Pl.move 1 (.tmp 5) (by kernel_rfl) (by decide)) (below_drew w) ?_
  refine Pl.H.take 2 18 (.pointer (some ⟨b, o + i * 3, none⟩)) (by kernel_rfl) (by kernel_rfl) (by kernel_rfl) (Pl.free 2 (by kernel_rfl)) (Pl.index 2 22 (.tmp 16) (.tmp 17) _ (by kernel_rfl) (by decide) (by decide) (ixSp b o len cap i hi)) (below_drew w) ?_
  refine Pl.H.take 3 19 (Sp.val x) (by kernel_rfl) (by kernel_rfl) (by kernel_rfl) (Pl.free 3 (by kernel_rfl)) (Pl.load 3 38 (.tmp 18) _ (by kernel_rfl) (by decide) (fun w' hS => ldSp b (o + i * 3) x w' (hx.below hS))) (below_drew w) ?_
  refine Pl.H.take 4 20 (.slice (some ⟨b2, o2, none⟩) len2 cap2) (by kernel_rfl) (by kernel_rfl) (by kernel_rfl) (Pl.free 4 (by kernel_rfl)) (Pl.move 4 (.tmp 1) (by kernel_rfl) (by decide)) (below_drew w) ?_
  refine Pl.H.take 5 21 (.int .i64 ((i : Nat) : Int)) (by kernel_rfl) (by kernel_rfl) (by kernel_rfl) (Pl.free 5 (by kernel_rfl)) (Pl.move 5 (.tmp 5) (by kernel_rfl) (by decide)) (below_drew w) ?_
  refine Pl.H.take 6 22 (.pointer (some ⟨b2, o2 + i * 3, none⟩)) (by kernel_rfl) (by kernel_rfl) (by kernel_rfl) (Pl.free 6 (by kernel_rfl)) (Pl.index 6 22 (.tmp 20) (.tmp 21) _ (by kernel_rfl) (by decide) (by decide) (ixSp b2 o2 len2 cap2 i hi2)) (below_drew w) ?_
  refine Pl.H.take 7 23 (Sp.val y) (by kernel_rfl) (by kernel_rfl) (by kernel_rfl) (Pl.free 7 (by kernel_rfl)) (Pl.load 7 38 (.tmp 22) _ (by kernel_rfl) (by decide) (fun w' hS => ldSp b2 (o2 + i * 3) y w' (hy.below hS))) (below_drew w) ?_
  refine Pl.H.take 8 24 (.bool (!r)) (by kernel_rfl) (by kernel_rfl) (by kernel_rfl) (Pl.free 8 (by kernel_rfl)) (Pl.binV 8 .neq 38 38 (.tmp 19) (.tmp 23) (Sp.val x) (Sp.val y) _ (by kernel_rfl) (by decide) (by decide) rfl rfl (fun w => hr ▸ neq_sp x y _ _ w)) (below_drew w) ?_
  refine Pl.H.done (by kernel_rfl) (fun A' hA' => ?_)
  rw [Pl.At.ext hA' (((((((((hA.put 16 _).put 17 _).put 18 _).put 19 _).put 20 _).put 21 _).put 22 _).put 23 _).put 24 _)]
  exact hend (fun d => if d = 16 then .slice (some ⟨b, o, none⟩) len cap else if d = 17 then .int .i64 ((i : Nat) : Int) else if d = 18 then .pointer (some ⟨b, o + i * 3, none⟩) else if d = 19 then Sp.val x else if d = 20 then .slice (some ⟨b2, o2, none⟩) len2 cap2 else if d = 21 then .int .i64 ((i : Nat) : Int) else if d = 22 then .pointer (some ⟨b2, o2 + i * 3, none⟩) else if d = 23 then Sp.val y else undef) _ (below_drew w)

set_option maxHeartbeats 2000000 in
set_option maxRecDepth 100000 in
theorem rsame6 (w : World) (b o len cap b2 o2 len2 cap2 i g g2 : Nat) (h h2 : Int) (x y : Sp) (r : Bool) (hi : i < len) (hi2 : i < len2) (hg : CkBlk w g (.slice (some ⟨b, o, none⟩) len cap) h) (hg2 : CkBlk w g2 (.slice (some ⟨b2, o2, none⟩) len2 cap2) h2) (hx : Cell3 w b (o + i * 3) x) (hy : Cell3 w b2 (o2 + i * 3) y) (hr : x.beq y = r)
    {Q : Exit → Act → World → Prop} {A : Act} (hsz : A.tmps.size = 38) (hdf : A.defers = []) (s2 : A.tmps.getD 2 undef = .pointer (some ⟨g, 0, none⟩)) (s3 : A.tmps.getD 3 undef = .pointer (some ⟨g2, 0, none⟩)) (s5 : A.tmps.getD 5 undef = .int .i64 ((i : Nat) : Int))
    (hend : ∀ (u : Nat → Value) w', Below w.heap.size w w' → Q .normal ((((((((((((A).put (some 27) (u 27)).put (some 28) (u 28)).put (some 29) (u 29)).put (some 30) (u 30)).put (some 31) (u 31)).put (some 32) (u 32)).put (some 33) (u 33)).put (some 34) (u 34)).put (some 35) (u 35)).put (some 36) (u 36)).put (some 37) (.bool (!r))) w') :
    (Code.region 6 (Pl.find 6 ((Try.f13.body).getD .skip)) true).wp Try.prog Q A w := by
  have hA := Pl.At.same (v := .int .i64 ((i : Nat) : Int)) (d := 5) (Pl.At.same (v := .pointer (some ⟨g2, 0, none⟩)) (d := 3) (Pl.At.same (v := .pointer (some ⟨g, 0, none⟩)) (d := 2) (Pl.At.here hsz hdf) s2) s3) s5
  refine Pl.H.start (S := (fun w' => Below w.heap.size w w')) (by kernel_rfl) hA (below_drew w) ?_
  rw [show (Pl.find 6 ((Try.f13.body).getD .skip)).size = 11 by kernel_rfl]
  refine Pl.H.take 0 27 (.pointer (some ⟨g, 0, none⟩)) (by kernel_rfl) (by kernel_rfl) (by kernel_rfl) (Pl.free 0 (by kernel_rfl)) (Pl.field 0 24 (.tmp 2) 0 _ (by kernel_rfl) (by decide) (fdCk0 g)) (below_drew w) ?_
  refine Pl.H.take 1 28 (.slice (some ⟨b, o, none⟩) len cap) (by kernel_rfl) (by kernel_rfl) (by kernel_rfl) (Pl.free 1 (by kernel_rfl)) (Pl.load 1 22 (.tmp 27) _ (by kernel_rfl) (by decide) (fun w' hS => ldRow g ⟨some ⟨b, o, none⟩, len, cap⟩ h w' (hg.below hS))) (below_drew w) ?_
  refine Pl.H.take 2 29 (.int .i64 ((i : Nat) : Int)) (by kernel_rfl) (by kernel_rfl) (by kernel_rfl) (Pl.free 2 (by kernel_rfl)) (Pl.move 2 (.tmp 5) (by kernel_rfl) (by decide)) (below_drew w) ?_
  refine Pl.H.take 3 30 (.pointer (some ⟨b, o + i * 3, none⟩)) (by kernel_rfl) (by kernel_rfl) (by kernel_rfl) (Pl.free 3 (by kernel_rfl)) (Pl.index 3 22 (.tmp 28) (.tmp 29) _ (by kernel_rfl) (by decide) (by decide) (ixSp b o len cap i hi)) (below_drew w) ?_
  refine Pl.H.take 4 31 (Sp.val x) (by kernel_rfl) (by kernel_rfl) (by kernel_rfl) (Pl.free 4 (by kernel_rfl)) (Pl.load 4 38 (.tmp 30) _ (by kernel_rfl) (by decide) (fun w' hS => ldSp b (o + i * 3) x w' (hx.below hS))) (below_drew w) ?_
  refine Pl.H.take 5 32 (.pointer (some ⟨g2, 0, none⟩)) (by kernel_rfl) (by kernel_rfl) (by kernel_rfl) (Pl.free 5 (by kernel_rfl)) (Pl.field 5 24 (.tmp 3) 0 _ (by kernel_rfl) (by decide) (fdCk0 g2)) (below_drew w) ?_
  refine Pl.H.take 6 33 (.slice (some ⟨b2, o2, none⟩) len2 cap2) (by kernel_rfl) (by kernel_rfl) (by kernel_rfl) (Pl.free 6 (by kernel_rfl)) (Pl.load 6 22 (.tmp 32) _ (by kernel_rfl) (by decide) (fun w' hS => ldRow g2 ⟨some ⟨b2, o2, none⟩, len2, cap2⟩ h2 w' (hg2.below hS))) (below_drew w) ?_
  refine Pl.H.take 7 34 (.int .i64 ((i : Nat) : Int)) (by kernel_rfl) (by kernel_rfl) (by kernel_rfl) (Pl.free 7 (by kernel_rfl)) (Pl.move 7 (.tmp 5) (by kernel_rfl) (by decide)) (below_drew w) ?_
  refine Pl.H.take 8 35 (.pointer (some ⟨b2, o2 + i * 3, none⟩)) (by kernel_rfl) (by kernel_rfl) (by kernel_rfl) (Pl.free 8 (by kernel_rfl)) (Pl.index 8 22 (.tmp 33) (.tmp 34) _ (by kernel_rfl) (by decide) (by decide) (ixSp b2 o2 len2 cap2 i hi2)) (below_drew w) ?_
  refine Pl.H.take 9 36 (Sp.val y) (by kernel_rfl) (by kernel_rfl) (by kernel_rfl) (Pl.free 9 (by kernel_rfl)) (Pl.load 9 38 (.tmp 35) _ (by kernel_rfl) (by decide) (fun w' hS => ldSp b2 (o2 + i * 3) y w' (hy.below hS))) (below_drew w) ?_
  refine Pl.H.take 10 37 (.bool (!r)) (by kernel_rfl) (by kernel_rfl) (by kernel_rfl) (Pl.free 10 (by kernel_rfl)) (Pl.binV 10 .neq 38 38 (.tmp 31) (.tmp 36) (Sp.val x) (Sp.val y) _ (by kernel_rfl) (by decide) (by decide) rfl rfl (fun w => hr ▸ neq_sp x y _ _ w)) (below_drew w) ?_
  refine Pl.H.done (by kernel_rfl) (fun A' hA' => ?_)
  rw [Pl.At.ext hA' (((((((((((hA.put 27 _).put 28 _).put 29 _).put 30 _).put 31 _).put 32 _).put 33 _).put 34 _).put 35 _).put 36 _).put 37 _)]
  exact hend (fun d => if d = 27 then .pointer (some ⟨g, 0, none⟩) else if d = 28 then .slice (some ⟨b, o, none⟩) len cap else if d = 29 then .int .i64 ((i : Nat) : Int) else if d = 30 then .pointer (some ⟨b, o + i * 3, none⟩) else if d = 31 then Sp.val x else if d = 32 then .pointer (some ⟨g2, 0, none⟩) else if d = 33 then .slice (some ⟨b2, o2, none⟩) len2 cap2 else if d = 34 then .int .i64 ((i : Nat) : Int) else if d = 35 then .pointer (some ⟨b2, o2 + i * 3, none⟩) else if d = 36 then Sp.val y else undef) _ (below_drew w)

set_option maxHeartbeats 2000000 in
set_option maxRecDepth 100000 in
theorem check9 (w : World) (g : Nat) (x : Sp) (r : Bool) (hx : SpBlk w g x) (hr : x.beq Sp.none = r)
    {Q : Exit → Act → World → Prop} {A : Act} (hsz : A.tmps.size = 51) (hdf : A.defers = []) (s5 : A.tmps.getD 5 undef = .pointer (some ⟨g, 0, none⟩))
    (hend : ∀ (u : Nat → Value) w', Below w.heap.size w w' → Q .normal ((((A).put (some 34) (u 34)).put (some 35) (u 35)).put (some 36) (.bool r)) w') :
    (Code.region 9 (Pl.find 9 ((Try.f12.body).getD .skip)) true).wp Try.prog Q A w := by
  have hA := Pl.At.same (v := .pointer (some ⟨g, 0, none⟩)) (d := 5) (Pl.At.here hsz hdf) s5
  refine Pl.H.start (S := (fun w' => Below w.heap.size w w')) (by kernel_rfl) hA (below_drew w) ?_
  rw [show (Pl.find 9 ((Try.f12.body).getD .skip)).size = 3 by kernel_rfl]
  refine Pl.H.take 0 34 (Sp.val x) (by kernel_rfl) (by kernel_rfl) (by kernel_rfl) (Pl.free 0 (by kernel_rfl)) (Pl.load 0 38 (.tmp 5) _ (by kernel_rfl) (by decide) (fun w' hS => ldSp g 0 x w' (hx.below hS).cell3)) (below_drew w) ?_
  refine Pl.H.call 1 35 23 [] #[] (by kernel_rfl) (by kernel_rfl) (by kernel_rfl) (Pl.free 1 (by kernel_rfl)) (by kernel_rfl) (by decide) entEmpty (Calls.mono (empty_any w.drew) ?_)
  rintro e w1 ⟨rfl, hb1⟩
  refine ⟨Sp.val Sp.none, rfl, (rBelow (below_drew w) hb1), ?_⟩
  refine Pl.H.take 2 36 (.bool r) (by kernel_rfl) (by kernel_rfl) (by kernel_rfl) (Pl.free 2 (by kernel_rfl)) (Pl.binV 2 .eql 38 38 (.tmp 34) (.tmp 35) (Sp.val x) (Sp.val Sp.none) _ (by kernel_rfl) (by decide) (by decide) rfl rfl (fun w => hr ▸ eql_sp x Sp.none _ _ w)) (rBelow (below_drew w) hb1) ?_
  refine Pl.H.done (by kernel_rfl) (fun A' hA' => ?_)
  rw [Pl.At.ext hA' (((hA.put 34 _).put 35 _).put 36 _)]
  exact hend (fun d => if d = 34 then Sp.val x else if d = 35 then Sp.val Sp.none else undef) _ (rBelow (below_drew w) hb1)

set_option maxHeartbeats 2000000 in
set_option maxRecDepth 100000 in
theorem copyOf1 {D : Nat → Prop} (w : World) (c q : Nat) (v : Sl) (h : Int) (v0 : Value) (h0 : Int) (l : List Sp) (hc : CkBlk w c v.val h) (hr : CkBlk w q v0 h0) (hne : c ≠ q) (hg : Gs D w v l)
    {Q : Exit → Act → World → Prop} {A : Act} (hsz : A.tmps.size = 9) (hdf : A.defers = []) (s1 : A.tmps.getD 1 undef = .pointer (some ⟨c, 0, none⟩)) (s2 : A.tmps.getD 2 undef = .pointer (some ⟨q, 0, none⟩))
    (hend : ∀ (u : Nat → Value) w' (s : Sl), (CkBlk w' q s.val h ∧ OwnS w' s l ∧ s.len = v.len ∧ Frm (fun k => k = q) w w' ∧ ∀ k, s.blk = some k → w.heap.size ≤ k) → Q .normal (((((((A).put (some 3) (u 3)).put (some 4) (u 4)).put (some 6) (u 6)).put (some 7) (u 7)).put (some 5) (u 5)).put (some 8) (u 8)) w') :
    (Code.region 1 (Pl.find 1 ((Try.f20.body).getD .skip)) true).wp Try.prog Q A w := by
  have hA := Pl.At.same (v := .pointer (some ⟨q, 0, none⟩)) (d := 2) (Pl.At.same (v := .pointer (some ⟨c, 0, none⟩)) (d := 1) (Pl.At.here hsz hdf) s1) s2
  refine Pl.H.start (S := (fun w' => CkBlk w' c v.val h)) (by kernel_rfl) hA (hc.below (below_drew w)) ?_
  rw [show (Pl.find 1 ((Try.f20.body).getD .skip)).size = 7 by kernel_rfl]
  refine Pl.H.take 0 3 (.pointer (some ⟨c, 0, none⟩)) (by kernel_rfl) (by kernel_rfl) (by kernel_rfl) (Pl.free 0 (by kernel_rfl)) (Pl.field 0 24 (.tmp 1) 0 _ (by kernel_rfl) (by decide) (fdCk0 c)) (hc.below (below_drew w)) ?_
  refine Pl.H.take 1 4 (Sl.val v) (by kernel_rfl) (by kernel_rfl) (by kernel_rfl) (Pl.free 1 (by kernel_rfl)) (Pl.load 1 22 (.tmp 3) _ (by kernel_rfl) (by decide) (fun w' hS => ldRow c v h w' hS)) (hc.below (below_drew w)) ?_
  refine Pl.H.take 3 6 (.pointer (some ⟨c, 1, none⟩)) (by kernel_rfl) (by kernel_rfl) (by kernel_rfl) (Pl.free 3 (by kernel_rfl)) (Pl.field 3 24 (.tmp 1) 1 _ (by kernel_rfl) (by decide) (fdCk1 c)) (hc.below (below_drew w)) ?_
  refine Pl.H.take 4 7 (.int .i64 h) (by kernel_rfl) (by kernel_rfl) (by kernel_rfl) (Pl.free 4 (by kernel_rfl)) (Pl.load 4 3 (.tmp 6) _ (by kernel_rfl) (by decide) (fun w' hS => ldHand c v.val h w' hS)) (hc.below (below_drew w)) ?_
  refine Pl.H.call 2 5 28 [(.tmp 4)] #[22] (by kernel_rfl) (by kernel_rfl) (by kernel_rfl) (Pl.free 2 (by kernel_rfl)) (by kernel_rfl) (by decide) entClone (Calls.mono (clone_any w.drew v l (hg.below (below_drew w) (Nat.le_refl _))) ?_)
  rintro e w1 ⟨hb1, s, rfl, ho, hl, hk⟩
  have hS1 : CkBlk w1 c v.val h := hc.below (rBelow (below_drew w) hb1)
  have hr1 : CkBlk w1 q v0 h0 := hr.below (rBelow (below_drew w) hb1)
  refine ⟨Sl.val s, rfl, hS1, ?_⟩
  refine Pl.H.take 5 8 (ckV s h) (by kernel_rfl) (by kernel_rfl) (by kernel_rfl) (Pl.free 5 (by kernel_rfl)) (Pl.buildV 5 24 [(0, .tmp 5), (1, .tmp 7)] _ (by kernel_rfl) (by decide) (fun w => build_ck s h w)) hS1 ?_
  have hS2 : CkBlk (setCk w1 q s.val h) c v.val h := hS1.at ((setCk_frm w1 q s.val h).block c hS1.lt hne)
  refine Pl.H.store 6 (setCk w1 q s.val h) (by kernel_rfl) (by kernel_rfl) (by kernel_rfl) (Pl.free 6 (by kernel_rfl)) (Pl.storeV 6 24 (.tmp 2) (.tmp 8) _ (by kernel_rfl) (by decide) (by decide) (store_ck q s h w1 hr1)) hS2 ?_
  refine Pl.H.done (by kernel_rfl) (fun A' hA' => ?_)
  rw [Pl.At.ext hA' ((((((hA.put 3 _).put 4 _).put 6 _).put 7 _).put 5 _).put 8 _)]
  exact hend (fun d => if d = 3 then .pointer (some ⟨c, 0, none⟩) else if d = 4 then Sl.val v else if d = 6 then .pointer (some ⟨c, 1, none⟩) else if d = 7 then .int .i64 h else if d = 5 then Sl.val s else if d = 8 then ckV s h else undef) _ s ⟨hr1.set s.val h, ho.frame (fun k hk' => (setCk_frm w1 q s.val h).block k (Own.lt ho hk') (by have e1 := hk k hk'; have e2 := hr.lt; have e3 : w.drew.heap.size = w.heap.size := rfl; omega)), hl, (Frm.ofBelow (F := fun k => k = q) (rBelow (below_drew w) hb1)).trans (setCk_frm w1 q s.val h) (fun _ _ e => e), hk⟩

set_option maxHeartbeats 2000000 in
set_option maxRecDepth 100000 in
theorem find1 (w : World) (c : Nat) (v : Sl) (h : Int) (l : List Sp) (hc : CkBlk w c v.val h) (hI : ∀ w1, Below w.heap.size w w1 → Calls Try.prog 31 #[v.val, Sp.none.val] w1 fun e w2 => e = .returned (.int .i64 (ixN l)) ∧ Below w1.heap.size w1 w2)
    {Q : Exit → Act → World → Prop} {A : Act} (hsz : A.tmps.size = 59) (hdf : A.defers = []) (s0 : A.tmps.getD 0 undef = .pointer (some ⟨c, 0, none⟩))
    (hend : ∀ (u : Nat → Value) w', Below w.heap.size w w' → Q .normal ((((((((A).put (some 6) (u 6)).put (some 7) (u 7)).put (some 8) (u 8)).put (some 9) (u 9)).put (some 10) (u 10)).put (some 11) (u 11)).put (some 3) (.int .i64 (ixN l))) w') :
    (Code.region 1 (Pl.find 1 ((Try.f22.body).getD .skip)) true).wp Try.prog Q A w := by
  have hA := Pl.At.same (v := .pointer (some ⟨c, 0, none⟩)) (d := 0) (Pl.At.here hsz hdf) s0
  refine Pl.H.start (S := (fun w' => Below w.heap.size w w')) (by kernel_rfl) hA (below_drew w) ?_
  rw [show (Pl.find 1 ((Try.f22.body).getD .skip)).size = 7 by kernel_rfl]
  refine Pl.H.take 0 6 (.pointer (some ⟨c, 0, none⟩)) (by kernel_rfl) (by kernel_rfl) (by kernel_rfl) (Pl.free 0 (by kernel_rfl)) (Pl.move 0 (.tmp 0) (by kernel_rfl) (by decide)) (below_drew w) ?_
  refine Pl.H.take 1 7 (.pointer (some ⟨c, 0, none⟩)) (by kernel_rfl) (by kernel_rfl) (by kernel_rfl) (Pl.free 1 (by kernel_rfl)) (Pl.nilc 1 (.tmp 6) _ (by kernel_rfl) (by decide) rfl) (below_drew w) ?_
  refine Pl.H.take 2 8 (.pointer (some ⟨c, 0, none⟩)) (by kernel_rfl) (by kernel_rfl) (by kernel_rfl) (Pl.free 2 (by kernel_rfl)) (Pl.field 2 24 (.tmp 7) 0 _ (by kernel_rfl) (by decide) (fdCk0 c)) (below_drew w) ?_
  refine Pl.H.take 3 9 (Sl.val v) (by kernel_rfl) (by kernel_rfl) (by kernel_rfl) (Pl.free 3 (by kernel_rfl)) (Pl.load 3 22 (.tmp 8) _ (by kernel_rfl) (by decide) (fun w' hS => ldRow c v h w' (hc.below hS))) (below_drew w) ?_
  refine Pl.H.call 4 10 23 [] #[] (by kernel_rfl) (by kernel_rfl) (by kernel_rfl) (Pl.free 4 (by kernel_rfl)) (by kernel_rfl) (by decide) entEmpty (Calls.mono (empty_any w.drew) ?_)
  rintro e w1 ⟨rfl, hb1⟩
  refine ⟨Sp.val Sp.none, rfl, (rBelow (below_drew w) hb1), ?_⟩
  refine Pl.H.call 5 11 31 [(.tmp 9), (.tmp 10)] #[22, 38] (by kernel_rfl) (by kernel_rfl) (by kernel_rfl) (Pl.free 5 (by kernel_rfl)) (by kernel_rfl) (by decide) entIndex (Calls.mono (hI w1 (rBelow (below_drew w) hb1)) ?_)
  rintro e w2 ⟨rfl, hb2⟩
  refine ⟨.int .i64 (ixN l), rfl, (rBelow (rBelow (below_drew w) hb1) hb2), ?_⟩
  refine Pl.H.take 6 3 (.int .i64 (ixN l)) (by kernel_rfl) (by kernel_rfl) (by kernel_rfl) (Pl.free 6 (by kernel_rfl)) (Pl.assign 6 (.tmp 11) (by kernel_rfl) (by decide)) (rBelow (rBelow (below_drew w) hb1) hb2) ?_
  refine Pl.H.done (by kernel_rfl) (fun A' hA' => ?_)
  rw [Pl.At.ext hA' (((((((hA.put 6 _).put 7 _).put 8 _).put 9 _).put 10 _).put 11 _).put 3 _)]
  exact hend (fun d => if d = 6 then .pointer (some ⟨c, 0, none⟩) else if d = 7 then .pointer (some ⟨c, 0, none⟩) else if d = 8 then .pointer (some ⟨c, 0, none⟩) else if d = 9 then Sl.val v else if d = 10 then Sp.val Sp.none else if d = 11 then .int .i64 (ixN l) else undef) _ (rBelow (rBelow (below_drew w) hb1) hb2)

set_option maxHeartbeats 2000000 in
set_option maxRecDepth 100000 in
theorem drop10 (w : World) (c b o len cap i : Nat) (h : Int) (l : List Sp) (hc : CkBlk w c (.slice (some ⟨b, o, none⟩) len cap) h) (ho : OwnS w ⟨some ⟨b, o, none⟩, len, cap⟩ l) (hi : i < len) (hne : c ≠ b)
    {Q : Exit → Act → World → Prop} {A : Act} (hsz : A.tmps.size = 36) (hdf : A.defers = []) (s7 : A.tmps.getD 7 undef = .pointer (some ⟨c, 0, none⟩)) (s8 : A.tmps.getD 8 undef = .int .i64 ((i : Nat) : Int))
    (hend : ∀ (u : Nat → Value) w', (CkBlk w' c (.slice (some ⟨b, o, none⟩) len cap) h ∧ OwnS w' ⟨some ⟨b, o, none⟩, len, cap⟩ (l.set i Sp.none) ∧ Frm (fun k => k = b) w w') → Q .normal ((((((A).put (some 30) (u 30)).put (some 31) (u 31)).put (some 32) (u 32)).put (some 33) (u 33)).put (some 34) (u 34)) w') :
    (Code.region 10 (Pl.find 10 ((Try.f10.body).getD .skip)) true).wp Try.prog Q A w := by
  have hA := Pl.At.same (v := .int .i64 ((i : Nat) : Int)) (d := 8) (Pl.At.same (v := .pointer (some ⟨c, 0, none⟩)) (d := 7) (Pl.At.here hsz hdf) s7) s8
  refine Pl.H.start (S := (fun w' => CkBlk w' c (.slice (some ⟨b, o, none⟩) len cap) h)) (by kernel_rfl) hA (hc.below (below_drew w)) ?_
  rw [show (Pl.find 10 ((Try.f10.body).getD .skip)).size = 6 by kernel_rfl]
  refine Pl.H.take 0 30 (.pointer (some ⟨c, 0, none⟩)) (by kernel_rfl) (by kernel_rfl) (by kernel_rfl) (Pl.free 0 (by kernel_rfl)) (Pl.field 0 24 (.tmp 7) 0 _ (by kernel_rfl) (by decide) (fdCk0 c)) (hc.below (below_drew w)) ?_
  refine Pl.H.take 1 31 (.slice (some ⟨b, o, none⟩) len cap) (by kernel_rfl) (by kernel_rfl) (by kernel_rfl) (Pl.free 1 (by kernel_rfl)) (Pl.load 1 22 (.tmp 30) _ (by kernel_rfl) (by decide) (fun w' hS => ldRow c ⟨some ⟨b, o, none⟩, len, cap⟩ h w' hS)) (hc.below (below_drew w)) ?_
  refine Pl.H.take 2 32 (.int .i64 ((i : Nat) : Int)) (by kernel_rfl) (by kernel_rfl) (by kernel_rfl) (Pl.free 2 (by kernel_rfl)) (Pl.move 2 (.tmp 8) (by kernel_rfl) (by decide)) (hc.below (below_drew w)) ?_
  refine Pl.H.call 3 33 23 [] #[] (by kernel_rfl) (by kernel_rfl) (by kernel_rfl) (Pl.free 3 (by kernel_rfl)) (by kernel_rfl) (by decide) entEmpty (Calls.mono (empty_any w.drew) ?_)
  rintro e w1 ⟨rfl, hb1⟩
  have hS1 : CkBlk w1 c (.slice (some ⟨b, o, none⟩) len cap) h := hc.below (rBelow (below_drew w) hb1)
  have ho1 := ho.below (rBelow (below_drew w) hb1)
  refine ⟨Sp.val Sp.none, rfl, hS1, ?_⟩
  refine Pl.H.take 4 34 (.pointer (some ⟨b, o + i * 3, none⟩)) (by kernel_rfl) (by kernel_rfl) (by kernel_rfl) (Pl.free 4 (by kernel_rfl)) (Pl.index 4 22 (.tmp 31) (.tmp 32) _ (by kernel_rfl) (by decide) (by decide) (ixSp b o len cap i hi)) hS1 ?_
  obtain ⟨k0, k1, k2⟩ := ho1.cells rfl hi
  have hS2 : CkBlk (setSp w1 b (o + i * 3) Sp.none) c (.slice (some ⟨b, o, none⟩) len cap) h := hS1.at ((setSp_frm w1 b _ Sp.none).block c hS1.lt hne)
  refine Pl.H.store 5 (setSp w1 b (o + i * 3) Sp.none) (by kernel_rfl) (by kernel_rfl) (by kernel_rfl) (Pl.free 5 (by kernel_rfl)) (Pl.storeV 5 38 (.tmp 34) (.tmp 33) _ (by kernel_rfl) (by decide) (by decide) (store_sp b (o + i * 3) Sp.none w1 k0 k1 k2 (ho1.frozen rfl _) (ho1.frozen rfl _) (ho1.frozen rfl _))) hS2 ?_
  refine Pl.H.done (by kernel_rfl) (fun A' hA' => ?_)
  rw [Pl.At.ext hA' (((((hA.put 30 _).put 31 _).put 32 _).put 33 _).put 34 _)]
  exact hend (fun d => if d = 30 then .pointer (some ⟨c, 0, none⟩) else if d = 31 then .slice (some ⟨b, o, none⟩) len cap else if d = 32 then .int .i64 ((i : Nat) : Int) else if d = 33 then Sp.val Sp.none else if d = 34 then .pointer (some ⟨b, o + i * 3, none⟩) else undef) _ ⟨hS2, ho1.store rfl i Sp.none, (Frm.ofBelow (F := fun k => k = b) (rBelow (below_drew w) hb1)).trans (setSp_frm w1 b _ Sp.none) (fun _ _ e => e)⟩
end Go.Proofs.Ytfdfpdioelfjdaa
