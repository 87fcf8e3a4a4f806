/-
  What stands between two rounds of the law of chains; its drawn statements.
-/
import Derived.Test.YtpdkeghmpnanpaaUdR
namespace Go.Proofs.Ytpdkeghmpnanpaa
open Go.RowKit
set_option linter.unusedVariables false

/-! ### The two boxes: last cells, lists put -/
def BxI (w : World) (g : Nat) (a b : Int) : Prop := w.heap[g]? = some (Obj.cells #[.int .i64 a, .int .i64 b] 51 (0, 0))
def BxU (w : World) (g : Nat) (p q : Sl) : Prop := w.heap[g]? = some (Obj.cells #[p.val, q.val] 52 (0, 0))
theorem BxI.lt {w : World} {g : Nat} {a b : Int} (h : BxI w g a b) : g < w.heap.size := (Array.getElem?_eq_some_iff.1 h).1
theorem BxU.lt {w : World} {g : Nat} {p q : Sl} (h : BxU w g p q) : g < w.heap.size := (Array.getElem?_eq_some_iff.1 h).1
theorem BxI.keep {w w' : World} {g : Nat} {a b : Int} (h : BxI w g a b) (hb : Below w.heap.size w w') : BxI w' g a b := (hb.block g h.lt).trans h
theorem BxU.keep {w w' : World} {g : Nat} {p q : Sl} (h : BxU w g p q) (hb : Below w.heap.size w w') : BxU w' g p q := (hb.block g h.lt).trans h
theorem BxI.frm {w w' : World} {F : Nat → Prop} {g : Nat} {a b : Int} (h : BxI w g a b) (hf : Frm F w w') (hn : ¬ F g) : BxI w' g a b := (hf.block g h.lt hn).trans h
theorem BxU.frm {w w' : World} {F : Nat → Prop} {g : Nat} {p q : Sl} (h : BxU w g p q) (hf : Frm F w w') (hn : ¬ F g) : BxU w' g p q := (hf.block g h.lt hn).trans h
theorem BxI.c0 {w : World} {g : Nat} {a b : Int} (h : BxI w g a b) : w.cell? ⟨g, 0, none⟩ = some (.int .i64 a) := by unfold BxI at h; rw [cell_of_row _ _ _ _ _ _ h]; rfl
theorem BxI.c1 {w : World} {g : Nat} {a b : Int} (h : BxI w g a b) : w.cell? ⟨g, 1, none⟩ = some (.int .i64 b) := by unfold BxI at h; rw [cell_of_row _ _ _ _ _ _ h]; rfl
theorem BxU.c0 {w : World} {g : Nat} {p q : Sl} (h : BxU w g p q) : w.cell? ⟨g, 0, none⟩ = some p.val := by unfold BxU at h; rw [cell_of_row _ _ _ _ _ _ h]; rfl
theorem BxU.c1 {w : World} {g : Nat} {p q : Sl} (h : BxU w g p q) : w.cell? ⟨g, 1, none⟩ = some q.val := by unfold BxU at h; rw [cell_of_row _ _ _ _ _ _ h]; rfl
theorem BxI.fz {w : World} {g : Nat} {a b : Int} (h : BxI w g a b) (o : Nat) : w.frozen? ⟨g, o, none⟩ = false := frozen_of_row w g _ _ _ h
theorem BxU.fz {w : World} {g : Nat} {p q : Sl} (h : BxU w g p q) (o : Nat) : w.frozen? ⟨g, o, none⟩ = false := frozen_of_row w g _ _ _ h
theorem BxI.set0 {w : World} {g : Nat} {a b : Int} (h : BxI w g a b) (n : Int) : BxI (w.setCell ⟨g, 0, none⟩ (.int .i64 n)) g n b := by
  unfold BxI at h ⊢
  rw [heap_setCell_same w g 0 _ 51 (.int .i64 n) h]
  rfl
theorem BxI.set1 {w : World} {g : Nat} {a b : Int} (h : BxI w g a b) (n : Int) : BxI (w.setCell ⟨g, 1, none⟩ (.int .i64 n)) g a n := by
  unfold BxI at h ⊢
  rw [heap_setCell_same w g 1 _ 51 (.int .i64 n) h]
  rfl
theorem BxU.set0 {w : World} {g : Nat} {p q : Sl} (h : BxU w g p q) (s : Sl) : BxU (w.setCell ⟨g, 0, none⟩ s.val) g s q := by
  unfold BxU at h ⊢
  rw [heap_setCell_same w g 0 _ 52 s.val h]
  rfl
theorem BxU.set1 {w : World} {g : Nat} {p q : Sl} (h : BxU w g p q) (s : Sl) : BxU (w.setCell ⟨g, 1, none⟩ s.val) g p s := by
  unfold BxU at h ⊢
  rw [heap_setCell_same w g 1 _ 52 s.val h]
  rfl
theorem bxI_new (w : World) : ∃ W, (Instr.storeAt 51 (.pointer (some ⟨w.heap.size, 0, none⟩)) (.agg #[.int .i64 0, .int .i64 0])).run Try.prog (w.alloc (.cells #[.int .i64 0, .int .i64 0] 51)) = .ok () W ∧ BxI W w.heap.size 0 0 ∧ Below w.heap.size w W := by
  have h : BxI (w.alloc (.cells #[.int .i64 0, .int .i64 0] 51)) w.heap.size 0 0 := heap_alloc_new w _
  have c0 := h.c0
  have c1 := h.c1
  have f0 := h.fz
  have hb := (below_alloc w (.cells #[.int .i64 0, .int .i64 0] 51))
  refine ⟨((w.alloc (.cells #[.int .i64 0, .int .i64 0] 51)).setCell ⟨w.heap.size, 0, none⟩ (.int .i64 0)).setCell ⟨w.heap.size, 1, none⟩ (.int .i64 0), by simp [go_sem, Instr.storeAt, stored, c0, c1, f0], (h.set0 0).set1 0, ?_⟩
  exact (hb.trans ((setC_frm _ w.heap.size 0 _).below hb.size (fun k hk => by rw [hk]; exact Nat.le_refl _))).trans ((setC_frm _ w.heap.size 1 _).below (by rw [setCell_size]; exact hb.size) (fun k hk => by rw [hk]; exact Nat.le_refl _))
theorem bxU_new (w : World) : ∃ W, (Instr.storeAt 52 (.pointer (some ⟨w.heap.size, 0, none⟩)) (.agg #[.slice none 0 0, .slice none 0 0])).run Try.prog (w.alloc (.cells #[.slice none 0 0, .slice none 0 0] 52)) = .ok () W ∧ BxU W w.heap.size Sl.nil Sl.nil ∧ Below w.heap.size w W := by
  have h : BxU (w.alloc (.cells #[.slice none 0 0, .slice none 0 0] 52)) w.heap.size Sl.nil Sl.nil := heap_alloc_new w _
  have c0 := h.c0
  have c1 := h.c1
  have f0 := h.fz
  have hb := (below_alloc w (.cells #[.slice none 0 0, .slice none 0 0] 52))
  have k1 := (h.set0 Sl.nil).set1 Sl.nil
  refine ⟨((w.alloc (.cells #[.slice none 0 0, .slice none 0 0] 52)).setCell ⟨w.heap.size, 0, none⟩ (.slice none 0 0)).setCell ⟨w.heap.size, 1, none⟩ (.slice none 0 0), by simp [go_sem, Instr.storeAt, stored, c0, c1, f0, Sl.val, Sl.nil] at c0 c1 ⊢, k1, ?_⟩
  exact (hb.trans ((setC_frm _ w.heap.size 0 _).below hb.size (fun k hk => by rw [hk]; exact Nat.le_refl _))).trans ((setC_frm _ w.heap.size 1 _).below (by rw [setCell_size]; exact hb.size) (fun k hk => by rw [hk]; exact Nat.le_refl _))

/-- A box of another kind turns: a row of undoings stays. -/
theorem Ud.boxed {w0 w W : World} {s : Sl} {l : List Ux} (h : Ud w0 w s l) {b : Nat} {t : TypeId} {C : Array Value} {fr : Nat × Nat} (hx : w.heap[b]? = some (Obj.cells C t fr)) (hb : w0.heap.size ≤ b) (ht : t ≠ 23 ∧ t ≠ 30) (hf : Frm (fun k => k = b) w W) : Ud w0 W s l := by
  refine h.turned (h.below.trans (hf.below h.below.size (fun k hk => by rw [hk]; exact hb))) (fun k C' t' fr' hk ho => hf.block k (Array.getElem?_eq_some_iff.1 hk).1 (fun e => ?_))
  subst e
  rw [hx] at hk
  simp only [Option.some.injEq, Obj.cells.injEq] at hk
  rcases ho with ho | ho | ho
  · omega
  · exact ht.1 (hk.2.1.trans ho)
  · exact ht.2 (hk.2.1.trans ho)

/-- append([]api.Undo{u}, l...): the literal is laid first. -/
theorem Ud.consd {w0 w : World} {q : Sl} {m : List Ux} (h : Ud w0 w q m) (x : Ux) (hx : Col w0 w x) (hf : x.u.fits) (hl : m.length + 1 ≤ 1000000) :
    ∃ s' W, (∀ ty, (Builtin.append_ #[22, 22] ty #[.slice (some ⟨w.heap.size, 0, none⟩) 1 1, q.val]).run Try.prog (w.alloc (.cells #[.int .i64 x.u.tx, .int .i64 x.u.no, .int .i64 x.u.prev, .int .i64 x.u.kind, .int .i64 x.u.page, .int .i64 x.u.slot, .float .f64 x.u.row.key, .bool x.u.row.dead, .slice x.a x.n x.c, .int .i64 x.u.row.wr, .int .i64 x.u.row.cell, .int .i64 x.u.row.no] 30)) = .ok (Sl.val s') W) ∧ Ud w0 W s' (x :: m) ∧ Below w.heap.size w W := by
  have hB := below_alloc w (.cells #[.int .i64 x.u.tx, .int .i64 x.u.no, .int .i64 x.u.prev, .int .i64 x.u.kind, .int .i64 x.u.page, .int .i64 x.u.slot, .float .f64 x.u.row.key, .bool x.u.row.dead, .slice x.a x.n x.c, .int .i64 x.u.row.wr, .int .i64 x.u.row.cell, .int .i64 x.u.row.no] 30)
  have hk := h.keep hB
  have hown : Own 30 12 (w.alloc (.cells #[.int .i64 x.u.tx, .int .i64 x.u.no, .int .i64 x.u.prev, .int .i64 x.u.kind, .int .i64 x.u.page, .int .i64 x.u.slot, .float .f64 x.u.row.key, .bool x.u.row.dead, .slice x.a x.n x.c, .int .i64 x.u.row.wr, .int .i64 x.u.row.cell, .int .i64 x.u.row.no] 30)) ⟨some ⟨w.heap.size, 0, none⟩, 1, 1⟩ (cellsU [x]) := ⟨rfl, .inr ⟨w.heap.size, 0, _, rfl, heap_alloc_new w _, by simp, Nat.le_refl _, (by show 1 ≤ maxLen; unfold maxLen; omega), by simp [cellsU, Ux.cells]⟩⟩
  obtain ⟨s', W, hrun, ho, hlen, hfr, hbk⟩ := own_append Try.underlying22 infoUn rfl (by decide) _ ⟨some ⟨w.heap.size, 0, none⟩, 1, 1⟩ (cellsU [x]) hown (cellsU_one [x]) q.val q.len (cellsU m) (hk.own.src Try.underlying22 (cellsU_one m)) (by show 1 + q.len ≤ _; rw [← h.len]; omega) 0
  have hlit : ∀ k, Sl.blk ⟨some ⟨w.heap.size, 0, none⟩, 1, 1⟩ = some k → w.heap.size ≤ k := fun k e => by
    have e2 : some w.heap.size = some k := e
    cases e2
    exact Nat.le_refl _
  have hbW : Below w.heap.size w W := hB.trans (hfr.below hB.size hlit)
  refine ⟨s', W, fun ty => hrun, ⟨ho, fun k e => ?_, rBelow h.below hbW, fun y hy => ?_, fun y hy => ?_⟩, hbW⟩
  · rcases hbk with e' | ⟨e', _⟩
    · rw [e'] at e
      exact Nat.le_trans h.below.size (hlit k e)
    · rw [e'] at e
      cases e
      exact Nat.le_trans h.below.size hB.size
  · rcases List.mem_cons.1 hy with rfl | hy
    · exact hx.keep hbW
    · exact (h.cols y hy).keep hbW
  · rcases List.mem_cons.1 hy with rfl | hy
    · exact hf
    · exact h.fits y hy

theorem setUn3 {w : World} {g : Nat} {u : Un} {c : Value} (h : UnBlk w g u c) (t n p : Int) : UnBlk (((w.setCell ⟨g, 0, none⟩ (.int .i64 t)).setCell ⟨g, 1, none⟩ (.int .i64 n)).setCell ⟨g, 2, none⟩ (.int .i64 p)) g { u with tx := t, no := n, prev := p } c := by
  unfold UnBlk at h ⊢
  have h1 := heap_setCell_same w g 0 _ 30 (.int .i64 t) h
  have h2 := heap_setCell_same _ g 1 _ 30 (.int .i64 n) h1
  rw [heap_setCell_same _ g 2 _ 30 (.int .i64 p) h2]
  rfl
theorem st_int {w : World} {b o : Nat} {v0 : Value} (n : Int) (h : w.cell? ⟨b, o, none⟩ = some v0) (hf : w.frozen? ⟨b, o, none⟩ = false) : (Instr.storeAt 3 (.pointer (some ⟨b, o, none⟩)) (.int .i64 n)).run Try.prog w = .ok () (w.setCell ⟨b, o, none⟩ (.int .i64 n)) := by simp [go_sem, Instr.storeAt, stored, h, hf]
theorem st_sl {w : World} {b o : Nat} {v0 : Value} (s : Sl) (h : w.cell? ⟨b, o, none⟩ = some v0) (hf : w.frozen? ⟨b, o, none⟩ = false) : (Instr.storeAt 22 (.pointer (some ⟨b, o, none⟩)) s.val).run Try.prog w = .ok () (w.setCell ⟨b, o, none⟩ s.val) := by simp [go_sem, Instr.storeAt, stored, h, hf, Sl.val]
theorem ld_sl {w : World} {b o : Nat} {s : Sl} (h : w.cell? ⟨b, o, none⟩ = some s.val) : (Instr.loadAt 22 (.pointer (some ⟨b, o, none⟩))).run Try.prog w = .ok s.val w := by
  unfold Sl.val at h ⊢
  simp [go_sem, h]
theorem ixI0 (g : Nat) (w : World) : (Instr.indexAt 51 (.pointer (some ⟨g, 0, none⟩)) (.int .i64 0)).run Try.prog w = .ok (.pointer (some ⟨g, 0, none⟩)) w := by
  simp [go_sem, Instr.indexAt]
theorem ixI1 (g : Nat) (w : World) : (Instr.indexAt 51 (.pointer (some ⟨g, 0, none⟩)) (.int .i64 1)).run Try.prog w = .ok (.pointer (some ⟨g, 1, none⟩)) w := by
  simp [go_sem, Instr.indexAt]
theorem ixU0 (g : Nat) (w : World) : (Instr.indexAt 52 (.pointer (some ⟨g, 0, none⟩)) (.int .i64 0)).run Try.prog w = .ok (.pointer (some ⟨g, 0, none⟩)) w := by
  simp [go_sem, Instr.indexAt]
theorem ixU1 (g : Nat) (w : World) : (Instr.indexAt 52 (.pointer (some ⟨g, 0, none⟩)) (.int .i64 1)).run Try.prog w = .ok (.pointer (some ⟨g, 1, none⟩)) w := by
  simp [go_sem, Instr.indexAt]
theorem fdUB2 (p : Nat) (w : World) : (Instr.fieldAt 30 (.pointer (some ⟨p, 0, none⟩)) 2).run Try.prog w = .ok (.pointer (some ⟨p, 2, none⟩)) w := by simp [go_sem, Instr.fieldAt]
theorem add1k (k : Nat) (hk : k ≤ 1) (x y : Operand) (w : World) : (do eqGuard .add 3 x y (.int .i64 1) (.int .i64 (k : Nat)); binOp .add 3 (.int .i64 1) (.int .i64 (k : Nat)) : Sem Value).run Try.prog w = .ok (.int .i64 (1 + (k : Int))) w := by
  have e : IntKind.i64.wrap (1 + (k : Int)) = 1 + (k : Int) := by rw [IntKind.wrap_i64]; omega
  simp [go_sem, eqGuard, e]
theorem addi1 (i : Nat) (hi : i ≤ 100) (x y : Operand) (w : World) : (do eqGuard .add 3 x y (.int .i64 (i : Nat)) (.int .i64 1); binOp .add 3 (.int .i64 (i : Nat)) (.int .i64 1) : Sem Value).run Try.prog w = .ok (.int .i64 ((i : Int) + 1)) w := by
  have e : IntKind.i64.wrap ((i : Int) + 1) = (i : Int) + 1 := by rw [IntKind.wrap_i64]; omega
  simp [go_sem, eqGuard, e]
theorem lit_un (w : World) (x : Ux) : (Instr.buildSlice 22 1 #[(0, x.val)]).run Try.prog w = .ok (.slice (some ⟨w.heap.size, 0, none⟩) 1 1) (w.alloc (.cells #[.int .i64 x.u.tx, .int .i64 x.u.no, .int .i64 x.u.prev, .int .i64 x.u.kind, .int .i64 x.u.page, .int .i64 x.u.slot, .float .f64 x.u.row.key, .bool x.u.row.dead, .slice x.a x.n x.c, .int .i64 x.u.row.wr, .int .i64 x.u.row.cell, .int .i64 x.u.row.no] 30)) := by
  unfold Ux.val Un.val
  simp [go_sem, Instr.buildSlice]
theorem enters21 : ∀ args w, (callFunc 21 args).run Try.prog w = .ok (.enter 21 args) w := Pl.enters Try.func21 (by kernel_rfl) (by kernel_rfl)
theorem enters16 : ∀ args w, (callFunc 16 args).run Try.prog w = .ok (.enter 16 args) w := Pl.enters Try.func16 (by kernel_rfl) (by kernel_rfl)
theorem enters8 : ∀ args w, (callFunc 8 args).run Try.prog w = .ok (.enter 8 args) w := Pl.enters Try.func8 (by kernel_rfl) (by kernel_rfl)

theorem UnBlk.drewU {w : World} {g : Nat} {u : Un} {c : Value} (h : UnBlk w g u c) : UnBlk w.drew g u c := h
theorem c1_of {w : World} {g : Nat} {u : Un} {c : Value} (h : UnBlk w g u c) (t : Int) : (w.setCell ⟨g, 0, none⟩ (.int .i64 t)).cell? ⟨g, 1, none⟩ = some (.int .i64 u.no) := by
  unfold UnBlk at h
  rw [cell_of_row _ _ _ _ _ _ (heap_setCell_same w g 0 _ 30 (.int .i64 t) h)]
  rfl
theorem f1_of {w : World} {g : Nat} {u : Un} {c : Value} (h : UnBlk w g u c) (t : Int) : (w.setCell ⟨g, 0, none⟩ (.int .i64 t)).frozen? ⟨g, 1, none⟩ = false := by
  unfold UnBlk at h
  exact frozen_of_row _ g _ _ 30 (heap_setCell_same w g 0 _ 30 (.int .i64 t) h)
theorem c2_of {w : World} {g : Nat} {u : Un} {c : Value} (h : UnBlk w g u c) (t n : Int) : ((w.setCell ⟨g, 0, none⟩ (.int .i64 t)).setCell ⟨g, 1, none⟩ (.int .i64 n)).cell? ⟨g, 2, none⟩ = some (.int .i64 u.prev) := by
  unfold UnBlk at h
  rw [cell_of_row _ _ _ _ _ _ (heap_setCell_same _ g 1 _ 30 (.int .i64 n) (heap_setCell_same w g 0 _ 30 (.int .i64 t) h))]
  rfl
theorem f2_of {w : World} {g : Nat} {u : Un} {c : Value} (h : UnBlk w g u c) (t n : Int) : ((w.setCell ⟨g, 0, none⟩ (.int .i64 t)).setCell ⟨g, 1, none⟩ (.int .i64 n)).frozen? ⟨g, 2, none⟩ = false := by
  unfold UnBlk at h
  exact frozen_of_row _ g _ _ 30 (heap_setCell_same _ g 1 _ 30 (.int .i64 n) (heap_setCell_same w g 0 _ 30 (.int .i64 t) h))

set_option maxHeartbeats 2000000 in
set_option maxRecDepth 100000 in
theorem chn9_0 (w0 w : World) (g6 g9 : Nat) (c0 c1 : Int) (h6 : BxI w0 g6 c0 c1) (u0 : Un) (c : Value) (h9 : UnBlk w g9 u0 c) (hg9 : w0.heap.size ≤ g9) (i : Nat) (hi : i ≤ 100) (hW : Below w0.heap.size w0 w)
    {Q : Exit → Act → World → Prop} {A : Act} (hsz : A.tmps.size = 98) (hdf : A.defers = []) (s6 : A.tmps.getD 6 undef = .pointer (some ⟨g6, 0, none⟩)) (s8 : A.tmps.getD 8 undef = .int .i64 ((i : Nat) : Int)) (s9 : A.tmps.getD 9 undef = .pointer (some ⟨g9, 0, none⟩)) (s10 : A.tmps.getD 10 undef = .int .i64 ((0 : Nat) : Int))
    (hend : ∀ (u : Nat → Value) w', UnBlk w' g9 { u0 with tx := 1 + ((0 : Nat) : Int), no := (i : Int) + 1, prev := c0 } c → Below w0.heap.size w0 w' → Q .normal (((((((((((A).put (some 43) (u 43)).put (some 44) (u 44)).put (some 45) (u 45)).put (some 46) (u 46)).put (some 47) (u 47)).put (some 48) (u 48)).put (some 49) (u 49)).put (some 50) (u 50)).put (some 51) (u 51)).put (some 52) (u 52)) w') :
    (Code.region 9 (Pl.find 9 ((Try.f6.body).getD .skip)) true).wp Try.prog Q A w := by
  have hS0 : Below w0.heap.size w0 w.drew := hW.drew
  have hA := Pl.At.same (v := .int .i64 ((0 : Nat) : Int)) (d := 10) (Pl.At.same (v := .pointer (some ⟨g9, 0, none⟩)) (d := 9) (Pl.At.same (v := .int .i64 ((i : Nat) : Int)) (d := 8) (Pl.At.same (v := .pointer (some ⟨g6, 0, none⟩)) (d := 6) (Pl.At.here hsz hdf) s6) s8) s9) s10
  refine Pl.H.start (S := fun w' => Below w0.heap.size w0 w') (by kernel_rfl) hA hS0 ?_
  rw [show (Pl.find 9 ((Try.f6.body).getD .skip)).size = 13 by kernel_rfl]
  refine Pl.H.take 0 43 (.int .i64 ((0 : Nat) : Int)) (by kernel_rfl) (by kernel_rfl) (by kernel_rfl) (Pl.free 0 (by kernel_rfl)) (Pl.move 0 (.tmp 10) (by kernel_rfl) (by decide)) hS0 ?_
  refine Pl.H.take 1 44 (.int .i64 (1 + ((0 : Nat) : Int))) (by kernel_rfl) (by kernel_rfl) (by kernel_rfl) (Pl.free 1 (by kernel_rfl)) (Pl.binV 1 .add 3 3 (.const (.int .i64 1)) (.tmp 43) (.int .i64 1) (.int .i64 ((0 : Nat) : Int)) _ (by kernel_rfl) (by decide) (by decide) rfl rfl (add1k 0 (by decide) _ _)) hS0 ?_
  refine Pl.H.take 2 45 (.int .i64 ((i : Nat) : Int)) (by kernel_rfl) (by kernel_rfl) (by kernel_rfl) (Pl.free 2 (by kernel_rfl)) (Pl.move 2 (.tmp 8) (by kernel_rfl) (by decide)) hS0 ?_
  refine Pl.H.take 3 46 (.int .i64 ((i : Int) + 1)) (by kernel_rfl) (by kernel_rfl) (by kernel_rfl) (Pl.free 3 (by kernel_rfl)) (Pl.binV 3 .add 3 3 (.tmp 45) (.const (.int .i64 1)) (.int .i64 ((i : Nat) : Int)) (.int .i64 1) _ (by kernel_rfl) (by decide) (by decide) rfl rfl (addi1 i hi _ _)) hS0 ?_
  refine Pl.H.take 4 47 (.int .i64 ((0 : Nat) : Int)) (by kernel_rfl) (by kernel_rfl) (by kernel_rfl) (Pl.free 4 (by kernel_rfl)) (Pl.move 4 (.tmp 10) (by kernel_rfl) (by decide)) hS0 ?_
  refine Pl.H.take 5 48 (.pointer (some ⟨g6, 0, none⟩)) (by kernel_rfl) (by kernel_rfl) (by kernel_rfl) (Pl.free 5 (by kernel_rfl)) (Pl.index 5 51 (.tmp 6) (.tmp 47) _ (by kernel_rfl) (by decide) (by decide) (ixI0 g6)) hS0 ?_
  refine Pl.H.take 6 49 (.int .i64 c0) (by kernel_rfl) (by kernel_rfl) (by kernel_rfl) (Pl.free 6 (by kernel_rfl)) (Pl.load 6 3 (.tmp 48) _ (by kernel_rfl) (by decide) (fun w' hS => load_intC ((hS.cell (World.block_lt_of_cell? _ _ h6.c0)).trans h6.c0))) hS0 ?_
  refine Pl.H.take 7 50 (.pointer (some ⟨g9, 0, none⟩)) (by kernel_rfl) (by kernel_rfl) (by kernel_rfl) (Pl.free 7 (by kernel_rfl)) (Pl.field 7 30 (.tmp 9) 0 _ (by kernel_rfl) (by decide) (fdUB0 g9)) hS0 ?_
  have hSa : Below w0.heap.size w0 (w.drew.setCell ⟨g9, 0, none⟩ (.int .i64 (1 + ((0 : Nat) : Int)))) := hS0.trans ((setC_frm _ g9 0 _).below hS0.size (fun k hk => by rw [hk]; exact hg9))
  refine Pl.H.store 8 (w.drew.setCell ⟨g9, 0, none⟩ (.int .i64 (1 + ((0 : Nat) : Int)))) (by kernel_rfl) (by kernel_rfl) (by kernel_rfl) (Pl.free 8 (by kernel_rfl)) (Pl.storeV 8 3 (.tmp 50) (.tmp 44) _ (by kernel_rfl) (by decide) (by decide) (st_int _ h9.drewU.c0 (h9.drewU.fz 0))) hSa ?_
  refine Pl.H.take 9 51 (.pointer (some ⟨g9, 1, none⟩)) (by kernel_rfl) (by kernel_rfl) (by kernel_rfl) (Pl.free 9 (by kernel_rfl)) (Pl.field 9 30 (.tmp 9) 1 _ (by kernel_rfl) (by decide) (fdUB1 g9)) hSa ?_
  have hSb : Below w0.heap.size w0 ((w.drew.setCell ⟨g9, 0, none⟩ (.int .i64 (1 + ((0 : Nat) : Int)))).setCell ⟨g9, 1, none⟩ (.int .i64 ((i : Int) + 1))) := hSa.trans ((setC_frm _ g9 1 _).below hSa.size (fun k hk => by rw [hk]; exact hg9))
  refine Pl.H.store 10 ((w.drew.setCell ⟨g9, 0, none⟩ (.int .i64 (1 + ((0 : Nat) : Int)))).setCell ⟨g9, 1, none⟩ (.int .i64 ((i : Int) + 1))) (by kernel_rfl) (by kernel_rfl) (by kernel_rfl) (Pl.free 10 (by kernel_rfl)) (Pl.storeV 10 3 (.tmp 51) (.tmp 46) _ (by kernel_rfl) (by decide) (by decide) (st_int _ (c1_of h9.drewU _) (f1_of h9.drewU _))) hSb ?_
  refine Pl.H.take 11 52 (.pointer (some ⟨g9, 2, none⟩)) (by kernel_rfl) (by kernel_rfl) (by kernel_rfl) (Pl.free 11 (by kernel_rfl)) (Pl.field 11 30 (.tmp 9) 2 _ (by kernel_rfl) (by decide) (fdUB2 g9)) hSb ?_
  have hSc : Below w0.heap.size w0 (((w.drew.setCell ⟨g9, 0, none⟩ (.int .i64 (1 + ((0 : Nat) : Int)))).setCell ⟨g9, 1, none⟩ (.int .i64 ((i : Int) + 1))).setCell ⟨g9, 2, none⟩ (.int .i64 c0)) := hSb.trans ((setC_frm _ g9 2 _).below hSb.size (fun k hk => by rw [hk]; exact hg9))
  refine Pl.H.store 12 (((w.drew.setCell ⟨g9, 0, none⟩ (.int .i64 (1 + ((0 : Nat) : Int)))).setCell ⟨g9, 1, none⟩ (.int .i64 ((i : Int) + 1))).setCell ⟨g9, 2, none⟩ (.int .i64 c0)) (by kernel_rfl) (by kernel_rfl) (by kernel_rfl) (Pl.free 12 (by kernel_rfl)) (Pl.storeV 12 3 (.tmp 52) (.tmp 49) _ (by kernel_rfl) (by decide) (by decide) (st_int _ (c2_of h9.drewU _ _) (f2_of h9.drewU _ _))) hSc ?_
  refine Pl.H.done (by kernel_rfl) (fun A' hA' => ?_)
  rw [Pl.At.ext hA' ((((((((((hA.put 43 _).put 44 _).put 45 _).put 46 _).put 47 _).put 48 _).put 49 _).put 50 _).put 51 _).put 52 _)]
  exact hend (fun d => if d = 43 then .int .i64 ((0 : Nat) : Int) else if d = 44 then .int .i64 (1 + ((0 : Nat) : Int)) else if d = 45 then .int .i64 ((i : Nat) : Int) else if d = 46 then .int .i64 ((i : Int) + 1) else if d = 47 then .int .i64 ((0 : Nat) : Int) else if d = 48 then .pointer (some ⟨g6, 0, none⟩) else if d = 49 then .int .i64 c0 else if d = 50 then .pointer (some ⟨g9, 0, none⟩) else if d = 51 then .pointer (some ⟨g9, 1, none⟩) else if d = 52 then .pointer (some ⟨g9, 2, none⟩) else undef) _ (setUn3 h9.drewU _ _ _) hSc

set_option maxHeartbeats 2000000 in
set_option maxRecDepth 100000 in
theorem chn9_1 (w0 w : World) (g6 g9 : Nat) (c0 c1 : Int) (h6 : BxI w0 g6 c0 c1) (u0 : Un) (c : Value) (h9 : UnBlk w g9 u0 c) (hg9 : w0.heap.size ≤ g9) (i : Nat) (hi : i ≤ 100) (hW : Below w0.heap.size w0 w)
    {Q : Exit → Act → World → Prop} {A : Act} (hsz : A.tmps.size = 98) (hdf : A.defers = []) (s6 : A.tmps.getD 6 undef = .pointer (some ⟨g6, 0, none⟩)) (s8 : A.tmps.getD 8 undef = .int .i64 ((i : Nat) : Int)) (s9 : A.tmps.getD 9 undef = .pointer (some ⟨g9, 0, none⟩)) (s10 : A.tmps.getD 10 undef = .int .i64 ((1 : Nat) : Int))
    (hend : ∀ (u : Nat → Value) w', UnBlk w' g9 { u0 with tx := 1 + ((1 : Nat) : Int), no := (i : Int) + 1, prev := c1 } c → Below w0.heap.size w0 w' → Q .normal (((((((((((A).put (some 43) (u 43)).put (some 44) (u 44)).put (some 45) (u 45)).put (some 46) (u 46)).put (some 47) (u 47)).put (some 48) (u 48)).put (some 49) (u 49)).put (some 50) (u 50)).put (some 51) (u 51)).put (some 52) (u 52)) w') :
    (Code.region 9 (Pl.find 9 ((Try.f6.body).getD .skip)) true).wp Try.prog Q A w := by
  have hS0 : Below w0.heap.size w0 w.drew := hW.drew
  have hA := Pl.At.same (v := .int .i64 ((1 : Nat) : Int)) (d := 10) (Pl.At.same (v := .pointer (some ⟨g9, 0, none⟩)) (d := 9) (Pl.At.same (v := .int .i64 ((i : Nat) : Int)) (d := 8) (Pl.At.same (v := .pointer (some ⟨g6, 0, none⟩)) (d := 6) (Pl.At.here hsz hdf) s6) s8) s9) s10
  refine Pl.H.start (S := fun w' => Below w0.heap.size w0 w') (by kernel_rfl) hA hS0 ?_
  rw [show (Pl.find 9 ((Try.f6.body).getD .skip)).size = 13 by kernel_rfl]
  refine Pl.H.take 0 43 (.int .i64 ((1 : Nat) : Int)) (by kernel_rfl) (by kernel_rfl) (by kernel_rfl) (Pl.free 0 (by kernel_rfl)) (Pl.move 0 (.tmp 10) (by kernel_rfl) (by decide)) hS0 ?_
  refine Pl.H.take 1 44 (.int .i64 (1 + ((1 : Nat) : Int))) (by kernel_rfl) (by kernel_rfl) (by kernel_rfl) (Pl.free 1 (by kernel_rfl)) (Pl.binV 1 .add 3 3 (.const (.int .i64 1)) (.tmp 43) (.int .i64 1) (.int .i64 ((1 : Nat) : Int)) _ (by kernel_rfl) (by decide) (by decide) rfl rfl (add1k 1 (by decide) _ _)) hS0 ?_
  refine Pl.H.take 2 45 (.int .i64 ((i : Nat) : Int)) (by kernel_rfl) (by kernel_rfl) (by kernel_rfl) (Pl.free 2 (by kernel_rfl)) (Pl.move 2 (.tmp 8) (by kernel_rfl) (by decide)) hS0 ?_
  refine Pl.H.take 3 46 (.int .i64 ((i : Int) + 1)) (by kernel_rfl) (by kernel_rfl) (by kernel_rfl) (Pl.free 3 (by kernel_rfl)) (Pl.binV 3 .add 3 3 (.tmp 45) (.const (.int .i64 1)) (.int .i64 ((i : Nat) : Int)) (.int .i64 1) _ (by kernel_rfl) (by decide) (by decide) rfl rfl (addi1 i hi _ _)) hS0 ?_
  refine Pl.H.take 4 47 (.int .i64 ((1 : Nat) : Int)) (by kernel_rfl) (by kernel_rfl) (by kernel_rfl) (Pl.free 4 (by kernel_rfl)) (Pl.move 4 (.tmp 10) (by kernel_rfl) (by decide)) hS0 ?_
  refine Pl.H.take 5 48 (.pointer (some ⟨g6, 1, none⟩)) (by kernel_rfl) (by kernel_rfl) (by kernel_rfl) (Pl.free 5 (by kernel_rfl)) (Pl.index 5 51 (.tmp 6) (.tmp 47) _ (by kernel_rfl) (by decide) (by decide) (ixI1 g6)) hS0 ?_
  refine Pl.H.take 6 49 (.int .i64 c1) (by kernel_rfl) (by kernel_rfl) (by kernel_rfl) (Pl.free 6 (by kernel_rfl)) (Pl.load 6 3 (.tmp 48) _ (by kernel_rfl) (by decide) (fun w' hS => load_intC ((hS.cell (World.block_lt_of_cell? _ _ h6.c1)).trans h6.c1))) hS0 ?_
  refine Pl.H.take 7 50 (.pointer (some ⟨g9, 0, none⟩)) (by kernel_rfl) (by kernel_rfl) (by kernel_rfl) (Pl.free 7 (by kernel_rfl)) (Pl.field 7 30 (.tmp 9) 0 _ (by kernel_rfl) (by decide) (fdUB0 g9)) hS0 ?_
  have hSa : Below w0.heap.size w0 (w.drew.setCell ⟨g9, 0, none⟩ (.int .i64 (1 + ((1 : Nat) : Int)))) := hS0.trans ((setC_frm _ g9 0 _).below hS0.size (fun k hk => by rw [hk]; exact hg9))
  refine Pl.H.store 8 (w.drew.setCell ⟨g9, 0, none⟩ (.int .i64 (1 + ((1 : Nat) : Int)))) (by kernel_rfl) (by kernel_rfl) (by kernel_rfl) (Pl.free 8 (by kernel_rfl)) (Pl.storeV 8 3 (.tmp 50) (.tmp 44) _ (by kernel_rfl) (by decide) (by decide) (st_int _ h9.drewU.c0 (h9.drewU.fz 0))) hSa ?_
  refine Pl.H.take 9 51 (.pointer (some ⟨g9, 1, none⟩)) (by kernel_rfl) (by kernel_rfl) (by kernel_rfl) (Pl.free 9 (by kernel_rfl)) (Pl.field 9 30 (.tmp 9) 1 _ (by kernel_rfl) (by decide) (fdUB1 g9)) hSa ?_
  have hSb : Below w0.heap.size w0 ((w.drew.setCell ⟨g9, 0, none⟩ (.int .i64 (1 + ((1 : Nat) : Int)))).setCell ⟨g9, 1, none⟩ (.int .i64 ((i : Int) + 1))) := hSa.trans ((setC_frm _ g9 1 _).below hSa.size (fun k hk => by rw [hk]; exact hg9))
  refine Pl.H.store 10 ((w.drew.setCell ⟨g9, 0, none⟩ (.int .i64 (1 + ((1 : Nat) : Int)))).setCell ⟨g9, 1, none⟩ (.int .i64 ((i : Int) + 1))) (by kernel_rfl) (by kernel_rfl) (by kernel_rfl) (Pl.free 10 (by kernel_rfl)) (Pl.storeV 10 3 (.tmp 51) (.tmp 46) _ (by kernel_rfl) (by decide) (by decide) (st_int _ (c1_of h9.drewU _) (f1_of h9.drewU _))) hSb ?_
  refine Pl.H.take 11 52 (.pointer (some ⟨g9, 2, none⟩)) (by kernel_rfl) (by kernel_rfl) (by kernel_rfl) (Pl.free 11 (by kernel_rfl)) (Pl.field 11 30 (.tmp 9) 2 _ (by kernel_rfl) (by decide) (fdUB2 g9)) hSb ?_
  have hSc : Below w0.heap.size w0 (((w.drew.setCell ⟨g9, 0, none⟩ (.int .i64 (1 + ((1 : Nat) : Int)))).setCell ⟨g9, 1, none⟩ (.int .i64 ((i : Int) + 1))).setCell ⟨g9, 2, none⟩ (.int .i64 c1)) := hSb.trans ((setC_frm _ g9 2 _).below hSb.size (fun k hk => by rw [hk]; exact hg9))
  refine Pl.H.store 12 (((w.drew.setCell ⟨g9, 0, none⟩ (.int .i64 (1 + ((1 : Nat) : Int)))).setCell ⟨g9, 1, none⟩ (.int .i64 ((i : Int) + 1))).setCell ⟨g9, 2, none⟩ (.int .i64 c1)) (by kernel_rfl) (by kernel_rfl) (by kernel_rfl) (Pl.free 12 (by kernel_rfl)) (Pl.storeV 12 3 (.tmp 52) (.tmp 49) _ (by kernel_rfl) (by decide) (by decide) (st_int _ (c2_of h9.drewU _ _) (f2_of h9.drewU _ _))) hSc ?_
  refine Pl.H.done (by kernel_rfl) (fun A' hA' => ?_)
  rw [Pl.At.ext hA' ((((((((((hA.put 43 _).put 44 _).put 45 _).put 46 _).put 47 _).put 48 _).put 49 _).put 50 _).put 51 _).put 52 _)]
  exact hend (fun d => if d = 43 then .int .i64 ((1 : Nat) : Int) else if d = 44 then .int .i64 (1 + ((1 : Nat) : Int)) else if d = 45 then .int .i64 ((i : Nat) : Int) else if d = 46 then .int .i64 ((i : Int) + 1) else if d = 47 then .int .i64 ((1 : Nat) : Int) else if d = 48 then .pointer (some ⟨g6, 1, none⟩) else if d = 49 then .int .i64 c1 else if d = 50 then .pointer (some ⟨g9, 0, none⟩) else if d = 51 then .pointer (some ⟨g9, 1, none⟩) else if d = 52 then .pointer (some ⟨g9, 2, none⟩) else undef) _ (setUn3 h9.drewU _ _ _) hSc

set_option maxHeartbeats 2000000 in
set_option maxRecDepth 100000 in
theorem chn15_0 (w00 w : World) (g7 g9 : Nat) (hne : ¬ g9 = g7) (hg7 : w00.heap.size ≤ g7) (p q : Sl) (h7 : BxU w g7 p q) (x : Ux) (h9 : UnBlk w g9 x.u (.slice x.a x.n x.c)) (hx : Col w00 w x) (hf : x.u.fits) (mm : List Ux) (hp : Ud w00 w p mm) (hl : mm.length + 1 ≤ 1000000)
    {Q : Exit → Act → World → Prop} {A : Act} (hsz : A.tmps.size = 98) (hdf : A.defers = []) (s7 : A.tmps.getD 7 undef = .pointer (some ⟨g7, 0, none⟩)) (s9 : A.tmps.getD 9 undef = .pointer (some ⟨g9, 0, none⟩)) (s10 : A.tmps.getD 10 undef = .int .i64 ((0 : Nat) : Int))
    (hend : ∀ (u : Nat → Value) w' s', Ud w00 w' s' (x :: mm) → BxU w' g7 s' q → Frm (fun j => j = g7) w w' → Q .normal (((((((((A).put (some 71) (u 71)).put (some 72) (u 72)).put (some 74) (u 74)).put (some 75) (u 75)).put (some 73) (u 73)).put (some 76) (u 76)).put (some 77) (u 77)).put (some 78) (u 78)) w') :
    (Code.region 15 (Pl.find 15 ((Try.f6.body).getD .skip)) true).wp Try.prog Q A w := by
  have hS0 : Frm (fun j => j = g7) w w.drew := (Frm.refl _ w).drew
  have hB0 : Below w.heap.size w w.drew := (Below.refl _ w).drew
  have hBl : Below w.heap.size w (w.drew.alloc (.cells #[.int .i64 x.u.tx, .int .i64 x.u.no, .int .i64 x.u.prev, .int .i64 x.u.kind, .int .i64 x.u.page, .int .i64 x.u.slot, .float .f64 x.u.row.key, .bool x.u.row.dead, .slice x.a x.n x.c, .int .i64 x.u.row.wr, .int .i64 x.u.row.cell, .int .i64 x.u.row.no] 30)) := hB0.alloc hB0.size _
  have hSl : Frm (fun j => j = g7) w (w.drew.alloc (.cells #[.int .i64 x.u.tx, .int .i64 x.u.no, .int .i64 x.u.prev, .int .i64 x.u.kind, .int .i64 x.u.page, .int .i64 x.u.slot, .float .f64 x.u.row.key, .bool x.u.row.dead, .slice x.a x.n x.c, .int .i64 x.u.row.wr, .int .i64 x.u.row.cell, .int .i64 x.u.row.no] 30)) := Frm.ofBelow hBl
  have hE0 : BxU w.drew g7 p q := h7
  have hE1 : BxU (w.drew.alloc (.cells #[.int .i64 x.u.tx, .int .i64 x.u.no, .int .i64 x.u.prev, .int .i64 x.u.kind, .int .i64 x.u.page, .int .i64 x.u.slot, .float .f64 x.u.row.key, .bool x.u.row.dead, .slice x.a x.n x.c, .int .i64 x.u.row.wr, .int .i64 x.u.row.cell, .int .i64 x.u.row.no] 30)) g7 p q := h7.keep hBl
  obtain ⟨s', W, hrun, hud, hbW⟩ := Ud.consd (w := w.drew) (hp.keep hB0) x (hx.keep hB0) hf hl
  have hBw : Below w.heap.size w W := rBelow hB0 hbW
  have hSw : Frm (fun j => j = g7) w W := Frm.ofBelow hBw
  have h7W := h7.keep hBw
  have hSz : Frm (fun j => j = g7) w (W.setCell ⟨g7, 0, none⟩ (Sl.val s')) := hSw.trans (setC_frm W g7 0 (Sl.val s')) (fun _ _ h => h)
  have hud2 := hud.boxed h7W hg7 ⟨by decide, by decide⟩ (setC_frm W g7 0 (Sl.val s'))
  have hA := Pl.At.same (v := .int .i64 ((0 : Nat) : Int)) (d := 10) (Pl.At.same (v := .pointer (some ⟨g9, 0, none⟩)) (d := 9) (Pl.At.same (v := .pointer (some ⟨g7, 0, none⟩)) (d := 7) (Pl.At.here hsz hdf) s7) s9) s10
  refine Pl.H.start (S := fun w' => Frm (fun j => j = g7) w w') (by kernel_rfl) hA hS0 ?_
  rw [show (Pl.find 15 ((Try.f6.body).getD .skip)).size = 9 by kernel_rfl]
  refine Pl.H.take 0 71 (.int .i64 ((0 : Nat) : Int)) (by kernel_rfl) (by kernel_rfl) (by kernel_rfl) (Pl.free 0 (by kernel_rfl)) (Pl.move 0 (.tmp 10) (by kernel_rfl) (by decide)) hS0 ?_
  refine Pl.H.take 1 72 (x.val) (by kernel_rfl) (by kernel_rfl) (by kernel_rfl) (Pl.free 1 (by kernel_rfl)) (Pl.load 1 30 (.tmp 9) _ (by kernel_rfl) (by decide) (fun w' hS => load_un g9 x.u _ ⟨_, _, _, rfl⟩ w' (h9.frm hS hne))) hS0 ?_
  refine Pl.H.take 3 74 (.int .i64 ((0 : Nat) : Int)) (by kernel_rfl) (by kernel_rfl) (by kernel_rfl) (Pl.free 3 (by kernel_rfl)) (Pl.move 3 (.tmp 10) (by kernel_rfl) (by decide)) hS0 ?_
  refine Pl.H.take 4 75 (.pointer (some ⟨g7, 0, none⟩)) (by kernel_rfl) (by kernel_rfl) (by kernel_rfl) (Pl.free 4 (by kernel_rfl)) (Pl.index 4 52 (.tmp 7) (.tmp 74) _ (by kernel_rfl) (by decide) (by decide) (ixU0 g7)) hS0 ?_
  refine Pl.H.two 2 5 (by kernel_rfl) ?_ ?_
  · refine Pl.HOp.value 2 73 (.slice (some ⟨w.drew.heap.size, 0, none⟩) 1 1) (w.drew.alloc (.cells #[.int .i64 x.u.tx, .int .i64 x.u.no, .int .i64 x.u.prev, .int .i64 x.u.kind, .int .i64 x.u.page, .int .i64 x.u.slot, .float .f64 x.u.row.key, .bool x.u.row.dead, .slice x.a x.n x.c, .int .i64 x.u.row.wr, .int .i64 x.u.row.cell, .int .i64 x.u.row.no] 30)) (by kernel_rfl) (by kernel_rfl) (by kernel_rfl) (Pl.one 2 22 (.tmp 72) _ _ (by kernel_rfl) (by decide) (lit_un w.drew x)) hSl ?_
    refine Pl.H.solo 5 76 (p.val) (by kernel_rfl) (by kernel_rfl) (by kernel_rfl) (Pl.free 5 (by kernel_rfl)) (Pl.load1 5 22 (.tmp 75) _ (by kernel_rfl) (by decide) (ld_sl hE1.c0)) hSl ?_
    refine Pl.H.make 6 77 (Sl.val s') W (by kernel_rfl) (by kernel_rfl) (by kernel_rfl) (Pl.free 6 (by kernel_rfl)) (Pl.appV 6 22 22 (.tmp 73) (.tmp 76) _ _ (by kernel_rfl) (by decide) (by decide) (fun ty => hrun ty)) hSw ?_
    refine Pl.H.take 7 78 (.pointer (some ⟨g7, 0, none⟩)) (by kernel_rfl) (by kernel_rfl) (by kernel_rfl) (Pl.free 7 (by kernel_rfl)) (Pl.index 7 52 (.tmp 7) (.tmp 71) _ (by kernel_rfl) (by decide) (by decide) (ixU0 g7)) hSw ?_
    refine Pl.H.store 8 (W.setCell ⟨g7, 0, none⟩ (Sl.val s')) (by kernel_rfl) (by kernel_rfl) (by kernel_rfl) (Pl.free 8 (by kernel_rfl)) (Pl.storeV 8 22 (.tmp 78) (.tmp 77) _ (by kernel_rfl) (by decide) (by decide) (st_sl s' h7W.c0 (h7W.fz 0))) hSz ?_
    refine Pl.H.done (by kernel_rfl) (fun A' hA' => ?_)
    rw [Pl.At.ext hA' ((((((((hA.put 71 _).put 72 _).put 74 _).put 75 _).put 73 _).put 76 _).put 77 _).put 78 _)]
    exact hend (fun d => if d = 71 then .int .i64 ((0 : Nat) : Int) else if d = 72 then x.val else if d = 74 then .int .i64 ((0 : Nat) : Int) else if d = 75 then .pointer (some ⟨g7, 0, none⟩) else if d = 73 then .slice (some ⟨w.drew.heap.size, 0, none⟩) 1 1 else if d = 76 then p.val else if d = 77 then Sl.val s' else if d = 78 then .pointer (some ⟨g7, 0, none⟩) else undef) _ s' hud2 (h7W.set0 s') hSz
  · refine Pl.HOp.value 5 76 (p.val) w.drew (by kernel_rfl) (by kernel_rfl) (by kernel_rfl) (Pl.load1 5 22 (.tmp 75) _ (by kernel_rfl) (by decide) (ld_sl hE0.c0)) hS0 ?_
    refine Pl.H.make 2 73 (.slice (some ⟨w.drew.heap.size, 0, none⟩) 1 1) (w.drew.alloc (.cells #[.int .i64 x.u.tx, .int .i64 x.u.no, .int .i64 x.u.prev, .int .i64 x.u.kind, .int .i64 x.u.page, .int .i64 x.u.slot, .float .f64 x.u.row.key, .bool x.u.row.dead, .slice x.a x.n x.c, .int .i64 x.u.row.wr, .int .i64 x.u.row.cell, .int .i64 x.u.row.no] 30)) (by kernel_rfl) (by kernel_rfl) (by kernel_rfl) (Pl.free 2 (by kernel_rfl)) (Pl.one 2 22 (.tmp 72) _ _ (by kernel_rfl) (by decide) (lit_un w.drew x)) hSl ?_
    rw [Pl.upd_comm _ 76 73 _ _ (by decide)]
    refine Pl.H.make 6 77 (Sl.val s') W (by kernel_rfl) (by kernel_rfl) (by kernel_rfl) (Pl.free 6 (by kernel_rfl)) (Pl.appV 6 22 22 (.tmp 73) (.tmp 76) _ _ (by kernel_rfl) (by decide) (by decide) (fun ty => hrun ty)) hSw ?_
    refine Pl.H.take 7 78 (.pointer (some ⟨g7, 0, none⟩)) (by kernel_rfl) (by kernel_rfl) (by kernel_rfl) (Pl.free 7 (by kernel_rfl)) (Pl.index 7 52 (.tmp 7) (.tmp 71) _ (by kernel_rfl) (by decide) (by decide) (ixU0 g7)) hSw ?_
    refine Pl.H.store 8 (W.setCell ⟨g7, 0, none⟩ (Sl.val s')) (by kernel_rfl) (by kernel_rfl) (by kernel_rfl) (Pl.free 8 (by kernel_rfl)) (Pl.storeV 8 22 (.tmp 78) (.tmp 77) _ (by kernel_rfl) (by decide) (by decide) (st_sl s' h7W.c0 (h7W.fz 0))) hSz ?_
    refine Pl.H.done (by kernel_rfl) (fun A' hA' => ?_)
    rw [Pl.At.ext hA' ((((((((hA.put 71 _).put 72 _).put 74 _).put 75 _).put 73 _).put 76 _).put 77 _).put 78 _)]
    exact hend (fun d => if d = 71 then .int .i64 ((0 : Nat) : Int) else if d = 72 then x.val else if d = 74 then .int .i64 ((0 : Nat) : Int) else if d = 75 then .pointer (some ⟨g7, 0, none⟩) else if d = 73 then .slice (some ⟨w.drew.heap.size, 0, none⟩) 1 1 else if d = 76 then p.val else if d = 77 then Sl.val s' else if d = 78 then .pointer (some ⟨g7, 0, none⟩) else undef) _ s' hud2 (h7W.set0 s') hSz

set_option maxHeartbeats 2000000 in
set_option maxRecDepth 100000 in
theorem chn15_1 (w00 w : World) (g7 g9 : Nat) (hne : ¬ g9 = g7) (hg7 : w00.heap.size ≤ g7) (p q : Sl) (h7 : BxU w g7 p q) (x : Ux) (h9 : UnBlk w g9 x.u (.slice x.a x.n x.c)) (hx : Col w00 w x) (hf : x.u.fits) (mm : List Ux) (hq : Ud w00 w q mm) (hl : mm.length + 1 ≤ 1000000)
    {Q : Exit → Act → World → Prop} {A : Act} (hsz : A.tmps.size = 98) (hdf : A.defers = []) (s7 : A.tmps.getD 7 undef = .pointer (some ⟨g7, 0, none⟩)) (s9 : A.tmps.getD 9 undef = .pointer (some ⟨g9, 0, none⟩)) (s10 : A.tmps.getD 10 undef = .int .i64 ((1 : Nat) : Int))
    (hend : ∀ (u : Nat → Value) w' s', Ud w00 w' s' (x :: mm) → BxU w' g7 p s' → Frm (fun j => j = g7) w w' → Q .normal (((((((((A).put (some 71) (u 71)).put (some 72) (u 72)).put (some 74) (u 74)).put (some 75) (u 75)).put (some 73) (u 73)).put (some 76) (u 76)).put (some 77) (u 77)).put (some 78) (u 78)) w') :
    (Code.region 15 (Pl.find 15 ((Try.f6.body).getD .skip)) true).wp Try.prog Q A w := by
  have hS0 : Frm (fun j => j = g7) w w.drew := (Frm.refl _ w).drew
  have hB0 : Below w.heap.size w w.drew := (Below.refl _ w).drew
  have hBl : Below w.heap.size w (w.drew.alloc (.cells #[.int .i64 x.u.tx, .int .i64 x.u.no, .int .i64 x.u.prev, .int .i64 x.u.kind, .int .i64 x.u.page, .int .i64 x.u.slot, .float .f64 x.u.row.key, .bool x.u.row.dead, .slice x.a x.n x.c, .int .i64 x.u.row.wr, .int .i64 x.u.row.cell, .int .i64 x.u.row.no] 30)) := hB0.alloc hB0.size _
  have hSl : Frm (fun j => j = g7) w (w.drew.alloc (.cells #[.int .i64 x.u.tx, .int .i64 x.u.no, .int .i64 x.u.prev, .int .i64 x.u.kind, .int .i64 x.u.page, .int .i64 x.u.slot, .float .f64 x.u.row.key, .bool x.u.row.dead, .slice x.a x.n x.c, .int .i64 x.u.row.wr, .int .i64 x.u.row.cell, .int .i64 x.u.row.no] 30)) := Frm.ofBelow hBl
  have hE0 : BxU w.drew g7 p q := h7
  have hE1 : BxU (w.drew.alloc (.cells #[.int .i64 x.u.tx, .int .i64 x.u.no, .int .i64 x.u.prev, .int .i64 x.u.kind, .int .i64 x.u.page, .int .i64 x.u.slot, .float .f64 x.u.row.key, .bool x.u.row.dead, .slice x.a x.n x.c, .int .i64 x.u.row.wr, .int .i64 x.u.row.cell, .int .i64 x.u.row.no] 30)) g7 p q := h7.keep hBl
  obtain ⟨s', W, hrun, hud, hbW⟩ := Ud.consd (w := w.drew) (hq.keep hB0) x (hx.keep hB0) hf hl
  have hBw : Below w.heap.size w W := rBelow hB0 hbW
  have hSw : Frm (fun j => j = g7) w W := Frm.ofBelow hBw
  have h7W := h7.keep hBw
  have hSz : Frm (fun j => j = g7) w (W.setCell ⟨g7, 1, none⟩ (Sl.val s')) := hSw.trans (setC_frm W g7 1 (Sl.val s')) (fun _ _ h => h)
  have hud2 := hud.boxed h7W hg7 ⟨by decide, by decide⟩ (setC_frm W g7 1 (Sl.val s'))
  have hA := Pl.At.same (v := .int .i64 ((1 : Nat) : Int)) (d := 10) (Pl.At.same (v := .pointer (some ⟨g9, 0, none⟩)) (d := 9) (Pl.At.same (v := .pointer (some ⟨g7, 0, none⟩)) (d := 7) (Pl.At.here hsz hdf) s7) s9) s10
  refine Pl.H.start (S := fun w' => Frm (fun j => j = g7) w w') (by kernel_rfl) hA hS0 ?_
  rw [show (Pl.find 15 ((Try.f6.body).getD .skip)).size = 9 by kernel_rfl]
  refine Pl.H.take 0 71 (.int .i64 ((1 : Nat) : Int)) (by kernel_rfl) (by kernel_rfl) (by kernel_rfl) (Pl.free 0 (by kernel_rfl)) (Pl.move 0 (.tmp 10) (by kernel_rfl) (by decide)) hS0 ?_
  refine Pl.H.take 1 72 (x.val) (by kernel_rfl) (by kernel_rfl) (by kernel_rfl) (Pl.free 1 (by kernel_rfl)) (Pl.load 1 30 (.tmp 9) _ (by kernel_rfl) (by decide) (fun w' hS => load_un g9 x.u _ ⟨_, _, _, rfl⟩ w' (h9.frm hS hne))) hS0 ?_
  refine Pl.H.take 3 74 (.int .i64 ((1 : Nat) : Int)) (by kernel_rfl) (by kernel_rfl) (by kernel_rfl) (Pl.free 3 (by kernel_rfl)) (Pl.move 3 (.tmp 10) (by kernel_rfl) (by decide)) hS0 ?_
  refine Pl.H.take 4 75 (.pointer (some ⟨g7, 1, none⟩)) (by kernel_rfl) (by kernel_rfl) (by kernel_rfl) (Pl.free 4 (by kernel_rfl)) (Pl.index 4 52 (.tmp 7) (.tmp 74) _ (by kernel_rfl) (by decide) (by decide) (ixU1 g7)) hS0 ?_
  refine Pl.H.two 2 5 (by kernel_rfl) ?_ ?_
  · refine Pl.HOp.value 2 73 (.slice (some ⟨w.drew.heap.size, 0, none⟩) 1 1) (w.drew.alloc (.cells #[.int .i64 x.u.tx, .int .i64 x.u.no, .int .i64 x.u.prev, .int .i64 x.u.kind, .int .i64 x.u.page, .int .i64 x.u.slot, .float .f64 x.u.row.key, .bool x.u.row.dead, .slice x.a x.n x.c, .int .i64 x.u.row.wr, .int .i64 x.u.row.cell, .int .i64 x.u.row.no] 30)) (by kernel_rfl) (by kernel_rfl) (by kernel_rfl) (Pl.one 2 22 (.tmp 72) _ _ (by kernel_rfl) (by decide) (lit_un w.drew x)) hSl ?_
    refine Pl.H.solo 5 76 (q.val) (by kernel_rfl) (by kernel_rfl) (by kernel_rfl) (Pl.free 5 (by kernel_rfl)) (Pl.load1 5 22 (.tmp 75) _ (by kernel_rfl) (by decide) (ld_sl hE1.c1)) hSl ?_
    refine Pl.H.make 6 77 (Sl.val s') W (by kernel_rfl) (by kernel_rfl) (by kernel_rfl) (Pl.free 6 (by kernel_rfl)) (Pl.appV 6 22 22 (.tmp 73) (.tmp 76) _ _ (by kernel_rfl) (by decide) (by decide) (fun ty => hrun ty)) hSw ?_
    refine Pl.H.take 7 78 (.pointer (some ⟨g7, 1, none⟩)) (by kernel_rfl) (by kernel_rfl) (by kernel_rfl) (Pl.free 7 (by kernel_rfl)) (Pl.index 7 52 (.tmp 7) (.tmp 71) _ (by kernel_rfl) (by decide) (by decide) (ixU1 g7)) hSw ?_
    refine Pl.H.store 8 (W.setCell ⟨g7, 1, none⟩ (Sl.val s')) (by kernel_rfl) (by kernel_rfl) (by kernel_rfl) (Pl.free 8 (by kernel_rfl)) (Pl.storeV 8 22 (.tmp 78) (.tmp 77) _ (by kernel_rfl) (by decide) (by decide) (st_sl s' h7W.c1 (h7W.fz 1))) hSz ?_
    refine Pl.H.done (by kernel_rfl) (fun A' hA' => ?_)
    rw [Pl.At.ext hA' ((((((((hA.put 71 _).put 72 _).put 74 _).put 75 _).put 73 _).put 76 _).put 77 _).put 78 _)]
    exact hend (fun d => if d = 71 then .int .i64 ((1 : Nat) : Int) else if d = 72 then x.val else if d = 74 then .int .i64 ((1 : Nat) : Int) else if d = 75 then .pointer (some ⟨g7, 1, none⟩) else if d = 73 then .slice (some ⟨w.drew.heap.size, 0, none⟩) 1 1 else if d = 76 then q.val else if d = 77 then Sl.val s' else if d = 78 then .pointer (some ⟨g7, 1, none⟩) else undef) _ s' hud2 (h7W.set1 s') hSz
  · refine Pl.HOp.value 5 76 (q.val) w.drew (by kernel_rfl) (by kernel_rfl) (by kernel_rfl) (Pl.load1 5 22 (.tmp 75) _ (by kernel_rfl) (by decide) (ld_sl hE0.c1)) hS0 ?_
    refine Pl.H.make 2 73 (.slice (some ⟨w.drew.heap.size, 0, none⟩) 1 1) (w.drew.alloc (.cells #[.int .i64 x.u.tx, .int .i64 x.u.no, .int .i64 x.u.prev, .int .i64 x.u.kind, .int .i64 x.u.page, .int .i64 x.u.slot, .float .f64 x.u.row.key, .bool x.u.row.dead, .slice x.a x.n x.c, .int .i64 x.u.row.wr, .int .i64 x.u.row.cell, .int .i64 x.u.row.no] 30)) (by kernel_rfl) (by kernel_rfl) (by kernel_rfl) (Pl.free 2 (by kernel_rfl)) (Pl.one 2 22 (.tmp 72) _ _ (by kernel_rfl) (by decide) (lit_un w.drew x)) hSl ?_
    rw [Pl.upd_comm _ 76 73 _ _ (by decide)]
    refine Pl.H.make 6 77 (Sl.val s') W (by kernel_rfl) (by kernel_rfl) (by kernel_rfl) (Pl.free 6 (by kernel_rfl)) (Pl.appV 6 22 22 (.tmp 73) (.tmp 76) _ _ (by kernel_rfl) (by decide) (by decide) (fun ty => hrun ty)) hSw ?_
    refine Pl.H.take 7 78 (.pointer (some ⟨g7, 1, none⟩)) (by kernel_rfl) (by kernel_rfl) (by kernel_rfl) (Pl.free 7 (by kernel_rfl)) (Pl.index 7 52 (.tmp 7) (.tmp 71) _ (by kernel_rfl) (by decide) (by decide) (ixU1 g7)) hSw ?_
    refine Pl.H.store 8 (W.setCell ⟨g7, 1, none⟩ (Sl.val s')) (by kernel_rfl) (by kernel_rfl) (by kernel_rfl) (Pl.free 8 (by kernel_rfl)) (Pl.storeV 8 22 (.tmp 78) (.tmp 77) _ (by kernel_rfl) (by decide) (by decide) (st_sl s' h7W.c1 (h7W.fz 1))) hSz ?_
    refine Pl.H.done (by kernel_rfl) (fun A' hA' => ?_)
    rw [Pl.At.ext hA' ((((((((hA.put 71 _).put 72 _).put 74 _).put 75 _).put 73 _).put 76 _).put 77 _).put 78 _)]
    exact hend (fun d => if d = 71 then .int .i64 ((1 : Nat) : Int) else if d = 72 then x.val else if d = 74 then .int .i64 ((1 : Nat) : Int) else if d = 75 then .pointer (some ⟨g7, 1, none⟩) else if d = 73 then .slice (some ⟨w.drew.heap.size, 0, none⟩) 1 1 else if d = 76 then q.val else if d = 77 then Sl.val s' else if d = 78 then .pointer (some ⟨g7, 1, none⟩) else undef) _ s' hud2 (h7W.set1 s') hSz

set_option maxHeartbeats 2000000 in
set_option maxRecDepth 100000 in
theorem chn16 (w0 w : World) (na : Option Addr) (n nc : Nat) (l : List Ux) (hu : Us w0 na n l) (hn : n ≤ 1000000) (hm : MayU (uns l) = true) (g6 g7 : Nat) (c0 c1 : Int) (h6 : BxI w0 g6 c0 c1) (p q : Sl) (h7 : BxU w0 g7 p q) (r0 r1 : List Un) (hz0 : ChainR (uns l) none c0 r0) (hz1 : ChainR (uns l) none c1 r1) (hr0 : RowU w0 p r0) (hr1 : RowU w0 q r1) (hl0 : r0.length ≤ 1000000) (hl1 : r1.length ≤ 1000000) (hW : Below w0.heap.size w0 w)
    {Q : Exit → Act → World → Prop} {A : Act} (hsz : A.tmps.size = 98) (hdf : A.defers = []) (s5 : A.tmps.getD 5 undef = .slice na n nc) (s6 : A.tmps.getD 6 undef = .pointer (some ⟨g6, 0, none⟩)) (s7 : A.tmps.getD 7 undef = .pointer (some ⟨g7, 0, none⟩))
    (hend : ∀ (u : Nat → Value) w', Below w0.heap.size w0 w' → Q .normal (((((((((((((((((((((A).put (some 79) (u 79)).put (some 80) (u 80)).put (some 81) (u 81)).put (some 83) (u 83)).put (some 84) (u 84)).put (some 82) (u 82)).put (some 85) (u 85)).put (some 86) (u 86)).put (some 87) (u 87)).put (some 88) (u 88)).put (some 89) (u 89)).put (some 91) (u 91)).put (some 92) (u 92)).put (some 90) (u 90)).put (some 93) (u 93)).put (some 94) (u 94)).put (some 95) (u 95)).put (some 96) (u 96)).put (some 97) (u 97)).put (some 4) (.bool true)) w') :
    (Code.region 16 (Pl.find 16 ((Try.f6.body).getD .skip)) true).wp Try.prog Q A w := by
  have hS0 : Below w0.heap.size w0 w.drew := hW.drew
  have hA := Pl.At.same (v := .pointer (some ⟨g7, 0, none⟩)) (d := 7) (Pl.At.same (v := .pointer (some ⟨g6, 0, none⟩)) (d := 6) (Pl.At.same (v := .slice na n nc) (d := 5) (Pl.At.here hsz hdf) s5) s6) s7
  refine Pl.H.start (S := fun w' => Below w0.heap.size w0 w') (by kernel_rfl) hA hS0 ?_
  rw [show (Pl.find 16 ((Try.f6.body).getD .skip)).size = 20 by kernel_rfl]
  refine Pl.H.take 0 79 (.slice na n nc) (by kernel_rfl) (by kernel_rfl) (by kernel_rfl) (Pl.free 0 (by kernel_rfl)) (Pl.move 0 (.tmp 5) (by kernel_rfl) (by decide)) hS0 ?_
  refine Pl.H.take 1 80 (.pointer (some ⟨g6, 0, none⟩)) (by kernel_rfl) (by kernel_rfl) (by kernel_rfl) (Pl.free 1 (by kernel_rfl)) (Pl.index 1 51 (.tmp 6) (.const (.int .i64 0)) _ (by kernel_rfl) (by decide) (by decide) (ixI0 g6)) hS0 ?_
  refine Pl.H.take 2 81 (.int .i64 c0) (by kernel_rfl) (by kernel_rfl) (by kernel_rfl) (Pl.free 2 (by kernel_rfl)) (Pl.load 2 3 (.tmp 80) _ (by kernel_rfl) (by decide) (fun w' hS => load_intC ((hS.cell (World.block_lt_of_cell? _ _ h6.c0)).trans h6.c0))) hS0 ?_
  refine Pl.H.take 4 83 (.pointer (some ⟨g7, 0, none⟩)) (by kernel_rfl) (by kernel_rfl) (by kernel_rfl) (Pl.free 4 (by kernel_rfl)) (Pl.index 4 52 (.tmp 7) (.const (.int .i64 0)) _ (by kernel_rfl) (by decide) (by decide) (ixU0 g7)) hS0 ?_
  refine Pl.H.take 5 84 (p.val) (by kernel_rfl) (by kernel_rfl) (by kernel_rfl) (Pl.free 5 (by kernel_rfl)) (Pl.load 5 22 (.tmp 83) _ (by kernel_rfl) (by decide) (fun w' hS => ld_sl ((hS.cell (World.block_lt_of_cell? _ _ h7.c0)).trans h7.c0))) hS0 ?_
  refine Pl.H.call 3 82 21 [(.tmp 79), (.tmp 81)] #[22, 3] (by kernel_rfl) (by kernel_rfl) (by kernel_rfl) (Pl.free 3 (by kernel_rfl)) (by kernel_rfl) (by decide) enters21 (Calls.mono (chainL_ok na n nc l w.drew (hu.keep hS0 (Nat.le_refl _)) hn c0 hm) ?_)
  rintro e w1 ⟨⟨ta0, tl0, tc0⟩, rfl, ⟨r0', hrow0, hcr0⟩, hb1⟩
  have hS1 : Below w0.heap.size w0 w1 := rBelow hS0 hb1
  rw [hcr0.one hz0] at hrow0
  refine ⟨.slice ta0 tl0 tc0, rfl, hS1, ?_⟩
  refine Pl.H.call 6 85 16 [(.tmp 82), (.tmp 84)] #[22, 22] (by kernel_rfl) (by kernel_rfl) (by kernel_rfl) (Pl.free 6 (by kernel_rfl)) (by kernel_rfl) (by decide) enters16 (Calls.mono (rows_alike (s := ⟨ta0, tl0, tc0⟩) (t := p) hrow0 (hr0.keep hS1) hl0) ?_)
  rintro e w2 ⟨rfl, hb2⟩
  have hS2 : Below w0.heap.size w0 w2 := rBelow hS1 hb2
  refine ⟨.bool true, rfl, hS2, ?_⟩
  refine Pl.H.take 7 86 (.bool true) (by kernel_rfl) (by kernel_rfl) (by kernel_rfl) (Pl.free 7 (by kernel_rfl)) (Pl.move 7 (.tmp 85) (by kernel_rfl) (by decide)) hS2 ?_
  refine Pl.H.take 8 87 (.slice na n nc) (by kernel_rfl) (by kernel_rfl) (by kernel_rfl) (Pl.guarded 8 7 86 true (by kernel_rfl) (by kernel_rfl) (by decide) rfl) (Pl.move 8 (.tmp 5) (by kernel_rfl) (by decide)) hS2 ?_
  refine Pl.H.take 9 88 (.pointer (some ⟨g6, 1, none⟩)) (by kernel_rfl) (by kernel_rfl) (by kernel_rfl) (Pl.guarded 9 7 86 true (by kernel_rfl) (by kernel_rfl) (by decide) rfl) (Pl.index 9 51 (.tmp 6) (.const (.int .i64 1)) _ (by kernel_rfl) (by decide) (by decide) (ixI1 g6)) hS2 ?_
  refine Pl.H.take 10 89 (.int .i64 c1) (by kernel_rfl) (by kernel_rfl) (by kernel_rfl) (Pl.guarded 10 7 86 true (by kernel_rfl) (by kernel_rfl) (by decide) rfl) (Pl.load 10 3 (.tmp 88) _ (by kernel_rfl) (by decide) (fun w' hS => load_intC ((hS.cell (World.block_lt_of_cell? _ _ h6.c1)).trans h6.c1))) hS2 ?_
  refine Pl.H.take 12 91 (.pointer (some ⟨g7, 1, none⟩)) (by kernel_rfl) (by kernel_rfl) (by kernel_rfl) (Pl.guarded 12 7 86 true (by kernel_rfl) (by kernel_rfl) (by decide) rfl) (Pl.index 12 52 (.tmp 7) (.const (.int .i64 1)) _ (by kernel_rfl) (by decide) (by decide) (ixU1 g7)) hS2 ?_
  refine Pl.H.take 13 92 (q.val) (by kernel_rfl) (by kernel_rfl) (by kernel_rfl) (Pl.guarded 13 7 86 true (by kernel_rfl) (by kernel_rfl) (by decide) rfl) (Pl.load 13 22 (.tmp 91) _ (by kernel_rfl) (by decide) (fun w' hS => ld_sl ((hS.cell (World.block_lt_of_cell? _ _ h7.c1)).trans h7.c1))) hS2 ?_
  refine Pl.H.call 11 90 21 [(.tmp 87), (.tmp 89)] #[22, 3] (by kernel_rfl) (by kernel_rfl) (by kernel_rfl) (Pl.guarded 11 7 86 true (by kernel_rfl) (by kernel_rfl) (by decide) rfl) (by kernel_rfl) (by decide) enters21 (Calls.mono (chainL_ok na n nc l w2 (hu.keep hS2 (Nat.le_refl _)) hn c1 hm) ?_)
  rintro e w3 ⟨⟨ta1, tl1, tc1⟩, rfl, ⟨r1', hrow1, hcr1⟩, hb3⟩
  have hS3 : Below w0.heap.size w0 w3 := rBelow hS2 hb3
  rw [hcr1.one hz1] at hrow1
  refine ⟨.slice ta1 tl1 tc1, rfl, hS3, ?_⟩
  refine Pl.H.call 14 93 16 [(.tmp 90), (.tmp 92)] #[22, 22] (by kernel_rfl) (by kernel_rfl) (by kernel_rfl) (Pl.guarded 14 7 86 true (by kernel_rfl) (by kernel_rfl) (by decide) rfl) (by kernel_rfl) (by decide) enters16 (Calls.mono (rows_alike (s := ⟨ta1, tl1, tc1⟩) (t := q) hrow1 (hr1.keep hS3) hl1) ?_)
  rintro e w4 ⟨rfl, hb4⟩
  have hS4 : Below w0.heap.size w0 w4 := rBelow hS3 hb4
  refine ⟨.bool true, rfl, hS4, ?_⟩
  refine Pl.H.take 15 94 (.bool true) (by kernel_rfl) (by kernel_rfl) (by kernel_rfl) (Pl.free 15 (by kernel_rfl)) (Pl.pick 15 (.tmp 86) (.tmp 93) (.const (.bool false)) (by kernel_rfl) (by decide) (by decide) rfl) hS4 ?_
  refine Pl.H.take 16 95 (.bool true) (by kernel_rfl) (by kernel_rfl) (by kernel_rfl) (Pl.free 16 (by kernel_rfl)) (Pl.move 16 (.tmp 94) (by kernel_rfl) (by decide)) hS4 ?_
  refine Pl.H.call 17 96 8 [] #[] (by kernel_rfl) (by kernel_rfl) (by kernel_rfl) (Pl.guarded 17 16 95 true (by kernel_rfl) (by kernel_rfl) (by decide) rfl) (by kernel_rfl) (by decide) enters8 (Calls.mono (awake_any w4) ?_)
  rintro e w5 ⟨rfl, hb5⟩
  have hS5 : Below w0.heap.size w0 w5 := rBelow hS4 hb5
  refine ⟨.bool true, rfl, hS5, ?_⟩
  refine Pl.H.take 18 97 (.bool true) (by kernel_rfl) (by kernel_rfl) (by kernel_rfl) (Pl.free 18 (by kernel_rfl)) (Pl.pick 18 (.tmp 95) (.tmp 96) (.const (.bool false)) (by kernel_rfl) (by decide) (by decide) rfl) hS5 ?_
  refine Pl.H.take 19 4 (.bool true) (by kernel_rfl) (by kernel_rfl) (by kernel_rfl) (Pl.free 19 (by kernel_rfl)) (Pl.assign 19 (.tmp 97) (by kernel_rfl) (by decide)) hS5 ?_
  refine Pl.H.done (by kernel_rfl) (fun A' hA' => ?_)
  rw [Pl.At.ext hA' ((((((((((((((((((((hA.put 79 _).put 80 _).put 81 _).put 83 _).put 84 _).put 82 _).put 85 _).put 86 _).put 87 _).put 88 _).put 89 _).put 91 _).put 92 _).put 90 _).put 93 _).put 94 _).put 95 _).put 96 _).put 97 _).put 4 _)]
  exact hend (fun d => if d = 79 then .slice na n nc else if d = 80 then .pointer (some ⟨g6, 0, none⟩) else if d = 81 then .int .i64 c0 else if d = 83 then .pointer (some ⟨g7, 0, none⟩) else if d = 84 then p.val else if d = 82 then .slice ta0 tl0 tc0 else if d = 85 then .bool true else if d = 86 then .bool true else if d = 87 then .slice na n nc else if d = 88 then .pointer (some ⟨g6, 1, none⟩) else if d = 89 then .int .i64 c1 else if d = 91 then .pointer (some ⟨g7, 1, none⟩) else if d = 92 then q.val else if d = 90 then .slice ta1 tl1 tc1 else if d = 93 then .bool true else if d = 94 then .bool true else if d = 95 then .bool true else if d = 96 then .bool true else if d = 97 then .bool true else undef) _ hS5

end Go.Proofs.Ytpdkeghmpnanpaa
