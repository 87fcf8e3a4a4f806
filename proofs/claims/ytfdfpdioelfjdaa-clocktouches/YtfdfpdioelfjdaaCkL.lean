/-
  Layer 7: slices.Repeat of one empty frame; New.
-/
import Derived.Test.YtfdfpdioelfjdaaCkE
import Derived.Laws.MakeOwn
import Derived.Laws.CopyOwn
namespace Go.Proofs.Ytfdfpdioelfjdaa
open Go.RowKit

theorem Pl.copyV {P : Program} {ops : Array Oper} {n : Nat} {f : Nat → Value} {w : World} (i : Nat) (t : TypeId) (x y : Operand) (v : Value) (w' : World) (h : (Pl.op ops i).op = .call { callee := .builtin .copy, args := #[x, y], argTypes := #[t, t] }) (hx : Pl.inB n x = true) (hy : Pl.inB n y = true)
    (hv : ∀ ty, (Builtin.copy_ #[t, t] ty #[Pl.ev f x, Pl.ev f y]).run P w = .ok v w') :
    ∀ A, Pl.At n A f → (execOp A.eval (Pl.op ops i)).run P w = .ok (.value v) w' := by
  intro A hA
  unfold execOp
  rw [h]
  simp [resolve, invoke, builtin, hA.ev x hx, hA.ev y hy, hv]

theorem and_low : ∀ n : Fin 256, bits .and .u64 ((n.val : Nat) : Int) 4294967295 = ((n.val : Nat) : Int) := by decide +kernel

set_option maxHeartbeats 1000000 in
theorem mul64_one (n : Nat) (hn : n ≤ 255) (w : World) : Calls Try.prog 34 #[.int .u64 1, .int .u64 (n : Nat)] w fun e w' => e = .returned (.tuple #[.int .u64 0, .int .u64 (n : Nat)]) ∧ w' = w := by
  have hb1 : bits .and .u64 1 4294967295 = 1 := by decide +kernel
  have hb0 : bits .and .u64 0 4294967295 = 0 := by decide +kernel
  have hbn : bits .and .u64 ((n : Nat) : Int) 4294967295 = ((n : Nat) : Int) := and_low ⟨n, by omega⟩
  have hd : ((n : Nat) : Int) / 4294967296 = 0 := by omega
  have hw : IntKind.u64.wrap ((n : Nat) : Int) = ((n : Nat) : Int) := by rw [IntKind.wrap_u64]; omega
  have h0 : IntKind.u64.wrap 0 = 0 := by decide
  clear hn
  go_enter Try.func34, Try.ntmps34
  go_wp2_with fail
  go_ret2
  exact ⟨by simp, rfl⟩

set_option maxHeartbeats 1000000 in
theorem mul_one (n : Nat) (hn : n ≤ 255) (w : World) : Calls Try.prog 32 #[.int .u64 1, .int .u64 (n : Nat)] w fun e w' => e = .returned (.tuple #[.int .u64 0, .int .u64 (n : Nat)]) ∧ w' = w := by
  have H := hide (mul64_one n hn)
  go_enter Try.func32, Try.ntmps32
  go_wp2_with fail
  refine (H.out _).mono ?_
  rintro e w' ⟨rfl, hw⟩
  obtain rfl := hw.symm
  go_wp2_with fail
  go_ret2
  exact ⟨rfl, rfl⟩

theorem wpList_make {ops : Array Oper} {rest : List Oper} {o : Oper} {a : Act} {Q : Exit → Act → World → Prop} (w : World) (hgd : o.guard = none) (t : TypeId) (x y : Operand) (ho : o.op = .makeSlice t x y) (u u' v : Value) (hu : a.eval x = u) (hu' : a.eval y = u') (w' : World) (hrun : (Instr.makeSlice t u u').run Try.prog w = .ok v w') (hK : wpList Try.prog ops Q rest (a.put o.dst v) w') : wpList Try.prog ops Q (o :: rest) a w := by
  refine wpList_val w hgd v w' ?_ hK
  have e : execOp a.eval o = (do pure (.value (← Instr.makeSlice t (a.eval x) (a.eval y)))) := by
    unfold execOp
    rw [ho]
  rw [e, hu, hu']
  simp [hrun]

/-- The row of which the first m frames are empty ones. -/
def rp (n m : Nat) : List Sp := List.replicate m Sp.none ++ List.replicate (n - m) Sp.zero
theorem rp_length {n m : Nat} (h : m ≤ n) : (rp n m).length = n := by
  simp [rp]
  omega
theorem rp_all (n : Nat) : rp n n = List.replicate n Sp.none := by simp [rp]
theorem rp_get {n m j : Nat} (h : j < m) (hm : m ≤ n) : fr (rp n m) j = Sp.none := by
  rw [fr_get (by rw [rp_length hm]; omega)]
  unfold rp
  rw [List.getElem_append_left (by simpa using h)]
  simp
theorem rp_more {n m c : Nat} (h : m + c ≤ n) : cellsS (rp n (m + c)) = (cellsS (rp n m)).take (m * 3) ++ cellsS (List.replicate c Sp.none) ++ (cellsS (rp n m)).drop (m * 3 + c * 3) := by
  have e1 : (cellsS (rp n m)).take (m * 3) = cellsS (List.replicate m Sp.none) := by
    unfold rp
    rw [cellsS_append, List.take_append_of_le_length (by rw [cellsS_length]; simp), List.take_of_length_le (by rw [cellsS_length]; simp)]
  have e2 : (cellsS (rp n m)).drop (m * 3 + c * 3) = cellsS (List.replicate (n - (m + c)) Sp.zero) := by
    unfold rp
    rw [cellsS_append, List.drop_append, cellsS_length, List.length_replicate, List.drop_eq_nil_of_le (by rw [cellsS_length, List.length_replicate]; omega), List.nil_append, show m * 3 + c * 3 - m * 3 = c * 3 by omega]
    rw [show n - m = c + (n - (m + c)) by omega, ← List.replicate_append_replicate, cellsS_append, List.drop_append, List.drop_eq_nil_of_le (by rw [cellsS_length]; simp), cellsS_length, List.length_replicate, Nat.sub_self]
    rfl
  rw [e1, e2, ← cellsS_append, ← cellsS_append]
  unfold rp
  rw [List.replicate_append_replicate]
def Rp (w : World) (g n m : Nat) : Prop := w.heap[g]? = some (Obj.cells (cellsS (rp n m)).toArray 38 (0, 0))
theorem made_zero (n : Nat) : madeCells (Value.agg #[.int .i64 0, .bool false, .bool false]).cells (n * 3) = (cellsS (rp n 0)).toArray := by
  have e : rp n 0 = List.replicate n Sp.zero := by simp [rp]
  rw [e]
  apply Array.ext
  · simp [size_madeCells, cellsS_length]
  · intro i h1 h2
    have hi : i < n * 3 := by simpa [size_madeCells] using h1
    have hg := cellsS_get (List.replicate n Sp.zero) (i / 3) (i % 3) (by simp; omega) (by omega)
    rw [show i / 3 * 3 + i % 3 = i by omega] at hg
    have hz : fr (List.replicate n Sp.zero) (i / 3) = Sp.zero := by
      rw [fr_get (by simp; omega)]
      simp
    rw [hz] at hg
    have hl : i < (cellsS (List.replicate n Sp.zero)).length := by rw [cellsS_length]; simpa using hi
    rw [List.getElem?_eq_getElem hl] at hg
    have hm : i % 3 = 0 ∨ i % 3 = 1 ∨ i % 3 = 2 := by omega
    simp only [List.getElem_toArray]
    rcases hm with e | e | e <;> rw [e] at hg
    · have hg' : some ((cellsS (List.replicate n Sp.zero))[i]) = some (Value.int .i64 0) := hg
      rw [Option.some.inj hg']
      simp [madeCells, Value.cells, e]
    · have hg' : some ((cellsS (List.replicate n Sp.zero))[i]) = some (Value.bool false) := hg
      rw [Option.some.inj hg']
      simp [madeCells, Value.cells, e]
    · have hg' : some ((cellsS (List.replicate n Sp.zero))[i]) = some (Value.bool false) := hg
      rw [Option.some.inj hg']
      simp [madeCells, Value.cells, e]
theorem make_spots (n : Nat) (hn : n ≤ 64) (w : World) : (Instr.makeSlice 22 (.int .i64 (n : Nat)) (.int .i64 (n : Nat))).run Try.prog w = .ok (.slice (some ⟨w.heap.size, 0, none⟩) n n) (w.alloc (.cells (cellsS (rp n 0)).toArray 38)) := by
  obtain ⟨i0, hi, hz0, hz1, hz2⟩ := info_parts infoSp
  have h := run_makeSlice (P := Try.prog) w 22 38 i0 _ Try.underlying22 hi hz0 .i64 .i64 (n : Nat) (n : Nat) (by omega) (by omega) (by rw [hz1]; simp; omega) (by rw [hz2]; simp; omega) (by omega)
  rw [hz1, show ((n : Nat) : Int).toNat = n by omega, made_zero] at h
  exact h
theorem run_copy3 (w : World) (ty : TypeId) (g o dLen dCap : Nat) (a : Addr) (sLen sCap : Nat) (cur : Array Value) (cs : List Value) (c : Nat) (hc : c = Nat.min sLen dLen)
    (hg : w.heap[g]? = some (.cells cur 38 (0, 0))) (hn : cs.length = c * 3)
    (hsrc : ∀ j v, cs[j]? = some v → w.cell? (a.add j) = some v) (hfit : o + cs.length ≤ cur.size) (h1 : ∀ v ∈ cs, v.oneCell' = true) :
    (Builtin.copy_ #[22, 22] ty #[.slice (some ⟨g, o, none⟩) dLen dCap, .slice (some a) sLen sCap]).run Try.prog w =
      .ok (.int .i64 ((c : Nat) : Int)) (w.setRow g (cur.toList.take o ++ cs ++ cur.toList.drop (o + cs.length)).toArray) := by
  obtain ⟨i0, hi, hz0, hz1, hz2⟩ := info_parts infoSp
  have hl := run_loadCells_list (P := Try.prog) w a cs hsrc
  have hst := run_storeCells_at Try.prog g o 38 cs 0 cur w hg (by simpa using hfit) h1
  rw [hn] at hl
  simp [Builtin.copy_, run_underlying Try.underlying22, Builtin.lenOf, Builtin.firstCells, sizeOf, typeInfo, hi, hz1, ← hc, hl, hst, goInt]
theorem szSp (w : World) : (sizeOf 38).run Try.prog w = .ok 3 w := by
  obtain ⟨i0, hi, hz0, hz1, hz2⟩ := info_parts infoSp
  simp [sizeOf, typeInfo, hi, hz1]
theorem elemSp : Try.prog.elem 22 = 38 := by kernel_rfl
theorem slice_fromS (g n m : Nat) (h : m < n) (w : World) : (Instr.sliceAt 22 (.slice (some ⟨g, 0, none⟩) n n) (some (.int .i64 ((m : Nat) : Int))) none none).run Try.prog w = .ok (.slice (some ⟨g, m * 3, none⟩) (n - m) (n - m)) w := by
  have h22 : Try.prog.underlying 22 = some (.slice (Try.prog.elem 22)) := by kernel_rfl
  rw [run_sliceAt_slice w 22 _ _ _ _ h22, run_slice_l w 22 (some ⟨g, 0, none⟩) n n h22 .i64 (m : Nat) (by omega) (by omega), elemSp, szSp]
  have : ¬ n = m := by omega
  simp [Result.andThen, sliced, this, Addr.add_lit]
theorem slice_uptoS (g n m : Nat) (h : m < n) (h0 : 0 < m) (w : World) : (Instr.sliceAt 22 (.slice (some ⟨g, 0, none⟩) n n) none (some (.int .i64 ((m : Nat) : Int))) none).run Try.prog w = .ok (.slice (some ⟨g, 0, none⟩) m n) w := by
  have h22 : Try.prog.underlying 22 = some (.slice (Try.prog.elem 22)) := by kernel_rfl
  rw [run_sliceAt_slice w 22 _ _ _ _ h22, run_slice_h w 22 (some ⟨g, 0, none⟩) n n h22 .i64 (m : Nat) (by omega) (by omega), elemSp, szSp]
  have : ¬ n = 0 := by omega
  simp [Result.andThen, sliced, this, Addr.add_lit]
theorem nones_get {c j : Nat} {v : Value} (h : (cellsS (List.replicate c Sp.none))[j]? = some v) : j / 3 < c ∧ Sp.none.cells[j % 3]? = some v := by
  have hl := (List.getElem?_eq_some_iff.1 h).1
  rw [cellsS_length, List.length_replicate] at hl
  have hg := cellsS_get (List.replicate c Sp.none) (j / 3) (j % 3) (by simp; omega) (by omega)
  rw [show j / 3 * 3 + j % 3 = j by omega, h] at hg
  have hz : fr (List.replicate c Sp.none) (j / 3) = Sp.none := by
    rw [fr_get (by simp; omega)]
    simp
  rw [hz] at hg
  exact ⟨by omega, hg.symm⟩
theorem Rp.cell {w : World} {g n m j : Nat} (h : Rp w g n m) (hm : m ≤ n) {v : Value} (hj : j / 3 < m) (hv : Sp.none.cells[j % 3]? = some v) : w.cell? ⟨g, j, none⟩ = some v := by
  rw [cell_of_row _ _ _ _ _ _ h]
  have hg := cellsS_get (rp n m) (j / 3) (j % 3) (by rw [rp_length hm]; omega) (by omega)
  rw [show j / 3 * 3 + j % 3 = j by omega, rp_get hj hm, hv] at hg
  simpa using hg
theorem copy_more (g n m : Nat) (hm : m < n) (_h0 : 0 < m) (w : World) (hg : Rp w g n m) (ty : TypeId) :
    ∃ w', (Builtin.copy_ #[22, 22] ty #[.slice (some ⟨g, m * 3, none⟩) (n - m) (n - m), .slice (some ⟨g, 0, none⟩) m n]).run Try.prog w = .ok (.int .i64 ((Nat.min m (n - m) : Nat) : Int)) w' ∧ Rp w' g n (m + Nat.min m (n - m)) ∧ w' = w.setRow g (cellsS (rp n (m + Nat.min m (n - m)))).toArray := by
  have hc : Nat.min m (n - m) ≤ m ∧ Nat.min m (n - m) ≤ n - m := ⟨Nat.min_le_left _ _, Nat.min_le_right _ _⟩
  have h := run_copy3 w ty g (m * 3) (n - m) (n - m) ⟨g, 0, none⟩ m n _ (cellsS (List.replicate (Nat.min m (n - m)) Sp.none)) (Nat.min m (n - m)) rfl hg (by rw [cellsS_length, List.length_replicate])
    (fun j v hj => by
      obtain ⟨h1, h2⟩ := nones_get hj
      rw [Addr.add_lit, Nat.zero_add]
      exact hg.cell (Nat.le_of_lt hm) (by omega) h2) (by simp only [List.size_toArray, cellsS_length, List.length_replicate, rp_length (Nat.le_of_lt hm)]; omega) (cellsS_one _)
  have e := rp_more (n := n) (m := m) (c := Nat.min m (n - m)) (by omega)
  simp only [cellsS_length, List.length_replicate] at h
  rw [← e] at h
  refine ⟨_, h, ?_, rfl⟩
  exact setRow_heap w g _ _ _ _ hg
theorem copy_first (g b n : Nat) (h0 : 0 < n) (w : World) (hg : Rp w g n 0) (hb : Cell3 w b 0 Sp.none) (ty : TypeId) :
    ∃ w', (Builtin.copy_ #[22, 22] ty #[.slice (some ⟨g, 0, none⟩) n n, .slice (some ⟨b, 0, none⟩) 1 1]).run Try.prog w = .ok (.int .i64 1) w' ∧ Rp w' g n 1 ∧ w' = w.setRow g (cellsS (rp n 1)).toArray := by
  have h := run_copy3 w ty g 0 n n ⟨b, 0, none⟩ 1 1 _ (cellsS (List.replicate 1 Sp.none)) 1 (by symm; exact Nat.min_eq_left h0) hg rfl
    (fun j v hj => by
      obtain ⟨h1, h2⟩ := nones_get hj
      rw [Addr.add_lit, Nat.zero_add]
      obtain ⟨c0, c1, c2⟩ := hb
      have hm : j = 0 ∨ j = 1 ∨ j = 2 := by omega
      rcases hm with rfl | rfl | rfl
      · simp [Sp.none, Sp.cells] at h2; rw [← h2]; exact c0
      · simp [Sp.none, Sp.cells] at h2; rw [← h2]; exact c1
      · simp [Sp.none, Sp.cells] at h2; rw [← h2]; exact c2) (by simp only [List.size_toArray, cellsS_length, List.length_replicate, rp_length (Nat.zero_le n)]; omega) (cellsS_one _)
  have e := rp_more (n := n) (m := 0) (c := 1) (by omega)
  simp only [cellsS_length, List.length_replicate] at h
  simp only [Nat.zero_mul] at e
  rw [← e] at h
  exact ⟨_, h, setRow_heap w g _ _ _ _ hg, rfl⟩
theorem addN (a b : Nat) (x y : Operand) (h2 : a + b ≤ 9223372036854775807) (w : World) : (do eqGuard .add 3 x y (.int .i64 ((a : Nat) : Int)) (.int .i64 ((b : Nat) : Int)); binOp .add 3 (.int .i64 ((a : Nat) : Int)) (.int .i64 ((b : Nat) : Int)) : Sem Value).run Try.prog w = .ok (.int .i64 ((a + b : Nat) : Int)) w := by
  have : IntKind.i64.wrap (((a : Nat) : Int) + ((b : Nat) : Int)) = ((a + b : Nat) : Int) := by rw [IntKind.wrap_i64]; omega
  simp [go_sem, eqGuard, this]

set_option maxHeartbeats 2000000 in
set_option maxRecDepth 100000 in
theorem rep9 (w0 w : World) (g n m : Nat) (hm : m < n) (h0 : 0 < m) (hn : n ≤ 64) (hB : w0.heap.size ≤ g) (hg : Rp w g n m) (hW : Below w0.heap.size w0 w)
    {Q : Exit → Act → World → Prop} {A : Act} (hsz : A.tmps.size = 48) (hdf : A.defers = []) (s7 : A.tmps.getD 7 undef = .slice (some ⟨g, 0, none⟩) n n) (s8 : A.tmps.getD 8 undef = .int .i64 ((m : Nat) : Int))
    (hend : ∀ (u : Nat → Value) w', (Below w0.heap.size w0 w' ∧ Rp w' g n (m + Nat.min m (n - m))) → Q .normal (((((((((((A).put (some 38) (u 38)).put (some 39) (u 39)).put (some 40) (u 40)).put (some 41) (u 41)).put (some 42) (u 42)).put (some 43) (u 43)).put (some 44) (u 44)).put (some 45) (u 45)).put (some 46) (u 46)).put (some 8) (.int .i64 ((m + Nat.min m (n - m) : Nat) : Int))) w') :
    (Code.region 9 (Pl.find 9 ((Try.f27.body).getD .skip)) true).wp Try.prog Q A w := by
  have hA := Pl.At.same (v := .int .i64 ((m : Nat) : Int)) (d := 8) (Pl.At.same (v := .slice (some ⟨g, 0, none⟩) n n) (d := 7) (Pl.At.here hsz hdf) s7) s8
  refine Pl.H.start (S := (fun w' => Below w0.heap.size w0 w')) (by kernel_rfl) hA hW.drew ?_
  rw [show (Pl.find 9 ((Try.f27.body).getD .skip)).size = 10 by kernel_rfl]
  refine Pl.H.take 0 38 (.int .i64 ((m : Nat) : Int)) (by kernel_rfl) (by kernel_rfl) (by kernel_rfl) (Pl.free 0 (by kernel_rfl)) (Pl.move 0 (.tmp 8) (by kernel_rfl) (by decide)) hW.drew ?_
  refine Pl.H.take 1 39 (.slice (some ⟨g, 0, none⟩) n n) (by kernel_rfl) (by kernel_rfl) (by kernel_rfl) (Pl.free 1 (by kernel_rfl)) (Pl.move 1 (.tmp 7) (by kernel_rfl) (by decide)) hW.drew ?_
  refine Pl.H.take 2 40 (.int .i64 ((m : Nat) : Int)) (by kernel_rfl) (by kernel_rfl) (by kernel_rfl) (Pl.free 2 (by kernel_rfl)) (Pl.move 2 (.tmp 8) (by kernel_rfl) (by decide)) hW.drew ?_
  refine Pl.H.take 3 41 (.slice (some ⟨g, m * 3, none⟩) (n - m) (n - m)) (by kernel_rfl) (by kernel_rfl) (by kernel_rfl) (Pl.free 3 (by kernel_rfl)) (Pl.slice 3 22 (.tmp 39) (some (.tmp 40)) none _ (by kernel_rfl) (by decide) (by decide) (by decide) (slice_fromS g n m hm)) hW.drew ?_
  refine Pl.H.take 4 42 (.slice (some ⟨g, 0, none⟩) n n) (by kernel_rfl) (by kernel_rfl) (by kernel_rfl) (Pl.free 4 (by kernel_rfl)) (Pl.move 4 (.tmp 7) (by kernel_rfl) (by decide)) hW.drew ?_
  refine Pl.H.take 5 43 (.int .i64 ((m : Nat) : Int)) (by kernel_rfl) (by kernel_rfl) (by kernel_rfl) (Pl.free 5 (by kernel_rfl)) (Pl.move 5 (.tmp 8) (by kernel_rfl) (by decide)) hW.drew ?_
  refine Pl.H.take 6 44 (.slice (some ⟨g, 0, none⟩) m n) (by kernel_rfl) (by kernel_rfl) (by kernel_rfl) (Pl.free 6 (by kernel_rfl)) (Pl.slice 6 22 (.tmp 42) none (some (.tmp 43)) _ (by kernel_rfl) (by decide) (by decide) (by decide) (slice_uptoS g n m hm h0)) hW.drew ?_
  obtain ⟨w1, hrun, hg1, hw1⟩ := copy_more g n m hm h0 w.drew hg 3
  have hS1 : Below w0.heap.size w0 w1 := by rw [hw1]; exact below_setRow hW.drew hB _
  refine Pl.H.make 7 45 (.int .i64 ((Nat.min m (n - m) : Nat) : Int)) w1 (by kernel_rfl) (by kernel_rfl) (by kernel_rfl) (Pl.free 7 (by kernel_rfl)) (Pl.copyV 7 22 (.tmp 41) (.tmp 44) _ _ (by kernel_rfl) (by decide) (by decide) (fun ty => hrun)) hS1 ?_
  refine Pl.H.take 8 46 (.int .i64 ((m + Nat.min m (n - m) : Nat) : Int)) (by kernel_rfl) (by kernel_rfl) (by kernel_rfl) (Pl.free 8 (by kernel_rfl)) (Pl.binV 8 .add 3 3 (.tmp 38) (.tmp 45) (.int .i64 ((m : Nat) : Int)) (.int .i64 ((Nat.min m (n - m) : Nat) : Int)) _ (by kernel_rfl) (by decide) (by decide) rfl rfl (addN m (Nat.min m (n - m)) _ _ (by have h1 : Nat.min m (n - m) ≤ m := Nat.min_le_left _ _; omega))) hS1 ?_
  refine Pl.H.take 9 8 (.int .i64 ((m + Nat.min m (n - m) : Nat) : Int)) (by kernel_rfl) (by kernel_rfl) (by kernel_rfl) (Pl.free 9 (by kernel_rfl)) (Pl.assign 9 (.tmp 46) (by kernel_rfl) (by decide)) hS1 ?_
  refine Pl.H.done (by kernel_rfl) (fun A' hA' => ?_)
  rw [Pl.At.ext hA' ((((((((((hA.put 38 _).put 39 _).put 40 _).put 41 _).put 42 _).put 43 _).put 44 _).put 45 _).put 46 _).put 8 _)]
  exact hend (fun d => if d = 38 then .int .i64 ((m : Nat) : Int) else if d = 39 then .slice (some ⟨g, 0, none⟩) n n else if d = 40 then .int .i64 ((m : Nat) : Int) else if d = 41 then .slice (some ⟨g, m * 3, none⟩) (n - m) (n - m) else if d = 42 then .slice (some ⟨g, 0, none⟩) n n else if d = 43 then .int .i64 ((m : Nat) : Int) else if d = 44 then .slice (some ⟨g, 0, none⟩) m n else if d = 45 then .int .i64 ((Nat.min m (n - m) : Nat) : Int) else if d = 46 then .int .i64 ((m + Nat.min m (n - m) : Nat) : Int) else undef) _ ⟨hS1, hg1⟩

set_option maxHeartbeats 4000000 in
set_option maxRecDepth 100000 in
theorem repeat_any (b n : Nat) (w : World) (hx : Cell3 w b 0 Sp.none) (h1 : 1 ≤ n) (hn : n ≤ 64) :
    Calls Try.prog 27 #[.slice (some ⟨b, 0, none⟩) 1 1, .int .i64 ((n : Nat) : Int)] w fun e w' => Below w.heap.size w w' ∧ ∃ g, e = .returned (.slice (some ⟨g, 0, none⟩) n n) ∧ w.heap.size ≤ g ∧ Rp w' g n n := by
  have HM := hide (mul_one n (by omega))
  have hw1 : IntKind.u64.wrap ((n : Nat) : Int) = ((n : Nat) : Int) := by rw [IntKind.wrap_u64]; omega
  have hw2 : IntKind.i64.wrap ((n : Nat) : Int) = ((n : Nat) : Int) := by rw [IntKind.wrap_i64]; omega
  have HMK := hide (make_spots n hn w)
  have hA := below_alloc w (.cells (cellsS (rp n 0)).toArray 38)
  have hr : Rp (w.alloc (.cells (cellsS (rp n 0)).toArray 38)) w.heap.size n 0 := heap_alloc_new w _
  have hx1 := hx.below hA
  generalize w.alloc (.cells (cellsS (rp n 0)).toArray 38) = W1 at *
  obtain ⟨W2, hcp, hr2, hw2'⟩ := copy_first w.heap.size b n h1 W1 hr hx1 3
  have HB2 : Hid (Below w.heap.size w W2) := by rw [hw2']; exact below_setRow hA (Nat.le_refl _) _
  have HR2 := hide hr2
  have HCP := hide hcp
  clear hx hA hr hx1 hw2' hr2 hcp
  go_enter Try.func27, Try.ntmps27
  go_wp2_with fail
  refine (HM.out _).mono ?_
  rintro e w' ⟨rfl, hw⟩
  obtain rfl := hw.symm
  go_wp2_with (first | refine wpList_make _ rfl 22 (.tmp 29) (.tmp 29) rfl (.int .i64 ((n : Nat) : Int)) (.int .i64 ((n : Nat) : Int)) (.slice (some ⟨w.heap.size, 0, none⟩) n n) rfl rfl W1 HMK.out ?_ | refine wpList_copy W1 rfl 22 (.tmp 31) (.tmp 32) rfl (.int .i64 1) W2 (fun _ => HCP.out) ?_)
  go_loopw [8] (fun i wr' => ∃ m : Nat, m ≤ n ∧ 0 < m ∧ i = .int .i64 m ∧ Hid (Rp wr' w.heap.size n m) ∧ Hid (Below w.heap.size w wr')) (fun i _ => n - (intOf i).toNat)
  case atStart => exact ⟨1, h1, by omega, rfl, HR2, HB2⟩
  case round =>
    obtain ⟨m, hm, hpos, rfl, hg, hWr⟩ := hrel
    rcases Nat.lt_or_ge m n with hlt | hge
    · have HL := hide hlt
      go_wp2_with fail
      refine Pl.region_is (ops := Pl.find 9 ((Try.f27.body).getD .skip)) (by kernel_rfl) ?_
      refine rep9 w wr w.heap.size n m HL.out hpos hn (Nat.le_refl _) hg.out hWr.out (by rfl) (by rfl) (by rfl) (by rfl) ?_
      intro u w2 ⟨hb2, hg2⟩
      simp only [Act.put, List.setIfInBounds_toArray, List.set_cons_zero, List.set_cons_succ]
      have HB3 := hide hb2
      have HG3 := hide hg2
      have hc2 : Nat.min m (n - m) ≤ n - m ∧ 0 < Nat.min m (n - m) := ⟨Nat.min_le_right _ _, by rw [Nat.lt_min]; omega⟩
      clear hb2 hg2
      generalize Nat.min m (n - m) = c2 at *
      go_wp2_with fail
      go_roundw
      case rel => exact ⟨m + c2, by omega, by omega, by go_num, HG3, HB3⟩
      case measure => simp only [intOf]; omega
    · have hmn : m = n := by omega
      have HO : Hid (Rp wr w.heap.size n n) := by have := hg.out; rw [hmn] at this; exact this
      clear hmn
      go_wp2_with fail
      go_ret
      exact ⟨hWr.out, _, rfl, Nat.le_refl _, HO.out⟩
end Go.Proofs.Ytfdfpdioelfjdaa
