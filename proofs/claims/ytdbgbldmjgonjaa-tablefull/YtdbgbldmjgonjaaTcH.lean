/-
  Layer 11, the landed table: kindsOfPage: slices.Repeat, slices.Grow and slices.Concat of numbers.
-/
import Derived.Test.YtdbgbldmjgonjaaTbM
import Derived.Laws.CopyOwn
namespace Go.Proofs.Ytdbgbldmjgonjaa
open Go.RowKit
set_option linter.unusedVariables false

theorem Pl.copyV {P : Program} {ops : Array Oper} {n : Nat} {f : Nat → Value} {w : World} (i : Nat) (t : TypeId) (x y : Operand) (v : Value) (w' : World) (h : (Pl.op ops i).op = .call { callee := .builtin .copy, args := #[x, y], argTypes := #[t, t] }) (hx : Pl.inB n x = true) (hy : Pl.inB n y = true)
    (hv : ∀ ty, (Builtin.copy_ #[t, t] ty #[Pl.ev f x, Pl.ev f y]).run P w = .ok v w') :
    ∀ A, Pl.At n A f → (execOp A.eval (Pl.op ops i)).run P w = .ok (.value v) w' := by
  intro A hA
  unfold execOp
  rw [h]
  simp [resolve, invoke, builtin, hA.ev x hx, hA.ev y hy, hv]

theorem szIT (w : World) : (sizeOf 3).run Try.prog w = .ok 1 w := by
  obtain ⟨i0, hi, hz0, hz1, hz2⟩ := info_parts oneIntT.info
  simp [sizeOf, typeInfo, hi, hz1]
theorem elemIT : Try.prog.elem 32 = 3 := by kernel_rfl
theorem slice_fromIT (g n m : Nat) (h : m < n) (w : World) : (Instr.sliceAt 32 (.slice (some ⟨g, 0, none⟩) n n) (some (.int .i64 ((m : Nat) : Int))) none none).run Try.prog w = .ok (.slice (some ⟨g, m, none⟩) (n - m) (n - m)) w := by
  have h22 : Try.prog.underlying 32 = some (.slice (Try.prog.elem 32)) := by kernel_rfl
  rw [run_sliceAt_slice w 32 _ _ _ _ h22, run_slice_l w 32 (some ⟨g, 0, none⟩) n n h22 .i64 (m : Nat) (by omega) (by omega), elemIT, szIT]
  have : ¬ n - m = 0 := by omega
  simp [Result.andThen, sliced, Addr.add_lit]
  omega
theorem slice_uptoIT (g n m : Nat) (h : m < n) (w : World) : (Instr.sliceAt 32 (.slice (some ⟨g, 0, none⟩) n n) none (some (.int .i64 ((m : Nat) : Int))) none).run Try.prog w = .ok (.slice (some ⟨g, 0, none⟩) m n) w := by
  have h22 : Try.prog.underlying 32 = some (.slice (Try.prog.elem 32)) := by kernel_rfl
  rw [run_sliceAt_slice w 32 _ _ _ _ h22, run_slice_h w 32 (some ⟨g, 0, none⟩) n n h22 .i64 (m : Nat) (by omega) (by omega), elemIT, szIT]
  have : ¬ n = 0 := by omega
  simp [Result.andThen, sliced, this, Addr.add_lit]

set_option maxHeartbeats 1000000 in
theorem mul64_48 (w : World) : Calls Try.prog 99 #[.int .u64 4, .int .u64 12] w fun e w' => e = .returned (.tuple #[.int .u64 0, .int .u64 48]) ∧ w' = w := by
  have hb1 : bits .and .u64 4 4294967295 = 4 := by decide +kernel
  have hb2 : bits .and .u64 12 4294967295 = 12 := by decide +kernel
  have hb0 : bits .and .u64 0 4294967295 = 0 := by decide +kernel
  go_enter Try.func99, Try.ntmps99
  go_wp2_with fail
  go_ret2
  exact ⟨by simp, rfl⟩
set_option maxHeartbeats 1000000 in
theorem mul_48 (w : World) : Calls Try.prog 91 #[.int .u64 4, .int .u64 12] w fun e w' => e = .returned (.tuple #[.int .u64 0, .int .u64 48]) ∧ w' = w := by
  have H := hide mul64_48
  go_enter Try.func91, Try.ntmps91
  go_wp2_with fail
  refine (H.out _).mono ?_
  rintro e w' ⟨rfl, hw⟩
  obtain rfl := hw.symm
  go_wp2_with fail
  go_ret2
  exact ⟨rfl, rfl⟩

/-! ### Four kinds, again and again -/
def patK (j : Nat) : Int := [1, 3, 2, 3].getD (j % 4) 0
def cyc (m : Nat) : List Int := (List.range m).map patK
theorem cyc_len (m : Nat) : (kVals (cyc m)).length = m := by simp [kVals, cyc]
theorem cyc_one (m : Nat) : ∀ u ∈ kVals (cyc m), u.oneCell' = true := kVals_one _
theorem cyc_get {n j : Nat} {v : Value} (h : (kVals (cyc n))[j]? = some v) : j < n ∧ v = .int .i64 (patK j) := by
  have hl := (List.getElem?_eq_some_iff.1 h).1
  rw [cyc_len] at hl
  simp [cyc, kVals, hl] at h
  exact ⟨hl, h.symm⟩
theorem cyc_at {n j : Nat} (h : j < n) : (kVals (cyc n))[j]? = some (.int .i64 (patK j)) := by simp [cyc, kVals, h]
theorem cyc_add {m : Nat} (h : m % 4 = 0) (c : Nat) : cyc m ++ cyc c = cyc (m + c) := by
  unfold cyc
  rw [List.range_add, List.map_append, List.map_map]
  congr 1
  apply List.map_congr_left
  intro j _
  show patK j = patK (m + j)
  unfold patK
  rw [show (m + j) % 4 = j % 4 by omega]
def zeros (n : Nat) : List Value := kVals (List.replicate n 0)
theorem zeros_len (n : Nat) : (zeros n).length = n := by simp [zeros, kVals]
/-- The row of which the first m are told. -/
def partK (n m : Nat) : List Value := kVals (cyc m) ++ zeros (n - m)
theorem partK_len {n m : Nat} (h : m ≤ n) : (partK n m).length = n := by
  simp only [partK, List.length_append, cyc_len, zeros_len]
  omega
theorem partK_get {n m j : Nat} (h : j < m) : (partK n m)[j]? = some (.int .i64 (patK j)) := by
  unfold partK
  rw [List.getElem?_append_left (by rw [cyc_len]; exact h), cyc_at h]
theorem partK_more {n m : Nat} (h : m % 4 = 0) (c : Nat) : (partK n m).take m ++ kVals (cyc c) ++ (partK n m).drop (m + c) = partK n (m + c) := by
  have e1 : (partK n m).take m = kVals (cyc m) := by
    unfold partK
    rw [List.take_append_of_le_length (by rw [cyc_len]; exact Nat.le_refl _), List.take_of_length_le (by rw [cyc_len]; exact Nat.le_refl _)]
  have e2 : (partK n m).drop (m + c) = zeros (n - (m + c)) := by
    unfold partK
    rw [List.drop_append, cyc_len, List.drop_eq_nil_of_le (by rw [cyc_len]; omega)]
    have e3 : m + c - m = c := by omega
    rw [e3, List.nil_append]
    unfold zeros kVals
    rw [← List.map_drop, List.drop_replicate]
    congr 2
    omega
  rw [e1, e2]
  unfold partK kVals
  rw [← List.map_append, cyc_add h]
theorem partK_cell {w : World} {g n m j : Nat} (h : w.heap[g]? = some (Obj.cells (partK n m).toArray 3 (0, 0))) (hj : j < m) : w.cell? ⟨g, j, none⟩ = some (.int .i64 (patK j)) := by
  simp only [World.cell?, h]
  simpa using partK_get (n := n) hj

theorem copyK_more (g n m : Nat) (hm : m < n) (h4 : m % 4 = 0) (w : World) (hg : w.heap[g]? = some (Obj.cells (partK n m).toArray 3 (0, 0))) (ty : TypeId) :
    (Builtin.copy_ #[32, 32] ty #[.slice (some ⟨g, m, none⟩) (n - m) (n - m), .slice (some ⟨g, 0, none⟩) m n]).run Try.prog w = .ok (.int .i64 ((Nat.min m (n - m) : Nat) : Int)) (w.setRow g (partK n (m + Nat.min m (n - m))).toArray) := by
  have hc : Nat.min m (n - m) ≤ m ∧ Nat.min m (n - m) ≤ n - m := ⟨Nat.min_le_left _ _, Nat.min_le_right _ _⟩
  generalize hcc : Nat.min m (n - m) = c at *
  have h := run_copy_row (P := Try.prog) w 32 32 ty 3 g m (n - m) (n - m) ⟨g, 0, none⟩ m n (partK n m).toArray 3 (kVals (cyc c)) Try.underlying32 (by kernel_rfl) hg (by rw [cyc_len, hcc])
    (fun j v hj => by
      obtain ⟨h1, rfl⟩ := cyc_get hj
      rw [Addr.add_lit, Nat.zero_add]
      exact partK_cell hg (by omega)) (by rw [cyc_len]; simp [partK_len (Nat.le_of_lt hm)]; omega) (cyc_one c)
  rw [h, cyc_len]
  rw [partK_more h4 c]
  rfl
theorem row_setT {w : World} {g : Nat} {cur : Array Value} {t : TypeId} (h : w.heap[g]? = some (Obj.cells cur t (0, 0))) (new : Array Value) : (w.setRow g new).heap[g]? = some (Obj.cells new t (0, 0)) := setRow_heap w g _ _ t _ h
theorem copyK_first (g b : Nat) (w : World) (hg : w.heap[g]? = some (Obj.cells (partK 48 0).toArray 3 (0, 0))) (hb : ∀ j, j < 4 → w.cell? ⟨b, j, none⟩ = some (.int .i64 (patK j))) (ty : TypeId) :
    (Builtin.copy_ #[32, 32] ty #[.slice (some ⟨g, 0, none⟩) 48 48, .slice (some ⟨b, 0, none⟩) 4 4]).run Try.prog w = .ok (.int .i64 4) (w.setRow g (partK 48 4).toArray) := by
  have h := run_copy_row (P := Try.prog) w 32 32 ty 3 g 0 48 48 ⟨b, 0, none⟩ 4 4 (partK 48 0).toArray 3 (kVals (cyc 4)) Try.underlying32 (by kernel_rfl) hg (by rw [cyc_len]; rfl)
    (fun j v hj => by
      obtain ⟨h1, rfl⟩ := cyc_get hj
      rw [Addr.add_lit, Nat.zero_add]
      exact hb j h1) (by rw [cyc_len]; simp [partK_len (Nat.zero_le 48)]) (cyc_one 4)
  rw [h, cyc_len]
  have e := partK_more (n := 48) (m := 0) rfl 4
  rw [e]
  rfl
theorem madeK {w : World} {base g n cap : Nat} (h : w.ownsRow base 3 1 (.slice (some ⟨g, 0, none⟩) n cap) n (madeCells #[Value.int .i64 0] n).toList) (hc : cap = n) : w.heap[g]? = some (Obj.cells (partK n 0).toArray 3 (0, 0)) := by
  have e : (madeCells #[Value.int .i64 0] n).toList = partK n 0 := by
    rw [toList_madeCells_one]
    simp [partK, cyc, zeros, kVals]
  rw [e] at h
  rcases h.2 with ⟨hv, _⟩ | ⟨g', cap', cur, hv, _, hg, _, _, hsz, htk⟩
  · cases hv
  · simp only [Value.slice.injEq, Option.some.injEq, Addr.mk.injEq, and_true, true_and] at hv
    obtain ⟨rfl, rfl⟩ := hv
    have : cur.toList = partK n 0 := by
      rw [← htk, List.take_of_length_le]
      rw [Array.length_toList, hsz, hc]
      exact Nat.le_refl _
    rw [hg]
    congr 2
    apply Array.toList_inj.1
    simpa using this
theorem partK_owns {w : World} {base g : Nat} (hb : base ≤ g) (h : w.heap[g]? = some (Obj.cells (partK 48 48).toArray 3 (0, 0))) : OwnsV 3 w base (.slice (some ⟨g, 0, none⟩) 48 48) (kVals (cyc 48)) := by
  have e : partK 48 48 = kVals (cyc 48) := by simp [partK, zeros, kVals]
  rw [e] at h
  unfold OwnsV
  rw [cyc_len]
  refine ⟨by rw [cyc_len], .inr ⟨g, 48, _, rfl, hb, h, Nat.le_refl _, by unfold maxLen; decide, ?_, ?_⟩⟩
  · simp [cyc_len]
  · rw [List.take_of_length_le (by simp [cyc_len])]

set_option maxHeartbeats 2000000 in
set_option maxRecDepth 100000 in
theorem repK9 (w0 w : World) (g n m : Nat) (hm : m < n) (h4 : m % 4 = 0) (hn : n ≤ 1000000) (hB : w0.heap.size ≤ g) (hg : w.heap[g]? = some (Obj.cells (partK n m).toArray 3 (0, 0))) (hW : Below w0.heap.size w0 w)
    {Q : Exit → Act → World → Prop} {A : Act} (hsz : A.tmps.size = 48) (hdf : A.defers = []) (s7 : A.tmps.getD 7 undef = .slice (some ⟨g, 0, none⟩) n n) (s8 : A.tmps.getD 8 undef = .int .i64 ((m : Nat) : Int))
    (hend : ∀ (u : Nat → Value) w', (Below w0.heap.size w0 w' ∧ w'.heap[g]? = some (Obj.cells (partK n (m + Nat.min m (n - m))).toArray 3 (0, 0))) → Q .normal (((((((((((A).put (some 38) (u 38)).put (some 39) (u 39)).put (some 40) (u 40)).put (some 41) (u 41)).put (some 42) (u 42)).put (some 43) (u 43)).put (some 44) (u 44)).put (some 45) (u 45)).put (some 46) (u 46)).put (some 8) (.int .i64 ((m + Nat.min m (n - m) : Nat) : Int))) w') :
    (Code.region 9 (Pl.find 9 ((Try.f77.body).getD .skip)) true).wp Try.prog Q A w := by
  have hS0 : Below w0.heap.size w0 w.drew := hW.drew
  have hA := Pl.At.same (v := .int .i64 ((m : Nat) : Int)) (d := 8) (Pl.At.same (v := .slice (some ⟨g, 0, none⟩) n n) (d := 7) (Pl.At.here hsz hdf) s7) s8
  refine Pl.H.start (S := (fun w' => Below w0.heap.size w0 w')) (by kernel_rfl) hA hS0 ?_
  rw [show (Pl.find 9 ((Try.f77.body).getD .skip)).size = 10 by kernel_rfl]
  refine Pl.H.take 0 38 (.int .i64 ((m : Nat) : Int)) (by kernel_rfl) (by kernel_rfl) (by kernel_rfl) (Pl.free 0 (by kernel_rfl)) (Pl.move 0 (.tmp 8) (by kernel_rfl) (by decide)) hS0 ?_
  refine Pl.H.take 1 39 (.slice (some ⟨g, 0, none⟩) n n) (by kernel_rfl) (by kernel_rfl) (by kernel_rfl) (Pl.free 1 (by kernel_rfl)) (Pl.move 1 (.tmp 7) (by kernel_rfl) (by decide)) hS0 ?_
  refine Pl.H.take 2 40 (.int .i64 ((m : Nat) : Int)) (by kernel_rfl) (by kernel_rfl) (by kernel_rfl) (Pl.free 2 (by kernel_rfl)) (Pl.move 2 (.tmp 8) (by kernel_rfl) (by decide)) hS0 ?_
  refine Pl.H.take 3 41 (.slice (some ⟨g, m, none⟩) (n - m) (n - m)) (by kernel_rfl) (by kernel_rfl) (by kernel_rfl) (Pl.free 3 (by kernel_rfl)) (Pl.slice 3 32 (.tmp 39) (some (.tmp 40)) none _ (by kernel_rfl) (by decide) (by decide) (by decide) (fun w => slice_fromIT g n m hm w)) hS0 ?_
  refine Pl.H.take 4 42 (.slice (some ⟨g, 0, none⟩) n n) (by kernel_rfl) (by kernel_rfl) (by kernel_rfl) (Pl.free 4 (by kernel_rfl)) (Pl.move 4 (.tmp 7) (by kernel_rfl) (by decide)) hS0 ?_
  refine Pl.H.take 5 43 (.int .i64 ((m : Nat) : Int)) (by kernel_rfl) (by kernel_rfl) (by kernel_rfl) (Pl.free 5 (by kernel_rfl)) (Pl.move 5 (.tmp 8) (by kernel_rfl) (by decide)) hS0 ?_
  refine Pl.H.take 6 44 (.slice (some ⟨g, 0, none⟩) m n) (by kernel_rfl) (by kernel_rfl) (by kernel_rfl) (Pl.free 6 (by kernel_rfl)) (Pl.slice 6 32 (.tmp 42) none (some (.tmp 43)) _ (by kernel_rfl) (by decide) (by decide) (by decide) (fun w => slice_uptoIT g n m hm w)) hS0 ?_
  have hg1 := row_setT (w := w.drew) hg (partK n (m + Nat.min m (n - m))).toArray
  have hS1 : Below w0.heap.size w0 (w.drew.setRow g (partK n (m + Nat.min m (n - m))).toArray) := below_setRow hS0 hB _
  refine Pl.H.make 7 45 (.int .i64 ((Nat.min m (n - m) : Nat) : Int)) (w.drew.setRow g (partK n (m + Nat.min m (n - m))).toArray) (by kernel_rfl) (by kernel_rfl) (by kernel_rfl) (Pl.free 7 (by kernel_rfl)) (Pl.copyV 7 32 (.tmp 41) (.tmp 44) _ _ (by kernel_rfl) (by decide) (by decide) (fun ty => copyK_more g n m hm h4 w.drew hg ty)) hS1 ?_
  refine Pl.H.take 8 46 (.int .i64 ((m + Nat.min m (n - m) : Nat) : Int)) (by kernel_rfl) (by kernel_rfl) (by kernel_rfl) (Pl.free 8 (by kernel_rfl)) (Pl.binV 8 .add 3 3 (.tmp 38) (.tmp 45) (.int .i64 ((m : Nat) : Int)) (.int .i64 ((Nat.min m (n - m) : Nat) : Int)) _ (by kernel_rfl) (by decide) (by decide) rfl rfl (fun w => add_nat m (Nat.min m (n - m)) _ _ (by have h1 : Nat.min m (n - m) ≤ m := Nat.min_le_left _ _; omega) w)) hS1 ?_
  refine Pl.H.take 9 8 (.int .i64 ((m + Nat.min m (n - m) : Nat) : Int)) (by kernel_rfl) (by kernel_rfl) (by kernel_rfl) (Pl.free 9 (by kernel_rfl)) (Pl.assign 9 (.tmp 46) (by kernel_rfl) (by decide)) hS1 ?_
  refine Pl.H.done (by kernel_rfl) (fun A' hA' => ?_)
  rw [Pl.At.ext hA' ((((((((((hA.put 38 _).put 39 _).put 40 _).put 41 _).put 42 _).put 43 _).put 44 _).put 45 _).put 46 _).put 8 _)]
  exact hend (fun d => if d = 38 then .int .i64 ((m : Nat) : Int) else if d = 39 then .slice (some ⟨g, 0, none⟩) n n else if d = 40 then .int .i64 ((m : Nat) : Int) else if d = 41 then .slice (some ⟨g, m, none⟩) (n - m) (n - m) else if d = 42 then .slice (some ⟨g, 0, none⟩) n n else if d = 43 then .int .i64 ((m : Nat) : Int) else if d = 44 then .slice (some ⟨g, 0, none⟩) m n else if d = 45 then .int .i64 ((Nat.min m (n - m) : Nat) : Int) else if d = 46 then .int .i64 ((m + Nat.min m (n - m) : Nat) : Int) else undef) _ ⟨hS1, hg1⟩

set_option maxHeartbeats 4000000 in
set_option maxRecDepth 100000 in
theorem repeatK_any (b : Nat) (w : World) (hx : ∀ j, j < 4 → w.cell? ⟨b, j, none⟩ = some (.int .i64 (patK j))) :
    Calls Try.prog 77 #[.slice (some ⟨b, 0, none⟩) 4 4, .int .i64 12] w fun e w' => ∃ v, e = .returned v ∧ OwnsV 3 w' w.heap.size v (kVals (cyc 48)) ∧ Below w.heap.size w w' := by
  obtain ⟨i0, hi, hz0, hz1, hz2⟩ := info_parts oneIntT.info
  have HM := hide mul_48
  have HX := hide hx
  clear hx
  go_enter Try.func77, Try.ntmps77
  go_wp2_with fail
  refine (HM.out _).mono ?_
  rintro e w' ⟨rfl, hw⟩
  obtain rfl := hw.symm
  go_wp2_with (at_make; refine wpList_make_full _ rfl _ _ 32 rfl w.heap.size 3 i0 (.int .i64 0) 1 Try.underlying32 hi hz0 hz1 _ _ _ _ 48 rfl rfl (by omega) (by omega) ?b2 ?b3 (Nat.le_refl _) ?_)
  case b2 => rw [hz2]; decide
  case b3 => unfold maxLen; omega
  intro w0 hown0 hgrow0
  have HG := hide (madeK hown0 rfl)
  have HW : Hid (Below w.heap.size w w0) := (Below.refl w.heap.size w).grown hgrow0 (Nat.le_refl _) (fun k hk => by cases hk)
  have HC : Hid (∀ j, j < 4 → w0.cell? ⟨b, j, none⟩ = some (.int .i64 (patK j))) := fun j hj => (HW.out.cell (World.block_lt_of_cell? w _ (HX.out j hj))).trans (HX.out j hj)
  have hcopy := copyK_first w.heap.size b w0 HG.out HC.out
  have HG1 := hide (row_setT HG.out (partK 48 4).toArray)
  have HW1 := hide (below_setRow HW.out (Nat.le_refl w.heap.size) (partK 48 4).toArray)
  generalize w0.setRow w.heap.size (partK 48 4).toArray = w1 at *
  clear hown0 hgrow0 hi hz0 hz1 hz2 HW HG
  go_wp2_with fail
  go_loopw [8] (fun i wr' => ∃ m : Nat, m ≤ 48 ∧ 0 < m ∧ m % 4 = 0 ∧ i = .int .i64 ((m : Nat) : Int) ∧ Hid (wr'.heap[w.heap.size]? = some (Obj.cells (partK 48 m).toArray 3 (0, 0))) ∧ Hid (Below w.heap.size w wr')) (fun i _ => 48 - (intOf i).toNat)
  case atStart => exact ⟨4, by decide, by decide, rfl, rfl, HG1, HW1⟩
  case round =>
    obtain ⟨m, hm, hpos, h4, rfl, hg, hWr⟩ := hrel
    have H4 := hide h4
    clear h4
    rcases Nat.lt_or_ge m 48 with hlt | hge
    · have HL := hide hlt
      have m1 : ((m : Nat) : Int) < 48 := by omega
      go_wp2_with fail
      refine Pl.region_is (ops := Pl.find 9 ((Try.f77.body).getD .skip)) (by kernel_rfl) ?_
      refine repK9 w wr w.heap.size 48 m HL.out H4.out (by omega) (Nat.le_refl _) hg.out hWr.out (by rfl) (by rfl) (by rfl) (by rfl) ?_
      intro u w2 ⟨hb2, hg2⟩
      simp only [Act.put, List.setIfInBounds_toArray, List.set_cons_zero, List.set_cons_succ]
      have HB2 := hide hb2
      have HG2 := hide hg2
      have hc2 : Nat.min m (48 - m) ≤ 48 - m ∧ 0 < Nat.min m (48 - m) := ⟨Nat.min_le_right _ _, by rw [Nat.lt_min]; omega⟩
      have HC4 : Hid (Nat.min m (48 - m) % 4 = 0) := by
        show _ = _
        have := H4.out
        rcases Nat.le_total m (48 - m) with h | h
        · rw [show Nat.min m (48 - m) = m from Nat.min_eq_left h]; exact this
        · rw [show Nat.min m (48 - m) = 48 - m from Nat.min_eq_right h]; omega
      clear hb2 hg2
      generalize Nat.min m (48 - m) = c2 at *
      go_wp2_with fail
      go_roundw
      case rel => exact ⟨m + c2, by omega, by omega, by have := H4.out; have := HC4.out; omega, by go_num, HG2, HB2⟩
      case measure => simp only [intOf]; omega
    · have hmn : m = 48 := by omega
      have m1 : ¬ ((m : Nat) : Int) < 48 := by omega
      have HO : Hid (OwnsV 3 wr w.heap.size (.slice (some ⟨w.heap.size, 0, none⟩) 48 48) (kVals (cyc 48))) := partK_owns (Nat.le_refl _) (by have := hg.out; rw [hmn] at this; exact this)
      clear hmn
      go_wp2_with fail
      go_ret
      exact ⟨_, rfl, HO.out, hWr.out⟩

/-! ### Grow, Concat -/
theorem run_roomT (w : World) (n : Nat) (h0 : 0 < n) (hn : n ≤ 1000) (ty : TypeId) :
    (Builtin.append_ #[32, 3] ty #[.slice none 0 0, .int .i64 ((n : Nat) : Int)]).run Try.prog w = .ok (.slice (some ⟨w.heap.size, 0, none⟩) n (grownCap w n 0 3)) (w.drew.alloc (.cells (Builtin.zeroCells #[.int .i64 0] n ++ Builtin.zeroCells #[.int .i64 0] (grownCap w n 0 3 - n)) 3)) := by
  obtain ⟨i, hi, hz, hz1, hz2⟩ := info_parts oneIntT.info
  have ht : Try.prog.underlying 32 = some (.slice 3) := Try.underlying32
  have hk : Try.prog.underlying 3 = some (.int .i64) := Try.underlying3
  have e : IntKind.i64.wrap ((n : Nat) : Int) = ((n : Nat) : Int) := by rw [IntKind.wrap_i64]; omega
  have h1 : ¬ (((n : Nat) : Int) < 0) := by omega
  have h2 : ¬ (281474976710656 < ((n : Nat) : Int) * 8) := by omega
  have h3 : ¬ n = 0 := by omega
  have h7 : max ((n : Nat) : Int) 0 = ((n : Nat) : Int) := by omega
  have h4 : ¬ (9223372036854775807 < ((n : Nat) : Int)) := by omega
  have h5 : ¬ (281474976710656 < Builtin.nextslicecap n 0 * 8) := by
    have := growslice_fits (need := n) (old := 0) (bytes := 8) h0 (by omega)
    omega
  simp [Builtin.append_, run_underlying ht, run_underlying hk, sizeOf, typeInfo, zeroValue, hi, hz, hz1, hz2, e, h1, h2, h3, h4, h5, h7, asInt, asIntOf, Question.forced, Builtin.firstCells, newRow, grownCap, Value.cells]
section
variable {ops : Array Oper} {rest : List Oper} {o : Oper} {a : Act} {Q : Exit → Act → World → Prop}
theorem wpList_roomT (w : World) (hgd : o.guard = none) (s x : Operand) (ho : o.op = .call { callee := .builtin .append, args := #[s, x], argTypes := #[32, 3] }) (n : Nat) (h0 : 0 < n) (hn : n ≤ 1000) (hs : a.eval s = .slice none 0 0) (hx : a.eval x = .int .i64 ((n : Nat) : Int))
    (hK : ∀ c w', n ≤ c → OwnsV 3 w' w.heap.size (.slice (some ⟨w.heap.size, 0, none⟩) 0 c) [] → Below w.heap.size w w' → wpList Try.prog ops Q rest (a.put o.dst (.slice (some ⟨w.heap.size, 0, none⟩) n c)) w') : wpList Try.prog ops Q (o :: rest) a w := by
  refine wpList_plain hgd fun K hK' => ?_
  have hrun := run_roomT w n h0 hn o.type
  have hge := grownCap_ge w n 0 3
  have hcm : grownCap w n 0 3 ≤ maxLen := grownCap_le_maxLen w n 0 3 (by unfold maxLen; omega)
  have hz : ∀ m, (Builtin.zeroCells #[.int .i64 0] m).size = m := fun m => by rw [size_zeroCells]; simp
  have h1 := hK (grownCap w n 0 3) _ hge ⟨rfl, .inr ⟨w.heap.size, grownCap w n 0 3, _, rfl, Nat.le_refl _, heap_alloc_new w.drew _, Nat.zero_le _, hcm, by
    rw [Array.size_append, hz, hz]
    omega, by simp⟩⟩ (((Below.refl _ w).drew).alloc (Nat.le_refl _) (.cells (Builtin.zeroCells #[.int .i64 0] n ++ Builtin.zeroCells #[.int .i64 0] (grownCap w n 0 3 - n)) 3))
  unfold Oper.wp
  simp [execOp, ho, resolve, invoke, builtin, hs, hx, hrun, Result.andThen]
  exact hK' _ _ h1
end

set_option maxHeartbeats 4000000 in
theorem growT_any (w : World) (n : Nat) (h0 : 0 < n) (hn : n ≤ 1000) :
    Calls Try.prog 90 #[.slice none 0 0, .int .i64 ((n : Nat) : Int)] w fun e w' => ∃ c, e = .returned (.slice (some ⟨w.heap.size, 0, none⟩) 0 c) ∧ OwnsV 3 w' w.heap.size (.slice (some ⟨w.heap.size, 0, none⟩) 0 c) [] ∧ Below w.heap.size w w' := by
  have i1 : ¬ ((n : Nat) : Int) < 0 := by omega
  have i2 : (0 : Int) < ((n : Nat) : Int) := by omega
  go_enter Try.func90, Try.ntmps90
  go_wp2_with (at_builtin; refine wpList_roomT _ rfl (.tmp 20) (.tmp 21) rfl n h0 hn rfl rfl ?_)
  intro c w1 hc ho hb
  have HO := hide ho
  have HB := hide hb
  clear ho hb
  go_wp2_with fail
  go_ret
  exact ⟨c, rfl, HO.out, HB.out⟩

def catT (f : Nat → List Int) : Nat → List Int
  | 0 => []
  | k + 1 => catT f k ++ f k
def totT (r : Nat → Sl) : Nat → Nat
  | 0 => 0
  | k + 1 => totT r k + (r k).len

set_option maxHeartbeats 8000000 in
set_option maxRecDepth 100000 in
theorem concatT (w : World) (b : Nat) (r : Nat → Sl) (f : Nat → List Int) (hc : ∀ j, j < 2 → w.cell? ⟨b, j, none⟩ = some (.slice (r j).a (r j).len (r j).cap)) (hg : ∀ j, j < 2 → Vs w (r j).a (r j).len (kVals (f j)) ∧ ((r j).a = none → (r j).cap = 0)) (hm : ∀ j, j < 2 → (r j).len ≤ 300) (hp : 0 < (r 0).len) :
    Calls Try.prog 76 #[.slice (some ⟨b, 0, none⟩) 2 2] w fun e w' => ∃ v, e = .returned v ∧ OwnsV 3 w' w.heap.size v (kVals (catT f 2)) ∧ Below w.heap.size w w' := by
  have ht : ∀ k, k ≤ 2 → totT r k ≤ 300 * k := by
    intro k hk
    induction k with
    | zero => exact Nat.le_refl _
    | succ k ih =>
      have h1 := ih (by omega)
      have h2 := hm k (by omega)
      show totT r k + (r k).len ≤ _
      omega
  have HTT := hide ht
  have h3 : 0 < totT r 2 ∧ totT r 2 ≤ 1000 := by
    have h1 := ht 2 (Nat.le_refl _)
    have h2 : totT r 2 = 0 + (r 0).len + (r 1).len := rfl
    omega
  have HGR := hide (growT_any w (totT r 2) h3.1 h3.2)
  have HLN : Hid (∀ k, k ≤ 2 → (kVals (catT f k)).length = totT r k) := by
    intro k hk
    induction k with
    | zero => rfl
    | succ k ih =>
      have h1 := ih (by omega)
      have h2 := (hg k (by omega)).1.1
      show (kVals (catT f k ++ f k)).length = totT r k + (r k).len
      simp only [kVals, List.map_append, List.length_append] at h1 h2 ⊢
      omega
  have HC := hide hc
  have HG := hide hg
  have HM := hide hm
  clear hc hg hm hp ht h3
  go_enter Try.func76, Try.ntmps76
  go_wp2_with fail
  go_loopw [3, 11] (fun sz kv wr => wr = w ∧ ∃ k : Nat, k ≤ 2 ∧ sz = .int .i64 ((totT r k : Nat) : Int) ∧ kv = .int .i64 ((k : Nat) : Int)) (fun _ kv _ => 2 - (intOf kv).toNat)
  case atStart => exact ⟨rfl, 0, by omega, rfl, rfl⟩
  case round =>
    obtain ⟨rfl, k, hk, rfl, rfl⟩ := hrel
    rcases Nat.lt_or_ge k 2 with hlt | hge
    · have i1 : ((k : Nat) : Int) < 2 := by omega
      have hck := HC.out k hlt
      have hmk := HM.out k hlt
      have htk := HTT.out k hk
      have HTS : Hid (totT r (k + 1) = totT r k + (r k).len) := rfl
      obtain ⟨q, hq⟩ : ∃ q, q = totT r k := ⟨_, rfl⟩
      obtain ⟨⟨ra, rl, rc⟩, hr⟩ : ∃ x, x = r k := ⟨_, rfl⟩
      rw [← hr] at hck hmk HTS
      rw [← hq] at htk HTS
      rw [← hq]
      clear hq hr
      simp only at hck hmk HTS
      have i2 : ¬ ((q : Nat) : Int) + ((rl : Nat) : Int) < 0 := by omega
      go_wp2_with fail
      go_roundw
      case rel => exact ⟨trivial, k + 1, by omega, by rw [HTS.out]; go_num, by go_num⟩
      case measure => simp only [intOf]; omega
    · have e0 : k = 2 := by omega
      subst e0
      go_wp2_with fail
      refine HGR.out.mono ?_
      rintro e w3 ⟨c, rfl, ho3, hb3⟩
      have HO3 : Hid (OwnsV 3 w3 wr.heap.size (.slice (some ⟨wr.heap.size, 0, none⟩) 0 c) (kVals (catT f 0))) := ho3
      have HB3 := hide hb3
      clear ho3 hb3 HGR
      go_wp2_with fail
      rename World => wo
      go_loopw [6, 27] (fun gx kv wq => ∃ (k : Nat) (gv : Value), gv = gx ∧ k ≤ 2 ∧ kv = .int .i64 ((k : Nat) : Int) ∧ Hid (OwnsV 3 wq wr.heap.size gv (kVals (catT f k))) ∧ Hid (Below wr.heap.size wr wq)) (fun _ kv _ => 2 - (intOf kv).toNat)
      case atStart => exact ⟨0, _, rfl, by omega, rfl, HO3, HB3⟩
      case round =>
        rename World => wq
        obtain ⟨k, gv, rfl, hk, rfl, hox, hbr⟩ := hrel
        rcases Nat.lt_or_ge k 2 with hlt | hge
        · have i1 : ((k : Nat) : Int) < 2 := by omega
          have hck := (hbr.out.cell (World.block_lt_of_cell? wr _ (HC.out k hlt))).trans (HC.out k hlt)
          have HVK := hide ((HG.out k hlt).1.keep hbr.out (Nat.le_refl _))
          have HNK := hide (HG.out k hlt).2
          have HLE : Hid ((kVals (catT f k)).length + (r k).len ≤ 1000000) := by
            show _ ≤ _
            have h1 := HLN.out k hk
            have h2 := HTT.out k hk
            have h3 := HM.out k hlt
            omega
          have HCS : Hid (kVals (catT f (k + 1)) = kVals (catT f k) ++ kVals (f k)) := by show kVals (catT f k ++ f k) = _; simp [kVals]
          obtain ⟨⟨ra, rl, rc⟩, hr⟩ : ∃ x, x = r k := ⟨_, rfl⟩
          rw [← hr] at hck HVK HNK HLE
          clear hr
          simp only at hck HVK HNK HLE
          have HBS : Hid (wr.heap.size ≤ wq.heap.size) := hbr.out.size
          go_wp2_with (at_builtin; refine wpList_append_vals oneIntT _ rfl (.tmp 31) (.tmp 32) rfl wr.heap.size _ _ rfl hox.out _ _ _ (kVals (f k)) rfl HVK.out HNK.out HLE.out HBS.out ?_)
          intro v1 w1 ho1 hb1 hs1
          have HO2 : Hid (OwnsV 3 w1 wr.heap.size v1 (kVals (catT f (k + 1)))) := by show OwnsV _ _ _ _ _; rw [HCS.out]; exact ho1
          have HB2 : Hid (Below wr.heap.size wr w1) := hbr.out.trans hb1
          clear ho1 hb1 hs1
          go_wp2_with fail
          go_roundw
          case rel => exact ⟨k + 1, _, rfl, by omega, by go_num, HO2, HB2⟩
          case measure => simp only [intOf]; omega
        · have e0 : k = 2 := by omega
          subst e0
          go_wp2_with fail
          go_ret
          exact ⟨_, rfl, hox.out, hbr.out⟩

theorem tbK_cyc : tbK = [1, 3, 3, 3] ++ cyc 48 := by decide

set_option maxHeartbeats 8000000 in
set_option maxRecDepth 100000 in
theorem kindsT_any (w : World) : Calls Try.prog 57 #[] w fun e w' => ∃ a c, e = .returned (.slice a 52 c) ∧ OwnsV 3 w' w.heap.size (.slice a 52 c) (kVals tbK) ∧ Below w.heap.size w w' := by
  have hA := below_alloc w (.cells #[.int .i64 1, .int .i64 3, .int .i64 3, .int .i64 3] 3)
  have hB := below_alloc (w.alloc (.cells #[.int .i64 1, .int .i64 3, .int .i64 3, .int .i64 3] 3)) (.cells #[.int .i64 1, .int .i64 3, .int .i64 2, .int .i64 3] 3)
  have sA : (w.alloc (.cells #[.int .i64 1, .int .i64 3, .int .i64 3, .int .i64 3] 3)).heap.size = w.heap.size + 1 := by simp
  have v0 : Vs (w.alloc (.cells #[.int .i64 1, .int .i64 3, .int .i64 3, .int .i64 3] 3)) (some ⟨w.heap.size, 0, none⟩) 4 (kVals [1, 3, 3, 3]) := vs_litT w [1, 3, 3, 3] (by decide)
  have v0B := v0.keep hB (Nat.le_refl _)
  have hcb : ∀ j, j < 4 → ((w.alloc (.cells #[.int .i64 1, .int .i64 3, .int .i64 3, .int .i64 3] 3)).alloc (.cells #[.int .i64 1, .int .i64 3, .int .i64 2, .int .i64 3] 3)).cell? ⟨w.heap.size + 1, j, none⟩ = some (.int .i64 (patK j)) := by
    intro j hj
    have hn := heap_alloc_new (w.alloc (.cells #[.int .i64 1, .int .i64 3, .int .i64 3, .int .i64 3] 3)) (.cells #[.int .i64 1, .int .i64 3, .int .i64 2, .int .i64 3] 3)
    rw [sA] at hn
    simp only [World.cell?]
    rw [hn]
    have : j = 0 ∨ j = 1 ∨ j = 2 ∨ j = 3 := by omega
    rcases this with rfl | rfl | rfl | rfl <;> rfl
  have HRP := hide (repeatK_any (w.heap.size + 1) _ hcb)
  have HB := hide (rBelow hA hB)
  have HV := hide v0B
  clear hA hB sA v0 v0B hcb
  go_enter Try.func57, Try.ntmps57
  go_wp2_with fail
  generalize (w.alloc (.cells #[.int .i64 1, .int .i64 3, .int .i64 3, .int .i64 3] 3)).alloc (.cells #[.int .i64 1, .int .i64 3, .int .i64 2, .int .i64 3] 3) = WB at *
  refine HRP.out.mono ?_
  rintro e w2 ⟨v2, rfl, ho2, hb2⟩
  obtain ⟨a2, c2, hv, hv2, hn2, hle2⟩ := ho2.vs (cyc_one 48)
  rw [cyc_len] at hv hv2 hle2
  subst hv
  have hC := below_alloc w2 (.cells #[.slice (some ⟨w.heap.size, 0, none⟩) 4 4, .slice a2 48 c2] 32)
  have hcells : ∀ j, j < 2 → (w2.alloc (.cells #[.slice (some ⟨w.heap.size, 0, none⟩) 4 4, .slice a2 48 c2] 32)).cell? ⟨w2.heap.size, j, none⟩ = some (.slice ((fun j => if j = 0 then ⟨some ⟨w.heap.size, 0, none⟩, 4, 4⟩ else ⟨a2, 48, c2⟩) j : Sl).a ((fun j => if j = 0 then ⟨some ⟨w.heap.size, 0, none⟩, 4, 4⟩ else ⟨a2, 48, c2⟩) j : Sl).len ((fun j => if j = 0 then ⟨some ⟨w.heap.size, 0, none⟩, 4, 4⟩ else ⟨a2, 48, c2⟩) j : Sl).cap) := by
    intro j hj
    have hn := heap_alloc_new w2 (.cells #[.slice (some ⟨w.heap.size, 0, none⟩) 4 4, .slice a2 48 c2] 32)
    simp only [World.cell?]
    rw [hn]
    have : j = 0 ∨ j = 1 := by omega
    rcases this with rfl | rfl <;> rfl
  have HCC := hide (concatT (w2.alloc (.cells #[.slice (some ⟨w.heap.size, 0, none⟩) 4 4, .slice a2 48 c2] 32)) w2.heap.size (fun j => if j = 0 then ⟨some ⟨w.heap.size, 0, none⟩, 4, 4⟩ else ⟨a2, 48, c2⟩) (fun j => if j = 0 then [1, 3, 3, 3] else cyc 48) hcells (fun j hj => by
    have : j = 0 ∨ j = 1 := by omega
    rcases this with rfl | rfl
    · exact ⟨(HV.out.keep hb2 (Nat.le_refl _)).keep hC (Nat.le_refl _), fun e => by cases e⟩
    · exact ⟨hv2.keep hC (Nat.le_refl _), hn2⟩) (fun j hj => by
    have : j = 0 ∨ j = 1 := by omega
    rcases this with rfl | rfl
    · show 4 ≤ 300; decide
    · show 48 ≤ 300; decide) (by show 0 < 4; decide))
  have HB2 := hide (rBelow HB.out (rBelow hb2 hC))
  clear ho2 hb2 hv2 hn2 hle2 hC hcells HRP HV
  go_wp2_with fail
  refine HCC.out.mono ?_
  rintro e w3 ⟨v3, rfl, ho3, hb3⟩
  have hk : kVals (catT (fun j => if j = 0 then [1, 3, 3, 3] else cyc 48) 2) = kVals tbK := by rw [tbK_cyc]; rfl
  rw [hk] at ho3
  obtain ⟨a3, c3, hv, hv3, _, _⟩ := ho3.vs (kVals_oneT _)
  have hl : (kVals tbK).length = 52 := by rw [kVals, List.length_map]; exact tbK_len
  rw [hl] at hv hv3
  subst hv
  have HK := hide (ho3.lower HB2.out.size)
  have HB3 := hide (rBelow HB2.out hb3)
  clear ho3 hb3 hk hl hv3 HCC
  go_wp2_with fail
  go_ret
  exact ⟨a3, c3, rfl, HK.out, HB3.out⟩

end Go.Proofs.Ytdbgbldmjgonjaa
