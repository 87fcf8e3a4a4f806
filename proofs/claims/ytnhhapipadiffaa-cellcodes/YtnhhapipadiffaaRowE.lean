/-
  The columns of bytes: slices.Repeat of a row of one kind, and row's own takeColumns.
-/
import Derived.Test.YtnhhapipadiffaaRowD
import Derived.Laws.CopyOwn
namespace Go.Proofs.Ytnhhapipadiffaa
open Go.RowKit

theorem Pl.copyV {P : Program} {ops : Array Oper} {n : Nat} {f : Nat → Value} {w : World} (i : Nat) (t : TypeId) (x y : Operand) (v : Value) (w' : World) (h : (Pl.op ops i).op = .call { callee := .builtin .copy, args := #[x, y], argTypes := #[t, t] }) (hx : Pl.inB n x = true) (hy : Pl.inB n y = true)
    (hv : ∀ ty, (Builtin.copy_ #[t, t] ty #[Pl.ev f x, Pl.ev f y]).run P w = .ok v w') :
    ∀ A, Pl.At n A f → (execOp A.eval (Pl.op ops i)).run P w = .ok (.value v) w' := by
  intro A hA
  unfold execOp
  rw [h]
  simp [resolve, invoke, builtin, hA.ev x hx, hA.ev y hy, hv]

theorem szI (w : World) : (sizeOf 3).run Try.prog w = .ok 1 w := by
  obtain ⟨i0, hi, hz0, hz1, hz2⟩ := info_parts oneInt.info
  simp [sizeOf, typeInfo, hi, hz1]

theorem elemI : Try.prog.elem 78 = 3 := by kernel_rfl

theorem slice_fromI (a : Option Addr) (len cap k : Nat) (hk : k ≤ len) (w : World) : (Instr.sliceAt 78 (.slice a len cap) (some (.int .i64 (k : Nat))) none none).run Try.prog w = .ok (.slice (fromA a cap k) (len - k) (cap - k)) w := by
  have h22 : Try.prog.underlying 78 = some (.slice (Try.prog.elem 78)) := by kernel_rfl
  rw [run_sliceAt_slice w 78 _ _ _ _ h22, run_slice_l w 78 a len cap h22 .i64 (k : Nat) (by omega) (by omega), elemI, szI]
  simp [Result.andThen, sliced, fromA]

theorem slice_uptoI (a : Option Addr) (len cap k : Nat) (hk : k ≤ cap) (w : World) : (Instr.sliceAt 78 (.slice a len cap) none (some (.int .i64 (k : Nat))) none).run Try.prog w = .ok (.slice (fromA a cap 0) k cap) w := by
  have h22 : Try.prog.underlying 78 = some (.slice (Try.prog.elem 78)) := by kernel_rfl
  rw [run_sliceAt_slice w 78 _ _ _ _ h22, run_slice_h w 78 a len cap h22 .i64 (k : Nat) (by omega) (by omega), elemI, szI]
  simp [Result.andThen, sliced, fromA]

theorem and_low : ∀ n : Fin 256, bits .and .u64 ((n.val : Nat) : Int) 4294967295 = ((n.val : Nat) : Int) := by decide +kernel

set_option maxHeartbeats 1000000 in
theorem mul64_one (n : Nat) (hn : n ≤ 255) (w : World) : Calls Try.prog 98 #[.int .u64 1, .int .u64 (n : Nat)] w fun e w' => e = .returned (.tuple #[.int .u64 0, .int .u64 (n : Nat)]) ∧ w' = w := by
  have hb1 : bits .and .u64 1 4294967295 = 1 := by decide +kernel
  have hb0 : bits .and .u64 0 4294967295 = 0 := by decide +kernel
  have hbn : bits .and .u64 ((n : Nat) : Int) 4294967295 = ((n : Nat) : Int) := and_low ⟨n, by omega⟩
  have hd : ((n : Nat) : Int) / 4294967296 = 0 := by omega
  have hw : IntKind.u64.wrap ((n : Nat) : Int) = ((n : Nat) : Int) := by rw [IntKind.wrap_u64]; omega
  have h0 : IntKind.u64.wrap 0 = 0 := by decide
  clear hn
  go_enter Try.func98, Try.ntmps98
  go_wp2_with fail
  go_ret2
  exact ⟨by simp, rfl⟩

set_option maxHeartbeats 1000000 in
theorem mul_one (n : Nat) (hn : n ≤ 255) (w : World) : Calls Try.prog 96 #[.int .u64 1, .int .u64 (n : Nat)] w fun e w' => e = .returned (.tuple #[.int .u64 0, .int .u64 (n : Nat)]) ∧ w' = w := by
  have H := hide (mul64_one n hn)
  go_enter Try.func96, Try.ntmps96
  go_wp2_with fail
  refine (H.out _).mono ?_
  rintro e w' ⟨rfl, hw⟩
  obtain rfl := hw.symm
  go_wp2_with fail
  go_ret2
  exact ⟨rfl, rfl⟩

def fours (n : Nat) : List Value := kVals (List.replicate n 4)
def noughts (n : Nat) : List Value := kVals (List.replicate n 0)
theorem fours_len (n : Nat) : (fours n).length = n := by simp [fours, kVals]
theorem noughts_len (n : Nat) : (noughts n).length = n := by simp [noughts, kVals]
theorem fours_one (n : Nat) : ∀ u ∈ fours n, u.oneCell' = true := kVals_one _
theorem fours_get {n j : Nat} {v : Value} (h : (fours n)[j]? = some v) : j < n ∧ v = .int .i64 4 := by
  have hl := (List.getElem?_eq_some_iff.1 h).1
  rw [fours_len] at hl
  simp [fours, kVals, hl] at h
  exact ⟨hl, h.symm⟩

/-- The row of which the first m are 4. -/
def partly (n m : Nat) : List Value := fours m ++ noughts (n - m)
theorem partly_len {n m : Nat} (h : m ≤ n) : (partly n m).length = n := by
  simp [partly, fours_len, noughts_len]
  omega
theorem partly_get {n m j : Nat} (h : j < m) : (partly n m)[j]? = some (.int .i64 4) := by
  unfold partly
  rw [List.getElem?_append_left (by rw [fours_len]; exact h)]
  simp [fours, kVals, h]
theorem partly_more (n m c : Nat) : (partly n m).take m ++ fours c ++ (partly n m).drop (m + c) = partly n (m + c) := by
  have e1 : (partly n m).take m = fours m := by
    unfold partly
    rw [List.take_append_of_le_length (by rw [fours_len]; exact Nat.le_refl _), List.take_of_length_le (by rw [fours_len]; exact Nat.le_refl _)]
  have e2 : (partly n m).drop (m + c) = noughts (n - (m + c)) := by
    unfold partly
    rw [List.drop_append, fours_len, List.drop_eq_nil_of_le (by rw [fours_len]; omega)]
    have e3 : m + c - m = c := by omega
    rw [e3, List.nil_append]
    unfold noughts kVals
    rw [← List.map_drop, List.drop_replicate]
    congr 2
    omega
  rw [e1, e2]
  unfold partly fours kVals
  rw [← List.map_append, List.replicate_append_replicate]

theorem partly_cell {w : World} {g n m j : Nat} (h : w.heap[g]? = some (Obj.cells (partly n m).toArray 3 (0, 0))) (hj : j < m) : w.cell? ⟨g, j, none⟩ = some (.int .i64 4) := by
  simp only [World.cell?, h]
  simpa using partly_get (n := n) hj

theorem slice_fromG (g n m : Nat) (h : m < n) (w : World) : (Instr.sliceAt 78 (.slice (some ⟨g, 0, none⟩) n n) (some (.int .i64 (m : Nat))) none none).run Try.prog w = .ok (.slice (some ⟨g, m, none⟩) (n - m) (n - m)) w := by
  rw [slice_fromI _ n n m (by omega)]
  unfold fromA
  rw [if_neg (by omega)]
  simp [Addr.add_lit]

theorem slice_uptoG (g n m : Nat) (h : m < n) (w : World) : (Instr.sliceAt 78 (.slice (some ⟨g, 0, none⟩) n n) none (some (.int .i64 (m : Nat))) none).run Try.prog w = .ok (.slice (some ⟨g, 0, none⟩) m n) w := by
  rw [slice_uptoI _ n n m (by omega)]
  unfold fromA
  rw [if_neg (by omega)]
  simp [Addr.add_lit]

theorem copy_more (g n m : Nat) (hm : m < n) (w : World) (hg : w.heap[g]? = some (Obj.cells (partly n m).toArray 3 (0, 0))) (ty : TypeId) :
    (Builtin.copy_ #[78, 78] ty #[.slice (some ⟨g, m, none⟩) (n - m) (n - m), .slice (some ⟨g, 0, none⟩) m n]).run Try.prog w = .ok (.int .i64 ((Nat.min m (n - m) : Nat) : Int)) (w.setRow g (partly n (m + Nat.min m (n - m))).toArray) := by
  have hc : Nat.min m (n - m) ≤ m ∧ Nat.min m (n - m) ≤ n - m := ⟨Nat.min_le_left _ _, Nat.min_le_right _ _⟩
  generalize hcc : Nat.min m (n - m) = c at *
  have h := run_copy_row (P := Try.prog) w 78 78 ty 3 g m (n - m) (n - m) ⟨g, 0, none⟩ m n (partly n m).toArray 3 (fours c) Try.underlying78 (by kernel_rfl) hg (by rw [fours_len, hcc])
    (fun j v hj => by
      obtain ⟨h1, rfl⟩ := fours_get hj
      rw [Addr.add_lit, Nat.zero_add]
      exact partly_cell hg (by omega)) (by rw [fours_len]; simp [partly_len (Nat.le_of_lt hm)]; omega) (fours_one c)
  rw [h, fours_len]
  rw [partly_more n m c]
  rfl

theorem row_set {w : World} {g : Nat} {cur : Array Value} {t : TypeId} (h : w.heap[g]? = some (Obj.cells cur t (0, 0))) (new : Array Value) : (w.setRow g new).heap[g]? = some (Obj.cells new t (0, 0)) := setRow_heap w g _ _ t _ h

set_option maxHeartbeats 2000000 in
set_option maxRecDepth 100000 in
theorem rep9 (w0 w : World) (g n m : Nat) (hm : m < n) (hn : n ≤ 1000000) (hB : w0.heap.size ≤ g) (hg : w.heap[g]? = some (Obj.cells (partly n m).toArray 3 (0, 0))) (hW : Below w0.heap.size w0 w)
    {Q : Exit → Act → World → Prop} {A : Act} (hsz : A.tmps.size = 48) (hdf : A.defers = []) (s7 : A.tmps.getD 7 undef = .slice (some ⟨g, 0, none⟩) n n) (s8 : A.tmps.getD 8 undef = .int .i64 (m : Nat))
    (hend : ∀ (u : Nat → Value) w', (Below w0.heap.size w0 w' ∧ w'.heap[g]? = some (Obj.cells (partly n (m + Nat.min m (n - m))).toArray 3 (0, 0))) → Q .normal (((((((((((A).put (some 38) (u 38)).put (some 39) (u 39)).put (some 40) (u 40)).put (some 41) (u 41)).put (some 42) (u 42)).put (some 43) (u 43)).put (some 44) (u 44)).put (some 45) (u 45)).put (some 46) (u 46)).put (some 8) (.int .i64 ((m + Nat.min m (n - m) : Nat) : Int))) w') :
    (Code.region 9 (Pl.find 9 ((Try.f93.body).getD .skip)) true).wp Try.prog Q A w := by
  have hS0 : Below w0.heap.size w0 w.drew := hW.drew
  have hA := Pl.At.same (v := .int .i64 (m : Nat)) (d := 8) (Pl.At.same (v := .slice (some ⟨g, 0, none⟩) n n) (d := 7) (Pl.At.here hsz hdf) s7) s8
  refine Pl.H.start (S := fun w' => Below w0.heap.size w0 w') (by kernel_rfl) hA hS0 ?_
  rw [show (Pl.find 9 ((Try.f93.body).getD .skip)).size = 10 by kernel_rfl]
  refine Pl.H.take 0 38 (.int .i64 (m : Nat)) (by kernel_rfl) (by kernel_rfl) (by kernel_rfl) (Pl.free 0 (by kernel_rfl)) (Pl.move 0 (.tmp 8) (by kernel_rfl) (by decide)) hS0 ?_
  refine Pl.H.take 1 39 (.slice (some ⟨g, 0, none⟩) n n) (by kernel_rfl) (by kernel_rfl) (by kernel_rfl) (Pl.free 1 (by kernel_rfl)) (Pl.move 1 (.tmp 7) (by kernel_rfl) (by decide)) hS0 ?_
  refine Pl.H.take 2 40 (.int .i64 (m : Nat)) (by kernel_rfl) (by kernel_rfl) (by kernel_rfl) (Pl.free 2 (by kernel_rfl)) (Pl.move 2 (.tmp 8) (by kernel_rfl) (by decide)) hS0 ?_
  refine Pl.H.take 3 41 (.slice (some ⟨g, m, none⟩) (n - m) (n - m)) (by kernel_rfl) (by kernel_rfl) (by kernel_rfl) (Pl.free 3 (by kernel_rfl)) (Pl.slice 3 78 (.tmp 39) (some (.tmp 40)) none _ (by kernel_rfl) (by decide) (by decide) (by decide) (fun w => slice_fromG g n m hm w)) hS0 ?_
  refine Pl.H.take 4 42 (.slice (some ⟨g, 0, none⟩) n n) (by kernel_rfl) (by kernel_rfl) (by kernel_rfl) (Pl.free 4 (by kernel_rfl)) (Pl.move 4 (.tmp 7) (by kernel_rfl) (by decide)) hS0 ?_
  refine Pl.H.take 5 43 (.int .i64 (m : Nat)) (by kernel_rfl) (by kernel_rfl) (by kernel_rfl) (Pl.free 5 (by kernel_rfl)) (Pl.move 5 (.tmp 8) (by kernel_rfl) (by decide)) hS0 ?_
  refine Pl.H.take 6 44 (.slice (some ⟨g, 0, none⟩) m n) (by kernel_rfl) (by kernel_rfl) (by kernel_rfl) (Pl.free 6 (by kernel_rfl)) (Pl.slice 6 78 (.tmp 42) none (some (.tmp 43)) _ (by kernel_rfl) (by decide) (by decide) (by decide) (fun w => slice_uptoG g n m hm w)) hS0 ?_
  have hg1 := row_set (w := w.drew) hg (partly n (m + Nat.min m (n - m))).toArray
  have hS1 : Below w0.heap.size w0 (w.drew.setRow g (partly n (m + Nat.min m (n - m))).toArray) := below_setRow hS0 hB _
  refine Pl.H.make 7 45 (.int .i64 ((Nat.min m (n - m) : Nat) : Int)) (w.drew.setRow g (partly n (m + Nat.min m (n - m))).toArray) (by kernel_rfl) (by kernel_rfl) (by kernel_rfl) (Pl.free 7 (by kernel_rfl)) (Pl.copyV 7 78 (.tmp 41) (.tmp 44) _ _ (by kernel_rfl) (by decide) (by decide) (fun ty => copy_more g n m hm w.drew hg ty)) hS1 ?_
  refine Pl.H.take 8 46 (.int .i64 ((m + Nat.min m (n - m) : Nat) : Int)) (by kernel_rfl) (by kernel_rfl) (by kernel_rfl) (Pl.free 8 (by kernel_rfl)) (Pl.binV 8 .add 3 3 (.tmp 38) (.tmp 45) (.int .i64 (m : Nat)) (.int .i64 ((Nat.min m (n - m) : Nat) : Int)) _ (by kernel_rfl) (by decide) (by decide) rfl rfl (fun w => add_nat m (Nat.min m (n - m)) _ _ (by have h1 : Nat.min m (n - m) ≤ m := Nat.min_le_left _ _; omega) w)) hS1 ?_
  refine Pl.H.take 9 8 (.int .i64 ((m + Nat.min m (n - m) : Nat) : Int)) (by kernel_rfl) (by kernel_rfl) (by kernel_rfl) (Pl.free 9 (by kernel_rfl)) (Pl.assign 9 (.tmp 46) (by kernel_rfl) (by decide)) hS1 ?_
  refine Pl.H.done (by kernel_rfl) (fun A' hA' => ?_)
  rw [Pl.At.ext hA' ((((((((((hA.put 38 _).put 39 _).put 40 _).put 41 _).put 42 _).put 43 _).put 44 _).put 45 _).put 46 _).put 8 _)]
  exact hend (fun d => if d = 38 then .int .i64 (m : Nat) else if d = 39 then .slice (some ⟨g, 0, none⟩) n n else if d = 40 then .int .i64 (m : Nat) else if d = 41 then .slice (some ⟨g, m, none⟩) (n - m) (n - m) else if d = 42 then .slice (some ⟨g, 0, none⟩) n n else if d = 43 then .int .i64 (m : Nat) else if d = 44 then .slice (some ⟨g, 0, none⟩) m n else if d = 45 then .int .i64 ((Nat.min m (n - m) : Nat) : Int) else if d = 46 then .int .i64 ((m + Nat.min m (n - m) : Nat) : Int) else undef) _ ⟨hS1, hg1⟩

theorem made_noughts {w : World} {base g n cap : Nat} (h : w.ownsRow base 3 1 (.slice (some ⟨g, 0, none⟩) n cap) n (madeCells #[Value.int .i64 0] n).toList) (hc : cap = n) : w.heap[g]? = some (Obj.cells (partly n 0).toArray 3 (0, 0)) := by
  have e : (madeCells #[Value.int .i64 0] n).toList = partly n 0 := by
    rw [toList_madeCells_one]
    simp [partly, fours, noughts, kVals]
  rw [e] at h
  rcases h.2 with ⟨hv, _⟩ | ⟨g', cap', cur, hv, _, hg, _, _, hsz, htk⟩
  · cases hv
  · simp only [Value.slice.injEq, Option.some.injEq, Addr.mk.injEq, and_true, true_and] at hv
    obtain ⟨rfl, rfl⟩ := hv
    have : cur.toList = partly n 0 := by
      rw [← htk, List.take_of_length_le]
      rw [Array.length_toList, hsz, hc]
      exact Nat.le_refl _
    rw [hg]
    congr 2
    apply Array.toList_inj.1
    simpa using this

theorem partly_owns {w : World} {base g n : Nat} (hb : base ≤ g) (hn : n ≤ 1000000) (h : w.heap[g]? = some (Obj.cells (partly n n).toArray 3 (0, 0))) : OwnsV 3 w base (.slice (some ⟨g, 0, none⟩) n n) (fours n) := by
  have e : partly n n = fours n := by simp [partly, noughts, kVals]
  rw [e] at h
  unfold OwnsV
  rw [fours_len]
  refine ⟨by rw [fours_len, Nat.mul_one], .inr ⟨g, n, _, rfl, hb, h, Nat.le_refl _, by unfold maxLen; omega, ?_, ?_⟩⟩
  · simp [fours_len]
  · rw [List.take_of_length_le (by simp [fours_len])]

theorem copy_first (g b n : Nat) (w : World) (hg : w.heap[g]? = some (Obj.cells (partly n 0).toArray 3 (0, 0))) (hb : w.cell? ⟨b, 0, none⟩ = some (.int .i64 4)) (ty : TypeId) :
    (Builtin.copy_ #[78, 78] ty #[.slice (some ⟨g, 0, none⟩) n n, .slice (some ⟨b, 0, none⟩) 1 1]).run Try.prog w = .ok (.int .i64 ((Nat.min 1 n : Nat) : Int)) (w.setRow g (partly n (Nat.min 1 n)).toArray) := by
  have hc : Nat.min 1 n ≤ 1 ∧ Nat.min 1 n ≤ n := ⟨Nat.min_le_left _ _, Nat.min_le_right _ _⟩
  generalize hcc : Nat.min 1 n = c at *
  have h := run_copy_row (P := Try.prog) w 78 78 ty 3 g 0 n n ⟨b, 0, none⟩ 1 1 (partly n 0).toArray 3 (fours c) Try.underlying78 (by kernel_rfl) hg (by rw [fours_len, hcc])
    (fun j v hj => by
      obtain ⟨h1, rfl⟩ := fours_get hj
      obtain rfl : j = 0 := by omega
      simpa [Addr.add] using hb) (by rw [fours_len]; simp [partly_len (Nat.zero_le n)]; omega) (fours_one c)
  rw [h, fours_len]
  have e := partly_more n 0 c
  rw [e, Nat.zero_add]
  rfl

set_option maxHeartbeats 4000000 in
set_option maxRecDepth 100000 in
theorem repeat_any (b n : Nat) (w : World) (hx : w.cell? ⟨b, 0, none⟩ = some (.int .i64 4)) (hn : n ≤ 255) :
    Calls Try.prog 93 #[.slice (some ⟨b, 0, none⟩) 1 1, .int .i64 (n : Nat)] w fun e w' => ∃ v, e = .returned v ∧ OwnsV 3 w' w.heap.size v (fours n) ∧ Below w.heap.size w w' := by
  obtain ⟨i0, hi, hz0, hz1, hz2⟩ := info_parts oneInt.info
  have HM := hide (mul_one n hn)
  have HX := hide hx
  have hw1 : IntKind.u64.wrap ((n : Nat) : Int) = ((n : Nat) : Int) := by rw [IntKind.wrap_u64]; omega
  have hw2 : IntKind.i64.wrap ((n : Nat) : Int) = ((n : Nat) : Int) := by rw [IntKind.wrap_i64]; omega
  clear hx
  go_enter Try.func93, Try.ntmps93
  go_wp2_with fail
  refine (HM.out _).mono ?_
  rintro e w' ⟨rfl, hw⟩
  obtain rfl := hw.symm
  go_wp2_with (at_make; refine wpList_make_full _ rfl _ _ 78 rfl w.heap.size 3 i0 (.int .i64 0) 1 Try.underlying78 hi hz0 hz1 _ _ _ _ n rfl rfl (by omega) (by omega) ?b2 ?b3 (Nat.le_refl _) ?_)
  case b2 => rw [hz2]; omega
  case b3 => unfold maxLen; omega
  intro w0 hown0 hgrow0
  have HG := hide (made_noughts hown0 rfl)
  have HW : Hid (Below w.heap.size w w0) := (Below.refl w.heap.size w).grown hgrow0 (Nat.le_refl _) (fun k hk => by cases hk)
  have HC : Hid (w0.cell? ⟨b, 0, none⟩ = some (.int .i64 4)) := (HW.out.cell (World.block_lt_of_cell? w _ HX.out)).trans HX.out
  have HMin : Hid (Nat.min 1 n ≤ n ∧ (0 < n → 0 < Nat.min 1 n)) := ⟨Nat.min_le_right _ _, fun h => by rw [Nat.lt_min]; omega⟩
  have hcopy := copy_first w.heap.size b n w0 HG.out HC.out
  have HG1 := hide (row_set HG.out (partly n (Nat.min 1 n)).toArray)
  have HW1 := hide (below_setRow HW.out (Nat.le_refl w.heap.size) (partly n (Nat.min 1 n)).toArray)
  generalize Nat.min 1 n = c at *
  generalize w0.setRow w.heap.size (partly n c).toArray = w1 at *
  clear hown0 hgrow0 hi hz0 hz1 hz2 HW HG
  go_wp2_with fail
  go_loopw [8] (fun i wr' => ∃ m : Nat, m ≤ n ∧ (0 < n → 0 < m) ∧ i = .int .i64 m ∧ Hid (wr'.heap[w.heap.size]? = some (Obj.cells (partly n m).toArray 3 (0, 0))) ∧ Hid (Below w.heap.size w wr')) (fun i _ => n - (intOf i).toNat)
  case atStart => exact ⟨c, HMin.out.1, HMin.out.2, rfl, HG1, HW1⟩
  case round =>
    obtain ⟨m, hm, hpos, rfl, hg, hWr⟩ := hrel
    rcases Nat.lt_or_ge m n with hlt | hge
    · have HL := hide hlt
      go_wp2_with fail
      refine Pl.region_is (ops := Pl.find 9 ((Try.f93.body).getD .skip)) (by kernel_rfl) ?_
      refine rep9 w wr w.heap.size n m HL.out (by omega) (Nat.le_refl _) hg.out hWr.out (by rfl) (by rfl) (by rfl) (by rfl) ?_
      intro u w2 ⟨hb2, hg2⟩
      simp only [Act.put, List.setIfInBounds_toArray, List.set_cons_zero, List.set_cons_succ]
      have HB2 := hide hb2
      have HG2 := hide hg2
      have hc2 : Nat.min m (n - m) ≤ n - m ∧ 0 < Nat.min m (n - m) := ⟨Nat.min_le_right _ _, by rw [Nat.lt_min]; omega⟩
      clear hb2 hg2
      generalize Nat.min m (n - m) = c2 at *
      go_wp2_with fail
      go_roundw
      case rel => exact ⟨m + c2, by omega, by omega, by go_num, HG2, HB2⟩
      case measure => simp only [intOf]; omega
    · have hmn : m = n := by omega
      have HO : Hid (OwnsV 3 wr w.heap.size (.slice (some ⟨w.heap.size, 0, none⟩) n n) (fours n)) := partly_owns (Nat.le_refl _) (by omega) (by have := hg.out; rw [hmn] at this; exact this)
      clear hmn
      go_wp2_with fail
      go_ret
      exact ⟨_, rfl, HO.out, hWr.out⟩

end Go.Proofs.Ytnhhapipadiffaa
