/-
  The landed device: New.
-/
import Derived.Test.YtokdeilcfkobfaaLdI
import Derived.Laws.MakeOwn
namespace Go.Proofs.Ytokdeilcfkobfaa
open Go.RowKit

theorem made_bytes (n : Nat) : madeCells (Value.int .u8 0).cells (n * 1) = (vals (List.replicate n 0)).toArray := by
  apply Array.ext
  · simp [size_madeCells, vals]
  · intro i h1 h2
    simp [madeCells, vals, Value.cells, Nat.mod_one]
theorem make_bytes (n : Nat) (hn : n ≤ 10000000) (w : World) : (Instr.makeSlice 30 (.int .i64 (n : Nat)) (.int .i64 (n : Nat))).run Try.prog w = .ok (.slice (some ⟨w.heap.size, 0, none⟩) n n) (w.alloc (.cells (vals (List.replicate n 0)).toArray 5)) := by
  obtain ⟨i0, hi, hz0, hz1, hz2⟩ := info_parts info5
  have h := run_makeSlice (P := Try.prog) w 30 5 i0 (.int .u8 0) Try.underlying30 hi hz0 .i64 .i64 (n : Nat) (n : Nat) (by omega) (by omega) (by rw [hz1]; simp; omega) (by rw [hz2]; simp; omega) (by omega)
  rw [hz1, show ((n : Nat) : Int).toNat = n by omega, made_bytes] at h
  exact h
theorem own_made (w : World) (n : Nat) (hn : n ≤ 10000000) (xs : List Nat) (hx : xs.length = n) : Own 5 1 (w.alloc (.cells (vals xs).toArray 5)) ⟨some ⟨w.heap.size, 0, none⟩, n, n⟩ (vals xs) := by
  refine ⟨by rw [vals_length]; show _ = n * 1; omega, .inr ⟨w.heap.size, 0, _, rfl, heap_alloc_new w _, by show 0 + n * 1 ≤ _; simp [vals_length]; omega, Nat.le_refl _, by show n ≤ _; unfold maxLen; omega, ?_⟩⟩
  show (List.drop 0 (vals xs).toArray.toList).take (n * 1) = _
  rw [List.drop_zero, List.take_of_length_le (by simp [vals_length]; omega)]
theorem bytes_zero (n : Nat) : Bytes (List.replicate n 0) := fun x hx => by rw [(List.mem_replicate.1 hx).2]; omega

theorem Pl.mkV {P : Program} {ops : Array Oper} {n : Nat} {f : Nat → Value} {w : World} (i : Nat) (t : TypeId) (x y : Operand) (v : Value) (w' : World) (h : (Pl.op ops i).op = .makeSlice t x y) (hx : Pl.inB n x = true) (hy : Pl.inB n y = true)
    (hv : (Instr.makeSlice t (Pl.ev f x) (Pl.ev f y)).run P w = .ok v w') : ∀ A, Pl.At n A f → (execOp A.eval (Pl.op ops i)).run P w = .ok (.value v) w' := by
  intro A hA
  have e : execOp A.eval (Pl.op ops i) = (do pure (.value (← Instr.makeSlice t (A.eval x) (A.eval y)))) := by
    unfold execOp
    rw [h]
  rw [e, hA.ev x hx, hA.ev y hy]
  simp [hv]
theorem Pl.boxV {P : Program} {ops : Array Oper} {n : Nat} {f : Nat → Value} {w : World} (i : Nat) (t : TypeId) (x : Operand) (v : Value) (w' : World) (h : (Pl.op ops i).op = .box t x) (hx : Pl.inB n x = true)
    (hv : (Instr.box t (Pl.ev f x)).run P w = .ok v w') : ∀ A, Pl.At n A f → (execOp A.eval (Pl.op ops i)).run P w = .ok (.value v) w' := by
  intro A hA
  have e : execOp A.eval (Pl.op ops i) = (do pure (.value (← Instr.box t (A.eval x)))) := by
    unfold execOp
    rw [h]
  rw [e, hA.ev x hx]
  simp [hv]

theorem build_disk (a : Option Addr) (l c : Nat) (w : World) : (Instr.build 65 #[(0, .slice a l c)]).run Try.prog w = .ok (.agg #[.slice a l c, .int .i64 0, .slice none 0 0]) w := by simp [go_sem, Instr.build]
theorem build_dev (x y x' y' : Value) (z z' : Int) (w : World) : (Instr.build 69 #[(0, .agg #[x, .int .i64 z, y]), (1, .agg #[x', .int .i64 z', y'])]).run Try.prog w = .ok (.agg #[x, .int .i64 z, y, x', .int .i64 z', y', .slice none 0 0, .slice none 0 0, .slice none 0 0, .bool false, .int .i64 0, .bool false]) w := by simp [go_sem, Instr.build]
theorem box_dev (C : Array Value) (w : World) : (Instr.box 69 (.agg C)).run Try.prog w = .ok (.pointer (some ⟨w.heap.size, 0, none⟩)) (w.alloc (.cells C 69)) := by simp [Instr.box, newVar, newRow, Value.cells]

theorem heap3b (w : World) (a b c : Obj) : (((w.alloc a).alloc b).alloc c).heap[(w.alloc a).heap.size]? = some b := ((below_alloc ((w.alloc a).alloc b) c).block _ (by simp)).trans (heap_alloc_new (w.alloc a) b)
theorem heap3a (w : World) (a b c : Obj) : (((w.alloc a).alloc b).alloc c).heap[w.heap.size]? = some a := ((below_alloc ((w.alloc a).alloc b) c).block _ (by simp <;> omega)).trans (((below_alloc (w.alloc a) b).block _ (by simp)).trans (heap_alloc_new w a))

/-- A new device. -/
def Ds.new (n : Nat) : Ds := ⟨List.replicate (512 * n) 0, 0, [], List.replicate (512 * n) 0, 0, [], [], [], [], false, 0, false⟩

/-- It stands. -/
theorem dev_new (w : World) (n : Nat) (hn : n ≤ 64) (g1 g2 p : Nat) (hg : g1 ≠ g2)
    (h1 : w.heap[g1]? = some (.cells (vals (List.replicate (512 * n) 0)).toArray 5 (0, 0))) (h2 : w.heap[g2]? = some (.cells (vals (List.replicate (512 * n) 0)).toArray 5 (0, 0)))
    (hp : w.heap[p]? = some (.cells #[.slice (some ⟨g1, 0, none⟩) (512 * n) (512 * n), .int .i64 0, .slice none 0 0, .slice (some ⟨g2, 0, none⟩) (512 * n) (512 * n), .int .i64 0, .slice none 0 0, .slice none 0 0, .slice none 0 0, .slice none 0 0, .bool false, .int .i64 0, .bool false] 69 (0, 0))) :
    DevM w p (Ds.new n) ⟨⟨some ⟨g1, 0, none⟩, 512 * n, 512 * n⟩, Sl.nil, ⟨some ⟨g2, 0, none⟩, 512 * n, 512 * n⟩, Sl.nil, Sl.nil, Sl.nil, Sl.nil⟩ := by
  have ho : ∀ g, w.heap[g]? = some (.cells (vals (List.replicate (512 * n) 0)).toArray 5 (0, 0)) → Own 5 1 w ⟨some ⟨g, 0, none⟩, 512 * n, 512 * n⟩ (vals (List.replicate (512 * n) 0)) := by
    intro g h
    refine ⟨by simp [vals_length], .inr ⟨g, 0, _, rfl, h, by simp [vals_length], Nat.le_refl _, by show 512 * n ≤ _; unfold maxLen; omega, ?_⟩⟩
    show (List.drop 0 (vals (List.replicate (512 * n) 0)).toArray.toList).take (512 * n * 1) = _
    rw [List.drop_zero, List.take_of_length_le (by simp [vals_length])]
  refine ⟨hp, fun f => ?_, fun f => ?_, fun f g k hf hk => ?_, Own.nil _ _ _, Own.nil _ _ _⟩
  · cases f
    · exact ho g1 h1
    · exact Own.nil _ _ _
    · exact ho g2 h2
    · exact Own.nil _ _ _
    · exact Own.nil _ _ _
  · cases f
    · exact bytes_zero _
    · exact fun x hx => by cases hx
    · exact bytes_zero _
    · exact fun x hx => by cases hx
    · exact fun x hx => by cases hx
  · cases f <;> cases g <;> first | rfl | (exfalso; cases hf; done) | (exfalso; cases hk; done) | (exfalso; cases hf; cases hk; exact hg rfl)

set_option maxHeartbeats 2000000 in
set_option maxRecDepth 100000 in
theorem new4 (w : World) (n : Nat) (hn : n ≤ 64)
    {Q : Exit → Act → World → Prop} {A : Act} (hsz : A.tmps.size = 21) (hdf : A.defers = []) (s4 : A.tmps.getD 4 undef = .int .i64 ((512 * n : Nat) : Int))
    (hend : ∀ (u : Nat → Value) w' p, w.heap.size ≤ p → Below w.heap.size w w' → (∃ L, DevM w' p (Ds.new n) L ∧ ∀ k, L.F p k → w.heap.size ≤ k) → Q .normal (((((((((((A).put (some 13) (u 13)).put (some 16) (u 16)).put (some 14) (u 14)).put (some 15) (u 15)).put (some 17) (u 17)).put (some 18) (u 18)).put (some 19) (u 19)).put (some 20) (u 20)).put (some 2) (at0 p)).put (some 3) (.int .i64 0)) w') :
    (Code.region 4 (Pl.find 4 ((Try.f8.body).getD .skip)) true).wp Try.prog Q A w := by
  have hA := Pl.At.same (v := .int .i64 ((512 * n : Nat) : Int)) (d := 4) (Pl.At.here hsz hdf) s4
  refine Pl.H.start (S := fun _ => True) (by kernel_rfl) hA True.intro ?_
  rw [show (Pl.find 4 ((Try.f8.body).getD .skip)).size = 10 by kernel_rfl]
  refine Pl.H.take 0 13 (.int .i64 ((512 * n : Nat) : Int)) (by kernel_rfl) (by kernel_rfl) (by kernel_rfl) (Pl.free 0 (by kernel_rfl)) (Pl.move 0 (.tmp 4) (by kernel_rfl) (by decide)) True.intro ?_
  refine Pl.H.take 3 16 (.int .i64 ((512 * n : Nat) : Int)) (by kernel_rfl) (by kernel_rfl) (by kernel_rfl) (Pl.free 3 (by kernel_rfl)) (Pl.move 3 (.tmp 4) (by kernel_rfl) (by decide)) True.intro ?_
  refine Pl.H.two 1 4 (by kernel_rfl) ?_ ?_
  · refine Pl.HOp.value 1 14 (.slice (some ⟨w.drew.heap.size, 0, none⟩) (512 * n) (512 * n)) (w.drew.alloc (.cells (vals (List.replicate (512 * n) 0)).toArray 5)) (by kernel_rfl) (by kernel_rfl) (by kernel_rfl) (Pl.mkV 1 30 (.tmp 13) (.tmp 13) _ _ (by kernel_rfl) (by decide) (by decide) (make_bytes (512 * n) (by omega) w.drew)) True.intro ?_
    refine Pl.H.take 2 15 (.agg #[.slice (some ⟨w.drew.heap.size, 0, none⟩) (512 * n) (512 * n), .int .i64 0, .slice none 0 0]) (by kernel_rfl) (by kernel_rfl) (by kernel_rfl) (Pl.free 2 (by kernel_rfl)) (Pl.buildV 2 65 [(0, .tmp 14)] _ (by kernel_rfl) (by decide) (build_disk _ _ _)) True.intro ?_
    refine Pl.H.make 4 17 (.slice (some ⟨(w.drew.alloc (.cells (vals (List.replicate (512 * n) 0)).toArray 5)).heap.size, 0, none⟩) (512 * n) (512 * n)) ((w.drew.alloc (.cells (vals (List.replicate (512 * n) 0)).toArray 5)).alloc (.cells (vals (List.replicate (512 * n) 0)).toArray 5)) (by kernel_rfl) (by kernel_rfl) (by kernel_rfl) (Pl.free 4 (by kernel_rfl)) (Pl.mkV 4 30 (.tmp 16) (.tmp 16) _ _ (by kernel_rfl) (by decide) (by decide) (make_bytes (512 * n) (by omega) (w.drew.alloc (.cells (vals (List.replicate (512 * n) 0)).toArray 5)))) True.intro ?_
    refine Pl.H.take 5 18 (.agg #[.slice (some ⟨(w.drew.alloc (.cells (vals (List.replicate (512 * n) 0)).toArray 5)).heap.size, 0, none⟩) (512 * n) (512 * n), .int .i64 0, .slice none 0 0]) (by kernel_rfl) (by kernel_rfl) (by kernel_rfl) (Pl.free 5 (by kernel_rfl)) (Pl.buildV 5 65 [(0, .tmp 17)] _ (by kernel_rfl) (by decide) (build_disk _ _ _)) True.intro ?_
    refine Pl.H.take 6 19 (.agg #[.slice (some ⟨w.drew.heap.size, 0, none⟩) (512 * n) (512 * n), .int .i64 0, .slice none 0 0, .slice (some ⟨(w.drew.alloc (.cells (vals (List.replicate (512 * n) 0)).toArray 5)).heap.size, 0, none⟩) (512 * n) (512 * n), .int .i64 0, .slice none 0 0, .slice none 0 0, .slice none 0 0, .slice none 0 0, .bool false, .int .i64 0, .bool false]) (by kernel_rfl) (by kernel_rfl) (by kernel_rfl) (Pl.free 6 (by kernel_rfl)) (Pl.buildV 6 69 [(0, .tmp 15), (1, .tmp 18)] _ (by kernel_rfl) (by decide) (build_dev _ _ _ _ _ _)) True.intro ?_
    have hd := dev_new (((w.drew.alloc (.cells (vals (List.replicate (512 * n) 0)).toArray 5)).alloc (.cells (vals (List.replicate (512 * n) 0)).toArray 5)).alloc (.cells #[.slice (some ⟨w.drew.heap.size, 0, none⟩) (512 * n) (512 * n), .int .i64 0, .slice none 0 0, .slice (some ⟨(w.drew.alloc (.cells (vals (List.replicate (512 * n) 0)).toArray 5)).heap.size, 0, none⟩) (512 * n) (512 * n), .int .i64 0, .slice none 0 0, .slice none 0 0, .slice none 0 0, .slice none 0 0, .bool false, .int .i64 0, .bool false] 69)) n hn w.drew.heap.size (w.drew.alloc (.cells (vals (List.replicate (512 * n) 0)).toArray 5)).heap.size ((w.drew.alloc (.cells (vals (List.replicate (512 * n) 0)).toArray 5)).alloc (.cells (vals (List.replicate (512 * n) 0)).toArray 5)).heap.size (by simp) (heap3a _ _ _ _) (heap3b _ _ _ _) (heap_alloc_new _ _)
    have hbb : Below w.heap.size w (((w.drew.alloc (.cells (vals (List.replicate (512 * n) 0)).toArray 5)).alloc (.cells (vals (List.replicate (512 * n) 0)).toArray 5)).alloc (.cells #[.slice (some ⟨w.drew.heap.size, 0, none⟩) (512 * n) (512 * n), .int .i64 0, .slice none 0 0, .slice (some ⟨(w.drew.alloc (.cells (vals (List.replicate (512 * n) 0)).toArray 5)).heap.size, 0, none⟩) (512 * n) (512 * n), .int .i64 0, .slice none 0 0, .slice none 0 0, .slice none 0 0, .slice none 0 0, .bool false, .int .i64 0, .bool false] 69)) := ((((Below.refl _ w).drew).alloc (Nat.le_refl _) _).alloc (by simp) _).alloc (by simp <;> omega) _
    refine Pl.H.make 7 20 (.pointer (some ⟨((w.drew.alloc (.cells (vals (List.replicate (512 * n) 0)).toArray 5)).alloc (.cells (vals (List.replicate (512 * n) 0)).toArray 5)).heap.size, 0, none⟩)) (((w.drew.alloc (.cells (vals (List.replicate (512 * n) 0)).toArray 5)).alloc (.cells (vals (List.replicate (512 * n) 0)).toArray 5)).alloc (.cells #[.slice (some ⟨w.drew.heap.size, 0, none⟩) (512 * n) (512 * n), .int .i64 0, .slice none 0 0, .slice (some ⟨(w.drew.alloc (.cells (vals (List.replicate (512 * n) 0)).toArray 5)).heap.size, 0, none⟩) (512 * n) (512 * n), .int .i64 0, .slice none 0 0, .slice none 0 0, .slice none 0 0, .slice none 0 0, .bool false, .int .i64 0, .bool false] 69)) (by kernel_rfl) (by kernel_rfl) (by kernel_rfl) (Pl.free 7 (by kernel_rfl)) (Pl.boxV 7 69 (.tmp 19) _ _ (by kernel_rfl) (by decide) (box_dev _ ((w.drew.alloc (.cells (vals (List.replicate (512 * n) 0)).toArray 5)).alloc (.cells (vals (List.replicate (512 * n) 0)).toArray 5)))) True.intro ?_
    refine Pl.H.take 8 2 (.pointer (some ⟨((w.drew.alloc (.cells (vals (List.replicate (512 * n) 0)).toArray 5)).alloc (.cells (vals (List.replicate (512 * n) 0)).toArray 5)).heap.size, 0, none⟩)) (by kernel_rfl) (by kernel_rfl) (by kernel_rfl) (Pl.free 8 (by kernel_rfl)) (Pl.assign 8 (.tmp 20) (by kernel_rfl) (by decide)) True.intro ?_
    refine Pl.H.take 9 3 (.int .i64 0) (by kernel_rfl) (by kernel_rfl) (by kernel_rfl) (Pl.free 9 (by kernel_rfl)) (Pl.assign 9 (.const (.int .i64 0)) (by kernel_rfl) (by decide)) True.intro ?_
    refine Pl.H.done (by kernel_rfl) (fun A' hA' => ?_)
    rw [Pl.At.ext hA' ((((((((((hA.put 13 _).put 16 _).put 14 _).put 15 _).put 17 _).put 18 _).put 19 _).put 20 _).put 2 _).put 3 _)]
    exact hend (fun d => if d = 13 then .int .i64 ((512 * n : Nat) : Int) else if d = 16 then .int .i64 ((512 * n : Nat) : Int) else if d = 14 then .slice (some ⟨w.drew.heap.size, 0, none⟩) (512 * n) (512 * n) else if d = 15 then .agg #[.slice (some ⟨w.drew.heap.size, 0, none⟩) (512 * n) (512 * n), .int .i64 0, .slice none 0 0] else if d = 17 then .slice (some ⟨(w.drew.alloc (.cells (vals (List.replicate (512 * n) 0)).toArray 5)).heap.size, 0, none⟩) (512 * n) (512 * n) else if d = 18 then .agg #[.slice (some ⟨(w.drew.alloc (.cells (vals (List.replicate (512 * n) 0)).toArray 5)).heap.size, 0, none⟩) (512 * n) (512 * n), .int .i64 0, .slice none 0 0] else if d = 19 then .agg #[.slice (some ⟨w.drew.heap.size, 0, none⟩) (512 * n) (512 * n), .int .i64 0, .slice none 0 0, .slice (some ⟨(w.drew.alloc (.cells (vals (List.replicate (512 * n) 0)).toArray 5)).heap.size, 0, none⟩) (512 * n) (512 * n), .int .i64 0, .slice none 0 0, .slice none 0 0, .slice none 0 0, .slice none 0 0, .bool false, .int .i64 0, .bool false] else if d = 20 then .pointer (some ⟨((w.drew.alloc (.cells (vals (List.replicate (512 * n) 0)).toArray 5)).alloc (.cells (vals (List.replicate (512 * n) 0)).toArray 5)).heap.size, 0, none⟩) else undef) _ _ (by simp <;> omega) hbb ⟨_, hd, fun k hk => by rcases hk with h1 | ⟨f, h1⟩ | h1 | h1; (· rw [h1]; simp <;> omega); (· cases f <;> cases h1 <;> simp <;> omega); (· cases h1); (· cases h1)⟩
  · refine Pl.HOp.value 4 17 (.slice (some ⟨w.drew.heap.size, 0, none⟩) (512 * n) (512 * n)) (w.drew.alloc (.cells (vals (List.replicate (512 * n) 0)).toArray 5)) (by kernel_rfl) (by kernel_rfl) (by kernel_rfl) (Pl.mkV 4 30 (.tmp 16) (.tmp 16) _ _ (by kernel_rfl) (by decide) (by decide) (make_bytes (512 * n) (by omega) w.drew)) True.intro ?_
    refine Pl.H.take 5 18 (.agg #[.slice (some ⟨w.drew.heap.size, 0, none⟩) (512 * n) (512 * n), .int .i64 0, .slice none 0 0]) (by kernel_rfl) (by kernel_rfl) (by kernel_rfl) (Pl.free 5 (by kernel_rfl)) (Pl.buildV 5 65 [(0, .tmp 17)] _ (by kernel_rfl) (by decide) (build_disk _ _ _)) True.intro ?_
    refine Pl.H.make 1 14 (.slice (some ⟨(w.drew.alloc (.cells (vals (List.replicate (512 * n) 0)).toArray 5)).heap.size, 0, none⟩) (512 * n) (512 * n)) ((w.drew.alloc (.cells (vals (List.replicate (512 * n) 0)).toArray 5)).alloc (.cells (vals (List.replicate (512 * n) 0)).toArray 5)) (by kernel_rfl) (by kernel_rfl) (by kernel_rfl) (Pl.free 1 (by kernel_rfl)) (Pl.mkV 1 30 (.tmp 13) (.tmp 13) _ _ (by kernel_rfl) (by decide) (by decide) (make_bytes (512 * n) (by omega) (w.drew.alloc (.cells (vals (List.replicate (512 * n) 0)).toArray 5)))) True.intro ?_
    rw [Pl.upd_comm _ 18 14 _ _ (by decide)]
    rw [Pl.upd_comm _ 17 14 _ _ (by decide)]
    refine Pl.H.take 2 15 (.agg #[.slice (some ⟨(w.drew.alloc (.cells (vals (List.replicate (512 * n) 0)).toArray 5)).heap.size, 0, none⟩) (512 * n) (512 * n), .int .i64 0, .slice none 0 0]) (by kernel_rfl) (by kernel_rfl) (by kernel_rfl) (Pl.free 2 (by kernel_rfl)) (Pl.buildV 2 65 [(0, .tmp 14)] _ (by kernel_rfl) (by decide) (build_disk _ _ _)) True.intro ?_
    rw [Pl.upd_comm _ 18 15 _ _ (by decide)]
    rw [Pl.upd_comm _ 17 15 _ _ (by decide)]
    refine Pl.H.take 6 19 (.agg #[.slice (some ⟨(w.drew.alloc (.cells (vals (List.replicate (512 * n) 0)).toArray 5)).heap.size, 0, none⟩) (512 * n) (512 * n), .int .i64 0, .slice none 0 0, .slice (some ⟨w.drew.heap.size, 0, none⟩) (512 * n) (512 * n), .int .i64 0, .slice none 0 0, .slice none 0 0, .slice none 0 0, .slice none 0 0, .bool false, .int .i64 0, .bool false]) (by kernel_rfl) (by kernel_rfl) (by kernel_rfl) (Pl.free 6 (by kernel_rfl)) (Pl.buildV 6 69 [(0, .tmp 15), (1, .tmp 18)] _ (by kernel_rfl) (by decide) (build_dev _ _ _ _ _ _)) True.intro ?_
    have hd := dev_new (((w.drew.alloc (.cells (vals (List.replicate (512 * n) 0)).toArray 5)).alloc (.cells (vals (List.replicate (512 * n) 0)).toArray 5)).alloc (.cells #[.slice (some ⟨(w.drew.alloc (.cells (vals (List.replicate (512 * n) 0)).toArray 5)).heap.size, 0, none⟩) (512 * n) (512 * n), .int .i64 0, .slice none 0 0, .slice (some ⟨w.drew.heap.size, 0, none⟩) (512 * n) (512 * n), .int .i64 0, .slice none 0 0, .slice none 0 0, .slice none 0 0, .slice none 0 0, .bool false, .int .i64 0, .bool false] 69)) n hn (w.drew.alloc (.cells (vals (List.replicate (512 * n) 0)).toArray 5)).heap.size w.drew.heap.size ((w.drew.alloc (.cells (vals (List.replicate (512 * n) 0)).toArray 5)).alloc (.cells (vals (List.replicate (512 * n) 0)).toArray 5)).heap.size (by simp) (heap3b _ _ _ _) (heap3a _ _ _ _) (heap_alloc_new _ _)
    have hbb : Below w.heap.size w (((w.drew.alloc (.cells (vals (List.replicate (512 * n) 0)).toArray 5)).alloc (.cells (vals (List.replicate (512 * n) 0)).toArray 5)).alloc (.cells #[.slice (some ⟨(w.drew.alloc (.cells (vals (List.replicate (512 * n) 0)).toArray 5)).heap.size, 0, none⟩) (512 * n) (512 * n), .int .i64 0, .slice none 0 0, .slice (some ⟨w.drew.heap.size, 0, none⟩) (512 * n) (512 * n), .int .i64 0, .slice none 0 0, .slice none 0 0, .slice none 0 0, .slice none 0 0, .bool false, .int .i64 0, .bool false] 69)) := ((((Below.refl _ w).drew).alloc (Nat.le_refl _) _).alloc (by simp) _).alloc (by simp <;> omega) _
    refine Pl.H.make 7 20 (.pointer (some ⟨((w.drew.alloc (.cells (vals (List.replicate (512 * n) 0)).toArray 5)).alloc (.cells (vals (List.replicate (512 * n) 0)).toArray 5)).heap.size, 0, none⟩)) (((w.drew.alloc (.cells (vals (List.replicate (512 * n) 0)).toArray 5)).alloc (.cells (vals (List.replicate (512 * n) 0)).toArray 5)).alloc (.cells #[.slice (some ⟨(w.drew.alloc (.cells (vals (List.replicate (512 * n) 0)).toArray 5)).heap.size, 0, none⟩) (512 * n) (512 * n), .int .i64 0, .slice none 0 0, .slice (some ⟨w.drew.heap.size, 0, none⟩) (512 * n) (512 * n), .int .i64 0, .slice none 0 0, .slice none 0 0, .slice none 0 0, .slice none 0 0, .bool false, .int .i64 0, .bool false] 69)) (by kernel_rfl) (by kernel_rfl) (by kernel_rfl) (Pl.free 7 (by kernel_rfl)) (Pl.boxV 7 69 (.tmp 19) _ _ (by kernel_rfl) (by decide) (box_dev _ ((w.drew.alloc (.cells (vals (List.replicate (512 * n) 0)).toArray 5)).alloc (.cells (vals (List.replicate (512 * n) 0)).toArray 5)))) True.intro ?_
    refine Pl.H.take 8 2 (.pointer (some ⟨((w.drew.alloc (.cells (vals (List.replicate (512 * n) 0)).toArray 5)).alloc (.cells (vals (List.replicate (512 * n) 0)).toArray 5)).heap.size, 0, none⟩)) (by kernel_rfl) (by kernel_rfl) (by kernel_rfl) (Pl.free 8 (by kernel_rfl)) (Pl.assign 8 (.tmp 20) (by kernel_rfl) (by decide)) True.intro ?_
    refine Pl.H.take 9 3 (.int .i64 0) (by kernel_rfl) (by kernel_rfl) (by kernel_rfl) (Pl.free 9 (by kernel_rfl)) (Pl.assign 9 (.const (.int .i64 0)) (by kernel_rfl) (by decide)) True.intro ?_
    refine Pl.H.done (by kernel_rfl) (fun A' hA' => ?_)
    rw [Pl.At.ext hA' ((((((((((hA.put 13 _).put 16 _).put 14 _).put 15 _).put 17 _).put 18 _).put 19 _).put 20 _).put 2 _).put 3 _)]
    exact hend (fun d => if d = 13 then .int .i64 ((512 * n : Nat) : Int) else if d = 16 then .int .i64 ((512 * n : Nat) : Int) else if d = 14 then .slice (some ⟨(w.drew.alloc (.cells (vals (List.replicate (512 * n) 0)).toArray 5)).heap.size, 0, none⟩) (512 * n) (512 * n) else if d = 15 then .agg #[.slice (some ⟨(w.drew.alloc (.cells (vals (List.replicate (512 * n) 0)).toArray 5)).heap.size, 0, none⟩) (512 * n) (512 * n), .int .i64 0, .slice none 0 0] else if d = 17 then .slice (some ⟨w.drew.heap.size, 0, none⟩) (512 * n) (512 * n) else if d = 18 then .agg #[.slice (some ⟨w.drew.heap.size, 0, none⟩) (512 * n) (512 * n), .int .i64 0, .slice none 0 0] else if d = 19 then .agg #[.slice (some ⟨(w.drew.alloc (.cells (vals (List.replicate (512 * n) 0)).toArray 5)).heap.size, 0, none⟩) (512 * n) (512 * n), .int .i64 0, .slice none 0 0, .slice (some ⟨w.drew.heap.size, 0, none⟩) (512 * n) (512 * n), .int .i64 0, .slice none 0 0, .slice none 0 0, .slice none 0 0, .slice none 0 0, .bool false, .int .i64 0, .bool false] else if d = 20 then .pointer (some ⟨((w.drew.alloc (.cells (vals (List.replicate (512 * n) 0)).toArray 5)).alloc (.cells (vals (List.replicate (512 * n) 0)).toArray 5)).heap.size, 0, none⟩) else undef) _ _ (by simp <;> omega) hbb ⟨_, hd, fun k hk => by rcases hk with h1 | ⟨f, h1⟩ | h1 | h1; (· rw [h1]; simp <;> omega); (· cases f <;> cases h1 <;> simp <;> omega); (· cases h1); (· cases h1)⟩

set_option maxHeartbeats 2000000 in
theorem new_any (w : World) (n : Nat) (h1 : 1 ≤ n) (h2 : n ≤ 64) : Calls Try.prog 8 #[.int .i64 ((n : Nat) : Int)] w fun e w' => Below w.heap.size w w' ∧ ∃ p L, e = .returned (.tuple #[at0 p, .int .i64 0]) ∧ DevM w' p (Ds.new n) L ∧ (∀ k, L.F p k → w.heap.size ≤ k) := by
  have HR : Hid (∀ {Q : Exit → Act → World → Prop} {A : Act}, _) := fun {Q A} => new4 w n h2 (Q := Q) (A := A)
  have i1 : ¬ ((n : Nat) : Int) < 1 := by omega
  have i2 : ¬ 64 < ((n : Nat) : Int) := by omega
  have i1' : ¬ n < 1 := by omega
  have i2' : ¬ 64 < n := by omega
  have hw : IntKind.i64.wrap (((n : Nat) : Int) * 512) = 512 * ((n : Nat) : Int) := by rw [IntKind.wrap_i64]; omega
  go_enter Try.func8, Try.ntmps8
  go_wp2_with fail
  refine Pl.region_is (ops := Pl.find 4 ((Try.f8.body).getD .skip)) (by kernel_rfl) ?_
  refine HR.out (by rfl) rfl (by rfl) ?_
  intro u w' p hp hb hd
  have HB := hide hb
  have HD := hide hd
  clear hp hb hd
  simp only [Act.put, List.setIfInBounds_toArray, List.set_cons_zero, List.set_cons_succ]
  go_wp2_with fail
  go_ret2
  obtain ⟨L, hd, hf⟩ := HD.out
  exact ⟨HB.out, p, L, rfl, hd, hf⟩

set_option maxHeartbeats 2000000 in
theorem new_none (w : World) (n : Int) (h : n < 1 ∨ 64 < n) : Calls Try.prog 8 #[.int .i64 n] w fun e w' => e = .returned (.tuple #[.pointer none, .int .i64 1]) ∧ w' = w := by
  by_cases i1 : n < 1
  · clear h
    go_enter Try.func8, Try.ntmps8
    go_wp2_with fail
    go_ret2
    exact ⟨rfl, rfl⟩
  · have i2 : 64 < n := by omega
    clear h
    go_enter Try.func8, Try.ntmps8
    go_wp2_with fail
    go_ret2
    exact ⟨rfl, rfl⟩

end Go.Proofs.Ytokdeilcfkobfaa
