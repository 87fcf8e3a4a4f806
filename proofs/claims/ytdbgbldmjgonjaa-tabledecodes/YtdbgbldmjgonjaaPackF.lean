/-
  What the reader's functions hand back, call by call: a piece of the row, its bits, a count, a number, an item; or what they throw.
-/
import Derived.Test.YtdbgbldmjgonjaaPackE
import Derived.Test.YtdbgbldmjgonjaaPackG
namespace Go.Proofs.Ytdbgbldmjgonjaa
open Go.RowKit

/-- Only block p of the old ones may have turned. -/
structure Only (p : Nat) (w w' : World) : Prop where
  os : w'.os = w.os
  tape : w'.tape = w.tape
  output : w'.output = w.output
  size : w.heap.size ≤ w'.heap.size
  block : ∀ k, k < w.heap.size → k ≠ p → w'.heap[k]? = w.heap[k]?

theorem Only.refl (p : Nat) (w : World) : Only p w w := ⟨rfl, rfl, rfl, Nat.le_refl _, fun _ _ _ => rfl⟩
theorem Only.trans {p : Nat} {a b c : World} (h : Only p a b) (k : Only p b c) : Only p a c :=
  ⟨k.os.trans h.os, k.tape.trans h.tape, k.output.trans h.output, Nat.le_trans h.size k.size, fun i hi hp => (k.block i (Nat.lt_of_lt_of_le hi h.size) hp).trans (h.block i hi hp)⟩
theorem Only.of {p : Nat} {w w' : World} (h : Below w.heap.size w w') : Only p w w' := ⟨h.os, h.tape, h.output, h.size, fun k hk _ => h.block k hk⟩
theorem Only.below {p B : Nat} {w w' : World} (h : Only p w w') (hB : B ≤ w.heap.size) (hp : B ≤ p) : Below B w w' :=
  ⟨h.os, h.tape, h.output, h.size, fun k hk => h.block k (by omega) (by omega)⟩
theorem Only.drew {p : Nat} {a w : World} (h : Only p a w) : Only p a w.drew := ⟨h.os, h.tape, h.output, h.size, h.block⟩
theorem Only.set {p : Nat} {a w : World} (h : Only p a w) (o : Nat) (v : Value) : Only p a (w.setCell ⟨p, o, none⟩ v) := by
  refine ⟨h.os, h.tape, h.output, ?_, fun k hk hp => (Below.heap_setCell w ⟨p, o, none⟩ v k hp).trans (h.block k hk hp)⟩
  have := ((Below.refl 0 w).setCell (p := ⟨p, o, none⟩) (Nat.zero_le _) v).size
  exact Nat.le_trans h.size this
theorem Only.alloc {p : Nat} {a w : World} (h : Only p a w) (o : Obj) : Only p a (w.alloc o) := h.trans (Only.of (below_alloc w o))

/-- The reader: its row, and where it is. -/
def Rd (w : World) (p : Nat) (a : Option Addr) (len cap q : Nat) : Prop := w.heap[p]? = some (Obj.cells #[.slice a len cap, .int .i64 (q : Nat)] 105 (0, 0))

theorem Rd.c0 {w : World} {p : Nat} {a : Option Addr} {len cap q : Nat} (h : Rd w p a len cap q) : w.cell? ⟨p, 0, none⟩ = some (.slice a len cap) := by
  unfold Rd at h
  simp [World.cell?, h]
theorem Rd.c1 {w : World} {p : Nat} {a : Option Addr} {len cap q : Nat} (h : Rd w p a len cap q) : w.cell? ⟨p, 1, none⟩ = some (.int .i64 (q : Nat)) := by
  unfold Rd at h
  simp [World.cell?, h]
theorem Rd.fz {w : World} {p : Nat} {a : Option Addr} {len cap q : Nat} (h : Rd w p a len cap q) (o : Nat) : w.frozen? ⟨p, o, none⟩ = false := frozen_of_row w p _ _ 105 h
theorem Rd.lt {w : World} {p : Nat} {a : Option Addr} {len cap q : Nat} (h : Rd w p a len cap q) : p < w.heap.size := (Array.getElem?_eq_some_iff.1 h).1
theorem Rd.keep {w w' : World} {B p : Nat} {a : Option Addr} {len cap q : Nat} (h : Rd w p a len cap q) (hb : Below B w w') (hB : w.heap.size ≤ B) : Rd w' p a len cap q :=
  (hb.block p (Nat.lt_of_lt_of_le h.lt hB)).trans h
theorem Rd.set {w : World} {p : Nat} {a : Option Addr} {len cap q : Nat} (h : Rd w p a len cap q) (q' : Nat) : Rd (w.setCell ⟨p, 1, none⟩ (.int .i64 (q' : Nat))) p a len cap q' := by
  have := heap_setCell_same w p 1 _ 105 (.int .i64 (q' : Nat)) h
  unfold Rd
  simpa using this

theorem field_rd0 (p : Nat) (w : World) : (Instr.fieldAt 105 (.pointer (some ⟨p, 0, none⟩)) 0).run Try.prog w = .ok (.pointer (some ⟨p, 0, none⟩)) w := by simp [go_sem]
theorem field_rd1 (p : Nat) (w : World) : (Instr.fieldAt 105 (.pointer (some ⟨p, 0, none⟩)) 1).run Try.prog w = .ok (.pointer (some ⟨p, 1, none⟩)) w := by simp [go_sem]
theorem load_bytes (b o : Nat) (a : Option Addr) (len cap : Nat) (w : World) (h : w.cell? ⟨b, o, none⟩ = some (.slice a len cap)) : (Instr.loadAt 26 (.pointer (some ⟨b, o, none⟩))).run Try.prog w = .ok (.slice a len cap) w := by
  simp [go_sem, h]
theorem len_bytes (a : Option Addr) (len cap : Nat) (ty : TypeId) (w : World) : (Builtin.len_ #[26] ty #[.slice a len cap]).run Try.prog w = .ok (.int .i64 (len : Nat)) w := by
  simp [go_sem]

theorem slice_mid (a : Option Addr) (len cap k j : Nat) (hk : k ≤ j) (hj : j ≤ len) (hc : len ≤ cap) (w : World) : (Instr.sliceAt 26 (.slice a len cap) (some (.int .i64 (k : Nat))) (some (.int .i64 (j : Nat))) none).run Try.prog w = .ok (.slice (fromA a cap k) (j - k) (cap - k)) w := by
  have h22 : Try.prog.underlying 26 = some (.slice (Try.prog.elem 26)) := by kernel_rfl
  rw [run_sliceAt_slice w 26 _ _ _ _ h22, run_slice_lh w 26 a len cap h22 .i64 .i64 (k : Nat) (j : Nat) (by omega) (by omega) (by omega), elem22, sz5]
  simp [Result.andThen, sliced, fromA]

theorem Bs.mid {w : World} {a : Option Addr} {len cap k j : Nat} {xs : List Nat} (h : Bs w a len xs) (hk : k ≤ j) (hj : j ≤ len) (hc : len ≤ cap) : Bs w (fromA a cap k) (j - k) ((xs.drop k).take (j - k)) := by
  refine ⟨by simp [h.1]; omega, fun x hx => h.2.1 x (List.mem_of_mem_drop (List.mem_of_mem_take hx)), fun i hi => ?_⟩
  obtain ⟨b, off, rfl, hcell⟩ := h.2.2 (k + i) (by omega)
  refine ⟨b, off + k, ?_, ?_⟩
  · unfold fromA
    rw [if_neg (by omega)]
    simp only [Option.map_some, Nat.mul_one, Addr.add_lit]
  · rw [Nat.add_assoc, hcell]
    simp [List.getD, hi]

theorem sub_int (a b : Int) (x y : Operand) (h1 : -9223372036854775808 ≤ a - b) (h2 : a - b ≤ 9223372036854775807) (w : World) : (do eqGuard .sub 3 x y (.int .i64 a) (.int .i64 b); binOp .sub 3 (.int .i64 a) (.int .i64 b) : Sem Value).run Try.prog w = .ok (.int .i64 (a - b)) w := by
  have e : IntKind.i64.wrap (a - b) = a - b := by rw [IntKind.wrap_i64]; omega
  simp [go_sem, eqGuard, e]

theorem sub_nat (a b : Nat) (x y : Operand) (h : b ≤ a) (h2 : a ≤ 9223372036854775807) (w : World) : (do eqGuard .sub 3 x y (.int .i64 (a : Nat)) (.int .i64 (b : Nat)); binOp .sub 3 (.int .i64 (a : Nat)) (.int .i64 (b : Nat)) : Sem Value).run Try.prog w = .ok (.int .i64 ((a - b : Nat) : Int)) w := by
  rw [sub_int a b x y (by omega) (by omega)]
  congr 3
  omega


set_option maxHeartbeats 2000000 in
set_option maxRecDepth 100000 in
theorem next1a (w : World) (p : Nat) (a : Option Addr) (len cap q z : Nat) (hr : Rd w p a len cap q) (hq : q ≤ len) (hl : len ≤ 9223372036854775807) (hz : len - q < z)
    {Q : Exit → Act → World → Prop} {A : Act} (hsz : A.tmps.size = 41) (hdf : A.defers = []) (s0 : A.tmps.getD 0 undef = .pointer (some ⟨p, 0, none⟩)) (s1 : A.tmps.getD 1 undef = .int .i64 (z : Nat))
    (hend : ∀ (u : Nat → Value) w', w' = w.drew → Q .normal (((((((((((((A).put (some 5) (u 5)).put (some 6) (u 6)).put (some 7) (u 7)).put (some 8) (u 8)).put (some 9) (u 9)).put (some 10) (u 10)).put (some 11) (u 11)).put (some 12) (u 12)).put (some 13) (u 13)).put (some 14) (u 14)).put (some 15) (u 15)).put (some 16) (.bool true)) w') :
    (Code.region 1 (Pl.find 1 ((Try.f94.body).getD .skip)) true).wp Try.prog Q A w := by
  have hS0 : Rd w.drew p a len cap q := hr
  have hA := Pl.At.same (v := .int .i64 (z : Nat)) (d := 1) (Pl.At.same (v := .pointer (some ⟨p, 0, none⟩)) (d := 0) (Pl.At.here hsz hdf) s0) s1
  refine Pl.H.start (S := fun w' => Rd w' p a len cap q) (by kernel_rfl) hA hS0 ?_
  rw [show (Pl.find 1 ((Try.f94.body).getD .skip)).size = 12 by kernel_rfl]
  refine Pl.H.take 0 5 (.int .i64 (z : Nat)) (by kernel_rfl) (by kernel_rfl) (by kernel_rfl) (Pl.free 0 (by kernel_rfl)) (Pl.move 0 (.tmp 1) (by kernel_rfl) (by decide)) hS0 ?_
  refine Pl.H.take 1 6 (.pointer (some ⟨p, 0, none⟩)) (by kernel_rfl) (by kernel_rfl) (by kernel_rfl) (Pl.free 1 (by kernel_rfl)) (Pl.move 1 (.tmp 0) (by kernel_rfl) (by decide)) hS0 ?_
  refine Pl.H.take 2 7 (.pointer (some ⟨p, 0, none⟩)) (by kernel_rfl) (by kernel_rfl) (by kernel_rfl) (Pl.free 2 (by kernel_rfl)) (Pl.nilc 2 (.tmp 6) _ (by kernel_rfl) (by decide) rfl) hS0 ?_
  refine Pl.H.take 3 8 (.pointer (some ⟨p, 0, none⟩)) (by kernel_rfl) (by kernel_rfl) (by kernel_rfl) (Pl.free 3 (by kernel_rfl)) (Pl.field 3 105 (.tmp 7) 0 _ (by kernel_rfl) (by decide) (field_rd0 p)) hS0 ?_
  refine Pl.H.take 4 9 (.slice a len cap) (by kernel_rfl) (by kernel_rfl) (by kernel_rfl) (Pl.free 4 (by kernel_rfl)) (Pl.load 4 26 (.tmp 8) _ (by kernel_rfl) (by decide) (fun w' hS => load_bytes p 0 _ _ _ w' (Rd.c0 hS))) hS0 ?_
  refine Pl.H.take 5 10 (.int .i64 (len : Nat)) (by kernel_rfl) (by kernel_rfl) (by kernel_rfl) (Pl.free 5 (by kernel_rfl)) (Pl.lenOf 5 26 (.tmp 9) _ (by kernel_rfl) (by decide) (fun ty w => len_bytes a len cap ty w)) hS0 ?_
  refine Pl.H.take 6 11 (.pointer (some ⟨p, 0, none⟩)) (by kernel_rfl) (by kernel_rfl) (by kernel_rfl) (Pl.free 6 (by kernel_rfl)) (Pl.move 6 (.tmp 0) (by kernel_rfl) (by decide)) hS0 ?_
  refine Pl.H.take 7 12 (.pointer (some ⟨p, 0, none⟩)) (by kernel_rfl) (by kernel_rfl) (by kernel_rfl) (Pl.free 7 (by kernel_rfl)) (Pl.nilc 7 (.tmp 11) _ (by kernel_rfl) (by decide) rfl) hS0 ?_
  refine Pl.H.take 8 13 (.pointer (some ⟨p, 1, none⟩)) (by kernel_rfl) (by kernel_rfl) (by kernel_rfl) (Pl.free 8 (by kernel_rfl)) (Pl.field 8 105 (.tmp 12) 1 _ (by kernel_rfl) (by decide) (field_rd1 p)) hS0 ?_
  refine Pl.H.take 9 14 (.int .i64 (q : Nat)) (by kernel_rfl) (by kernel_rfl) (by kernel_rfl) (Pl.free 9 (by kernel_rfl)) (Pl.load 9 3 (.tmp 13) _ (by kernel_rfl) (by decide) (fun w' hS => load_int p 1 _ w' (Rd.c1 hS))) hS0 ?_
  refine Pl.H.take 10 15 (.int .i64 ((len : Int) - (q : Int))) (by kernel_rfl) (by kernel_rfl) (by kernel_rfl) (Pl.free 10 (by kernel_rfl)) (Pl.binV 10 .sub 3 3 (.tmp 10) (.tmp 14) (.int .i64 (len : Nat)) (.int .i64 (q : Nat)) _ (by kernel_rfl) (by decide) (by decide) rfl rfl (sub_int _ _ _ _ (by omega) (by omega))) hS0 ?_
  refine Pl.H.take 11 16 (.bool true) (by kernel_rfl) (by kernel_rfl) (by kernel_rfl) (Pl.free 11 (by kernel_rfl)) (Pl.binV 11 .gtr 3 3 (.tmp 5) (.tmp 15) (.int .i64 (z : Nat)) (.int .i64 ((len : Int) - (q : Int))) _ (by kernel_rfl) (by decide) (by decide) rfl rfl (fun w => by simp [go_sem, eqGuard] <;> omega)) hS0 ?_
  refine Pl.H.done (by kernel_rfl) (fun A' hA' => ?_)
  rw [Pl.At.ext hA' ((((((((((((hA.put 5 _).put 6 _).put 7 _).put 8 _).put 9 _).put 10 _).put 11 _).put 12 _).put 13 _).put 14 _).put 15 _).put 16 _)]
  exact hend (fun d => if d = 5 then .int .i64 (z : Nat) else if d = 6 then .pointer (some ⟨p, 0, none⟩) else if d = 7 then .pointer (some ⟨p, 0, none⟩) else if d = 8 then .pointer (some ⟨p, 0, none⟩) else if d = 9 then .slice a len cap else if d = 10 then .int .i64 (len : Nat) else if d = 11 then .pointer (some ⟨p, 0, none⟩) else if d = 12 then .pointer (some ⟨p, 0, none⟩) else if d = 13 then .pointer (some ⟨p, 1, none⟩) else if d = 14 then .int .i64 (q : Nat) else if d = 15 then .int .i64 ((len : Int) - (q : Int)) else undef) _ rfl

set_option maxHeartbeats 2000000 in
set_option maxRecDepth 100000 in
theorem next1b (w : World) (p : Nat) (a : Option Addr) (len cap q z : Nat) (hr : Rd w p a len cap q) (hq : q ≤ len) (hl : len ≤ 9223372036854775807) (hz : z ≤ len - q)
    {Q : Exit → Act → World → Prop} {A : Act} (hsz : A.tmps.size = 41) (hdf : A.defers = []) (s0 : A.tmps.getD 0 undef = .pointer (some ⟨p, 0, none⟩)) (s1 : A.tmps.getD 1 undef = .int .i64 (z : Nat))
    (hend : ∀ (u : Nat → Value) w', w' = w.drew → Q .normal (((((((((((((A).put (some 5) (u 5)).put (some 6) (u 6)).put (some 7) (u 7)).put (some 8) (u 8)).put (some 9) (u 9)).put (some 10) (u 10)).put (some 11) (u 11)).put (some 12) (u 12)).put (some 13) (u 13)).put (some 14) (u 14)).put (some 15) (u 15)).put (some 16) (.bool false)) w') :
    (Code.region 1 (Pl.find 1 ((Try.f94.body).getD .skip)) true).wp Try.prog Q A w := by
  have hS0 : Rd w.drew p a len cap q := hr
  have hA := Pl.At.same (v := .int .i64 (z : Nat)) (d := 1) (Pl.At.same (v := .pointer (some ⟨p, 0, none⟩)) (d := 0) (Pl.At.here hsz hdf) s0) s1
  refine Pl.H.start (S := fun w' => Rd w' p a len cap q) (by kernel_rfl) hA hS0 ?_
  rw [show (Pl.find 1 ((Try.f94.body).getD .skip)).size = 12 by kernel_rfl]
  refine Pl.H.take 0 5 (.int .i64 (z : Nat)) (by kernel_rfl) (by kernel_rfl) (by kernel_rfl) (Pl.free 0 (by kernel_rfl)) (Pl.move 0 (.tmp 1) (by kernel_rfl) (by decide)) hS0 ?_
  refine Pl.H.take 1 6 (.pointer (some ⟨p, 0, none⟩)) (by kernel_rfl) (by kernel_rfl) (by kernel_rfl) (Pl.free 1 (by kernel_rfl)) (Pl.move 1 (.tmp 0) (by kernel_rfl) (by decide)) hS0 ?_
  refine Pl.H.take 2 7 (.pointer (some ⟨p, 0, none⟩)) (by kernel_rfl) (by kernel_rfl) (by kernel_rfl) (Pl.free 2 (by kernel_rfl)) (Pl.nilc 2 (.tmp 6) _ (by kernel_rfl) (by decide) rfl) hS0 ?_
  refine Pl.H.take 3 8 (.pointer (some ⟨p, 0, none⟩)) (by kernel_rfl) (by kernel_rfl) (by kernel_rfl) (Pl.free 3 (by kernel_rfl)) (Pl.field 3 105 (.tmp 7) 0 _ (by kernel_rfl) (by decide) (field_rd0 p)) hS0 ?_
  refine Pl.H.take 4 9 (.slice a len cap) (by kernel_rfl) (by kernel_rfl) (by kernel_rfl) (Pl.free 4 (by kernel_rfl)) (Pl.load 4 26 (.tmp 8) _ (by kernel_rfl) (by decide) (fun w' hS => load_bytes p 0 _ _ _ w' (Rd.c0 hS))) hS0 ?_
  refine Pl.H.take 5 10 (.int .i64 (len : Nat)) (by kernel_rfl) (by kernel_rfl) (by kernel_rfl) (Pl.free 5 (by kernel_rfl)) (Pl.lenOf 5 26 (.tmp 9) _ (by kernel_rfl) (by decide) (fun ty w => len_bytes a len cap ty w)) hS0 ?_
  refine Pl.H.take 6 11 (.pointer (some ⟨p, 0, none⟩)) (by kernel_rfl) (by kernel_rfl) (by kernel_rfl) (Pl.free 6 (by kernel_rfl)) (Pl.move 6 (.tmp 0) (by kernel_rfl) (by decide)) hS0 ?_
  refine Pl.H.take 7 12 (.pointer (some ⟨p, 0, none⟩)) (by kernel_rfl) (by kernel_rfl) (by kernel_rfl) (Pl.free 7 (by kernel_rfl)) (Pl.nilc 7 (.tmp 11) _ (by kernel_rfl) (by decide) rfl) hS0 ?_
  refine Pl.H.take 8 13 (.pointer (some ⟨p, 1, none⟩)) (by kernel_rfl) (by kernel_rfl) (by kernel_rfl) (Pl.free 8 (by kernel_rfl)) (Pl.field 8 105 (.tmp 12) 1 _ (by kernel_rfl) (by decide) (field_rd1 p)) hS0 ?_
  refine Pl.H.take 9 14 (.int .i64 (q : Nat)) (by kernel_rfl) (by kernel_rfl) (by kernel_rfl) (Pl.free 9 (by kernel_rfl)) (Pl.load 9 3 (.tmp 13) _ (by kernel_rfl) (by decide) (fun w' hS => load_int p 1 _ w' (Rd.c1 hS))) hS0 ?_
  refine Pl.H.take 10 15 (.int .i64 ((len : Int) - (q : Int))) (by kernel_rfl) (by kernel_rfl) (by kernel_rfl) (Pl.free 10 (by kernel_rfl)) (Pl.binV 10 .sub 3 3 (.tmp 10) (.tmp 14) (.int .i64 (len : Nat)) (.int .i64 (q : Nat)) _ (by kernel_rfl) (by decide) (by decide) rfl rfl (sub_int _ _ _ _ (by omega) (by omega))) hS0 ?_
  refine Pl.H.take 11 16 (.bool false) (by kernel_rfl) (by kernel_rfl) (by kernel_rfl) (Pl.free 11 (by kernel_rfl)) (Pl.binV 11 .gtr 3 3 (.tmp 5) (.tmp 15) (.int .i64 (z : Nat)) (.int .i64 ((len : Int) - (q : Int))) _ (by kernel_rfl) (by decide) (by decide) rfl rfl (fun w => by simp [go_sem, eqGuard] <;> omega)) hS0 ?_
  refine Pl.H.done (by kernel_rfl) (fun A' hA' => ?_)
  rw [Pl.At.ext hA' ((((((((((((hA.put 5 _).put 6 _).put 7 _).put 8 _).put 9 _).put 10 _).put 11 _).put 12 _).put 13 _).put 14 _).put 15 _).put 16 _)]
  exact hend (fun d => if d = 5 then .int .i64 (z : Nat) else if d = 6 then .pointer (some ⟨p, 0, none⟩) else if d = 7 then .pointer (some ⟨p, 0, none⟩) else if d = 8 then .pointer (some ⟨p, 0, none⟩) else if d = 9 then .slice a len cap else if d = 10 then .int .i64 (len : Nat) else if d = 11 then .pointer (some ⟨p, 0, none⟩) else if d = 12 then .pointer (some ⟨p, 0, none⟩) else if d = 13 then .pointer (some ⟨p, 1, none⟩) else if d = 14 then .int .i64 (q : Nat) else if d = 15 then .int .i64 ((len : Int) - (q : Int)) else undef) _ rfl

set_option maxHeartbeats 2000000 in
set_option maxRecDepth 100000 in
theorem next4 (w : World) (p : Nat) (a : Option Addr) (len cap q z : Nat) (hr : Rd w p a len cap q) (hz : z ≤ q) (hq : q ≤ len) (hc : len ≤ cap) (hl : len ≤ 9223372036854775807)
    {Q : Exit → Act → World → Prop} {A : Act} (hsz : A.tmps.size = 41) (hdf : A.defers = []) (s0 : A.tmps.getD 0 undef = .pointer (some ⟨p, 0, none⟩)) (s1 : A.tmps.getD 1 undef = .int .i64 (z : Nat))
    (hend : ∀ (u : Nat → Value) w', w' = w.drew → Q .normal (((((((((((((((((A).put (some 26) (u 26)).put (some 27) (u 27)).put (some 28) (u 28)).put (some 29) (u 29)).put (some 30) (u 30)).put (some 31) (u 31)).put (some 32) (u 32)).put (some 33) (u 33)).put (some 34) (u 34)).put (some 35) (u 35)).put (some 36) (u 36)).put (some 37) (u 37)).put (some 38) (u 38)).put (some 39) (u 39)).put (some 40) (u 40)).put (some 4) (.slice (fromA a cap (q - z)) (q - (q - z)) (cap - (q - z)))) w') :
    (Code.region 4 (Pl.find 4 ((Try.f94.body).getD .skip)) true).wp Try.prog Q A w := by
  have hS0 : Rd w.drew p a len cap q := hr
  have hA := Pl.At.same (v := .int .i64 (z : Nat)) (d := 1) (Pl.At.same (v := .pointer (some ⟨p, 0, none⟩)) (d := 0) (Pl.At.here hsz hdf) s0) s1
  refine Pl.H.start (S := fun w' => Rd w' p a len cap q) (by kernel_rfl) hA hS0 ?_
  rw [show (Pl.find 4 ((Try.f94.body).getD .skip)).size = 16 by kernel_rfl]
  refine Pl.H.take 0 26 (.pointer (some ⟨p, 0, none⟩)) (by kernel_rfl) (by kernel_rfl) (by kernel_rfl) (Pl.free 0 (by kernel_rfl)) (Pl.move 0 (.tmp 0) (by kernel_rfl) (by decide)) hS0 ?_
  refine Pl.H.take 1 27 (.pointer (some ⟨p, 0, none⟩)) (by kernel_rfl) (by kernel_rfl) (by kernel_rfl) (Pl.free 1 (by kernel_rfl)) (Pl.nilc 1 (.tmp 26) _ (by kernel_rfl) (by decide) rfl) hS0 ?_
  refine Pl.H.take 2 28 (.pointer (some ⟨p, 0, none⟩)) (by kernel_rfl) (by kernel_rfl) (by kernel_rfl) (Pl.free 2 (by kernel_rfl)) (Pl.field 2 105 (.tmp 27) 0 _ (by kernel_rfl) (by decide) (field_rd0 p)) hS0 ?_
  refine Pl.H.take 3 29 (.slice a len cap) (by kernel_rfl) (by kernel_rfl) (by kernel_rfl) (Pl.free 3 (by kernel_rfl)) (Pl.load 3 26 (.tmp 28) _ (by kernel_rfl) (by decide) (fun w' hS => load_bytes p 0 _ _ _ w' (Rd.c0 hS))) hS0 ?_
  refine Pl.H.take 4 30 (.pointer (some ⟨p, 0, none⟩)) (by kernel_rfl) (by kernel_rfl) (by kernel_rfl) (Pl.free 4 (by kernel_rfl)) (Pl.move 4 (.tmp 0) (by kernel_rfl) (by decide)) hS0 ?_
  refine Pl.H.take 5 31 (.pointer (some ⟨p, 0, none⟩)) (by kernel_rfl) (by kernel_rfl) (by kernel_rfl) (Pl.free 5 (by kernel_rfl)) (Pl.nilc 5 (.tmp 30) _ (by kernel_rfl) (by decide) rfl) hS0 ?_
  refine Pl.H.take 6 32 (.pointer (some ⟨p, 1, none⟩)) (by kernel_rfl) (by kernel_rfl) (by kernel_rfl) (Pl.free 6 (by kernel_rfl)) (Pl.field 6 105 (.tmp 31) 1 _ (by kernel_rfl) (by decide) (field_rd1 p)) hS0 ?_
  refine Pl.H.take 7 33 (.int .i64 (q : Nat)) (by kernel_rfl) (by kernel_rfl) (by kernel_rfl) (Pl.free 7 (by kernel_rfl)) (Pl.load 7 3 (.tmp 32) _ (by kernel_rfl) (by decide) (fun w' hS => load_int p 1 _ w' (Rd.c1 hS))) hS0 ?_
  refine Pl.H.take 8 34 (.int .i64 (z : Nat)) (by kernel_rfl) (by kernel_rfl) (by kernel_rfl) (Pl.free 8 (by kernel_rfl)) (Pl.move 8 (.tmp 1) (by kernel_rfl) (by decide)) hS0 ?_
  refine Pl.H.take 9 35 (.int .i64 ((q - z : Nat) : Int)) (by kernel_rfl) (by kernel_rfl) (by kernel_rfl) (Pl.free 9 (by kernel_rfl)) (Pl.binV 9 .sub 3 3 (.tmp 33) (.tmp 34) (.int .i64 (q : Nat)) (.int .i64 (z : Nat)) _ (by kernel_rfl) (by decide) (by decide) rfl rfl (sub_nat _ _ _ _ hz (by omega))) hS0 ?_
  refine Pl.H.take 10 36 (.pointer (some ⟨p, 0, none⟩)) (by kernel_rfl) (by kernel_rfl) (by kernel_rfl) (Pl.free 10 (by kernel_rfl)) (Pl.move 10 (.tmp 0) (by kernel_rfl) (by decide)) hS0 ?_
  refine Pl.H.take 11 37 (.pointer (some ⟨p, 0, none⟩)) (by kernel_rfl) (by kernel_rfl) (by kernel_rfl) (Pl.free 11 (by kernel_rfl)) (Pl.nilc 11 (.tmp 36) _ (by kernel_rfl) (by decide) rfl) hS0 ?_
  refine Pl.H.take 12 38 (.pointer (some ⟨p, 1, none⟩)) (by kernel_rfl) (by kernel_rfl) (by kernel_rfl) (Pl.free 12 (by kernel_rfl)) (Pl.field 12 105 (.tmp 37) 1 _ (by kernel_rfl) (by decide) (field_rd1 p)) hS0 ?_
  refine Pl.H.take 13 39 (.int .i64 (q : Nat)) (by kernel_rfl) (by kernel_rfl) (by kernel_rfl) (Pl.free 13 (by kernel_rfl)) (Pl.load 13 3 (.tmp 38) _ (by kernel_rfl) (by decide) (fun w' hS => load_int p 1 _ w' (Rd.c1 hS))) hS0 ?_
  refine Pl.H.take 14 40 (.slice (fromA a cap (q - z)) (q - (q - z)) (cap - (q - z))) (by kernel_rfl) (by kernel_rfl) (by kernel_rfl) (Pl.free 14 (by kernel_rfl)) (Pl.slice 14 26 (.tmp 29) (some (.tmp 35)) (some (.tmp 39)) _ (by kernel_rfl) (by decide) (by decide) (by decide) (slice_mid a len cap (q - z) q (by omega) hq hc)) hS0 ?_
  refine Pl.H.take 15 4 (.slice (fromA a cap (q - z)) (q - (q - z)) (cap - (q - z))) (by kernel_rfl) (by kernel_rfl) (by kernel_rfl) (Pl.free 15 (by kernel_rfl)) (Pl.assign 15 (.tmp 40) (by kernel_rfl) (by decide)) hS0 ?_
  refine Pl.H.done (by kernel_rfl) (fun A' hA' => ?_)
  rw [Pl.At.ext hA' ((((((((((((((((hA.put 26 _).put 27 _).put 28 _).put 29 _).put 30 _).put 31 _).put 32 _).put 33 _).put 34 _).put 35 _).put 36 _).put 37 _).put 38 _).put 39 _).put 40 _).put 4 _)]
  exact hend (fun d => if d = 26 then .pointer (some ⟨p, 0, none⟩) else if d = 27 then .pointer (some ⟨p, 0, none⟩) else if d = 28 then .pointer (some ⟨p, 0, none⟩) else if d = 29 then .slice a len cap else if d = 30 then .pointer (some ⟨p, 0, none⟩) else if d = 31 then .pointer (some ⟨p, 0, none⟩) else if d = 32 then .pointer (some ⟨p, 1, none⟩) else if d = 33 then .int .i64 (q : Nat) else if d = 34 then .int .i64 (z : Nat) else if d = 35 then .int .i64 ((q - z : Nat) : Int) else if d = 36 then .pointer (some ⟨p, 0, none⟩) else if d = 37 then .pointer (some ⟨p, 0, none⟩) else if d = 38 then .pointer (some ⟨p, 1, none⟩) else if d = 39 then .int .i64 (q : Nat) else if d = 40 then .slice (fromA a cap (q - z)) (q - (q - z)) (cap - (q - z)) else undef) _ rfl

/-- What the reader throws. -/
def thrown : List PanicEntry := [{ v := .iface 27 (.int .i64 4), recovered := false }]

set_option maxHeartbeats 1000000 in
theorem next_dies (p : Nat) (a : Option Addr) (len cap q z : Nat) (w : World) (hr : Rd w p a len cap q) (hq : q ≤ len) (hl : len ≤ 9223372036854775807) (hz : len - q < z) :
    Calls Try.prog 94 #[.pointer (some ⟨p, 0, none⟩), .int .i64 (z : Nat)] w fun e w' => e = .panicked thrown ∧ Below w.heap.size w w' := by
  have HB : Hid (Below w.heap.size w w.drew) := (Below.refl _ _).drew
  go_enter Try.func94, Try.ntmps94
  go_wp2_with fail
  refine Pl.region_is (ops := Pl.find 1 ((Try.f94.body).getD .skip)) (by kernel_rfl) ?_
  refine next1a w p a len cap q z hr hq hl hz (by rfl) (by rfl) (by rfl) (by rfl) ?_
  intro u w' hw
  subst hw
  simp only [Act.put, List.setIfInBounds_toArray, List.set_cons_zero, List.set_cons_succ]
  go_wp2_with fail
  exact ⟨rfl, rfl, HB.out⟩

set_option maxHeartbeats 1000000 in
theorem next_any (p : Nat) (a : Option Addr) (len cap q z : Nat) (w : World) (hr : Rd w p a len cap q) (hc : len ≤ cap) (hq : q ≤ len) (hl : len ≤ 9223372036854775807) (hz : z ≤ len - q) :
    Calls Try.prog 94 #[.pointer (some ⟨p, 0, none⟩), .int .i64 (z : Nat)] w fun e w' => e = .returned (.slice (fromA a cap q) z (cap - q)) ∧ Only p w w' ∧ Rd w' p a len cap (q + z) := by
  have HR : Hid (Rd w.drew p a len cap q) := hr
  have HN : Hid (Rd (w.drew.setCell ⟨p, 1, none⟩ (.int .i64 ((q : Int) + (z : Int)))) p a len cap (q + z)) := HR.out.set (q + z)
  have HO : Hid (Only p w (w.drew.setCell ⟨p, 1, none⟩ (.int .i64 ((q : Int) + (z : Int)))).drew) := ((Only.refl p w).drew.set 1 _).drew
  go_enter Try.func94, Try.ntmps94
  go_wp2_with fail
  refine Pl.region_is (ops := Pl.find 1 ((Try.f94.body).getD .skip)) (by kernel_rfl) ?_
  refine next1b w p a len cap q z hr hq hl hz (by rfl) (by rfl) (by rfl) (by rfl) ?_
  intro u w' hw
  subst hw
  have c0 := HR.out.c0
  have c1 := HR.out.c1
  have fz := HR.out.fz 1
  simp only [Act.put, List.setIfInBounds_toArray, List.set_cons_zero, List.set_cons_succ]
  clear hr
  have HE : Hid (q + z - (q + z - z) = z ∧ q + z - z = q) := ⟨by omega, by omega⟩
  go_wp2_with fail
  refine Pl.region_is (ops := Pl.find 4 ((Try.f94.body).getD .skip)) (by kernel_rfl) ?_
  refine next4 _ p a len cap (q + z) z HN.out (by omega) (by omega) hc hl (by rfl) (by rfl) (by rfl) (by rfl) ?_
  intro u w' hw
  subst hw
  simp only [Act.put, List.setIfInBounds_toArray, List.set_cons_zero, List.set_cons_succ]
  rw [HE.out.1, HE.out.2]
  go_wp2_with fail
  go_ret
  exact ⟨rfl, HO.out, HN.out⟩

/-- The number of a piece of the row. -/
def pieceN (xs : List Nat) (q z : Nat) : Nat := numB ((xs.drop q).take z)

theorem or_byte (u b : Nat) (hb : b < 256) (hu : u * 256 + b < 18446744073709551616) : bits .or .u64 ((u : Int) * 256) (b : Int) = ((u * 256 + b : Nat) : Int) := by
  have e : bits .or .u64 ((u * 256 : Nat) : Int) (b : Int) = ((u * 256 ||| b : Nat) : Int) := u64_or_nat (u * 256) b (Nat.lt_of_le_of_lt (Nat.le_add_right _ _) hu) (Nat.lt_of_le_of_lt (Nat.le_add_left _ _) hu)
  have e2 := Nat.two_pow_add_eq_or_of_lt (i := 8) (b := b) hb u
  have e3 : u * 256 ||| b = u * 256 + b := by
    rw [Nat.mul_comm u 256]
    exact e2.symm
  have c : ((u : Int) * 256) = ((u * 256 : Nat) : Int) := by simp
  rw [c, e, e3]

set_option maxHeartbeats 1000000 in
theorem bits_any (p : Nat) (a : Option Addr) (len cap q z : Nat) (xs : List Nat) (w : World) (hr : Rd w p a len cap q) (hx : Bs w a len xs) (hp : 0 < len → ∀ b o, a = some ⟨b, o, none⟩ → b ≠ p) (hc : len ≤ cap) (hq : q ≤ len) (hl : len ≤ 9223372036854775807) (hz : z ≤ len - q) (h8 : z ≤ 8) :
    Calls Try.prog 95 #[.pointer (some ⟨p, 0, none⟩), .int .i64 (z : Nat)] w fun e w' => e = .returned (.int .u64 (pieceN xs q z : Nat)) ∧ Only p w w' ∧ Rd w' p a len cap (q + z) := by
  have HN := hide (next_any p a len cap q z w hr hc hq hl hz)
  clear hr
  go_enter Try.func95, Try.ntmps95
  go_wp2_with fail
  refine HN.out.mono ?_
  rintro e w' ⟨rfl, ho, hr'⟩
  have HB : Hid (Bs w' (fromA a cap q) z ((xs.drop q).take z)) := by
    have := hx.mid (cap := cap) (k := q) (j := q + z) (by omega) (by omega) hc
    rw [show q + z - q = z by omega] at this
    refine ⟨this.1, this.2.1, fun i hi => ?_⟩
    obtain ⟨b, off, ha, hcell⟩ := this.2.2 i hi
    refine ⟨b, off, ha, ?_⟩
    have hb : b < w.heap.size := World.block_lt_of_cell? w _ hcell
    have hbp : b ≠ p := by
      obtain ⟨b', o', ha', _⟩ := hx.2.2 q (by omega)
      have : b = b' := by
        rw [ha'] at ha
        unfold fromA at ha
        rw [if_neg (by omega)] at ha
        simp only [Option.map_some, Addr.add_lit, Option.some.injEq, Addr.mk.injEq] at ha
        exact ha.1.symm
      rw [this]
      exact hp (by omega) b' o' ha'
    rw [World.cell?_of_block (w := w) (ho.block b hb hbp)]
    exact hcell
  have HO := hide ho
  have HR := hide hr'
  have HXB : Hid (Bytes ((xs.drop q).take z)) := HB.out.2.1
  have HXL : Hid (((xs.drop q).take z).length = z) := HB.out.1
  clear ho hr' hx
  go_wp2_with fail
  go_loop [5, 12] (fun v i => ∃ j : Nat, j ≤ z ∧ i = .int .i64 j ∧ v = .int .u64 (numB (((xs.drop q).take z).take j) : Nat)) (fun _ i => z - (intOf i).toNat)
  case atStart => exact ⟨0, by omega, rfl, by simp [numB]⟩
  case round =>
    obtain ⟨j, hj, rfl, rfl⟩ := hrel
    rcases Nat.lt_or_ge j z with hlt | hge
    · obtain ⟨b, off, ha, hcell⟩ := HB.out.2.2 j hlt
      obtain ⟨U, hU⟩ : ∃ U, U = numB (((xs.drop q).take z).take j) := ⟨_, rfl⟩
      obtain ⟨y, hy⟩ : ∃ y, y = ((xs.drop q).take z).getD j 0 := ⟨_, rfl⟩
      have hUl : U < 72057594037927936 := by
        have h1 : Bytes (((xs.drop q).take z).take j) := fun x hx => HXB.out x (List.mem_of_mem_take hx)
        have h2 := numB_lt h1
        have h3 : (((xs.drop q).take z).take j).length ≤ 7 := by rw [List.length_take]; omega
        have h4 : 256 ^ (((xs.drop q).take z).take j).length ≤ 256 ^ 7 := Nat.pow_le_pow_right (by decide) h3
        rw [← hU] at h2
        have : (256 : Nat) ^ 7 = 72057594037927936 := by decide
        omega
      have hyl : y < 256 := by rw [hy]; exact getD_lt HXB.out j
      have hor := or_byte U y hyl (by omega)
      have HSN : Hid (numB (((xs.drop q).take z).take (j + 1)) = U * 256 + y) := by
        have hl' : j < ((xs.drop q).take z).length := by rw [HXL.out]; exact hlt
        rw [List.take_succ_eq_append_getElem hl', numB_snoc, ← hU, hy]
        simp only [List.getD, List.getElem?_eq_getElem hl', Option.getD_some]
        trivial
      rw [← hy] at hcell
      rw [← hU, ha]
      have HUU := hide hU
      have HYY := hide hy
      clear hU hy
      go_wp2_with fail
      go_round
      case rel => exact ⟨j + 1, by omega, by go_num, by rw [HSN.out]; simp⟩
      case measure => simp only [intOf]; omega
    · have hjz : j = z := by omega
      subst hjz
      have HE : Hid (numB (((xs.drop q).take j).take j) = pieceN xs q j) := by
        unfold pieceN
        rw [List.take_of_length_le (by rw [HXL.out]; exact Nat.le_refl _)]
        trivial
      rw [HE.out]
      go_wp2_with fail
      go_ret
      exact ⟨rfl, HO.out, HR.out⟩

set_option maxHeartbeats 1000000 in
theorem bits_dies (p : Nat) (a : Option Addr) (len cap q z : Nat) (w : World) (hr : Rd w p a len cap q) (hq : q ≤ len) (hl : len ≤ 9223372036854775807) (hz : len - q < z) :
    Calls Try.prog 95 #[.pointer (some ⟨p, 0, none⟩), .int .i64 (z : Nat)] w fun e w' => e = .panicked thrown ∧ Only p w w' := by
  have HN := hide (next_dies p a len cap q z w hr hq hl hz)
  clear hr
  go_enter Try.func95, Try.ntmps95
  go_wp2_with fail
  refine HN.out.mono ?_
  rintro e w' ⟨rfl, hb⟩
  exact ⟨rfl, rfl, Only.of hb⟩

/-- What is known of the reader and its row. -/
structure RdX (w : World) (p : Nat) (a : Option Addr) (len cap q : Nat) (xs : List Nat) : Prop where
  rd : Rd w p a len cap q
  bs : Bs w a len xs
  ne : 0 < len → ∀ b o, a = some ⟨b, o, none⟩ → b ≠ p
  cap : len ≤ cap
  le : q ≤ len
  big : len ≤ 9223372036854775807

theorem RdX.go {w w' : World} {p : Nat} {a : Option Addr} {len cap q q' : Nat} {xs : List Nat} (h : RdX w p a len cap q xs) (ho : Only p w w') (hr : Rd w' p a len cap q') (hq : q' ≤ len) : RdX w' p a len cap q' xs := by
  refine ⟨hr, ⟨h.bs.1, h.bs.2.1, fun i hi => ?_⟩, h.ne, h.cap, hq, h.big⟩
  obtain ⟨b, off, ha, hc⟩ := h.bs.2.2 i hi
  refine ⟨b, off, ha, ?_⟩
  rw [World.cell?_of_block (w := w) (ho.block b (World.block_lt_of_cell? w _ hc) (h.ne (by omega) b off ha))]
  exact hc

theorem RdX.bits {w : World} {p : Nat} {a : Option Addr} {len cap q : Nat} {xs : List Nat} (h : RdX w p a len cap q xs) {z : Nat} (hz : z ≤ len - q) (h8 : z ≤ 8) :
    Calls Try.prog 95 #[.pointer (some ⟨p, 0, none⟩), .int .i64 (z : Nat)] w fun e w' => e = .returned (.int .u64 (pieceN xs q z : Nat)) ∧ Only p w w' ∧ RdX w' p a len cap (q + z) xs :=
  (bits_any p a len cap q z xs w h.rd h.bs h.ne h.cap h.le h.big hz h8).mono (fun e w' hh => ⟨hh.1, hh.2.1, h.go hh.2.1 hh.2.2 (by have := h.le; omega)⟩)

theorem RdX.dies {w : World} {p : Nat} {a : Option Addr} {len cap q : Nat} {xs : List Nat} (h : RdX w p a len cap q xs) {z : Nat} (hz : len - q < z) :
    Calls Try.prog 95 #[.pointer (some ⟨p, 0, none⟩), .int .i64 (z : Nat)] w fun e w' => e = .panicked thrown ∧ Only p w w' := bits_dies p a len cap q z w h.rd h.le h.big hz

theorem piece_lt {xs : List Nat} (h : Bytes xs) (q z : Nat) (hz : z ≤ 8) : pieceN xs q z < 18446744073709551616 := by
  have h1 : Bytes ((xs.drop q).take z) := fun x hx => h x (List.mem_of_mem_drop (List.mem_of_mem_take hx))
  have h2 := numB_lt h1
  have h3 : ((xs.drop q).take z).length ≤ 8 := by rw [List.length_take]; omega
  have h4 : 256 ^ ((xs.drop q).take z).length ≤ 256 ^ 8 := Nat.pow_le_pow_right (by decide) h3
  have : (256 : Nat) ^ 8 = 18446744073709551616 := by decide
  unfold pieceN
  omega

set_option maxHeartbeats 1000000 in
theorem count_any (p : Nat) (a : Option Addr) (len cap q : Nat) (xs : List Nat) (k : Int) (w : World) (h : RdX w p a len cap q xs) :
    Calls Try.prog 96 #[.pointer (some ⟨p, 0, none⟩), .int .i64 k] w fun e w' => Only p w w' ∧
      ((cntN k ≤ len - q ∧ (pieceN xs q (cntN k) : Int) ≤ maxN k → e = .returned (.int .i64 (pieceN xs q (cntN k) : Nat)) ∧ RdX w' p a len cap (q + cntN k) xs) ∧ (¬ (cntN k ≤ len - q ∧ (pieceN xs q (cntN k) : Int) ≤ maxN k) → e = .panicked thrown)) := by
  have HC : Hid (∀ w, Calls Try.prog 75 #[.int .i64 k] w fun e w' => e = .returned (.int .i64 (cntN k : Nat)) ∧ w' = w) := countSize_any k
  have HM : Hid (∀ w, Calls Try.prog 87 #[.int .i64 k] w fun e w' => e = .returned (.int .i64 (maxN k)) ∧ w' = w) := maxCount_any k
  rcases Nat.lt_or_ge (len - q) (cntN k) with hs | hs
  · have HD := hide (h.dies hs)
    have HF : Hid (¬ (cntN k ≤ len - q ∧ (pieceN xs q (cntN k) : Int) ≤ maxN k)) := fun hh => by omega
    clear h hs
    go_enter Try.func96, Try.ntmps96
    go_wp2_with fail
    refine (HC.out _).mono ?_
    rintro e w' ⟨rfl, hw⟩
    obtain rfl := hw.symm
    go_wp2_with fail
    refine HD.out.mono ?_
    rintro e w' ⟨rfl, ho⟩
    exact ⟨rfl, ho, (fun hh => absurd hh HF.out), fun _ => rfl⟩
  · have HD := hide (h.bits hs (cntN_le k))
    have hpl := piece_lt h.bs.2.1 q (cntN k) (cntN_le k)
    obtain ⟨U, hU⟩ : ∃ U, U = pieceN xs q (cntN k) := ⟨_, rfl⟩
    rw [← hU] at HD hpl ⊢
    have hmx : maxN k = 255 ∨ maxN k = 65535 ∨ maxN k = 2147483647 := by
      unfold maxN
      split
      · exact .inl rfl
      · split
        · exact .inr (.inl rfl)
        · exact .inr (.inr rfl)
    obtain ⟨M, hM, hMl⟩ : ∃ M : Nat, maxN k = (M : Int) ∧ M ≤ 2147483647 := by
      rcases hmx with e | e | e
      · exact ⟨255, e, by omega⟩
      · exact ⟨65535, e, by omega⟩
      · exact ⟨2147483647, e, by omega⟩
    rw [hM] at HM ⊢
    have hcv := conv_u64 M (by omega)
    clear h hU hmx hM
    by_cases hle : U ≤ M
    · have i1 : ¬ (M : Int) < (U : Int) := by omega
      have HT : Hid (cntN k ≤ len - q ∧ (U : Int) ≤ (M : Int)) := ⟨hs, by omega⟩
      have HU : Hid (U ≤ 2147483647) := Nat.le_trans hle hMl
      clear hle hs hpl hMl
      go_enter Try.func96, Try.ntmps96
      go_wp2_with fail
      refine (HC.out _).mono ?_
      rintro e w' ⟨rfl, hw⟩
      obtain rfl := hw.symm
      go_wp2_with fail
      refine HD.out.mono ?_
      rintro e w' ⟨rfl, ho, hx⟩
      have HO := hide ho
      have HX := hide hx
      clear ho hx
      go_wp2_with fail
      refine (HM.out _).mono ?_
      rintro e w2 ⟨rfl, hw⟩
      obtain rfl := hw.symm
      have hU := HU.out
      go_wp2_with fail
      go_ret
      exact ⟨HO.out, fun _ => ⟨rfl, HX.out⟩, fun hh => absurd HT.out hh⟩
    · have i1 : (M : Int) < (U : Int) := by omega
      have HF : Hid (¬ (cntN k ≤ len - q ∧ (U : Int) ≤ (M : Int))) := fun hh => by omega
      clear hle hs hpl hMl
      go_enter Try.func96, Try.ntmps96
      go_wp2_with fail
      refine (HC.out _).mono ?_
      rintro e w' ⟨rfl, hw⟩
      obtain rfl := hw.symm
      go_wp2_with fail
      refine HD.out.mono ?_
      rintro e w' ⟨rfl, ho, hx⟩
      have HO := hide ho
      clear ho hx
      go_wp2_with fail
      refine (HM.out _).mono ?_
      rintro e w2 ⟨rfl, hw⟩
      obtain rfl := hw.symm
      go_wp2_with fail
      exact ⟨rfl, HO.out, (fun hh => absurd hh HF.out), fun _ => rfl⟩

set_option maxHeartbeats 1000000 in
theorem number_any (p : Nat) (a : Option Addr) (len cap q : Nat) (xs : List Nat) (w : World) (h : RdX w p a len cap q xs) :
    Calls Try.prog 93 #[.pointer (some ⟨p, 0, none⟩)] w fun e w' => Only p w w' ∧
      ((8 ≤ len - q ∧ Fl.val (pieceN xs q 8) = pieceN xs q 8 → e = .returned (.float .f64 (pieceN xs q 8)) ∧ RdX w' p a len cap (q + 8) xs) ∧ (¬ (8 ≤ len - q ∧ Fl.val (pieceN xs q 8) = pieceN xs q 8) → e = .panicked thrown)) := by
  rcases Nat.lt_or_ge (len - q) 8 with hs | hs
  · have HD : Hid (Calls Try.prog 95 #[.pointer (some ⟨p, 0, none⟩), .int .i64 8] w fun e w' => e = .panicked thrown ∧ Only p w w') := h.dies hs
    have HF : Hid (¬ (8 ≤ len - q ∧ Fl.val (pieceN xs q 8) = pieceN xs q 8)) := fun hh => by omega
    clear h hs
    go_enter Try.func93, Try.ntmps93
    go_wp2_with fail
    refine HD.out.mono ?_
    rintro e w' ⟨rfl, ho⟩
    exact ⟨rfl, ho, (fun hh => absurd hh HF.out), fun _ => rfl⟩
  · have hpl := piece_lt h.bs.2.1 q 8 (Nat.le_refl _)
    have hd := h.bits hs (Nat.le_refl 8)
    obtain ⟨U, hU⟩ : ∃ U, U = pieceN xs q 8 := ⟨_, rfl⟩
    rw [← hU] at hd hpl ⊢
    have HD : Hid (Calls Try.prog 95 #[.pointer (some ⟨p, 0, none⟩), .int .i64 8] w fun e w' => e = .returned (.int .u64 (U : Nat)) ∧ Only p w w' ∧ RdX w' p a len cap (q + 8) xs) := hd
    have HV : Hid (∀ w, Calls Try.prog 74 #[.float .f64 U] w fun e w' => e = .returned (.float .f64 (Fl.val U)) ∧ w' = w) := value_any U hpl
    have HS : Hid (∀ w, Calls Try.prog 86 #[.float .f64 U, .float .f64 (Fl.val U)] w fun e w' => e = .returned (.bool (U == Fl.val U)) ∧ w' = w) := same_any U (Fl.val U)
    have hfc : ∀ w, (callFunc 69 #[.int .u64 (U : Nat)]).run Try.prog w = .ok (.value (.float .f64 U)) w := from_call (U : Nat)
    clear h hU hpl hd
    by_cases hv : Fl.val U = U
    · have HT : Hid (8 ≤ len - q ∧ Fl.val U = U) := ⟨hs, hv⟩
      have e1 : (U == Fl.val U) = true := by rw [hv]; simp
      rw [e1] at HS
      clear hs hv e1
      go_enter Try.func93, Try.ntmps93
      go_wp2_with fail
      refine HD.out.mono ?_
      rintro e w' ⟨rfl, ho, hx⟩
      have HO := hide ho
      have HX := hide hx
      clear ho hx
      go_wp2_with fail
      refine (HV.out _).mono ?_
      rintro e w2 ⟨rfl, hw⟩
      obtain rfl := hw.symm
      go_wp2_with fail
      refine (HS.out _).mono ?_
      rintro e w2 ⟨rfl, hw⟩
      obtain rfl := hw.symm
      go_wp2_with fail
      go_ret
      exact ⟨HO.out, fun _ => ⟨rfl, HX.out⟩, fun hh => absurd HT.out hh⟩
    · have HF : Hid (¬ (8 ≤ len - q ∧ Fl.val U = U)) := fun hh => hv hh.2
      have e1 : (U == Fl.val U) = false := by
        apply beq_eq_false_iff_ne.2
        exact fun e => hv e.symm
      rw [e1] at HS
      clear hs hv e1
      go_enter Try.func93, Try.ntmps93
      go_wp2_with fail
      refine HD.out.mono ?_
      rintro e w' ⟨rfl, ho, hx⟩
      have HO := hide ho
      clear ho hx
      go_wp2_with fail
      refine (HV.out _).mono ?_
      rintro e w2 ⟨rfl, hw⟩
      obtain rfl := hw.symm
      go_wp2_with fail
      refine (HS.out _).mono ?_
      rintro e w2 ⟨rfl, hw⟩
      obtain rfl := hw.symm
      go_wp2_with fail
      exact ⟨rfl, HO.out, (fun hh => absurd hh HF.out), fun _ => rfl⟩

theorem ItBlk.fz {w : World} {p : Nat} {x : It} (h : ItBlk w p x) (o : Nat) : w.frozen? ⟨p, o, none⟩ = false := frozen_of_row w p _ _ 67 h

theorem blank_keep {w w' : World} {p : Nat} (hp : p < w.heap.size) (ho : Only p (w.alloc (.cells #[.int .i64 0, .int .i64 0, .float .f64 0, .string ⟨#[]⟩] 67)) w') : ItBlk w' w.heap.size ⟨0, 0, 0, ⟨#[]⟩⟩ := by
  have h := itBlk_new w ⟨0, 0, 0, ⟨#[]⟩⟩
  unfold ItBlk at h ⊢
  rw [ho.block w.heap.size (Array.getElem?_eq_some_iff.1 h).1 (by omega)]
  exact h

/-- An item stored where one lay. -/
def setItem (w : World) (g : Nat) (y : It) : World := (((w.setCell ⟨g, 0, none⟩ (.int .i64 y.kind)).setCell ⟨g, 1, none⟩ (.int .i64 y.n)).setCell ⟨g, 2, none⟩ (.float .f64 y.x)).setCell ⟨g, 3, none⟩ (.string y.s)

theorem setItem_blk {w : World} {g : Nat} {x : It} (h : ItBlk w g x) (y : It) : ItBlk (setItem w g y) g y := by
  have h1 := heap_setCell_same w g 0 _ 67 (.int .i64 y.kind) h
  have h2 := heap_setCell_same _ g 1 _ 67 (.int .i64 y.n) h1
  have h3 := heap_setCell_same _ g 2 _ 67 (.float .f64 y.x) h2
  have h4 := heap_setCell_same _ g 3 _ 67 (.string y.s) h3
  unfold ItBlk setItem
  rw [h4]
  simp

theorem setItem_other (w : World) (g : Nat) (y : It) (k : Nat) (hk : k ≠ g) : (setItem w g y).heap[k]? = w.heap[k]? := by
  unfold setItem
  rw [Below.heap_setCell _ ⟨g, 3, none⟩ _ k hk, Below.heap_setCell _ ⟨g, 2, none⟩ _ k hk, Below.heap_setCell _ ⟨g, 1, none⟩ _ k hk, Below.heap_setCell _ ⟨g, 0, none⟩ _ k hk]

theorem setItem_only {p : Nat} {a w : World} (h : Only p a w) (g : Nat) (hg : a.heap.size ≤ g) (y : It) : Only p a (setItem w g y) := by
  have hb : Below g w (setItem w g y) := ((((Below.refl g w).setCell (p := ⟨g, 0, none⟩) (Nat.le_refl _) _).setCell (p := ⟨g, 1, none⟩) (Nat.le_refl _) _).setCell (p := ⟨g, 2, none⟩) (Nat.le_refl _) _).setCell (p := ⟨g, 3, none⟩) (Nat.le_refl _) _
  exact ⟨hb.os.trans h.os, hb.tape.trans h.tape, hb.output.trans h.output, Nat.le_trans h.size hb.size, fun k hk hp => (setItem_other w g y k (by omega)).trans (h.block k hk hp)⟩

theorem item_end {w w' : World} {p : Nat} {a : Option Addr} {len cap q q' : Nat} {xs : List Nat} {z : It} (h : RdX w p a len cap q xs) (ho : Only p w w') (hr : Rd w' p a len cap q') (hq : q' ≤ len) (hg : ItBlk w' w.heap.size z) (y : It) :
    ItBlk (setItem w' w.heap.size y) w.heap.size y ∧ Only p w (setItem w' w.heap.size y) ∧ RdX (setItem w' w.heap.size y) p a len cap q' xs := by
  have h1 := setItem_only ho w.heap.size (Nat.le_refl _) y
  refine ⟨setItem_blk hg y, h1, h.go h1 ?_ hq⟩
  have := h.rd.lt
  exact (setItem_other w' w.heap.size y p (by omega)).trans hr

theorem item_results {W : World} {g : Nat} {y : It} (h : ItBlk W g y) (tmps : Array Value) (ht : tmps.getD 4 undef = .pointer (some ⟨g, 0, none⟩)) : (results Try.f81 tmps).run Try.prog W = .ok y.val W := by
  obtain ⟨c0, c1, c2, c3⟩ := h.at
  have ht2 : tmps[4]?.getD undef = .pointer (some ⟨g, 0, none⟩) := by simpa using ht
  simp [results, Try.results81, ht2, go_sem, c0, c1, c2, c3, It.val]

/-- What a step of the reader does. -/
def Step (p : Nat) (a : Option Addr) (len cap q : Nat) (xs : List Nat) (k : Int) (w : World) (e : Ending) (w' : World) : Prop :=
  Only p w w' ∧ match tk (xs.drop q) k with
    | none => e = .panicked thrown
    | some (i, n) => e = .returned i.val ∧ RdX w' p a len cap (q + n) xs

set_option maxHeartbeats 1000000 in
theorem item_num (p : Nat) (a : Option Addr) (len cap q : Nat) (xs : List Nat) (w : World) (h : RdX w p a len cap q xs) :
    Calls Try.prog 81 #[.pointer (some ⟨p, 0, none⟩), .int .i64 4] w (Step p a len cap q xs 4 w) := by
  have hsf : ∀ (w : World) (a : Addr) (m : Mode) (x : Nat), (store a (.float .f64 x) m).run Try.prog w = stored Try.prog w a (.float .f64 x) m := fun w a m x => run_store Try.prog w a _ m rfl
  have hxl := h.bs.1
  have HN : Hid (∀ o, Calls Try.prog 93 #[.pointer (some ⟨p, 0, none⟩)] (w.alloc o) fun e w' => Only p (w.alloc o) w' ∧
      ((8 ≤ len - q ∧ Fl.val (pieceN xs q 8) = pieceN xs q 8 → e = .returned (.float .f64 (pieceN xs q 8)) ∧ RdX w' p a len cap (q + 8) xs) ∧ (¬ (8 ≤ len - q ∧ Fl.val (pieceN xs q 8) = pieceN xs q 8) → e = .panicked thrown))) :=
    fun o => number_any p a len cap q xs (w.alloc o) (h.go (Only.of (below_alloc w o)) (h.rd.keep (below_alloc w o) (Nat.le_refl _)) h.le)
  have HP : Hid (p < w.heap.size) := h.rd.lt
  by_cases hc : 8 ≤ len - q ∧ Fl.val (pieceN xs q 8) = pieceN xs q 8
  · have HC := hide hc
    have HT : Hid (tk (xs.drop q) 4 = some (⟨4, 0, pieceN xs q 8, noS⟩, 8)) := by
      have h1 : 8 ≤ (xs.drop q).length := by rw [List.length_drop, hxl]; exact hc.1
      have h2 : Fl.val (numB ((xs.drop q).take 8)) = numB ((xs.drop q).take 8) := hc.2
      simp only [tk, if_true]
      rw [if_pos h1, if_pos h2]
      trivial
    have HH := hide h
    clear h hc hxl
    unfold Step
    rw [HT.out]
    go_enter Try.func81, Try.ntmps81
    go_wp2_with fail
    refine (HN.out _).mono ?_
    rintro e w' ⟨ho, hy, hn⟩
    obtain ⟨rfl, hx⟩ := hy HC.out
    have HG := hide (blank_keep HP.out ho)
    have g0 := HG.out.at.p0
    have g1 := HG.out.at.p1
    have g2 := HG.out.at.p2
    have g3 := HG.out.at.p3
    have gz := HG.out.fz
    have HO := hide ((Only.of (below_alloc w _)).trans ho)
    have HX := hide hx
    clear ho hy hn hx
    have HE := hide (item_end HH.out HO.out HX.out.rd HX.out.le HG.out ⟨4, 0, pieceN xs q 8, noS⟩)
    go_wp2_with fail
    refine bodyPost_ret (item_results HE.out.1 _ (by rfl)) rfl ?_
    exact ⟨HE.out.2.1, rfl, HE.out.2.2⟩
  · have HC := hide hc
    have HT : Hid (tk (xs.drop q) 4 = none) := by
      simp only [tk, if_true]
      by_cases h1 : 8 ≤ (xs.drop q).length
      · rw [if_pos h1]
        have h2 : ¬ Fl.val (numB ((xs.drop q).take 8)) = numB ((xs.drop q).take 8) := fun h2 => hc ⟨by rw [List.length_drop, hxl] at h1; exact h1, h2⟩
        rw [if_neg h2]
        trivial
      · rw [if_neg h1]
        trivial
    clear h hc hxl
    unfold Step
    rw [HT.out]
    go_enter Try.func81, Try.ntmps81
    go_wp2_with fail
    refine (HN.out _).mono ?_
    rintro e w' ⟨ho, hy, hn⟩
    obtain rfl := hn HC.out
    exact ⟨rfl, (Only.of (below_alloc w _)).trans ho, rfl⟩

theorem RdX.next {w : World} {p : Nat} {a : Option Addr} {len cap q : Nat} {xs : List Nat} (h : RdX w p a len cap q xs) {z : Nat} (hz : z ≤ len - q) :
    Calls Try.prog 94 #[.pointer (some ⟨p, 0, none⟩), .int .i64 (z : Nat)] w fun e w' => e = .returned (.slice (fromA a cap q) z (cap - q)) ∧ Only p w w' ∧ RdX w' p a len cap (q + z) xs ∧ (convert 26 9 (.slice (fromA a cap q) z (cap - q))).run Try.prog w' = .ok (.string (bstr ((xs.drop q).take z))) w' := by
  refine (next_any p a len cap q z w h.rd h.cap h.le h.big hz).mono ?_
  rintro e w' ⟨he, ho, hr⟩
  have hle := h.le
  have h2 := h.go ho hr (by omega)
  refine ⟨he, ho, h2, ?_⟩
  have hm := h2.bs.mid (cap := cap) (k := q) (j := q + z) (by omega) (by omega) h.cap
  rw [show q + z - q = z by omega] at hm
  exact run_string_of (cap - q) hm

set_option maxHeartbeats 1000000 in
theorem item_text (p : Nat) (a : Option Addr) (len cap q : Nat) (xs : List Nat) (w : World) (h : RdX w p a len cap q xs) :
    Calls Try.prog 81 #[.pointer (some ⟨p, 0, none⟩), .int .i64 5] w (Step p a len cap q xs 5 w) := by
  have hsf : ∀ (w : World) (a : Addr) (m : Mode) (x : Nat), (store a (.float .f64 x) m).run Try.prog w = stored Try.prog w a (.float .f64 x) m := fun w a m x => run_store Try.prog w a _ m rfl
  have hxl := h.bs.1
  have HH := hide h
  have HP : Hid (p < w.heap.size) := h.rd.lt
  have hal : ∀ o, RdX (w.alloc o) p a len cap q xs := fun o => h.go (Only.of (below_alloc w o)) (h.rd.keep (below_alloc w o) (Nat.le_refl _)) h.le
  have hle := h.le
  rcases Nat.lt_or_ge (len - q) 1 with hs | hs
  · have HD : Hid (∀ o, Calls Try.prog 95 #[.pointer (some ⟨p, 0, none⟩), .int .i64 1] (w.alloc o) fun e w' => e = .panicked thrown ∧ Only p (w.alloc o) w') := fun o => (hal o).dies hs
    have HT : Hid (tk (xs.drop q) 5 = none) := by
      have h1 : ¬ 1 ≤ (xs.drop q).length := by rw [List.length_drop, hxl]; omega
      simp only [tk, show ¬ (5 : Int) = 4 by decide, if_false, if_true]
      rw [if_neg h1]
      trivial
    clear h hs hxl hal hle
    unfold Step
    rw [HT.out]
    go_enter Try.func81, Try.ntmps81
    go_wp2_with fail
    refine (HD.out _).mono ?_
    rintro e w' ⟨rfl, ho⟩
    exact ⟨rfl, (Only.of (below_alloc w _)).trans ho, rfl⟩
  · have hpl : pieceN xs q 1 < 256 := by
      have h1 : Bytes ((xs.drop q).take 1) := fun x hx => h.bs.2.1 x (List.mem_of_mem_drop (List.mem_of_mem_take hx))
      have h2 := numB_lt h1
      have h3 : ((xs.drop q).take 1).length ≤ 1 := by rw [List.length_take]; omega
      have h4 : 256 ^ ((xs.drop q).take 1).length ≤ 256 ^ 1 := Nat.pow_le_pow_right (by decide) h3
      unfold pieceN
      omega
    have hb : ∀ o, Calls Try.prog 95 #[.pointer (some ⟨p, 0, none⟩), .int .i64 1] (w.alloc o) fun e w' => e = .returned (.int .u64 (pieceN xs q 1 : Nat)) ∧ Only p (w.alloc o) w' ∧ RdX w' p a len cap (q + 1) xs := fun o => (hal o).bits (z := 1) hs (by decide)
    obtain ⟨U, hU⟩ : ∃ U, U = pieceN xs q 1 := ⟨_, rfl⟩
    rw [← hU] at hpl
    simp only [← hU] at hb
    have HB := hide hb
    have hU' : numB ((xs.drop q).take 1) = U := hU.symm
    rcases Nat.lt_or_ge (len - (q + 1)) U with ht | ht
    · have HT : Hid (tk (xs.drop q) 5 = none) := by
        have h1 : 1 ≤ (xs.drop q).length := by rw [List.length_drop, hxl]; omega
        have h2 : ¬ 1 + U ≤ (xs.drop q).length := by rw [List.length_drop, hxl]; omega
        simp only [tk, show ¬ (5 : Int) = 4 by decide, if_false, if_true]
        rw [if_pos h1, hU', if_neg h2]
        trivial
      have HZ := hide ht
      clear h hs hxl hal hb hU hU' ht hle
      unfold Step
      rw [HT.out]
      go_enter Try.func81, Try.ntmps81
      go_wp2_with fail
      refine (HB.out _).mono ?_
      rintro e w' ⟨rfl, ho, hx⟩
      have HD := hide (next_dies p a len cap (q + 1) U w' hx.rd hx.le hx.big HZ.out)
      have HO := hide ((Only.of (below_alloc w _)).trans ho)
      clear ho hx
      go_wp2_with fail
      refine HD.out.mono ?_
      rintro e w2 ⟨rfl, hb2⟩
      exact ⟨rfl, HO.out.trans (Only.of hb2), rfl⟩
    · have HT : Hid (tk (xs.drop q) 5 = some (⟨5, 0, 0, bstr ((xs.drop (q + 1)).take U)⟩, 1 + U)) := by
        have h1 : 1 ≤ (xs.drop q).length := by rw [List.length_drop, hxl]; omega
        have h2 : 1 + U ≤ (xs.drop q).length := by rw [List.length_drop, hxl]; omega
        simp only [tk, show ¬ (5 : Int) = 4 by decide, if_false, if_true]
        rw [if_pos h1, hU', if_pos h2, List.drop_drop]
        trivial
      have HZ := hide ht
      clear h hs hxl hal hb hU hU' ht hle
      unfold Step
      rw [HT.out]
      go_enter Try.func81, Try.ntmps81
      go_wp2_with fail
      refine (HB.out _).mono ?_
      rintro e w' ⟨rfl, ho, hx⟩
      have HN := hide (hx.next HZ.out)
      have HG := hide (blank_keep HP.out ho)
      have HO := hide ((Only.of (below_alloc w _)).trans ho)
      clear ho hx
      go_wp2_with fail
      refine HN.out.mono ?_
      rintro e w2 ⟨rfl, ho2, hx2, hcv⟩
      have HG2 : Hid (ItBlk w2 w.heap.size ⟨0, 0, 0, ⟨#[]⟩⟩) := by
        have h0 := HG.out
        have hp := HP.out
        unfold ItBlk at h0 ⊢
        rw [ho2.block w.heap.size (Array.getElem?_eq_some_iff.1 h0).1 (by omega)]
        exact h0
      have HO2 := hide (HO.out.trans ho2)
      have HX2 := hide hx2
      have HE := hide (item_end HH.out HO2.out HX2.out.rd HX2.out.le HG2.out ⟨5, 0, 0, bstr ((xs.drop (q + 1)).take U)⟩)
      have g0 := HG2.out.at.p0
      have g1 := HG2.out.at.p1
      have g2 := HG2.out.at.p2
      have g3 := HG2.out.at.p3
      have gz := HG2.out.fz
      clear ho2 hx2
      go_wp2_with fail
      refine bodyPost_ret (item_results HE.out.1 _ (by rfl)) rfl ?_
      refine ⟨HE.out.2.1, rfl, ?_⟩
      have := HE.out.2.2
      rw [Nat.add_assoc] at this
      exact this

theorem tk_cnt {k : Int} (hk : k = 1 ∨ k = 2 ∨ k = 3) (xs : List Nat) : tk xs k = if cntN k ≤ xs.length then (if (numB (xs.take (cntN k)) : Int) ≤ maxN k then some (⟨k, numB (xs.take (cntN k)), 0, noS⟩, cntN k) else none) else none := by
  rcases hk with rfl | rfl | rfl <;> simp [tk]

set_option maxHeartbeats 2000000 in
theorem item_cnt (p : Nat) (a : Option Addr) (len cap q : Nat) (xs : List Nat) (k : Int) (hk : k = 1 ∨ k = 2 ∨ k = 3) (w : World) (h : RdX w p a len cap q xs) :
    Calls Try.prog 81 #[.pointer (some ⟨p, 0, none⟩), .int .i64 k] w (Step p a len cap q xs k w) := by
  have hsf : ∀ (w : World) (a : Addr) (m : Mode) (x : Nat), (store a (.float .f64 x) m).run Try.prog w = stored Try.prog w a (.float .f64 x) m := fun w a m x => run_store Try.prog w a _ m rfl
  have hxl := h.bs.1
  have HH := hide h
  have HP : Hid (p < w.heap.size) := h.rd.lt
  have HN : Hid (∀ o, Calls Try.prog 96 #[.pointer (some ⟨p, 0, none⟩), .int .i64 k] (w.alloc o) fun e w' => Only p (w.alloc o) w' ∧
      ((cntN k ≤ len - q ∧ (pieceN xs q (cntN k) : Int) ≤ maxN k → e = .returned (.int .i64 (pieceN xs q (cntN k) : Nat)) ∧ RdX w' p a len cap (q + cntN k) xs) ∧ (¬ (cntN k ≤ len - q ∧ (pieceN xs q (cntN k) : Int) ≤ maxN k) → e = .panicked thrown))) :=
    fun o => count_any p a len cap q xs k (w.alloc o) (h.go (Only.of (below_alloc w o)) (h.rd.keep (below_alloc w o) (Nat.le_refl _)) h.le)
  have e4 : (k == 4) = false := by rcases hk with rfl | rfl | rfl <;> decide
  have e5 : (k == 5) = false := by rcases hk with rfl | rfl | rfl <;> decide
  by_cases hc : cntN k ≤ len - q ∧ (pieceN xs q (cntN k) : Int) ≤ maxN k
  · have HC := hide hc
    have HT : Hid (tk (xs.drop q) k = some (⟨k, (pieceN xs q (cntN k) : Nat), 0, noS⟩, cntN k)) := by
      have h1 : cntN k ≤ (xs.drop q).length := by rw [List.length_drop, hxl]; exact hc.1
      have h2 : (numB ((xs.drop q).take (cntN k)) : Int) ≤ maxN k := hc.2
      rw [tk_cnt hk, if_pos h1, if_pos h2]
      trivial
    clear h hc hxl hk
    unfold Step
    rw [HT.out]
    go_enter Try.func81, Try.ntmps81
    go_wp2_with fail
    refine (HN.out _).mono ?_
    rintro e w' ⟨ho, hy, hn⟩
    obtain ⟨rfl, hx⟩ := hy HC.out
    have HG := hide (blank_keep HP.out ho)
    have g0 := HG.out.at.p0
    have g1 := HG.out.at.p1
    have g2 := HG.out.at.p2
    have g3 := HG.out.at.p3
    have gz := HG.out.fz
    have HO := hide ((Only.of (below_alloc w _)).trans ho)
    have HX := hide hx
    have HE := hide (item_end HH.out HO.out HX.out.rd HX.out.le HG.out ⟨k, (pieceN xs q (cntN k) : Nat), 0, noS⟩)
    clear ho hy hn hx
    go_wp2_with fail
    refine bodyPost_ret (item_results HE.out.1 _ (by rfl)) rfl ?_
    exact ⟨HE.out.2.1, rfl, HE.out.2.2⟩
  · have HC := hide hc
    have HT : Hid (tk (xs.drop q) k = none) := by
      rw [tk_cnt hk]
      by_cases h1 : cntN k ≤ (xs.drop q).length
      · rw [if_pos h1]
        have h2 : ¬ (numB ((xs.drop q).take (cntN k)) : Int) ≤ maxN k := fun h2 => hc ⟨by rw [List.length_drop, hxl] at h1; exact h1, h2⟩
        rw [if_neg h2]
        trivial
      · rw [if_neg h1]
        trivial
    clear h hc hxl hk
    unfold Step
    rw [HT.out]
    go_enter Try.func81, Try.ntmps81
    go_wp2_with fail
    refine (HN.out _).mono ?_
    rintro e w' ⟨ho, hy, hn⟩
    obtain rfl := hn HC.out
    exact ⟨rfl, (Only.of (below_alloc w _)).trans ho, rfl⟩

theorem item_any (p : Nat) (a : Option Addr) (len cap q : Nat) (xs : List Nat) (k : Int) (hk : 1 ≤ k ∧ k ≤ 5) (w : World) (h : RdX w p a len cap q xs) :
    Calls Try.prog 81 #[.pointer (some ⟨p, 0, none⟩), .int .i64 k] w (Step p a len cap q xs k w) := by
  by_cases h4 : k = 4
  · subst h4
    exact item_num p a len cap q xs w h
  by_cases h5 : k = 5
  · subst h5
    exact item_text p a len cap q xs w h
  exact item_cnt p a len cap q xs k (by omega) w h

end Go.Proofs.Ytdbgbldmjgonjaa
