/-
  Two statements of the laws that leave their order open, each as a whole: every order gives true.
-/
import Derived.Test.YtjoapceffgibcaaIns
import Derived.Test.YtjoapceffgibcaaPlan
namespace Go.Proofs.Ytjoapceffgibcaa
open Go.RowKit

/-- Where a slice begins that is cut at k. -/
def fromA (a : Option Addr) (cap k : Nat) : Option Addr := if cap = k then a else a.map (·.add (k * 1))

theorem sz5 (w : World) : (sizeOf 5).run Try.prog w = .ok 1 w := by
  obtain ⟨i0, hi, hz0, hz1, hz2⟩ := info_parts info5
  simp [sizeOf, typeInfo, hi, hz1]

theorem elem22 : Try.prog.elem 22 = 5 := by kernel_rfl

theorem slice_from (a : Option Addr) (len cap k : Nat) (hk : k ≤ len) (w : World) : (Instr.sliceAt 22 (.slice a len cap) (some (.int .i64 (k : Nat))) none none).run Try.prog w = .ok (.slice (fromA a cap k) (len - k) (cap - k)) w := by
  have h22 : Try.prog.underlying 22 = some (.slice (Try.prog.elem 22)) := by kernel_rfl
  rw [run_sliceAt_slice w 22 _ _ _ _ h22, run_slice_l w 22 a len cap h22 .i64 (k : Nat) (by omega) (by omega), elem22, sz5]
  simp [Result.andThen, sliced, fromA]

theorem slice_upto (a : Option Addr) (len cap k : Nat) (hk : k ≤ cap) (w : World) : (Instr.sliceAt 22 (.slice a len cap) none (some (.int .i64 (k : Nat))) none).run Try.prog w = .ok (.slice (fromA a cap 0) k cap) w := by
  have h22 : Try.prog.underlying 22 = some (.slice (Try.prog.elem 22)) := by kernel_rfl
  rw [run_sliceAt_slice w 22 _ _ _ _ h22, run_slice_h w 22 a len cap h22 .i64 (k : Nat) (by omega) (by omega), elem22, sz5]
  simp [Result.andThen, sliced, fromA]

theorem Bs.from {w : World} {a : Option Addr} {len cap k : Nat} {xs : List Nat} (h : Bs w a len xs) (hk : k ≤ len) (hc : len ≤ cap) : Bs w (fromA a cap k) (len - k) (xs.drop k) := by
  refine ⟨by simp [h.1], fun x hx => h.2.1 x (List.mem_of_mem_drop hx), fun i hi => ?_⟩
  obtain ⟨b, off, rfl, hcell⟩ := h.2.2 (k + i) (by omega)
  refine ⟨b, off + k, ?_, ?_⟩
  · unfold fromA
    rw [if_neg (by omega)]
    simp only [Option.map_some, Nat.mul_one, Addr.add_lit]
  · rw [Nat.add_assoc, hcell]
    simp [List.getD]

theorem Bs.upto {w : World} {a : Option Addr} {len cap k : Nat} {xs : List Nat} (h : Bs w a len xs) (hk : k ≤ len) : Bs w (fromA a cap 0) k (xs.take k) := by
  refine ⟨by simp [h.1, hk], fun x hx => h.2.1 x (List.mem_of_mem_take hx), fun i hi => ?_⟩
  obtain ⟨b, off, rfl, hcell⟩ := h.2.2 i (by omega)
  refine ⟨b, off, ?_, ?_⟩
  · unfold fromA
    split
    · rfl
    · simp only [Option.map_some, Nat.zero_mul, Addr.add_lit, Nat.add_zero]
  · rw [hcell]
    simp [List.getD, hi]

theorem more_cut (a : Option Addr) (len cap k : Nat) (xs : List Nat) (w : World) (h : Bs w a len xs) (hk : k ≤ len) (hc : len ≤ cap) (hl : len ≤ 3000) :
    Calls Try.prog 12 #[.int .u32 (Ta.sum (xs.take k) : Nat), .slice (fromA a cap k) (len - k) (cap - k)] w fun e w' => e = .returned (.int .u32 (Ta.sum xs : Nat)) ∧ w' = w := by
  have hb := h.from (cap := cap) hk hc
  have := more_any (Ta.sum (xs.take k)) (Ta.sum_lt (fun x hx => h.2.1 x (List.mem_of_mem_take hx))) (fromA a cap k) (len - k) (cap - k) (xs.drop k) w hb (by omega)
  have e : Ta.more (Ta.sum (xs.take k)) (xs.drop k) = Ta.sum xs := by
    unfold Ta.sum
    rw [← Ta.more_append, List.take_append_drop]
  rw [e] at this
  exact this

theorem enters7 : ∀ args w, (callFunc 7 args).run Try.prog w = .ok (.enter 7 args) w := Pl.enters Try.func7 (by kernel_rfl) (by kernel_rfl)
theorem enters10 : ∀ args w, (callFunc 10 args).run Try.prog w = .ok (.enter 10 args) w := Pl.enters Try.func10 (by kernel_rfl) (by kernel_rfl)
theorem enters11 : ∀ args w, (callFunc 11 args).run Try.prog w = .ok (.enter 11 args) w := Pl.enters Try.func11 (by kernel_rfl) (by kernel_rfl)
theorem enters12 : ∀ args w, (callFunc 12 args).run Try.prog w = .ok (.enter 12 args) w := Pl.enters Try.func12 (by kernel_rfl) (by kernel_rfl)
theorem enters13 : ∀ args w, (callFunc 13 args).run Try.prog w = .ok (.enter 13 args) w := Pl.enters Try.func13 (by kernel_rfl) (by kernel_rfl)

set_option maxHeartbeats 2000000 in
set_option maxRecDepth 100000 in
theorem opens8 (a a2 : Option Addr) (len cap cap2 : Nat) (ys : List Nat) (w : World) (h4 : 4 ≤ len) (hx : Bs w a2 (len - 4) ys) (ht : Bs w (fromA a cap 4) (len - 4) ys) {Q : Exit → Act → World → Prop} {A : Act}
    (hsz : A.tmps.size = 59) (hdf : A.defers = []) (s0 : A.tmps.getD 0 undef = .slice a len cap) (s3 : A.tmps.getD 3 undef = .slice a2 (len - 4) cap2) (s4 : A.tmps.getD 4 undef = .int .i64 0)
    (hend : ∀ A' w', A'.defers = [] → A'.tmps.getD 2 undef = .bool true → Below w.heap.size w w' → Q .normal A' w') :
    (Code.region 8 (Pl.find 8 ((Try.f4.body).getD .skip)) true).wp Try.prog Q A w := by
  have hS0 : Below w.heap.size w w.drew := (Below.refl _ _).drew
  have hA := Pl.At.same (v := .int .i64 0) (d := 4) (Pl.At.same (v := .slice a2 (len - 4) cap2) (d := 3) (Pl.At.same (v := .slice a len cap) (d := 0) (Pl.At.here hsz hdf) s0) s3) s4
  refine Pl.H.start (S := fun w' => Below w.heap.size w w') (by kernel_rfl) hA hS0 ?_
  rw [show (Pl.find 8 ((Try.f4.body).getD .skip)).size = 14 by kernel_rfl]
  refine Pl.H.take 0 46 (.int .i64 0) (by kernel_rfl) (by kernel_rfl) (by kernel_rfl) (Pl.free 0 (by kernel_rfl)) (Pl.move 0 (.tmp 4) (by kernel_rfl) (by decide)) hS0 ?_
  refine Pl.H.take 1 47 (.bool true) (by kernel_rfl) (by kernel_rfl) (by kernel_rfl) (Pl.free 1 (by kernel_rfl)) (Pl.eqlSame 1 26 26 (.tmp 46) (.const (.int .i64 0)) _ _ (by kernel_rfl) (by decide) (by decide) rfl rfl) hS0 ?_
  refine Pl.H.take 2 48 (.bool true) (by kernel_rfl) (by kernel_rfl) (by kernel_rfl) (Pl.free 2 (by kernel_rfl)) (Pl.move 2 (.tmp 47) (by kernel_rfl) (by decide)) hS0 ?_
  refine Pl.H.take 3 49 (.slice a2 (len - 4) cap2) (by kernel_rfl) (by kernel_rfl) (by kernel_rfl) (Pl.guarded 3 2 48 true (by kernel_rfl) (by kernel_rfl) (by decide) rfl) (Pl.move 3 (.tmp 3) (by kernel_rfl) (by decide)) hS0 ?_
  refine Pl.H.take 4 50 (.string (bstr ys)) (by kernel_rfl) (by kernel_rfl) (by kernel_rfl) (Pl.guarded 4 2 48 true (by kernel_rfl) (by kernel_rfl) (by decide) rfl) (Pl.conv 4 22 9 (.tmp 49) _ (by kernel_rfl) (by decide) (fun w' hS => run_string_of cap2 (hx.keep hS (Nat.le_refl _)))) hS0 ?_
  refine Pl.H.take 5 51 (.slice a len cap) (by kernel_rfl) (by kernel_rfl) (by kernel_rfl) (Pl.guarded 5 2 48 true (by kernel_rfl) (by kernel_rfl) (by decide) rfl) (Pl.move 5 (.tmp 0) (by kernel_rfl) (by decide)) hS0 ?_
  refine Pl.H.take 6 52 (.slice (fromA a cap 4) (len - 4) (cap - 4)) (by kernel_rfl) (by kernel_rfl) (by kernel_rfl) (Pl.guarded 6 2 48 true (by kernel_rfl) (by kernel_rfl) (by decide) rfl) (Pl.slice 6 22 (.tmp 51) (some (.const (.int .i64 4))) none _ (by kernel_rfl) (by decide) (by decide) (by decide) (slice_from a len cap 4 h4)) hS0 ?_
  refine Pl.H.take 7 53 (.string (bstr ys)) (by kernel_rfl) (by kernel_rfl) (by kernel_rfl) (Pl.guarded 7 2 48 true (by kernel_rfl) (by kernel_rfl) (by decide) rfl) (Pl.conv 7 22 9 (.tmp 52) _ (by kernel_rfl) (by decide) (fun w' hS => run_string_of (cap - 4) (ht.keep hS (Nat.le_refl _)))) hS0 ?_
  refine Pl.H.take 8 54 (.bool true) (by kernel_rfl) (by kernel_rfl) (by kernel_rfl) (Pl.guarded 8 2 48 true (by kernel_rfl) (by kernel_rfl) (by decide) rfl) (Pl.eqlStr 8 9 9 (.tmp 50) (.tmp 53) _ (by kernel_rfl) (by decide) (by decide) rfl rfl) hS0 ?_
  refine Pl.H.take 9 55 (.bool true) (by kernel_rfl) (by kernel_rfl) (by kernel_rfl) (Pl.free 9 (by kernel_rfl)) (Pl.pick 9 (.tmp 48) (.tmp 54) (.const (.bool false)) (by kernel_rfl) (by decide) (by decide) rfl) hS0 ?_
  refine Pl.H.take 10 56 (.bool true) (by kernel_rfl) (by kernel_rfl) (by kernel_rfl) (Pl.free 10 (by kernel_rfl)) (Pl.move 10 (.tmp 55) (by kernel_rfl) (by decide)) hS0 ?_
  refine Pl.H.call 11 57 7 [] #[] (by kernel_rfl) (by kernel_rfl) (by kernel_rfl) (Pl.guarded 11 10 56 true (by kernel_rfl) (by kernel_rfl) (by decide) rfl) (by kernel_rfl) (by decide) enters7 (Calls.mono (awake_any w.drew) ?_)
  rintro e w4 ⟨rfl, hb4⟩
  have hS1 : Below w.heap.size w w4 := hS0.trans (hb4.mono hS0.size)
  refine ⟨.bool true, rfl, hS1, ?_⟩
  refine Pl.H.take 12 58 (.bool true) (by kernel_rfl) (by kernel_rfl) (by kernel_rfl) (Pl.free 12 (by kernel_rfl)) (Pl.pick 12 (.tmp 56) (.tmp 57) (.const (.bool false)) (by kernel_rfl) (by decide) (by decide) rfl) hS1 ?_
  refine Pl.H.take 13 2 (.bool true) (by kernel_rfl) (by kernel_rfl) (by kernel_rfl) (Pl.free 13 (by kernel_rfl)) (Pl.assign 13 (.tmp 58) (by kernel_rfl) (by decide)) hS1 ?_
  exact Pl.H.done (by kernel_rfl) (fun A' hA' => hend A' _ hA'.2.1 (hA'.2.2 2 (by decide)) hS1)

set_option maxHeartbeats 2000000 in
set_option maxRecDepth 100000 in
theorem sums6 (a a1 a2 : Option Addr) (len cap cap1 cap2 k : Nat) (xs : List Nat) (w : World) (hl : len ≤ 3000) (hk : k ≤ len) (hc : len ≤ cap) (hn : a = none → cap = 0) (hb : Bs w a len xs) (hs : Bs w a1 (4 + len) (fourB (Ta.sum xs) ++ xs)) (hx : Bs w a2 len xs) {Q : Exit → Act → World → Prop} {A : Act}
    (hsz : A.tmps.size = 68) (hdf : A.defers = []) (s0 : A.tmps.getD 0 undef = .slice a len cap) (s5 : A.tmps.getD 5 undef = .int .i64 (k : Nat)) (s6 : A.tmps.getD 6 undef = .slice a1 (4 + len) cap1) (s7 : A.tmps.getD 7 undef = .slice a2 len cap2) (s8 : A.tmps.getD 8 undef = .int .i64 0)
    (hend : ∀ A' w', A'.defers = [] → A'.tmps.getD 4 undef = .bool true → Below w.heap.size w w' → Q .normal A' w') :
    (Code.region 6 (Pl.find 6 ((Try.f3.body).getD .skip)) true).wp Try.prog Q A w := by
  have hS0 : Below w.heap.size w w.drew := (Below.refl _ _).drew
  have hA := Pl.At.same (v := .int .i64 0) (d := 8) (Pl.At.same (v := .slice a2 len cap2) (d := 7) (Pl.At.same (v := .slice a1 (4 + len) cap1) (d := 6) (Pl.At.same (v := .int .i64 (k : Nat)) (d := 5) (Pl.At.same (v := .slice a len cap) (d := 0) (Pl.At.here hsz hdf) s0) s5) s6) s7) s8
  refine Pl.H.start (S := fun w' => Below w.heap.size w w') (by kernel_rfl) hA hS0 ?_
  rw [show (Pl.find 6 ((Try.f3.body).getD .skip)).size = 41 by kernel_rfl]
  refine Pl.H.take 0 28 (.slice a len cap) (by kernel_rfl) (by kernel_rfl) (by kernel_rfl) (Pl.free 0 (by kernel_rfl)) (Pl.move 0 (.tmp 0) (by kernel_rfl) (by decide)) hS0 ?_
  refine Pl.H.take 2 30 (.slice a len cap) (by kernel_rfl) (by kernel_rfl) (by kernel_rfl) (Pl.free 2 (by kernel_rfl)) (Pl.move 2 (.tmp 0) (by kernel_rfl) (by decide)) hS0 ?_
  refine Pl.H.call 1 29 10 [(.tmp 28)] #[22] (by kernel_rfl) (by kernel_rfl) (by kernel_rfl) (Pl.free 1 (by kernel_rfl)) (by kernel_rfl) (by decide) enters10 (Calls.mono (sum_any a len cap xs w.drew (hb.keep hS0 (Nat.le_refl _)) (by omega)) ?_)
  rintro e w' ⟨rfl, hw⟩
  obtain rfl := hw.symm
  refine ⟨.int .u32 (Ta.sum xs : Nat), rfl, hS0, ?_⟩
  refine Pl.H.call 3 31 11 [(.tmp 30)] #[22] (by kernel_rfl) (by kernel_rfl) (by kernel_rfl) (Pl.free 3 (by kernel_rfl)) (by kernel_rfl) (by decide) enters11 (Calls.mono (rsum_any a len cap xs w.drew (hb.keep hS0 (Nat.le_refl _)) (by omega)) ?_)
  rintro e w' ⟨rfl, hw⟩
  obtain rfl := hw.symm
  refine ⟨.int .u32 (Ta.sum xs : Nat), rfl, hS0, ?_⟩
  refine Pl.H.take 4 32 (.bool true) (by kernel_rfl) (by kernel_rfl) (by kernel_rfl) (Pl.free 4 (by kernel_rfl)) (Pl.eqlSame 4 29 29 (.tmp 29) (.tmp 31) _ _ (by kernel_rfl) (by decide) (by decide) rfl rfl) hS0 ?_
  refine Pl.H.take 5 33 (.bool true) (by kernel_rfl) (by kernel_rfl) (by kernel_rfl) (Pl.free 5 (by kernel_rfl)) (Pl.move 5 (.tmp 32) (by kernel_rfl) (by decide)) hS0 ?_
  refine Pl.H.take 6 34 (.slice a len cap) (by kernel_rfl) (by kernel_rfl) (by kernel_rfl) (Pl.guarded 6 5 33 true (by kernel_rfl) (by kernel_rfl) (by decide) rfl) (Pl.move 6 (.tmp 0) (by kernel_rfl) (by decide)) hS0 ?_
  refine Pl.H.take 7 35 (.int .i64 (k : Nat)) (by kernel_rfl) (by kernel_rfl) (by kernel_rfl) (Pl.guarded 7 5 33 true (by kernel_rfl) (by kernel_rfl) (by decide) rfl) (Pl.move 7 (.tmp 5) (by kernel_rfl) (by decide)) hS0 ?_
  refine Pl.H.take 8 36 (.slice (fromA a cap 0) k cap) (by kernel_rfl) (by kernel_rfl) (by kernel_rfl) (Pl.guarded 8 5 33 true (by kernel_rfl) (by kernel_rfl) (by decide) rfl) (Pl.slice 8 22 (.tmp 34) none (some (.tmp 35)) _ (by kernel_rfl) (by decide) (by decide) (by decide) (slice_upto a len cap k (by omega))) hS0 ?_
  refine Pl.H.take 10 38 (.slice a len cap) (by kernel_rfl) (by kernel_rfl) (by kernel_rfl) (Pl.guarded 10 5 33 true (by kernel_rfl) (by kernel_rfl) (by decide) rfl) (Pl.move 10 (.tmp 0) (by kernel_rfl) (by decide)) hS0 ?_
  refine Pl.H.take 11 39 (.int .i64 (k : Nat)) (by kernel_rfl) (by kernel_rfl) (by kernel_rfl) (Pl.guarded 11 5 33 true (by kernel_rfl) (by kernel_rfl) (by decide) rfl) (Pl.move 11 (.tmp 5) (by kernel_rfl) (by decide)) hS0 ?_
  refine Pl.H.take 12 40 (.slice (fromA a cap k) (len - k) (cap - k)) (by kernel_rfl) (by kernel_rfl) (by kernel_rfl) (Pl.guarded 12 5 33 true (by kernel_rfl) (by kernel_rfl) (by decide) rfl) (Pl.slice 12 22 (.tmp 38) (some (.tmp 39)) none _ (by kernel_rfl) (by decide) (by decide) (by decide) (slice_from a len cap k hk)) hS0 ?_
  refine Pl.H.take 14 42 (.slice a len cap) (by kernel_rfl) (by kernel_rfl) (by kernel_rfl) (Pl.guarded 14 5 33 true (by kernel_rfl) (by kernel_rfl) (by decide) rfl) (Pl.move 14 (.tmp 0) (by kernel_rfl) (by decide)) hS0 ?_
  refine Pl.H.call 9 37 10 [(.tmp 36)] #[22] (by kernel_rfl) (by kernel_rfl) (by kernel_rfl) (Pl.guarded 9 5 33 true (by kernel_rfl) (by kernel_rfl) (by decide) rfl) (by kernel_rfl) (by decide) enters10 (Calls.mono (sum_any (fromA a cap 0) k cap (xs.take k) w.drew (Bs.upto (hb.keep hS0 (Nat.le_refl _)) hk) (by omega)) ?_)
  rintro e w' ⟨rfl, hw⟩
  obtain rfl := hw.symm
  refine ⟨.int .u32 (Ta.sum (xs.take k) : Nat), rfl, hS0, ?_⟩
  refine Pl.H.call 13 41 12 [(.tmp 37), (.tmp 40)] #[29, 22] (by kernel_rfl) (by kernel_rfl) (by kernel_rfl) (Pl.guarded 13 5 33 true (by kernel_rfl) (by kernel_rfl) (by decide) rfl) (by kernel_rfl) (by decide) enters12 (Calls.mono (more_cut a len cap k xs w.drew (hb.keep hS0 (Nat.le_refl _)) hk hc hl) ?_)
  rintro e w' ⟨rfl, hw⟩
  obtain rfl := hw.symm
  refine ⟨.int .u32 (Ta.sum xs : Nat), rfl, hS0, ?_⟩
  refine Pl.H.call 15 43 11 [(.tmp 42)] #[22] (by kernel_rfl) (by kernel_rfl) (by kernel_rfl) (Pl.guarded 15 5 33 true (by kernel_rfl) (by kernel_rfl) (by decide) rfl) (by kernel_rfl) (by decide) enters11 (Calls.mono (rsum_any a len cap xs w.drew (hb.keep hS0 (Nat.le_refl _)) (by omega)) ?_)
  rintro e w' ⟨rfl, hw⟩
  obtain rfl := hw.symm
  refine ⟨.int .u32 (Ta.sum xs : Nat), rfl, hS0, ?_⟩
  refine Pl.H.take 16 44 (.bool true) (by kernel_rfl) (by kernel_rfl) (by kernel_rfl) (Pl.guarded 16 5 33 true (by kernel_rfl) (by kernel_rfl) (by decide) rfl) (Pl.eqlSame 16 29 29 (.tmp 41) (.tmp 43) _ _ (by kernel_rfl) (by decide) (by decide) rfl rfl) hS0 ?_
  refine Pl.H.take 17 45 (.bool true) (by kernel_rfl) (by kernel_rfl) (by kernel_rfl) (Pl.free 17 (by kernel_rfl)) (Pl.pick 17 (.tmp 33) (.tmp 44) (.const (.bool false)) (by kernel_rfl) (by decide) (by decide) rfl) hS0 ?_
  refine Pl.H.take 18 46 (.bool true) (by kernel_rfl) (by kernel_rfl) (by kernel_rfl) (Pl.free 18 (by kernel_rfl)) (Pl.move 18 (.tmp 45) (by kernel_rfl) (by decide)) hS0 ?_
  refine Pl.H.take 19 47 (.slice a1 (4 + len) cap1) (by kernel_rfl) (by kernel_rfl) (by kernel_rfl) (Pl.guarded 19 18 46 true (by kernel_rfl) (by kernel_rfl) (by decide) rfl) (Pl.move 19 (.tmp 6) (by kernel_rfl) (by decide)) hS0 ?_
  refine Pl.H.take 20 48 (.string (bstr (fourB (Ta.sum xs) ++ xs))) (by kernel_rfl) (by kernel_rfl) (by kernel_rfl) (Pl.guarded 20 18 46 true (by kernel_rfl) (by kernel_rfl) (by decide) rfl) (Pl.conv 20 22 9 (.tmp 47) _ (by kernel_rfl) (by decide) (fun w' hS => run_string_of cap1 (hs.keep hS (Nat.le_refl _)))) hS0 ?_
  refine Pl.H.take 21 49 (.slice a len cap) (by kernel_rfl) (by kernel_rfl) (by kernel_rfl) (Pl.guarded 21 18 46 true (by kernel_rfl) (by kernel_rfl) (by decide) rfl) (Pl.move 21 (.tmp 0) (by kernel_rfl) (by decide)) hS0 ?_
  refine Pl.H.call 22 50 13 [(.tmp 49)] #[22] (by kernel_rfl) (by kernel_rfl) (by kernel_rfl) (Pl.guarded 22 18 46 true (by kernel_rfl) (by kernel_rfl) (by decide) rfl) (by kernel_rfl) (by decide) enters13 (Calls.mono (rseal_str w a len cap xs hb a len xs hb (by omega) w.drew hS0 cap hn) ?_)
  rintro e w3 ⟨g3, c3, rfl, hs3, _, hS1⟩
  refine ⟨.slice (some ⟨g3, 0, none⟩) (4 + len) c3, rfl, hS1, ?_⟩
  refine Pl.H.solo 23 51 (.string (bstr (fourB (Ta.sum xs) ++ xs))) (by kernel_rfl) (by kernel_rfl) (by kernel_rfl) (Pl.guarded 23 18 46 true (by kernel_rfl) (by kernel_rfl) (by decide) rfl) (Pl.conv1 23 22 9 (.tmp 50) _ (by kernel_rfl) (by decide) (hs3)) hS1 ?_
  refine Pl.H.take 24 52 (.bool true) (by kernel_rfl) (by kernel_rfl) (by kernel_rfl) (Pl.guarded 24 18 46 true (by kernel_rfl) (by kernel_rfl) (by decide) rfl) (Pl.eqlStr 24 9 9 (.tmp 48) (.tmp 51) _ (by kernel_rfl) (by decide) (by decide) rfl rfl) hS1 ?_
  refine Pl.H.take 25 53 (.bool true) (by kernel_rfl) (by kernel_rfl) (by kernel_rfl) (Pl.free 25 (by kernel_rfl)) (Pl.pick 25 (.tmp 46) (.tmp 52) (.const (.bool false)) (by kernel_rfl) (by decide) (by decide) rfl) hS1 ?_
  refine Pl.H.take 26 54 (.bool true) (by kernel_rfl) (by kernel_rfl) (by kernel_rfl) (Pl.free 26 (by kernel_rfl)) (Pl.move 26 (.tmp 53) (by kernel_rfl) (by decide)) hS1 ?_
  refine Pl.H.take 27 55 (.int .i64 0) (by kernel_rfl) (by kernel_rfl) (by kernel_rfl) (Pl.guarded 27 26 54 true (by kernel_rfl) (by kernel_rfl) (by decide) rfl) (Pl.move 27 (.tmp 8) (by kernel_rfl) (by decide)) hS1 ?_
  refine Pl.H.take 28 56 (.bool true) (by kernel_rfl) (by kernel_rfl) (by kernel_rfl) (Pl.guarded 28 26 54 true (by kernel_rfl) (by kernel_rfl) (by decide) rfl) (Pl.eqlSame 28 26 26 (.tmp 55) (.const (.int .i64 0)) _ _ (by kernel_rfl) (by decide) (by decide) rfl rfl) hS1 ?_
  refine Pl.H.take 29 57 (.bool true) (by kernel_rfl) (by kernel_rfl) (by kernel_rfl) (Pl.free 29 (by kernel_rfl)) (Pl.pick 29 (.tmp 54) (.tmp 56) (.const (.bool false)) (by kernel_rfl) (by decide) (by decide) rfl) hS1 ?_
  refine Pl.H.take 30 58 (.bool true) (by kernel_rfl) (by kernel_rfl) (by kernel_rfl) (Pl.free 30 (by kernel_rfl)) (Pl.move 30 (.tmp 57) (by kernel_rfl) (by decide)) hS1 ?_
  refine Pl.H.take 31 59 (.slice a2 len cap2) (by kernel_rfl) (by kernel_rfl) (by kernel_rfl) (Pl.guarded 31 30 58 true (by kernel_rfl) (by kernel_rfl) (by decide) rfl) (Pl.move 31 (.tmp 7) (by kernel_rfl) (by decide)) hS1 ?_
  refine Pl.H.take 32 60 (.string (bstr xs)) (by kernel_rfl) (by kernel_rfl) (by kernel_rfl) (Pl.guarded 32 30 58 true (by kernel_rfl) (by kernel_rfl) (by decide) rfl) (Pl.conv 32 22 9 (.tmp 59) _ (by kernel_rfl) (by decide) (fun w' hS => run_string_of cap2 (hx.keep hS (Nat.le_refl _)))) hS1 ?_
  refine Pl.H.take 33 61 (.slice a len cap) (by kernel_rfl) (by kernel_rfl) (by kernel_rfl) (Pl.guarded 33 30 58 true (by kernel_rfl) (by kernel_rfl) (by decide) rfl) (Pl.move 33 (.tmp 0) (by kernel_rfl) (by decide)) hS1 ?_
  refine Pl.H.take 34 62 (.string (bstr xs)) (by kernel_rfl) (by kernel_rfl) (by kernel_rfl) (Pl.guarded 34 30 58 true (by kernel_rfl) (by kernel_rfl) (by decide) rfl) (Pl.conv 34 22 9 (.tmp 61) _ (by kernel_rfl) (by decide) (fun w' hS => run_string_of cap (hb.keep hS (Nat.le_refl _)))) hS1 ?_
  refine Pl.H.take 35 63 (.bool true) (by kernel_rfl) (by kernel_rfl) (by kernel_rfl) (Pl.guarded 35 30 58 true (by kernel_rfl) (by kernel_rfl) (by decide) rfl) (Pl.eqlStr 35 9 9 (.tmp 60) (.tmp 62) _ (by kernel_rfl) (by decide) (by decide) rfl rfl) hS1 ?_
  refine Pl.H.take 36 64 (.bool true) (by kernel_rfl) (by kernel_rfl) (by kernel_rfl) (Pl.free 36 (by kernel_rfl)) (Pl.pick 36 (.tmp 58) (.tmp 63) (.const (.bool false)) (by kernel_rfl) (by decide) (by decide) rfl) hS1 ?_
  refine Pl.H.take 37 65 (.bool true) (by kernel_rfl) (by kernel_rfl) (by kernel_rfl) (Pl.free 37 (by kernel_rfl)) (Pl.move 37 (.tmp 64) (by kernel_rfl) (by decide)) hS1 ?_
  refine Pl.H.call 38 66 7 [] #[] (by kernel_rfl) (by kernel_rfl) (by kernel_rfl) (Pl.guarded 38 37 65 true (by kernel_rfl) (by kernel_rfl) (by decide) rfl) (by kernel_rfl) (by decide) enters7 (Calls.mono (awake_any w3) ?_)
  rintro e w4 ⟨rfl, hb4⟩
  have hS2 : Below w.heap.size w w4 := hS1.trans (hb4.mono hS1.size)
  refine ⟨.bool true, rfl, hS2, ?_⟩
  refine Pl.H.take 39 67 (.bool true) (by kernel_rfl) (by kernel_rfl) (by kernel_rfl) (Pl.free 39 (by kernel_rfl)) (Pl.pick 39 (.tmp 65) (.tmp 66) (.const (.bool false)) (by kernel_rfl) (by decide) (by decide) rfl) hS2 ?_
  refine Pl.H.take 40 4 (.bool true) (by kernel_rfl) (by kernel_rfl) (by kernel_rfl) (Pl.free 40 (by kernel_rfl)) (Pl.assign 40 (.tmp 67) (by kernel_rfl) (by decide)) hS2 ?_
  exact Pl.H.done (by kernel_rfl) (fun A' hA' => hend A' _ hA'.2.1 (hA'.2.2 4 (by decide)) hS2)
end Go.Proofs.Ytjoapceffgibcaa
