/-
  Layer 6: drawn regions of First, the program's and the document's.
-/
import Derived.Test.YtjgeiooblcpiaaaRdE
namespace Go.Proofs.Ytjgeiooblcpiaaa
open Go.RowKit

theorem below_drew (w : World) : Below w.heap.size w w.drew := (Below.refl _ _).drew
theorem shl8 (a : Nat) (x y : Operand) (h2 : a < 256) (w : World) : (do eqGuard .shl 3 x y (.int .i64 (a : Nat)) (.int .u64 8); binOp .shl 3 (.int .i64 (a : Nat)) (.int .u64 8) : Sem Value).run Try.prog w = .ok (.int .i64 ((a * 256 : Nat) : Int)) w := by
  have e : IntKind.i64.wrap ((a : Int) * 256) = ((a * 256 : Nat) : Int) := by rw [IntKind.wrap_i64]; omega
  simp [go_sem, eqGuard, e]
theorem mid26 {w : World} {b o len cap : Nat} {xs : List Nat} (h : Bs w (some ⟨b, o, none⟩) len xs) (h6 : 6 ≤ len) (hc : len ≤ cap) : Bs w (Sl.mid ⟨some ⟨b, o, none⟩, len, cap⟩ 2 6).a (Sl.mid ⟨some ⟨b, o, none⟩, len, cap⟩ 2 6).len ((xs.drop 2).take 4) := by
  refine ⟨by have := h.1; show _ = 6 - 2; simp only [List.length_take, List.length_drop]; omega, fun z hz => h.2.1 z (List.mem_of_mem_drop (List.mem_of_mem_take hz)), fun i hi => ⟨b, o + 2, ?_, ?_⟩⟩
  · show fromA (some ⟨b, o, none⟩) cap 2 = _
    unfold fromA
    rw [if_neg (by omega), Nat.mul_one, Option.map_some, Addr.add_lit]
  · have hi' : i < 4 := hi
    rw [Nat.add_assoc, h.at (2 + i) (by omega)]
    simp [List.getD, hi']
theorem entSum2 : ∀ args w, (callFunc 27 args).run Try.prog w = .ok (.enter 27 args) w := Pl.enters Try.func27 (by kernel_rfl) (by kernel_rfl)
theorem entFour : ∀ args w, (callFunc 26 args).run Try.prog w = .ok (.enter 26 args) w := Pl.enters Try.func26 (by kernel_rfl) (by kernel_rfl)
theorem entMay : ∀ args w, (callFunc 12 args).run Try.prog w = .ok (.enter 12 args) w := Pl.enters Try.func12 (by kernel_rfl) (by kernel_rfl)
theorem entRecord : ∀ args w, (callFunc 14 args).run Try.prog w = .ok (.enter 14 args) w := Pl.enters Try.func14 (by kernel_rfl) (by kernel_rfl)

set_option maxHeartbeats 2000000 in
set_option maxRecDepth 100000 in
theorem fst3 (w : World) (b o len cap : Nat) (xs : List Nat) (hB : Bs w.drew (some ⟨b, o, none⟩) len xs) (h2 : 2 ≤ len)
    {Q : Exit → Act → World → Prop} {A : Act} (hsz : A.tmps.size = 47) (hdf : A.defers = []) (s0 : A.tmps.getD 0 undef = .slice (some ⟨b, o, none⟩) len cap)
    (hend : ∀ (u : Nat → Value) w', w' = w.drew → Q .normal (((((((((((((A).put (some 12) (u 12)).put (some 13) (u 13)).put (some 14) (u 14)).put (some 15) (u 15)).put (some 16) (u 16)).put (some 17) (u 17)).put (some 18) (u 18)).put (some 19) (u 19)).put (some 20) (u 20)).put (some 21) (u 21)).put (some 22) (u 22)).put (some 5) (.int .i64 ((2 + xs.getD 0 0 * 256 + xs.getD 1 0 : Nat) : Int))) w') :
    (Code.region 3 (Pl.find 3 ((Try.f13.body).getD .skip)) true).wp Try.prog Q A w := by
  have hA := Pl.At.same (v := .slice (some ⟨b, o, none⟩) len cap) (d := 0) (Pl.At.here hsz hdf) s0
  refine Pl.H.start (S := (fun w' => Bs w' (some ⟨b, o, none⟩) len xs)) (by kernel_rfl) hA hB ?_
  rw [show (Pl.find 3 ((Try.f13.body).getD .skip)).size = 12 by kernel_rfl]
  refine Pl.H.take 0 12 (.slice (some ⟨b, o, none⟩) len cap) (by kernel_rfl) (by kernel_rfl) (by kernel_rfl) (Pl.free 0 (by kernel_rfl)) (Pl.move 0 (.tmp 0) (by kernel_rfl) (by decide)) hB ?_
  refine Pl.H.take 1 13 (.pointer (some ⟨b, o + 0, none⟩)) (by kernel_rfl) (by kernel_rfl) (by kernel_rfl) (Pl.free 1 (by kernel_rfl)) (Pl.index 1 24 (.tmp 12) (.const (.int .i64 0)) _ (by kernel_rfl) (by decide) (by decide) (ixB b o len cap 0 (by omega))) hB ?_
  refine Pl.H.take 2 14 (.int .u8 ((xs.getD 0 0 : Nat) : Int)) (by kernel_rfl) (by kernel_rfl) (by kernel_rfl) (Pl.free 2 (by kernel_rfl)) (Pl.load 2 5 (.tmp 13) _ (by kernel_rfl) (by decide) (fun w' hS => ldB _ _ _ w' (hS.at 0 (by omega)))) hB ?_
  refine Pl.H.take 3 15 (.int .i64 ((xs.getD 0 0 : Nat) : Int)) (by kernel_rfl) (by kernel_rfl) (by kernel_rfl) (Pl.free 3 (by kernel_rfl)) (Pl.convV 3 5 3 (.tmp 14) (.int .u8 ((xs.getD 0 0 : Nat) : Int)) _ (by kernel_rfl) (by decide) rfl (fun w _ => cv_b _ (getD_lt hB.2.1 0) w)) hB ?_
  refine Pl.H.take 4 16 (.int .i64 ((xs.getD 0 0 * 256 : Nat) : Int)) (by kernel_rfl) (by kernel_rfl) (by kernel_rfl) (Pl.free 4 (by kernel_rfl)) (Pl.binV 4 .shl 3 51 (.tmp 15) (.const (.int .u64 8)) (.int .i64 ((xs.getD 0 0 : Nat) : Int)) (.int .u64 8) _ (by kernel_rfl) (by decide) (by decide) rfl rfl (shl8 _ _ _ (getD_lt hB.2.1 0))) hB ?_
  refine Pl.H.take 5 17 (.int .i64 ((2 + xs.getD 0 0 * 256 : Nat) : Int)) (by kernel_rfl) (by kernel_rfl) (by kernel_rfl) (Pl.free 5 (by kernel_rfl)) (Pl.binV 5 .add 3 3 (.const (.int .i64 2)) (.tmp 16) (.int .i64 2) (.int .i64 ((xs.getD 0 0 * 256 : Nat) : Int)) _ (by kernel_rfl) (by decide) (by decide) rfl rfl (addN 2 _ _ _ (by have := getD_lt hB.2.1 0; omega))) hB ?_
  refine Pl.H.take 6 18 (.slice (some ⟨b, o, none⟩) len cap) (by kernel_rfl) (by kernel_rfl) (by kernel_rfl) (Pl.free 6 (by kernel_rfl)) (Pl.move 6 (.tmp 0) (by kernel_rfl) (by decide)) hB ?_
  refine Pl.H.take 7 19 (.pointer (some ⟨b, o + 1, none⟩)) (by kernel_rfl) (by kernel_rfl) (by kernel_rfl) (Pl.free 7 (by kernel_rfl)) (Pl.index 7 24 (.tmp 18) (.const (.int .i64 1)) _ (by kernel_rfl) (by decide) (by decide) (ixB b o len cap 1 (by omega))) hB ?_
  refine Pl.H.take 8 20 (.int .u8 ((xs.getD 1 0 : Nat) : Int)) (by kernel_rfl) (by kernel_rfl) (by kernel_rfl) (Pl.free 8 (by kernel_rfl)) (Pl.load 8 5 (.tmp 19) _ (by kernel_rfl) (by decide) (fun w' hS => ldB _ _ _ w' (hS.at 1 (by omega)))) hB ?_
  refine Pl.H.take 9 21 (.int .i64 ((xs.getD 1 0 : Nat) : Int)) (by kernel_rfl) (by kernel_rfl) (by kernel_rfl) (Pl.free 9 (by kernel_rfl)) (Pl.convV 9 5 3 (.tmp 20) (.int .u8 ((xs.getD 1 0 : Nat) : Int)) _ (by kernel_rfl) (by decide) rfl (fun w _ => cv_b _ (getD_lt hB.2.1 1) w)) hB ?_
  refine Pl.H.take 10 22 (.int .i64 ((2 + xs.getD 0 0 * 256 + xs.getD 1 0 : Nat) : Int)) (by kernel_rfl) (by kernel_rfl) (by kernel_rfl) (Pl.free 10 (by kernel_rfl)) (Pl.binV 10 .add 3 3 (.tmp 17) (.tmp 21) (.int .i64 ((2 + xs.getD 0 0 * 256 : Nat) : Int)) (.int .i64 ((xs.getD 1 0 : Nat) : Int)) _ (by kernel_rfl) (by decide) (by decide) rfl rfl (addN _ _ _ _ (by have := getD_lt hB.2.1 0; have := getD_lt hB.2.1 1; omega))) hB ?_
  refine Pl.H.take 11 5 (.int .i64 ((2 + xs.getD 0 0 * 256 + xs.getD 1 0 : Nat) : Int)) (by kernel_rfl) (by kernel_rfl) (by kernel_rfl) (Pl.free 11 (by kernel_rfl)) (Pl.assign 11 (.tmp 22) (by kernel_rfl) (by decide)) hB ?_
  refine Pl.H.done (by kernel_rfl) (fun A' hA' => ?_)
  rw [Pl.At.ext hA' ((((((((((((hA.put 12 _).put 13 _).put 14 _).put 15 _).put 16 _).put 17 _).put 18 _).put 19 _).put 20 _).put 21 _).put 22 _).put 5 _)]
  exact hend (fun d => if d = 12 then .slice (some ⟨b, o, none⟩) len cap else if d = 13 then .pointer (some ⟨b, o + 0, none⟩) else if d = 14 then .int .u8 ((xs.getD 0 0 : Nat) : Int) else if d = 15 then .int .i64 ((xs.getD 0 0 : Nat) : Int) else if d = 16 then .int .i64 ((xs.getD 0 0 * 256 : Nat) : Int) else if d = 17 then .int .i64 ((2 + xs.getD 0 0 * 256 : Nat) : Int) else if d = 18 then .slice (some ⟨b, o, none⟩) len cap else if d = 19 then .pointer (some ⟨b, o + 1, none⟩) else if d = 20 then .int .u8 ((xs.getD 1 0 : Nat) : Int) else if d = 21 then .int .i64 ((xs.getD 1 0 : Nat) : Int) else if d = 22 then .int .i64 ((2 + xs.getD 0 0 * 256 + xs.getD 1 0 : Nat) : Int) else undef) _ rfl

set_option maxHeartbeats 2000000 in
set_option maxRecDepth 100000 in
theorem rfst3 (w : World) (b o len cap : Nat) (xs : List Nat) (hB : Bs w.drew (some ⟨b, o, none⟩) len xs) (h2 : 2 ≤ len)
    {Q : Exit → Act → World → Prop} {A : Act} (hsz : A.tmps.size = 83) (hdf : A.defers = []) (s0 : A.tmps.getD 0 undef = .slice (some ⟨b, o, none⟩) len cap)
    (hend : ∀ (u : Nat → Value) w', w' = w.drew → Q .normal ((((((((((((A).put (some 12) (u 12)).put (some 13) (u 13)).put (some 14) (u 14)).put (some 15) (u 15)).put (some 16) (u 16)).put (some 17) (u 17)).put (some 18) (u 18)).put (some 19) (u 19)).put (some 20) (u 20)).put (some 21) (u 21)).put (some 5) (.int .i64 ((xs.getD 0 0 * 256 + xs.getD 1 0 : Nat) : Int))) w') :
    (Code.region 3 (Pl.find 3 ((Try.f16.body).getD .skip)) true).wp Try.prog Q A w := by
  have hA := Pl.At.same (v := .slice (some ⟨b, o, none⟩) len cap) (d := 0) (Pl.At.here hsz hdf) s0
  refine Pl.H.start (S := (fun w' => Bs w' (some ⟨b, o, none⟩) len xs)) (by kernel_rfl) hA hB ?_
  rw [show (Pl.find 3 ((Try.f16.body).getD .skip)).size = 11 by kernel_rfl]
  refine Pl.H.take 0 12 (.slice (some ⟨b, o, none⟩) len cap) (by kernel_rfl) (by kernel_rfl) (by kernel_rfl) (Pl.free 0 (by kernel_rfl)) (Pl.move 0 (.tmp 0) (by kernel_rfl) (by decide)) hB ?_
  refine Pl.H.take 1 13 (.pointer (some ⟨b, o + 0, none⟩)) (by kernel_rfl) (by kernel_rfl) (by kernel_rfl) (Pl.free 1 (by kernel_rfl)) (Pl.index 1 24 (.tmp 12) (.const (.int .i64 0)) _ (by kernel_rfl) (by decide) (by decide) (ixB b o len cap 0 (by omega))) hB ?_
  refine Pl.H.take 2 14 (.int .u8 ((xs.getD 0 0 : Nat) : Int)) (by kernel_rfl) (by kernel_rfl) (by kernel_rfl) (Pl.free 2 (by kernel_rfl)) (Pl.load 2 5 (.tmp 13) _ (by kernel_rfl) (by decide) (fun w' hS => ldB _ _ _ w' (hS.at 0 (by omega)))) hB ?_
  refine Pl.H.take 3 15 (.int .i64 ((xs.getD 0 0 : Nat) : Int)) (by kernel_rfl) (by kernel_rfl) (by kernel_rfl) (Pl.free 3 (by kernel_rfl)) (Pl.convV 3 5 3 (.tmp 14) (.int .u8 ((xs.getD 0 0 : Nat) : Int)) _ (by kernel_rfl) (by decide) rfl (fun w _ => cv_b _ (getD_lt hB.2.1 0) w)) hB ?_
  refine Pl.H.take 4 16 (.int .i64 ((xs.getD 0 0 * 256 : Nat) : Int)) (by kernel_rfl) (by kernel_rfl) (by kernel_rfl) (Pl.free 4 (by kernel_rfl)) (Pl.binV 4 .mul 3 3 (.tmp 15) (.const (.int .i64 256)) (.int .i64 ((xs.getD 0 0 : Nat) : Int)) (.int .i64 256) _ (by kernel_rfl) (by decide) (by decide) rfl rfl (mulN _ 256 _ _ (by have := getD_lt hB.2.1 0; omega))) hB ?_
  refine Pl.H.take 5 17 (.slice (some ⟨b, o, none⟩) len cap) (by kernel_rfl) (by kernel_rfl) (by kernel_rfl) (Pl.free 5 (by kernel_rfl)) (Pl.move 5 (.tmp 0) (by kernel_rfl) (by decide)) hB ?_
  refine Pl.H.take 6 18 (.pointer (some ⟨b, o + 1, none⟩)) (by kernel_rfl) (by kernel_rfl) (by kernel_rfl) (Pl.free 6 (by kernel_rfl)) (Pl.index 6 24 (.tmp 17) (.const (.int .i64 1)) _ (by kernel_rfl) (by decide) (by decide) (ixB b o len cap 1 (by omega))) hB ?_
  refine Pl.H.take 7 19 (.int .u8 ((xs.getD 1 0 : Nat) : Int)) (by kernel_rfl) (by kernel_rfl) (by kernel_rfl) (Pl.free 7 (by kernel_rfl)) (Pl.load 7 5 (.tmp 18) _ (by kernel_rfl) (by decide) (fun w' hS => ldB _ _ _ w' (hS.at 1 (by omega)))) hB ?_
  refine Pl.H.take 8 20 (.int .i64 ((xs.getD 1 0 : Nat) : Int)) (by kernel_rfl) (by kernel_rfl) (by kernel_rfl) (Pl.free 8 (by kernel_rfl)) (Pl.convV 8 5 3 (.tmp 19) (.int .u8 ((xs.getD 1 0 : Nat) : Int)) _ (by kernel_rfl) (by decide) rfl (fun w _ => cv_b _ (getD_lt hB.2.1 1) w)) hB ?_
  refine Pl.H.take 9 21 (.int .i64 ((xs.getD 0 0 * 256 + xs.getD 1 0 : Nat) : Int)) (by kernel_rfl) (by kernel_rfl) (by kernel_rfl) (Pl.free 9 (by kernel_rfl)) (Pl.binV 9 .add 3 3 (.tmp 16) (.tmp 20) (.int .i64 ((xs.getD 0 0 * 256 : Nat) : Int)) (.int .i64 ((xs.getD 1 0 : Nat) : Int)) _ (by kernel_rfl) (by decide) (by decide) rfl rfl (addN _ _ _ _ (by have := getD_lt hB.2.1 0; have := getD_lt hB.2.1 1; omega))) hB ?_
  refine Pl.H.take 10 5 (.int .i64 ((xs.getD 0 0 * 256 + xs.getD 1 0 : Nat) : Int)) (by kernel_rfl) (by kernel_rfl) (by kernel_rfl) (Pl.free 10 (by kernel_rfl)) (Pl.assign 10 (.tmp 21) (by kernel_rfl) (by decide)) hB ?_
  refine Pl.H.done (by kernel_rfl) (fun A' hA' => ?_)
  rw [Pl.At.ext hA' (((((((((((hA.put 12 _).put 13 _).put 14 _).put 15 _).put 16 _).put 17 _).put 18 _).put 19 _).put 20 _).put 21 _).put 5 _)]
  exact hend (fun d => if d = 12 then .slice (some ⟨b, o, none⟩) len cap else if d = 13 then .pointer (some ⟨b, o + 0, none⟩) else if d = 14 then .int .u8 ((xs.getD 0 0 : Nat) : Int) else if d = 15 then .int .i64 ((xs.getD 0 0 : Nat) : Int) else if d = 16 then .int .i64 ((xs.getD 0 0 * 256 : Nat) : Int) else if d = 17 then .slice (some ⟨b, o, none⟩) len cap else if d = 18 then .pointer (some ⟨b, o + 1, none⟩) else if d = 19 then .int .u8 ((xs.getD 1 0 : Nat) : Int) else if d = 20 then .int .i64 ((xs.getD 1 0 : Nat) : Int) else if d = 21 then .int .i64 ((xs.getD 0 0 * 256 + xs.getD 1 0 : Nat) : Int) else undef) _ rfl

set_option maxHeartbeats 2000000 in
set_option maxRecDepth 100000 in
theorem rfst7A (w : World) (b o len cap : Nat) (xs ys : List Nat) (x6 : Sl) (hB : Bs w.drew (some ⟨b, o, none⟩) len xs) (h6 : 6 ≤ len) (hc : len ≤ cap) (hy : Ta.Bytes ys) (hsum : Calls Try.prog 27 #[x6.val] w.drew fun e w' => e = .returned (.int .u32 (Ta.sum ys : Nat)) ∧ w' = w.drew) (hne : (fourB (Ta.sum ys)) ≠ ((xs.drop 2).take 4))
    {Q : Exit → Act → World → Prop} {A : Act} (hsz : A.tmps.size = 83) (hdf : A.defers = []) (s0 : A.tmps.getD 0 undef = .slice (some ⟨b, o, none⟩) len cap) (s6 : A.tmps.getD 6 undef = Sl.val x6)
    (hend : ∀ (u : Nat → Value) w', Below w.heap.size w w' → Q .normal (((((((((A).put (some 35) (u 35)).put (some 39) (u 39)).put (some 40) (u 40)).put (some 41) (u 41)).put (some 36) (u 36)).put (some 37) (u 37)).put (some 38) (u 38)).put (some 42) (.bool true)) w') :
    (Code.region 7 (Pl.find 7 ((Try.f16.body).getD .skip)) true).wp Try.prog Q A w := by
  have hA := Pl.At.same (v := Sl.val x6) (d := 6) (Pl.At.same (v := .slice (some ⟨b, o, none⟩) len cap) (d := 0) (Pl.At.here hsz hdf) s0) s6
  refine Pl.H.start (S := (fun w' => Bs w' (some ⟨b, o, none⟩) len xs)) (by kernel_rfl) hA hB ?_
  rw [show (Pl.find 7 ((Try.f16.body).getD .skip)).size = 8 by kernel_rfl]
  refine Pl.H.take 0 35 (Sl.val x6) (by kernel_rfl) (by kernel_rfl) (by kernel_rfl) (Pl.free 0 (by kernel_rfl)) (Pl.move 0 (.tmp 6) (by kernel_rfl) (by decide)) hB ?_
  refine Pl.H.take 4 39 (.slice (some ⟨b, o, none⟩) len cap) (by kernel_rfl) (by kernel_rfl) (by kernel_rfl) (Pl.free 4 (by kernel_rfl)) (Pl.move 4 (.tmp 0) (by kernel_rfl) (by decide)) hB ?_
  refine Pl.H.take 5 40 (Sl.val (Sl.mid ⟨some ⟨b, o, none⟩, len, cap⟩ 2 6)) (by kernel_rfl) (by kernel_rfl) (by kernel_rfl) (Pl.free 5 (by kernel_rfl)) (Pl.slice 5 24 (.tmp 39) (some (.const (.int .i64 2))) (some (.const (.int .i64 6))) _ (by kernel_rfl) (by decide) (by decide) (by decide) (slice_mid _ len cap 2 6 (by omega) (by omega))) hB ?_
  refine Pl.H.take 6 41 (.string (bstr ((xs.drop 2).take 4))) (by kernel_rfl) (by kernel_rfl) (by kernel_rfl) (Pl.free 6 (by kernel_rfl)) (Pl.convV 6 24 9 (.tmp 40) (Sl.val (Sl.mid ⟨some ⟨b, o, none⟩, len, cap⟩ 2 6)) _ (by kernel_rfl) (by decide) rfl (fun w' hS => run_string_of _ (mid26 hS (by omega) hc))) hB ?_
  refine Pl.H.call 1 36 27 [(.tmp 35)] #[24] (by kernel_rfl) (by kernel_rfl) (by kernel_rfl) (Pl.free 1 (by kernel_rfl)) (by kernel_rfl) (by decide) entSum2 (Calls.mono (hsum) ?_)
  rintro e w2 ⟨rfl, hw2⟩
  obtain rfl := hw2.symm
  refine ⟨.int .u32 ((Ta.sum ys : Nat) : Int), rfl, hB, ?_⟩
  refine Pl.H.call 2 37 26 [(.tmp 36)] #[49] (by kernel_rfl) (by kernel_rfl) (by kernel_rfl) (Pl.free 2 (by kernel_rfl)) (by kernel_rfl) (by decide) entFour (Calls.mono (four_any (Ta.sum ys) (Ta.sum_lt hy) w.drew) ?_)
  rintro e w3 ⟨rfl, rfl⟩
  refine ⟨.slice (some ⟨w.drew.heap.size, 0, none⟩) 4 4, rfl, (hB.keep (below_alloc w.drew _) (Nat.le_refl _)), ?_⟩
  refine Pl.H.solo 3 38 (.string (bstr (fourB (Ta.sum ys)))) (by kernel_rfl) (by kernel_rfl) (by kernel_rfl) (Pl.free 3 (by kernel_rfl)) (Pl.conv1 3 24 9 (.tmp 37) _ (by kernel_rfl) (by decide) (run_string_of 4 (bs_marked w.drew (fourB (Ta.sum ys)) (0, 0) (fourB_bytes (Ta.sum_lt hy))))) (hB.keep (below_alloc w.drew _) (Nat.le_refl _)) ?_
  refine Pl.H.take 7 42 (.bool true) (by kernel_rfl) (by kernel_rfl) (by kernel_rfl) (Pl.free 7 (by kernel_rfl)) (Pl.binV 7 .neq 9 9 (.tmp 38) (.tmp 41) (.string (bstr (fourB (Ta.sum ys)))) (.string (bstr ((xs.drop 2).take 4))) _ (by kernel_rfl) (by decide) (by decide) rfl rfl (neqStrD _ _ (fourB_bytes (Ta.sum_lt hy)) (fun z hz => hB.2.1 z (List.mem_of_mem_drop (List.mem_of_mem_take hz))) hne _ _)) (hB.keep (below_alloc w.drew _) (Nat.le_refl _)) ?_
  refine Pl.H.done (by kernel_rfl) (fun A' hA' => ?_)
  rw [Pl.At.ext hA' ((((((((hA.put 35 _).put 39 _).put 40 _).put 41 _).put 36 _).put 37 _).put 38 _).put 42 _)]
  exact hend (fun d => if d = 35 then Sl.val x6 else if d = 39 then .slice (some ⟨b, o, none⟩) len cap else if d = 40 then Sl.val (Sl.mid ⟨some ⟨b, o, none⟩, len, cap⟩ 2 6) else if d = 41 then .string (bstr ((xs.drop 2).take 4)) else if d = 36 then .int .u32 ((Ta.sum ys : Nat) : Int) else if d = 37 then .slice (some ⟨w.drew.heap.size, 0, none⟩) 4 4 else if d = 38 then .string (bstr (fourB (Ta.sum ys))) else undef) _ (rBelow (below_drew w) (below_alloc w.drew _))

set_option maxHeartbeats 2000000 in
set_option maxRecDepth 100000 in
theorem rfst7B (w : World) (b o len cap : Nat) (xs ys : List Nat) (x6 : Sl) (hB : Bs w.drew (some ⟨b, o, none⟩) len xs) (h6 : 6 ≤ len) (hc : len ≤ cap) (hy : Ta.Bytes ys) (hsum : Calls Try.prog 27 #[x6.val] w.drew fun e w' => e = .returned (.int .u32 (Ta.sum ys : Nat)) ∧ w' = w.drew) (heq : (fourB (Ta.sum ys)) = ((xs.drop 2).take 4))
    {Q : Exit → Act → World → Prop} {A : Act} (hsz : A.tmps.size = 83) (hdf : A.defers = []) (s0 : A.tmps.getD 0 undef = .slice (some ⟨b, o, none⟩) len cap) (s6 : A.tmps.getD 6 undef = Sl.val x6)
    (hend : ∀ (u : Nat → Value) w', Below w.heap.size w w' → Q .normal (((((((((A).put (some 35) (u 35)).put (some 39) (u 39)).put (some 40) (u 40)).put (some 41) (u 41)).put (some 36) (u 36)).put (some 37) (u 37)).put (some 38) (u 38)).put (some 42) (.bool false)) w') :
    (Code.region 7 (Pl.find 7 ((Try.f16.body).getD .skip)) true).wp Try.prog Q A w := by
  have hA := Pl.At.same (v := Sl.val x6) (d := 6) (Pl.At.same (v := .slice (some ⟨b, o, none⟩) len cap) (d := 0) (Pl.At.here hsz hdf) s0) s6
  refine Pl.H.start (S := (fun w' => Bs w' (some ⟨b, o, none⟩) len xs)) (by kernel_rfl) hA hB ?_
  rw [show (Pl.find 7 ((Try.f16.body).getD .skip)).size = 8 by kernel_rfl]
  refine Pl.H.take 0 35 (Sl.val x6) (by kernel_rfl) (by kernel_rfl) (by kernel_rfl) (Pl.free 0 (by kernel_rfl)) (Pl.move 0 (.tmp 6) (by kernel_rfl) (by decide)) hB ?_
  refine Pl.H.take 4 39 (.slice (some ⟨b, o, none⟩) len cap) (by kernel_rfl) (by kernel_rfl) (by kernel_rfl) (Pl.free 4 (by kernel_rfl)) (Pl.move 4 (.tmp 0) (by kernel_rfl) (by decide)) hB ?_
  refine Pl.H.take 5 40 (Sl.val (Sl.mid ⟨some ⟨b, o, none⟩, len, cap⟩ 2 6)) (by kernel_rfl) (by kernel_rfl) (by kernel_rfl) (Pl.free 5 (by kernel_rfl)) (Pl.slice 5 24 (.tmp 39) (some (.const (.int .i64 2))) (some (.const (.int .i64 6))) _ (by kernel_rfl) (by decide) (by decide) (by decide) (slice_mid _ len cap 2 6 (by omega) (by omega))) hB ?_
  refine Pl.H.take 6 41 (.string (bstr (fourB (Ta.sum ys)))) (by kernel_rfl) (by kernel_rfl) (by kernel_rfl) (Pl.free 6 (by kernel_rfl)) (Pl.convV 6 24 9 (.tmp 40) (Sl.val (Sl.mid ⟨some ⟨b, o, none⟩, len, cap⟩ 2 6)) _ (by kernel_rfl) (by decide) rfl (fun w' hS => by rw [heq]; exact run_string_of _ (mid26 hS (by omega) hc))) hB ?_
  refine Pl.H.call 1 36 27 [(.tmp 35)] #[24] (by kernel_rfl) (by kernel_rfl) (by kernel_rfl) (Pl.free 1 (by kernel_rfl)) (by kernel_rfl) (by decide) entSum2 (Calls.mono (hsum) ?_)
  rintro e w2 ⟨rfl, hw2⟩
  obtain rfl := hw2.symm
  refine ⟨.int .u32 ((Ta.sum ys : Nat) : Int), rfl, hB, ?_⟩
  refine Pl.H.call 2 37 26 [(.tmp 36)] #[49] (by kernel_rfl) (by kernel_rfl) (by kernel_rfl) (Pl.free 2 (by kernel_rfl)) (by kernel_rfl) (by decide) entFour (Calls.mono (four_any (Ta.sum ys) (Ta.sum_lt hy) w.drew) ?_)
  rintro e w3 ⟨rfl, rfl⟩
  refine ⟨.slice (some ⟨w.drew.heap.size, 0, none⟩) 4 4, rfl, (hB.keep (below_alloc w.drew _) (Nat.le_refl _)), ?_⟩
  refine Pl.H.solo 3 38 (.string (bstr (fourB (Ta.sum ys)))) (by kernel_rfl) (by kernel_rfl) (by kernel_rfl) (Pl.free 3 (by kernel_rfl)) (Pl.conv1 3 24 9 (.tmp 37) _ (by kernel_rfl) (by decide) (run_string_of 4 (bs_marked w.drew (fourB (Ta.sum ys)) (0, 0) (fourB_bytes (Ta.sum_lt hy))))) (hB.keep (below_alloc w.drew _) (Nat.le_refl _)) ?_
  refine Pl.H.take 7 42 (.bool false) (by kernel_rfl) (by kernel_rfl) (by kernel_rfl) (Pl.free 7 (by kernel_rfl)) (Pl.binV 7 .neq 9 9 (.tmp 38) (.tmp 41) (.string (bstr (fourB (Ta.sum ys)))) (.string (bstr (fourB (Ta.sum ys)))) _ (by kernel_rfl) (by decide) (by decide) rfl rfl (neqStrS _ _ _)) (hB.keep (below_alloc w.drew _) (Nat.le_refl _)) ?_
  refine Pl.H.done (by kernel_rfl) (fun A' hA' => ?_)
  rw [Pl.At.ext hA' ((((((((hA.put 35 _).put 39 _).put 40 _).put 41 _).put 36 _).put 37 _).put 38 _).put 42 _)]
  exact hend (fun d => if d = 35 then Sl.val x6 else if d = 39 then .slice (some ⟨b, o, none⟩) len cap else if d = 40 then Sl.val (Sl.mid ⟨some ⟨b, o, none⟩, len, cap⟩ 2 6) else if d = 41 then .string (bstr (fourB (Ta.sum ys))) else if d = 36 then .int .u32 ((Ta.sum ys : Nat) : Int) else if d = 37 then .slice (some ⟨w.drew.heap.size, 0, none⟩) 4 4 else if d = 38 then .string (bstr (fourB (Ta.sum ys))) else undef) _ (rBelow (below_drew w) (below_alloc w.drew _))

set_option maxHeartbeats 2000000 in
set_option maxRecDepth 100000 in
theorem rfst14A (w : World) (b o len cap n : Nat) (xs : List Nat) (v : Sl) (hB : Bs w.drew (some ⟨b, o, none⟩) len xs) (hmay : Calls Try.prog 12 #[v.val] w.drew fun e w' => e = .returned (.bool false) ∧ Below w.drew.heap.size w.drew w')  
    {Q : Exit → Act → World → Prop} {A : Act} (hsz : A.tmps.size = 83) (hdf : A.defers = []) (s0 : A.tmps.getD 0 undef = .slice (some ⟨b, o, none⟩) len cap) (s5 : A.tmps.getD 5 undef = .int .i64 ((n : Nat) : Int)) (s7 : A.tmps.getD 7 undef = Sl.val v)
    (hend : ∀ (u : Nat → Value) w', Below w.heap.size w w' → Q .normal (((((((((((((((A).put (some 66) (u 66)).put (some 67) (u 67)).put (some 68) (u 68)).put (some 69) (u 69)).put (some 70) (u 70)).put (some 71) (u 71)).put (some 72) (u 72)).put (some 73) (u 73)).put (some 74) (u 74)).put (some 75) (u 75)).put (some 76) (u 76)).put (some 77) (u 77)).put (some 78) (u 78)).put (some 79) (.bool true)) w') :
    (Code.region 14 (Pl.find 14 ((Try.f16.body).getD .skip)) true).wp Try.prog Q A w := by
  have hA := Pl.At.same (v := Sl.val v) (d := 7) (Pl.At.same (v := .int .i64 ((n : Nat) : Int)) (d := 5) (Pl.At.same (v := .slice (some ⟨b, o, none⟩) len cap) (d := 0) (Pl.At.here hsz hdf) s0) s5) s7
  refine Pl.H.start (S := (fun w' => Bs w' (some ⟨b, o, none⟩) len xs)) (by kernel_rfl) hA hB ?_
  rw [show (Pl.find 14 ((Try.f16.body).getD .skip)).size = 14 by kernel_rfl]
  refine Pl.H.take 0 66 (Sl.val v) (by kernel_rfl) (by kernel_rfl) (by kernel_rfl) (Pl.free 0 (by kernel_rfl)) (Pl.move 0 (.tmp 7) (by kernel_rfl) (by decide)) hB ?_
  refine Pl.H.call 1 67 12 [(.tmp 66)] #[25] (by kernel_rfl) (by kernel_rfl) (by kernel_rfl) (Pl.free 1 (by kernel_rfl)) (by kernel_rfl) (by decide) entMay (Calls.mono (hmay) ?_)
  rintro e w2 ⟨rfl, hb2⟩
  refine ⟨.bool false, rfl, (hB.keep hb2 (Nat.le_refl _)), ?_⟩
  refine Pl.H.take 2 68 (.bool true) (by kernel_rfl) (by kernel_rfl) (by kernel_rfl) (Pl.free 2 (by kernel_rfl)) (Pl.neg 2 4 (.tmp 67) false (by kernel_rfl) (by decide) rfl) (hB.keep hb2 (Nat.le_refl _)) ?_
  refine Pl.H.take 3 69 (.bool true) (by kernel_rfl) (by kernel_rfl) (by kernel_rfl) (Pl.free 3 (by kernel_rfl)) (Pl.move 3 (.tmp 68) (by kernel_rfl) (by decide)) (hB.keep hb2 (Nat.le_refl _)) ?_
  refine Pl.H.skip 4 70 (by kernel_rfl) (by kernel_rfl) (by kernel_rfl) (Pl.unwanted 4 3 69 false (by kernel_rfl) (by kernel_rfl) (by decide) rfl) (hB.keep hb2 (Nat.le_refl _)) ?_
  refine Pl.H.skip 5 71 (by kernel_rfl) (by kernel_rfl) (by kernel_rfl) (Pl.unwanted 5 3 69 false (by kernel_rfl) (by kernel_rfl) (by decide) rfl) (hB.keep hb2 (Nat.le_refl _)) ?_
  refine Pl.H.skip 6 72 (by kernel_rfl) (by kernel_rfl) (by kernel_rfl) (Pl.unwanted 6 3 69 false (by kernel_rfl) (by kernel_rfl) (by decide) rfl) (hB.keep hb2 (Nat.le_refl _)) ?_
  refine Pl.H.skip 7 73 (by kernel_rfl) (by kernel_rfl) (by kernel_rfl) (Pl.unwanted 7 3 69 false (by kernel_rfl) (by kernel_rfl) (by decide) rfl) (hB.keep hb2 (Nat.le_refl _)) ?_
  refine Pl.H.skip 8 74 (by kernel_rfl) (by kernel_rfl) (by kernel_rfl) (Pl.unwanted 8 3 69 false (by kernel_rfl) (by kernel_rfl) (by decide) rfl) (hB.keep hb2 (Nat.le_refl _)) ?_
  refine Pl.H.skip 9 75 (by kernel_rfl) (by kernel_rfl) (by kernel_rfl) (Pl.unwanted 9 3 69 false (by kernel_rfl) (by kernel_rfl) (by decide) rfl) (hB.keep hb2 (Nat.le_refl _)) ?_
  refine Pl.H.skip 10 76 (by kernel_rfl) (by kernel_rfl) (by kernel_rfl) (Pl.unwanted 10 3 69 false (by kernel_rfl) (by kernel_rfl) (by decide) rfl) (hB.keep hb2 (Nat.le_refl _)) ?_
  refine Pl.H.skip 11 77 (by kernel_rfl) (by kernel_rfl) (by kernel_rfl) (Pl.unwanted 11 3 69 false (by kernel_rfl) (by kernel_rfl) (by decide) rfl) (hB.keep hb2 (Nat.le_refl _)) ?_
  refine Pl.H.skip 12 78 (by kernel_rfl) (by kernel_rfl) (by kernel_rfl) (Pl.unwanted 12 3 69 false (by kernel_rfl) (by kernel_rfl) (by decide) rfl) (hB.keep hb2 (Nat.le_refl _)) ?_
  refine Pl.H.take 13 79 (.bool true) (by kernel_rfl) (by kernel_rfl) (by kernel_rfl) (Pl.free 13 (by kernel_rfl)) (Pl.pick 13 (.tmp 69) (.const (.bool true)) (.tmp 78) (by kernel_rfl) (by decide) (by decide) rfl) (hB.keep hb2 (Nat.le_refl _)) ?_
  refine Pl.H.done (by kernel_rfl) (fun A' hA' => ?_)
  rw [Pl.At.ext hA' ((((((((((((((hA.put 66 _).put 67 _).put 68 _).put 69 _).put 70 _).put 71 _).put 72 _).put 73 _).put 74 _).put 75 _).put 76 _).put 77 _).put 78 _).put 79 _)]
  exact hend (fun d => if d = 66 then Sl.val v else if d = 67 then .bool false else if d = 68 then .bool true else if d = 69 then .bool true else if d = 70 then undef else if d = 71 then undef else if d = 72 then undef else if d = 73 then undef else if d = 74 then undef else if d = 75 then undef else if d = 76 then undef else if d = 77 then undef else if d = 78 then undef else undef) _ (rBelow (below_drew w) hb2)

set_option maxHeartbeats 2000000 in
set_option maxRecDepth 100000 in
theorem rfst14B (w : World) (b o len cap n : Nat) (xs : List Nat) (v : Sl) (l : List Ix) (hB : Bs w.drew (some ⟨b, o, none⟩) len xs) (hmay : Calls Try.prog 12 #[v.val] w.drew fun e w' => e = .returned (.bool true) ∧ Below w.drew.heap.size w.drew w') (hrb : Bytes (recd (ims l))) (hrl : (recd (ims l)).length ≤ 100000) (hrec : ∀ w2, Below w.drew.heap.size w.drew w2 → Calls Try.prog 14 #[v.val] w2 fun e w' => ∃ r, e = .returned r ∧ Owns w' w2.heap.size r (recd (ims l)) ∧ Below w2.heap.size w2 w') (hn : 2 + n ≤ len) (hc : len ≤ cap) (hbig : len ≤ 1000000) (hne : (recd (ims l)) ≠ (xs.take (2 + n)))
    {Q : Exit → Act → World → Prop} {A : Act} (hsz : A.tmps.size = 83) (hdf : A.defers = []) (s0 : A.tmps.getD 0 undef = .slice (some ⟨b, o, none⟩) len cap) (s5 : A.tmps.getD 5 undef = .int .i64 ((n : Nat) : Int)) (s7 : A.tmps.getD 7 undef = Sl.val v)
    (hend : ∀ (u : Nat → Value) w', Below w.heap.size w w' → Q .normal (((((((((((((((A).put (some 66) (u 66)).put (some 67) (u 67)).put (some 68) (u 68)).put (some 69) (u 69)).put (some 70) (u 70)).put (some 73) (u 73)).put (some 74) (u 74)).put (some 75) (u 75)).put (some 76) (u 76)).put (some 77) (u 77)).put (some 71) (u 71)).put (some 72) (u 72)).put (some 78) (u 78)).put (some 79) (.bool true)) w') :
    (Code.region 14 (Pl.find 14 ((Try.f16.body).getD .skip)) true).wp Try.prog Q A w := by
  have hA := Pl.At.same (v := Sl.val v) (d := 7) (Pl.At.same (v := .int .i64 ((n : Nat) : Int)) (d := 5) (Pl.At.same (v := .slice (some ⟨b, o, none⟩) len cap) (d := 0) (Pl.At.here hsz hdf) s0) s5) s7
  refine Pl.H.start (S := (fun w' => Bs w' (some ⟨b, o, none⟩) len xs)) (by kernel_rfl) hA hB ?_
  rw [show (Pl.find 14 ((Try.f16.body).getD .skip)).size = 14 by kernel_rfl]
  refine Pl.H.take 0 66 (Sl.val v) (by kernel_rfl) (by kernel_rfl) (by kernel_rfl) (Pl.free 0 (by kernel_rfl)) (Pl.move 0 (.tmp 7) (by kernel_rfl) (by decide)) hB ?_
  refine Pl.H.call 1 67 12 [(.tmp 66)] #[25] (by kernel_rfl) (by kernel_rfl) (by kernel_rfl) (Pl.free 1 (by kernel_rfl)) (by kernel_rfl) (by decide) entMay (Calls.mono (hmay) ?_)
  rintro e w2 ⟨rfl, hb2⟩
  refine ⟨.bool true, rfl, (hB.keep hb2 (Nat.le_refl _)), ?_⟩
  refine Pl.H.take 2 68 (.bool false) (by kernel_rfl) (by kernel_rfl) (by kernel_rfl) (Pl.free 2 (by kernel_rfl)) (Pl.neg 2 4 (.tmp 67) true (by kernel_rfl) (by decide) rfl) (hB.keep hb2 (Nat.le_refl _)) ?_
  refine Pl.H.take 3 69 (.bool false) (by kernel_rfl) (by kernel_rfl) (by kernel_rfl) (Pl.free 3 (by kernel_rfl)) (Pl.move 3 (.tmp 68) (by kernel_rfl) (by decide)) (hB.keep hb2 (Nat.le_refl _)) ?_
  refine Pl.H.take 4 70 (Sl.val v) (by kernel_rfl) (by kernel_rfl) (by kernel_rfl) (Pl.guarded 4 3 69 false (by kernel_rfl) (by kernel_rfl) (by decide) rfl) (Pl.move 4 (.tmp 7) (by kernel_rfl) (by decide)) (hB.keep hb2 (Nat.le_refl _)) ?_
  refine Pl.H.take 7 73 (.slice (some ⟨b, o, none⟩) len cap) (by kernel_rfl) (by kernel_rfl) (by kernel_rfl) (Pl.guarded 7 3 69 false (by kernel_rfl) (by kernel_rfl) (by decide) rfl) (Pl.move 7 (.tmp 0) (by kernel_rfl) (by decide)) (hB.keep hb2 (Nat.le_refl _)) ?_
  refine Pl.H.take 8 74 (.int .i64 ((n : Nat) : Int)) (by kernel_rfl) (by kernel_rfl) (by kernel_rfl) (Pl.guarded 8 3 69 false (by kernel_rfl) (by kernel_rfl) (by decide) rfl) (Pl.move 8 (.tmp 5) (by kernel_rfl) (by decide)) (hB.keep hb2 (Nat.le_refl _)) ?_
  refine Pl.H.take 9 75 (.int .i64 ((2 + n : Nat) : Int)) (by kernel_rfl) (by kernel_rfl) (by kernel_rfl) (Pl.guarded 9 3 69 false (by kernel_rfl) (by kernel_rfl) (by decide) rfl) (Pl.binV 9 .add 3 3 (.const (.int .i64 2)) (.tmp 74) (.int .i64 2) (.int .i64 ((n : Nat) : Int)) _ (by kernel_rfl) (by decide) (by decide) rfl rfl (addN 2 n _ _ (by omega))) (hB.keep hb2 (Nat.le_refl _)) ?_
  refine Pl.H.take 10 76 (Sl.val ⟨fromA (some ⟨b, o, none⟩) cap 0, 2 + n, cap⟩) (by kernel_rfl) (by kernel_rfl) (by kernel_rfl) (Pl.guarded 10 3 69 false (by kernel_rfl) (by kernel_rfl) (by decide) rfl) (Pl.slice 10 24 (.tmp 73) none (some (.tmp 75)) _ (by kernel_rfl) (by decide) (by decide) (by decide) (slice_upto _ len cap (2 + n) (by omega))) (hB.keep hb2 (Nat.le_refl _)) ?_
  refine Pl.H.take 11 77 (.string (bstr (xs.take (2 + n)))) (by kernel_rfl) (by kernel_rfl) (by kernel_rfl) (Pl.guarded 11 3 69 false (by kernel_rfl) (by kernel_rfl) (by decide) rfl) (Pl.convV 11 24 9 (.tmp 76) (Sl.val ⟨fromA (some ⟨b, o, none⟩) cap 0, 2 + n, cap⟩) _ (by kernel_rfl) (by decide) rfl (fun w' hS => run_string_of _ (Bs.upto (cap := cap) hS (by omega)))) (hB.keep hb2 (Nat.le_refl _)) ?_
  refine Pl.H.call 5 71 14 [(.tmp 70)] #[25] (by kernel_rfl) (by kernel_rfl) (by kernel_rfl) (Pl.guarded 5 3 69 false (by kernel_rfl) (by kernel_rfl) (by decide) rfl) (by kernel_rfl) (by decide) entRecord (Calls.mono (hrec w2 hb2) ?_)
  rintro e w3 ⟨r3, rfl, ho3, hb3⟩
  obtain ⟨s3, hv3, hl3, hc3⟩ := ho3.cm hrb (by omega)
  subst hv3
  refine ⟨Sl.val s3, rfl, ((hB.keep hb2 (Nat.le_refl _)).keep hb3 (Nat.le_refl _)), ?_⟩
  refine Pl.H.solo 6 72 (.string (bstr (recd (ims l)))) (by kernel_rfl) (by kernel_rfl) (by kernel_rfl) (Pl.guarded 6 3 69 false (by kernel_rfl) (by kernel_rfl) (by decide) rfl) (Pl.conv1 6 24 9 (.tmp 71) _ (by kernel_rfl) (by decide) (run_string_of _ hc3.came.bs)) ((hB.keep hb2 (Nat.le_refl _)).keep hb3 (Nat.le_refl _)) ?_
  refine Pl.H.take 12 78 (.bool true) (by kernel_rfl) (by kernel_rfl) (by kernel_rfl) (Pl.guarded 12 3 69 false (by kernel_rfl) (by kernel_rfl) (by decide) rfl) (Pl.binV 12 .neq 9 9 (.tmp 72) (.tmp 77) (.string (bstr (recd (ims l)))) (.string (bstr (xs.take (2 + n)))) _ (by kernel_rfl) (by decide) (by decide) rfl rfl (neqStrD _ _ hrb (fun z hz => hB.2.1 z (List.mem_of_mem_take hz)) hne _ _)) ((hB.keep hb2 (Nat.le_refl _)).keep hb3 (Nat.le_refl _)) ?_
  refine Pl.H.take 13 79 (.bool true) (by kernel_rfl) (by kernel_rfl) (by kernel_rfl) (Pl.free 13 (by kernel_rfl)) (Pl.pickF 13 (.tmp 69) (.const (.bool true)) (.tmp 78) (by kernel_rfl) (by decide) (by decide) rfl) ((hB.keep hb2 (Nat.le_refl _)).keep hb3 (Nat.le_refl _)) ?_
  refine Pl.H.done (by kernel_rfl) (fun A' hA' => ?_)
  rw [Pl.At.ext hA' ((((((((((((((hA.put 66 _).put 67 _).put 68 _).put 69 _).put 70 _).put 73 _).put 74 _).put 75 _).put 76 _).put 77 _).put 71 _).put 72 _).put 78 _).put 79 _)]
  exact hend (fun d => if d = 66 then Sl.val v else if d = 67 then .bool true else if d = 68 then .bool false else if d = 69 then .bool false else if d = 70 then Sl.val v else if d = 73 then .slice (some ⟨b, o, none⟩) len cap else if d = 74 then .int .i64 ((n : Nat) : Int) else if d = 75 then .int .i64 ((2 + n : Nat) : Int) else if d = 76 then Sl.val ⟨fromA (some ⟨b, o, none⟩) cap 0, 2 + n, cap⟩ else if d = 77 then .string (bstr (xs.take (2 + n))) else if d = 71 then Sl.val s3 else if d = 72 then .string (bstr (recd (ims l))) else if d = 78 then .bool true else undef) _ (rBelow (below_drew w) (rBelow hb2 hb3))

set_option maxHeartbeats 2000000 in
set_option maxRecDepth 100000 in
theorem rfst14C (w : World) (b o len cap n : Nat) (xs : List Nat) (v : Sl) (l : List Ix) (hB : Bs w.drew (some ⟨b, o, none⟩) len xs) (hmay : Calls Try.prog 12 #[v.val] w.drew fun e w' => e = .returned (.bool true) ∧ Below w.drew.heap.size w.drew w') (hrb : Bytes (recd (ims l))) (hrl : (recd (ims l)).length ≤ 100000) (hrec : ∀ w2, Below w.drew.heap.size w.drew w2 → Calls Try.prog 14 #[v.val] w2 fun e w' => ∃ r, e = .returned r ∧ Owns w' w2.heap.size r (recd (ims l)) ∧ Below w2.heap.size w2 w') (hn : 2 + n ≤ len) (hc : len ≤ cap) (hbig : len ≤ 1000000) (heq : (recd (ims l)) = (xs.take (2 + n)))
    {Q : Exit → Act → World → Prop} {A : Act} (hsz : A.tmps.size = 83) (hdf : A.defers = []) (s0 : A.tmps.getD 0 undef = .slice (some ⟨b, o, none⟩) len cap) (s5 : A.tmps.getD 5 undef = .int .i64 ((n : Nat) : Int)) (s7 : A.tmps.getD 7 undef = Sl.val v)
    (hend : ∀ (u : Nat → Value) w', Below w.heap.size w w' → Q .normal (((((((((((((((A).put (some 66) (u 66)).put (some 67) (u 67)).put (some 68) (u 68)).put (some 69) (u 69)).put (some 70) (u 70)).put (some 73) (u 73)).put (some 74) (u 74)).put (some 75) (u 75)).put (some 76) (u 76)).put (some 77) (u 77)).put (some 71) (u 71)).put (some 72) (u 72)).put (some 78) (u 78)).put (some 79) (.bool false)) w') :
    (Code.region 14 (Pl.find 14 ((Try.f16.body).getD .skip)) true).wp Try.prog Q A w := by
  have hA := Pl.At.same (v := Sl.val v) (d := 7) (Pl.At.same (v := .int .i64 ((n : Nat) : Int)) (d := 5) (Pl.At.same (v := .slice (some ⟨b, o, none⟩) len cap) (d := 0) (Pl.At.here hsz hdf) s0) s5) s7
  refine Pl.H.start (S := (fun w' => Bs w' (some ⟨b, o, none⟩) len xs)) (by kernel_rfl) hA hB ?_
  rw [show (Pl.find 14 ((Try.f16.body).getD .skip)).size = 14 by kernel_rfl]
  refine Pl.H.take 0 66 (Sl.val v) (by kernel_rfl) (by kernel_rfl) (by kernel_rfl) (Pl.free 0 (by kernel_rfl)) (Pl.move 0 (.tmp 7) (by kernel_rfl) (by decide)) hB ?_
  refine Pl.H.call 1 67 12 [(.tmp 66)] #[25] (by kernel_rfl) (by kernel_rfl) (by kernel_rfl) (Pl.free 1 (by kernel_rfl)) (by kernel_rfl) (by decide) entMay (Calls.mono (hmay) ?_)
  rintro e w2 ⟨rfl, hb2⟩
  refine ⟨.bool true, rfl, (hB.keep hb2 (Nat.le_refl _)), ?_⟩
  refine Pl.H.take 2 68 (.bool false) (by kernel_rfl) (by kernel_rfl) (by kernel_rfl) (Pl.free 2 (by kernel_rfl)) (Pl.neg 2 4 (.tmp 67) true (by kernel_rfl) (by decide) rfl) (hB.keep hb2 (Nat.le_refl _)) ?_
  refine Pl.H.take 3 69 (.bool false) (by kernel_rfl) (by kernel_rfl) (by kernel_rfl) (Pl.free 3 (by kernel_rfl)) (Pl.move 3 (.tmp 68) (by kernel_rfl) (by decide)) (hB.keep hb2 (Nat.le_refl _)) ?_
  refine Pl.H.take 4 70 (Sl.val v) (by kernel_rfl) (by kernel_rfl) (by kernel_rfl) (Pl.guarded 4 3 69 false (by kernel_rfl) (by kernel_rfl) (by decide) rfl) (Pl.move 4 (.tmp 7) (by kernel_rfl) (by decide)) (hB.keep hb2 (Nat.le_refl _)) ?_
  refine Pl.H.take 7 73 (.slice (some ⟨b, o, none⟩) len cap) (by kernel_rfl) (by kernel_rfl) (by kernel_rfl) (Pl.guarded 7 3 69 false (by kernel_rfl) (by kernel_rfl) (by decide) rfl) (Pl.move 7 (.tmp 0) (by kernel_rfl) (by decide)) (hB.keep hb2 (Nat.le_refl _)) ?_
  refine Pl.H.take 8 74 (.int .i64 ((n : Nat) : Int)) (by kernel_rfl) (by kernel_rfl) (by kernel_rfl) (Pl.guarded 8 3 69 false (by kernel_rfl) (by kernel_rfl) (by decide) rfl) (Pl.move 8 (.tmp 5) (by kernel_rfl) (by decide)) (hB.keep hb2 (Nat.le_refl _)) ?_
  refine Pl.H.take 9 75 (.int .i64 ((2 + n : Nat) : Int)) (by kernel_rfl) (by kernel_rfl) (by kernel_rfl) (Pl.guarded 9 3 69 false (by kernel_rfl) (by kernel_rfl) (by decide) rfl) (Pl.binV 9 .add 3 3 (.const (.int .i64 2)) (.tmp 74) (.int .i64 2) (.int .i64 ((n : Nat) : Int)) _ (by kernel_rfl) (by decide) (by decide) rfl rfl (addN 2 n _ _ (by omega))) (hB.keep hb2 (Nat.le_refl _)) ?_
  refine Pl.H.take 10 76 (Sl.val ⟨fromA (some ⟨b, o, none⟩) cap 0, 2 + n, cap⟩) (by kernel_rfl) (by kernel_rfl) (by kernel_rfl) (Pl.guarded 10 3 69 false (by kernel_rfl) (by kernel_rfl) (by decide) rfl) (Pl.slice 10 24 (.tmp 73) none (some (.tmp 75)) _ (by kernel_rfl) (by decide) (by decide) (by decide) (slice_upto _ len cap (2 + n) (by omega))) (hB.keep hb2 (Nat.le_refl _)) ?_
  refine Pl.H.take 11 77 (.string (bstr (recd (ims l)))) (by kernel_rfl) (by kernel_rfl) (by kernel_rfl) (Pl.guarded 11 3 69 false (by kernel_rfl) (by kernel_rfl) (by decide) rfl) (Pl.convV 11 24 9 (.tmp 76) (Sl.val ⟨fromA (some ⟨b, o, none⟩) cap 0, 2 + n, cap⟩) _ (by kernel_rfl) (by decide) rfl (fun w' hS => by rw [heq]; exact run_string_of _ (Bs.upto (cap := cap) hS (by omega)))) (hB.keep hb2 (Nat.le_refl _)) ?_
  refine Pl.H.call 5 71 14 [(.tmp 70)] #[25] (by kernel_rfl) (by kernel_rfl) (by kernel_rfl) (Pl.guarded 5 3 69 false (by kernel_rfl) (by kernel_rfl) (by decide) rfl) (by kernel_rfl) (by decide) entRecord (Calls.mono (hrec w2 hb2) ?_)
  rintro e w3 ⟨r3, rfl, ho3, hb3⟩
  obtain ⟨s3, hv3, hl3, hc3⟩ := ho3.cm hrb (by omega)
  subst hv3
  refine ⟨Sl.val s3, rfl, ((hB.keep hb2 (Nat.le_refl _)).keep hb3 (Nat.le_refl _)), ?_⟩
  refine Pl.H.solo 6 72 (.string (bstr (recd (ims l)))) (by kernel_rfl) (by kernel_rfl) (by kernel_rfl) (Pl.guarded 6 3 69 false (by kernel_rfl) (by kernel_rfl) (by decide) rfl) (Pl.conv1 6 24 9 (.tmp 71) _ (by kernel_rfl) (by decide) (run_string_of _ hc3.came.bs)) ((hB.keep hb2 (Nat.le_refl _)).keep hb3 (Nat.le_refl _)) ?_
  refine Pl.H.take 12 78 (.bool false) (by kernel_rfl) (by kernel_rfl) (by kernel_rfl) (Pl.guarded 12 3 69 false (by kernel_rfl) (by kernel_rfl) (by decide) rfl) (Pl.binV 12 .neq 9 9 (.tmp 72) (.tmp 77) (.string (bstr (recd (ims l)))) (.string (bstr (recd (ims l)))) _ (by kernel_rfl) (by decide) (by decide) rfl rfl (neqStrS _ _ _)) ((hB.keep hb2 (Nat.le_refl _)).keep hb3 (Nat.le_refl _)) ?_
  refine Pl.H.take 13 79 (.bool false) (by kernel_rfl) (by kernel_rfl) (by kernel_rfl) (Pl.free 13 (by kernel_rfl)) (Pl.pickF 13 (.tmp 69) (.const (.bool true)) (.tmp 78) (by kernel_rfl) (by decide) (by decide) rfl) ((hB.keep hb2 (Nat.le_refl _)).keep hb3 (Nat.le_refl _)) ?_
  refine Pl.H.done (by kernel_rfl) (fun A' hA' => ?_)
  rw [Pl.At.ext hA' ((((((((((((((hA.put 66 _).put 67 _).put 68 _).put 69 _).put 70 _).put 73 _).put 74 _).put 75 _).put 76 _).put 77 _).put 71 _).put 72 _).put 78 _).put 79 _)]
  exact hend (fun d => if d = 66 then Sl.val v else if d = 67 then .bool true else if d = 68 then .bool false else if d = 69 then .bool false else if d = 70 then Sl.val v else if d = 73 then .slice (some ⟨b, o, none⟩) len cap else if d = 74 then .int .i64 ((n : Nat) : Int) else if d = 75 then .int .i64 ((2 + n : Nat) : Int) else if d = 76 then Sl.val ⟨fromA (some ⟨b, o, none⟩) cap 0, 2 + n, cap⟩ else if d = 77 then .string (bstr (recd (ims l))) else if d = 71 then Sl.val s3 else if d = 72 then .string (bstr (recd (ims l))) else if d = 78 then .bool false else undef) _ (rBelow (below_drew w) (rBelow hb2 hb3))

end Go.Proofs.Ytjgeiooblcpiaaa
