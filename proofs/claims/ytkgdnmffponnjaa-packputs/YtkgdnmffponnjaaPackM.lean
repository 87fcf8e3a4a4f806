/-
  The law of which items are alike: its walk.
-/
import Derived.Test.YtkgdnmffponnjaaPackE
namespace Go.Proofs.Ytkgdnmffponnjaa
open Go.RowKit

theorem same_self (x : It) : x.same x = true := by simp [It.same]

theorem enters18 : ∀ args w, (callFunc 18 args).run Try.prog w = .ok (.enter 18 args) w := Pl.enters Try.func18 (by kernel_rfl) (by kernel_rfl)
theorem enters8 : ∀ args w, (callFunc 8 args).run Try.prog w = .ok (.enter 8 args) w := Pl.enters Try.func8 (by kernel_rfl) (by kernel_rfl)

theorem itSame_self (x : It) (w : World) : Calls Try.prog 18 #[x.val, x.val] w fun e w' => e = .returned (.bool true) ∧ Below w.heap.size w w' := by
  have := itSame_any x x w
  rw [same_self] at this
  exact this

set_option maxHeartbeats 2000000 in
set_option maxRecDepth 100000 in
theorem same1 (w0 w : World) (b c : Nat) (x y : It) (hx : ItAt w0 b 0 x) (hy : ItAt w0 c 0 y) (hW : Below w0.heap.size w0 w)
    {Q : Exit → Act → World → Prop} {A : Act} (hsz : A.tmps.size = 20) (hdf : A.defers = []) (s2 : A.tmps.getD 2 undef = .pointer (some ⟨b, 0, none⟩)) (s3 : A.tmps.getD 3 undef = .pointer (some ⟨c, 0, none⟩))
    (hend : ∀ (u : Nat → Value) w', Below w0.heap.size w0 w' → Q .normal (((((((((((((((((A).put (some 5) (u 5)).put (some 6) (u 6)).put (some 8) (u 8)).put (some 9) (u 9)).put (some 7) (u 7)).put (some 10) (u 10)).put (some 11) (u 11)).put (some 12) (u 12)).put (some 13) (u 13)).put (some 14) (u 14)).put (some 15) (u 15)).put (some 16) (u 16)).put (some 17) (u 17)).put (some 18) (u 18)).put (some 19) (u 19)).put (some 4) (.bool true)) w') :
    (Code.region 1 (Pl.find 1 ((Try.f5.body).getD .skip)) true).wp Try.prog Q A w := by
  have hS0 : Below w0.heap.size w0 w.drew := hW.drew
  have hA := Pl.At.same (v := .pointer (some ⟨c, 0, none⟩)) (d := 3) (Pl.At.same (v := .pointer (some ⟨b, 0, none⟩)) (d := 2) (Pl.At.here hsz hdf) s2) s3
  refine Pl.H.start (S := fun w' => Below w0.heap.size w0 w') (by kernel_rfl) hA hS0 ?_
  rw [show (Pl.find 1 ((Try.f5.body).getD .skip)).size = 16 by kernel_rfl]
  refine Pl.H.take 0 5 (x.val) (by kernel_rfl) (by kernel_rfl) (by kernel_rfl) (Pl.free 0 (by kernel_rfl)) (Pl.load 0 35 (.tmp 2) _ (by kernel_rfl) (by decide) (fun w' hS => load_item b 0 x w' (keep_item hx hS))) hS0 ?_
  refine Pl.H.take 1 6 (y.val) (by kernel_rfl) (by kernel_rfl) (by kernel_rfl) (Pl.free 1 (by kernel_rfl)) (Pl.load 1 35 (.tmp 3) _ (by kernel_rfl) (by decide) (fun w' hS => load_item c 0 y w' (keep_item hy hS))) hS0 ?_
  refine Pl.H.take 3 8 (x.val) (by kernel_rfl) (by kernel_rfl) (by kernel_rfl) (Pl.free 3 (by kernel_rfl)) (Pl.load 3 35 (.tmp 2) _ (by kernel_rfl) (by decide) (fun w' hS => load_item b 0 x w' (keep_item hx hS))) hS0 ?_
  refine Pl.H.take 4 9 (y.val) (by kernel_rfl) (by kernel_rfl) (by kernel_rfl) (Pl.free 4 (by kernel_rfl)) (Pl.load 4 35 (.tmp 3) _ (by kernel_rfl) (by decide) (fun w' hS => load_item c 0 y w' (keep_item hy hS))) hS0 ?_
  refine Pl.H.call 2 7 18 [(.tmp 5), (.tmp 6)] #[35, 35] (by kernel_rfl) (by kernel_rfl) (by kernel_rfl) (Pl.free 2 (by kernel_rfl)) (by kernel_rfl) (by decide) enters18 (Calls.mono (itSame_any x y w.drew) ?_)
  rintro e w1 ⟨rfl, hb1⟩
  have hS1 := hS0.trans (hb1.mono hS0.size)
  refine ⟨.bool (x.same y), rfl, hS1, ?_⟩
  refine Pl.H.call 5 10 19 [(.tmp 8), (.tmp 9)] #[35, 35] (by kernel_rfl) (by kernel_rfl) (by kernel_rfl) (Pl.free 5 (by kernel_rfl)) (by kernel_rfl) (by decide) enters19 (Calls.mono (refItSame_any x y w1) ?_)
  rintro e w2 ⟨rfl, hb2⟩
  have hS2 := hS1.trans (hb2.mono hS1.size)
  refine ⟨.bool (x.same y), rfl, hS2, ?_⟩
  refine Pl.H.take 6 11 (.bool true) (by kernel_rfl) (by kernel_rfl) (by kernel_rfl) (Pl.free 6 (by kernel_rfl)) (Pl.binV 6 .eql 4 4 (.tmp 7) (.tmp 10) (.bool (x.same y)) (.bool (x.same y)) _ (by kernel_rfl) (by decide) (by decide) rfl rfl (fun w => by simp [go_sem, eqGuard])) hS2 ?_
  refine Pl.H.take 7 12 (.bool true) (by kernel_rfl) (by kernel_rfl) (by kernel_rfl) (Pl.free 7 (by kernel_rfl)) (Pl.move 7 (.tmp 11) (by kernel_rfl) (by decide)) hS2 ?_
  refine Pl.H.take 8 13 (x.val) (by kernel_rfl) (by kernel_rfl) (by kernel_rfl) (Pl.guarded 8 7 12 true (by kernel_rfl) (by kernel_rfl) (by decide) rfl) (Pl.load 8 35 (.tmp 2) _ (by kernel_rfl) (by decide) (fun w' hS => load_item b 0 x w' (keep_item hx hS))) hS2 ?_
  refine Pl.H.take 9 14 (x.val) (by kernel_rfl) (by kernel_rfl) (by kernel_rfl) (Pl.guarded 9 7 12 true (by kernel_rfl) (by kernel_rfl) (by decide) rfl) (Pl.load 9 35 (.tmp 2) _ (by kernel_rfl) (by decide) (fun w' hS => load_item b 0 x w' (keep_item hx hS))) hS2 ?_
  refine Pl.H.call 10 15 18 [(.tmp 13), (.tmp 14)] #[35, 35] (by kernel_rfl) (by kernel_rfl) (by kernel_rfl) (Pl.guarded 10 7 12 true (by kernel_rfl) (by kernel_rfl) (by decide) rfl) (by kernel_rfl) (by decide) enters18 (Calls.mono (itSame_self x w2) ?_)
  rintro e w3 ⟨rfl, hb3⟩
  have hS3 := hS2.trans (hb3.mono hS2.size)
  refine ⟨.bool true, rfl, hS3, ?_⟩
  refine Pl.H.take 11 16 (.bool true) (by kernel_rfl) (by kernel_rfl) (by kernel_rfl) (Pl.free 11 (by kernel_rfl)) (Pl.pick 11 (.tmp 12) (.tmp 15) (.const (.bool false)) (by kernel_rfl) (by decide) (by decide) rfl) hS3 ?_
  refine Pl.H.take 12 17 (.bool true) (by kernel_rfl) (by kernel_rfl) (by kernel_rfl) (Pl.free 12 (by kernel_rfl)) (Pl.move 12 (.tmp 16) (by kernel_rfl) (by decide)) hS3 ?_
  refine Pl.H.call 13 18 8 [] #[] (by kernel_rfl) (by kernel_rfl) (by kernel_rfl) (Pl.guarded 13 12 17 true (by kernel_rfl) (by kernel_rfl) (by decide) rfl) (by kernel_rfl) (by decide) enters8 (Calls.mono (awake_any w3) ?_)
  rintro e w4 ⟨rfl, hb4⟩
  have hS4 := hS3.trans (hb4.mono hS3.size)
  refine ⟨.bool true, rfl, hS4, ?_⟩
  refine Pl.H.take 14 19 (.bool true) (by kernel_rfl) (by kernel_rfl) (by kernel_rfl) (Pl.free 14 (by kernel_rfl)) (Pl.pick 14 (.tmp 17) (.tmp 18) (.const (.bool false)) (by kernel_rfl) (by decide) (by decide) rfl) hS4 ?_
  refine Pl.H.take 15 4 (.bool true) (by kernel_rfl) (by kernel_rfl) (by kernel_rfl) (Pl.free 15 (by kernel_rfl)) (Pl.assign 15 (.tmp 19) (by kernel_rfl) (by decide)) hS4 ?_
  refine Pl.H.done (by kernel_rfl) (fun A' hA' => ?_)
  rw [Pl.At.ext hA' ((((((((((((((((hA.put 5 _).put 6 _).put 8 _).put 9 _).put 7 _).put 10 _).put 11 _).put 12 _).put 13 _).put 14 _).put 15 _).put 16 _).put 17 _).put 18 _).put 19 _).put 4 _)]
  exact hend (fun d => if d = 5 then x.val else if d = 6 then y.val else if d = 8 then x.val else if d = 9 then y.val else if d = 7 then .bool (x.same y) else if d = 10 then .bool (x.same y) else if d = 11 then .bool true else if d = 12 then .bool true else if d = 13 then x.val else if d = 14 then x.val else if d = 15 then .bool true else if d = 16 then .bool true else if d = 17 then .bool true else if d = 18 then .bool true else if d = 19 then .bool true else undef) _ hS4

set_option maxHeartbeats 1000000 in
theorem packSame_walk (x y : It) (w : World) : Calls Try.prog 5 #[x.val, y.val] w fun e w' => e = .returned (.bool true) ∧ Below w.heap.size w w' := by
  have HX : Hid (∀ o, ItAt ((w.alloc (.cells #[.int .i64 x.kind, .int .i64 x.n, .float .f64 x.x, .string x.s] 35)).alloc o) w.heap.size 0 x) := fun o => keep_item (itAt_new w x _) (below_alloc _ o)
  have HY : Hid (∀ o, ItAt ((w.alloc o).alloc (.cells #[.int .i64 y.kind, .int .i64 y.n, .float .f64 y.x, .string y.s] 35)) (w.heap.size + 1) 0 y) := fun o => by
    have := itAt_new (w.alloc o) y 35
    simpa using this
  have HW : Hid (∀ o o', Below w.heap.size w ((w.alloc o).alloc o')) := below_two w
  unfold It.val
  go_enter Try.func5, Try.ntmps5
  go_wp2_with fail
  refine Pl.region_is (ops := Pl.find 1 ((Try.f5.body).getD .skip)) (by kernel_rfl) ?_
  refine same1 _ _ w.heap.size (w.heap.size + 1) x y (HX.out _) (HY.out _) (Below.refl _ _) (by rfl) (by rfl) (by rfl) (by rfl) ?_
  intro u w' hb
  simp only [Act.put, List.setIfInBounds_toArray, List.set_cons_zero, List.set_cons_succ]
  go_wp2_with fail
  go_ret
  exact ⟨rfl, (HW.out _ _).trans (hb.mono (HW.out _ _).size)⟩

end Go.Proofs.Ytkgdnmffponnjaa
