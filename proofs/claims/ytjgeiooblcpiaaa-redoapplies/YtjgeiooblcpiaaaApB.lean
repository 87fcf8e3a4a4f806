/-
  Layer 6: an insertion sort's drawn regions.
-/
import Derived.Test.YtjgeiooblcpiaaaApA
namespace Go.Proofs.Ytjgeiooblcpiaaa
open Go.RowKit

theorem entClosure : ∀ args w, (callFunc 30 args).run Try.prog w = .ok (.enter 30 args) w := Pl.enters Try.func30 (by kernel_rfl) (by kernel_rfl)
/-- Two neighbours. -/
def SortS (b o j : Nat) (x y : Ix) (w : World) : Prop := 0 < j → (w.cell? ⟨b, o + j * 2, none⟩ = some (.int .i64 x.page) ∧ w.cell? ⟨b, o + j * 2 + 1, none⟩ = some x.s.val) ∧ (w.cell? ⟨b, o + (j - 1) * 2, none⟩ = some (.int .i64 y.page) ∧ w.cell? ⟨b, o + (j - 1) * 2 + 1, none⟩ = some y.s.val)
theorem SortS.below {b o j : Nat} {x y : Ix} {w w' : World} (h : SortS b o j x y w) (hb : Below w.heap.size w w') : SortS b o j x y w' := by
  intro hj
  obtain ⟨⟨c0, c1⟩, d0, d1⟩ := h hj
  have hlt := World.block_lt_of_cell? w _ c0
  exact ⟨⟨(hb.cell (p := ⟨b, o + j * 2, none⟩) hlt).trans c0, (hb.cell (p := ⟨b, o + j * 2 + 1, none⟩) hlt).trans c1⟩, (hb.cell (p := ⟨b, o + (j - 1) * 2, none⟩) hlt).trans d0, (hb.cell (p := ⟨b, o + (j - 1) * 2 + 1, none⟩) hlt).trans d1⟩

set_option maxHeartbeats 2000000 in
set_option maxRecDepth 100000 in
theorem isort4A (w : World) (b o len cap j : Nat) (x y : Ix) (h : SortS b o j x y w.drew) (hz : ¬ (0 : Int) < ((j : Nat) : Int))
    {Q : Exit → Act → World → Prop} {A : Act} (hsz : A.tmps.size = 53) (hdf : A.defers = []) (s0 : A.tmps.getD 0 undef = .slice (some ⟨b, o, none⟩) len cap) (s1 : A.tmps.getD 1 undef = .int .i64 0) (s3 : A.tmps.getD 3 undef = .func (.func 30) #[] #[]) (s9 : A.tmps.getD 9 undef = .int .i64 ((j : Nat) : Int))
    (hend : ∀ (u : Nat → Value) w', Below w.heap.size w w' → Q .normal ((((((((((((((((((A).put (some 18) (u 18)).put (some 19) (u 19)).put (some 20) (u 20)).put (some 21) (u 21)).put (some 22) (u 22)).put (some 23) (u 23)).put (some 24) (u 24)).put (some 25) (u 25)).put (some 26) (u 26)).put (some 27) (u 27)).put (some 28) (u 28)).put (some 29) (u 29)).put (some 30) (u 30)).put (some 31) (u 31)).put (some 32) (u 32)).put (some 33) (u 33)).put (some 34) (.bool false)) w') :
    (Code.region 4 (Pl.find 4 ((Try.f39.body).getD .skip)) true).wp Try.prog Q A w := by
  have hA := Pl.At.same (v := .int .i64 ((j : Nat) : Int)) (d := 9) (Pl.At.same (v := .func (.func 30) #[] #[]) (d := 3) (Pl.At.same (v := .int .i64 0) (d := 1) (Pl.At.same (v := .slice (some ⟨b, o, none⟩) len cap) (d := 0) (Pl.At.here hsz hdf) s0) s1) s3) s9
  refine Pl.H.start (S := SortS b o j x y) (by kernel_rfl) hA h ?_
  rw [show (Pl.find 4 ((Try.f39.body).getD .skip)).size = 17 by kernel_rfl]
  refine Pl.H.take 0 18 (.int .i64 ((j : Nat) : Int)) (by kernel_rfl) (by kernel_rfl) (by kernel_rfl) (Pl.free 0 (by kernel_rfl)) (Pl.move 0 (.tmp 9) (by kernel_rfl) (by decide)) h ?_
  refine Pl.H.take 1 19 (.int .i64 0) (by kernel_rfl) (by kernel_rfl) (by kernel_rfl) (Pl.free 1 (by kernel_rfl)) (Pl.move 1 (.tmp 1) (by kernel_rfl) (by decide)) h ?_
  refine Pl.H.take 2 20 (.bool false) (by kernel_rfl) (by kernel_rfl) (by kernel_rfl) (Pl.free 2 (by kernel_rfl)) (Pl.binV 2 .gtr 3 3 (.tmp 18) (.tmp 19) (.int .i64 ((j : Nat) : Int)) (.int .i64 0) _ (by kernel_rfl) (by decide) (by decide) rfl rfl (gtrF _ _ _ _ hz)) h ?_
  refine Pl.H.take 3 21 (.bool false) (by kernel_rfl) (by kernel_rfl) (by kernel_rfl) (Pl.free 3 (by kernel_rfl)) (Pl.move 3 (.tmp 20) (by kernel_rfl) (by decide)) h ?_
  refine Pl.H.skip 4 22 (by kernel_rfl) (by kernel_rfl) (by kernel_rfl) (Pl.unwanted 4 3 21 true (by kernel_rfl) (by kernel_rfl) (by decide) rfl) h ?_
  refine Pl.H.skip 5 23 (by kernel_rfl) (by kernel_rfl) (by kernel_rfl) (Pl.unwanted 5 3 21 true (by kernel_rfl) (by kernel_rfl) (by decide) rfl) h ?_
  refine Pl.H.skip 6 24 (by kernel_rfl) (by kernel_rfl) (by kernel_rfl) (Pl.unwanted 6 3 21 true (by kernel_rfl) (by kernel_rfl) (by decide) rfl) h ?_
  refine Pl.H.skip 7 25 (by kernel_rfl) (by kernel_rfl) (by kernel_rfl) (Pl.unwanted 7 3 21 true (by kernel_rfl) (by kernel_rfl) (by decide) rfl) h ?_
  refine Pl.H.skip 8 26 (by kernel_rfl) (by kernel_rfl) (by kernel_rfl) (Pl.unwanted 8 3 21 true (by kernel_rfl) (by kernel_rfl) (by decide) rfl) h ?_
  refine Pl.H.skip 9 27 (by kernel_rfl) (by kernel_rfl) (by kernel_rfl) (Pl.unwanted 9 3 21 true (by kernel_rfl) (by kernel_rfl) (by decide) rfl) h ?_
  refine Pl.H.skip 10 28 (by kernel_rfl) (by kernel_rfl) (by kernel_rfl) (Pl.unwanted 10 3 21 true (by kernel_rfl) (by kernel_rfl) (by decide) rfl) h ?_
  refine Pl.H.skip 11 29 (by kernel_rfl) (by kernel_rfl) (by kernel_rfl) (Pl.unwanted 11 3 21 true (by kernel_rfl) (by kernel_rfl) (by decide) rfl) h ?_
  refine Pl.H.skip 12 30 (by kernel_rfl) (by kernel_rfl) (by kernel_rfl) (Pl.unwanted 12 3 21 true (by kernel_rfl) (by kernel_rfl) (by decide) rfl) h ?_
  refine Pl.H.skip 13 31 (by kernel_rfl) (by kernel_rfl) (by kernel_rfl) (Pl.unwanted 13 3 21 true (by kernel_rfl) (by kernel_rfl) (by decide) rfl) h ?_
  refine Pl.H.skip 14 32 (by kernel_rfl) (by kernel_rfl) (by kernel_rfl) (Pl.unwanted 14 3 21 true (by kernel_rfl) (by kernel_rfl) (by decide) rfl) h ?_
  refine Pl.H.skip 15 33 (by kernel_rfl) (by kernel_rfl) (by kernel_rfl) (Pl.unwanted 15 3 21 true (by kernel_rfl) (by kernel_rfl) (by decide) rfl) h ?_
  refine Pl.H.take 16 34 (.bool false) (by kernel_rfl) (by kernel_rfl) (by kernel_rfl) (Pl.free 16 (by kernel_rfl)) (Pl.pickF 16 (.tmp 21) (.tmp 33) (.const (.bool false)) (by kernel_rfl) (by decide) (by decide) rfl) h ?_
  refine Pl.H.done (by kernel_rfl) (fun A' hA' => ?_)
  rw [Pl.At.ext hA' (((((((((((((((((hA.put 18 _).put 19 _).put 20 _).put 21 _).put 22 _).put 23 _).put 24 _).put 25 _).put 26 _).put 27 _).put 28 _).put 29 _).put 30 _).put 31 _).put 32 _).put 33 _).put 34 _)]
  exact hend (fun d => if d = 18 then .int .i64 ((j : Nat) : Int) else if d = 19 then .int .i64 0 else if d = 20 then .bool false else if d = 21 then .bool false else if d = 22 then undef else if d = 23 then undef else if d = 24 then undef else if d = 25 then undef else if d = 26 then undef else if d = 27 then undef else if d = 28 then undef else if d = 29 then undef else if d = 30 then undef else if d = 31 then undef else if d = 32 then undef else if d = 33 then undef else undef) _ (below_drew w)

set_option maxHeartbeats 2000000 in
set_option maxRecDepth 100000 in
theorem isort4B (w : World) (b o len cap j : Nat) (x y : Ix) (h : SortS b o j x y w.drew) (hj : j < len) (hbig : len ≤ 1000000) (hp : 0 < j) (hz : (0 : Int) < ((j : Nat) : Int)) (hc : cmpI x.page y.page < 0)
    {Q : Exit → Act → World → Prop} {A : Act} (hsz : A.tmps.size = 53) (hdf : A.defers = []) (s0 : A.tmps.getD 0 undef = .slice (some ⟨b, o, none⟩) len cap) (s1 : A.tmps.getD 1 undef = .int .i64 0) (s3 : A.tmps.getD 3 undef = .func (.func 30) #[] #[]) (s9 : A.tmps.getD 9 undef = .int .i64 ((j : Nat) : Int))
    (hend : ∀ (u : Nat → Value) w', Below w.heap.size w w' → Q .normal ((((((((((((((((((A).put (some 18) (u 18)).put (some 19) (u 19)).put (some 20) (u 20)).put (some 21) (u 21)).put (some 22) (u 22)).put (some 23) (u 23)).put (some 24) (u 24)).put (some 25) (u 25)).put (some 26) (u 26)).put (some 27) (u 27)).put (some 28) (u 28)).put (some 29) (u 29)).put (some 30) (u 30)).put (some 31) (u 31)).put (some 32) (u 32)).put (some 33) (u 33)).put (some 34) (.bool true)) w') :
    (Code.region 4 (Pl.find 4 ((Try.f39.body).getD .skip)) true).wp Try.prog Q A w := by
  have hA := Pl.At.same (v := .int .i64 ((j : Nat) : Int)) (d := 9) (Pl.At.same (v := .func (.func 30) #[] #[]) (d := 3) (Pl.At.same (v := .int .i64 0) (d := 1) (Pl.At.same (v := .slice (some ⟨b, o, none⟩) len cap) (d := 0) (Pl.At.here hsz hdf) s0) s1) s3) s9
  refine Pl.H.start (S := SortS b o j x y) (by kernel_rfl) hA h ?_
  rw [show (Pl.find 4 ((Try.f39.body).getD .skip)).size = 17 by kernel_rfl]
  refine Pl.H.take 0 18 (.int .i64 ((j : Nat) : Int)) (by kernel_rfl) (by kernel_rfl) (by kernel_rfl) (Pl.free 0 (by kernel_rfl)) (Pl.move 0 (.tmp 9) (by kernel_rfl) (by decide)) h ?_
  refine Pl.H.take 1 19 (.int .i64 0) (by kernel_rfl) (by kernel_rfl) (by kernel_rfl) (Pl.free 1 (by kernel_rfl)) (Pl.move 1 (.tmp 1) (by kernel_rfl) (by decide)) h ?_
  refine Pl.H.take 2 20 (.bool true) (by kernel_rfl) (by kernel_rfl) (by kernel_rfl) (Pl.free 2 (by kernel_rfl)) (Pl.binV 2 .gtr 3 3 (.tmp 18) (.tmp 19) (.int .i64 ((j : Nat) : Int)) (.int .i64 0) _ (by kernel_rfl) (by decide) (by decide) rfl rfl (gtrT _ _ _ _ hz)) h ?_
  refine Pl.H.take 3 21 (.bool true) (by kernel_rfl) (by kernel_rfl) (by kernel_rfl) (Pl.free 3 (by kernel_rfl)) (Pl.move 3 (.tmp 20) (by kernel_rfl) (by decide)) h ?_
  refine Pl.H.take 4 22 (.func (.func 30) #[] #[]) (by kernel_rfl) (by kernel_rfl) (by kernel_rfl) (Pl.guarded 4 3 21 true (by kernel_rfl) (by kernel_rfl) (by decide) rfl) (Pl.move 4 (.tmp 3) (by kernel_rfl) (by decide)) h ?_
  refine Pl.H.take 5 23 (.slice (some ⟨b, o, none⟩) len cap) (by kernel_rfl) (by kernel_rfl) (by kernel_rfl) (Pl.guarded 5 3 21 true (by kernel_rfl) (by kernel_rfl) (by decide) rfl) (Pl.move 5 (.tmp 0) (by kernel_rfl) (by decide)) h ?_
  refine Pl.H.take 6 24 (.int .i64 ((j : Nat) : Int)) (by kernel_rfl) (by kernel_rfl) (by kernel_rfl) (Pl.guarded 6 3 21 true (by kernel_rfl) (by kernel_rfl) (by decide) rfl) (Pl.move 6 (.tmp 9) (by kernel_rfl) (by decide)) h ?_
  refine Pl.H.take 7 25 (.pointer (some ⟨b, o + j * 2, none⟩)) (by kernel_rfl) (by kernel_rfl) (by kernel_rfl) (Pl.guarded 7 3 21 true (by kernel_rfl) (by kernel_rfl) (by decide) rfl) (Pl.index 7 25 (.tmp 23) (.tmp 24) _ (by kernel_rfl) (by decide) (by decide) (ixIm b o len cap j hj)) h ?_
  refine Pl.H.take 8 26 (Ix.val x) (by kernel_rfl) (by kernel_rfl) (by kernel_rfl) (Pl.guarded 8 3 21 true (by kernel_rfl) (by kernel_rfl) (by decide) rfl) (Pl.load 8 28 (.tmp 25) _ (by kernel_rfl) (by decide) (fun w' hS => ldIm _ _ _ w' ((hS hp).1))) h ?_
  refine Pl.H.take 9 27 (.slice (some ⟨b, o, none⟩) len cap) (by kernel_rfl) (by kernel_rfl) (by kernel_rfl) (Pl.guarded 9 3 21 true (by kernel_rfl) (by kernel_rfl) (by decide) rfl) (Pl.move 9 (.tmp 0) (by kernel_rfl) (by decide)) h ?_
  refine Pl.H.take 10 28 (.int .i64 ((j : Nat) : Int)) (by kernel_rfl) (by kernel_rfl) (by kernel_rfl) (Pl.guarded 10 3 21 true (by kernel_rfl) (by kernel_rfl) (by decide) rfl) (Pl.move 10 (.tmp 9) (by kernel_rfl) (by decide)) h ?_
  refine Pl.H.take 11 29 (.int .i64 ((j - 1 : Nat) : Int)) (by kernel_rfl) (by kernel_rfl) (by kernel_rfl) (Pl.guarded 11 3 21 true (by kernel_rfl) (by kernel_rfl) (by decide) rfl) (Pl.binV 11 .sub 3 3 (.tmp 28) (.const (.int .i64 1)) (.int .i64 ((j : Nat) : Int)) (.int .i64 1) _ (by kernel_rfl) (by decide) (by decide) rfl rfl (subN j 1 _ _ hp (by omega))) h ?_
  refine Pl.H.take 12 30 (.pointer (some ⟨b, o + (j - 1) * 2, none⟩)) (by kernel_rfl) (by kernel_rfl) (by kernel_rfl) (Pl.guarded 12 3 21 true (by kernel_rfl) (by kernel_rfl) (by decide) rfl) (Pl.index 12 25 (.tmp 27) (.tmp 29) _ (by kernel_rfl) (by decide) (by decide) (ixIm b o len cap (j - 1) (by omega))) h ?_
  refine Pl.H.take 13 31 (Ix.val y) (by kernel_rfl) (by kernel_rfl) (by kernel_rfl) (Pl.guarded 13 3 21 true (by kernel_rfl) (by kernel_rfl) (by decide) rfl) (Pl.load 13 28 (.tmp 30) _ (by kernel_rfl) (by decide) (fun w' hS => ldIm _ _ _ w' ((hS hp).2))) h ?_
  refine Pl.H.callV 14 32 30 (.tmp 22) [(.tmp 26), (.tmp 31)] #[28, 28] (by kernel_rfl) (by kernel_rfl) (by kernel_rfl) (Pl.guarded 14 3 21 true (by kernel_rfl) (by kernel_rfl) (by decide) rfl) (by kernel_rfl) (by decide) rfl (by decide) entClosure (Calls.mono (closure_any x y w.drew) ?_)
  rintro e w2 ⟨rfl, hb2⟩
  refine ⟨.int .i64 (cmpI x.page y.page), rfl, (SortS.below h hb2), ?_⟩
  refine Pl.H.take 15 33 (.bool true) (by kernel_rfl) (by kernel_rfl) (by kernel_rfl) (Pl.guarded 15 3 21 true (by kernel_rfl) (by kernel_rfl) (by decide) rfl) (Pl.binV 15 .lss 3 3 (.tmp 32) (.const (.int .i64 0)) (.int .i64 (cmpI x.page y.page)) (.int .i64 0) _ (by kernel_rfl) (by decide) (by decide) rfl rfl (lssT _ _ _ _ hc)) (SortS.below h hb2) ?_
  refine Pl.H.take 16 34 (.bool true) (by kernel_rfl) (by kernel_rfl) (by kernel_rfl) (Pl.free 16 (by kernel_rfl)) (Pl.pick 16 (.tmp 21) (.tmp 33) (.const (.bool false)) (by kernel_rfl) (by decide) (by decide) rfl) (SortS.below h hb2) ?_
  refine Pl.H.done (by kernel_rfl) (fun A' hA' => ?_)
  rw [Pl.At.ext hA' (((((((((((((((((hA.put 18 _).put 19 _).put 20 _).put 21 _).put 22 _).put 23 _).put 24 _).put 25 _).put 26 _).put 27 _).put 28 _).put 29 _).put 30 _).put 31 _).put 32 _).put 33 _).put 34 _)]
  exact hend (fun d => if d = 18 then .int .i64 ((j : Nat) : Int) else if d = 19 then .int .i64 0 else if d = 20 then .bool true else if d = 21 then .bool true else if d = 22 then .func (.func 30) #[] #[] else if d = 23 then .slice (some ⟨b, o, none⟩) len cap else if d = 24 then .int .i64 ((j : Nat) : Int) else if d = 25 then .pointer (some ⟨b, o + j * 2, none⟩) else if d = 26 then Ix.val x else if d = 27 then .slice (some ⟨b, o, none⟩) len cap else if d = 28 then .int .i64 ((j : Nat) : Int) else if d = 29 then .int .i64 ((j - 1 : Nat) : Int) else if d = 30 then .pointer (some ⟨b, o + (j - 1) * 2, none⟩) else if d = 31 then Ix.val y else if d = 32 then .int .i64 (cmpI x.page y.page) else if d = 33 then .bool true else undef) _ (rBelow (below_drew w) hb2)

set_option maxHeartbeats 2000000 in
set_option maxRecDepth 100000 in
theorem isort4C (w : World) (b o len cap j : Nat) (x y : Ix) (h : SortS b o j x y w.drew) (hj : j < len) (hbig : len ≤ 1000000) (hp : 0 < j) (hz : (0 : Int) < ((j : Nat) : Int)) (hc : ¬ cmpI x.page y.page < 0)
    {Q : Exit → Act → World → Prop} {A : Act} (hsz : A.tmps.size = 53) (hdf : A.defers = []) (s0 : A.tmps.getD 0 undef = .slice (some ⟨b, o, none⟩) len cap) (s1 : A.tmps.getD 1 undef = .int .i64 0) (s3 : A.tmps.getD 3 undef = .func (.func 30) #[] #[]) (s9 : A.tmps.getD 9 undef = .int .i64 ((j : Nat) : Int))
    (hend : ∀ (u : Nat → Value) w', Below w.heap.size w w' → Q .normal ((((((((((((((((((A).put (some 18) (u 18)).put (some 19) (u 19)).put (some 20) (u 20)).put (some 21) (u 21)).put (some 22) (u 22)).put (some 23) (u 23)).put (some 24) (u 24)).put (some 25) (u 25)).put (some 26) (u 26)).put (some 27) (u 27)).put (some 28) (u 28)).put (some 29) (u 29)).put (some 30) (u 30)).put (some 31) (u 31)).put (some 32) (u 32)).put (some 33) (u 33)).put (some 34) (.bool false)) w') :
    (Code.region 4 (Pl.find 4 ((Try.f39.body).getD .skip)) true).wp Try.prog Q A w := by
  have hA := Pl.At.same (v := .int .i64 ((j : Nat) : Int)) (d := 9) (Pl.At.same (v := .func (.func 30) #[] #[]) (d := 3) (Pl.At.same (v := .int .i64 0) (d := 1) (Pl.At.same (v := .slice (some ⟨b, o, none⟩) len cap) (d := 0) (Pl.At.here hsz hdf) s0) s1) s3) s9
  refine Pl.H.start (S := SortS b o j x y) (by kernel_rfl) hA h ?_
  rw [show (Pl.find 4 ((Try.f39.body).getD .skip)).size = 17 by kernel_rfl]
  refine Pl.H.take 0 18 (.int .i64 ((j : Nat) : Int)) (by kernel_rfl) (by kernel_rfl) (by kernel_rfl) (Pl.free 0 (by kernel_rfl)) (Pl.move 0 (.tmp 9) (by kernel_rfl) (by decide)) h ?_
  refine Pl.H.take 1 19 (.int .i64 0) (by kernel_rfl) (by kernel_rfl) (by kernel_rfl) (Pl.free 1 (by kernel_rfl)) (Pl.move 1 (.tmp 1) (by kernel_rfl) (by decide)) h ?_
  refine Pl.H.take 2 20 (.bool true) (by kernel_rfl) (by kernel_rfl) (by kernel_rfl) (Pl.free 2 (by kernel_rfl)) (Pl.binV 2 .gtr 3 3 (.tmp 18) (.tmp 19) (.int .i64 ((j : Nat) : Int)) (.int .i64 0) _ (by kernel_rfl) (by decide) (by decide) rfl rfl (gtrT _ _ _ _ hz)) h ?_
  refine Pl.H.take 3 21 (.bool true) (by kernel_rfl) (by kernel_rfl) (by kernel_rfl) (Pl.free 3 (by kernel_rfl)) (Pl.move 3 (.tmp 20) (by kernel_rfl) (by decide)) h ?_
  refine Pl.H.take 4 22 (.func (.func 30) #[] #[]) (by kernel_rfl) (by kernel_rfl) (by kernel_rfl) (Pl.guarded 4 3 21 true (by kernel_rfl) (by kernel_rfl) (by decide) rfl) (Pl.move 4 (.tmp 3) (by kernel_rfl) (by decide)) h ?_
  refine Pl.H.take 5 23 (.slice (some ⟨b, o, none⟩) len cap) (by kernel_rfl) (by kernel_rfl) (by kernel_rfl) (Pl.guarded 5 3 21 true (by kernel_rfl) (by kernel_rfl) (by decide) rfl) (Pl.move 5 (.tmp 0) (by kernel_rfl) (by decide)) h ?_
  refine Pl.H.take 6 24 (.int .i64 ((j : Nat) : Int)) (by kernel_rfl) (by kernel_rfl) (by kernel_rfl) (Pl.guarded 6 3 21 true (by kernel_rfl) (by kernel_rfl) (by decide) rfl) (Pl.move 6 (.tmp 9) (by kernel_rfl) (by decide)) h ?_
  refine Pl.H.take 7 25 (.pointer (some ⟨b, o + j * 2, none⟩)) (by kernel_rfl) (by kernel_rfl) (by kernel_rfl) (Pl.guarded 7 3 21 true (by kernel_rfl) (by kernel_rfl) (by decide) rfl) (Pl.index 7 25 (.tmp 23) (.tmp 24) _ (by kernel_rfl) (by decide) (by decide) (ixIm b o len cap j hj)) h ?_
  refine Pl.H.take 8 26 (Ix.val x) (by kernel_rfl) (by kernel_rfl) (by kernel_rfl) (Pl.guarded 8 3 21 true (by kernel_rfl) (by kernel_rfl) (by decide) rfl) (Pl.load 8 28 (.tmp 25) _ (by kernel_rfl) (by decide) (fun w' hS => ldIm _ _ _ w' ((hS hp).1))) h ?_
  refine Pl.H.take 9 27 (.slice (some ⟨b, o, none⟩) len cap) (by kernel_rfl) (by kernel_rfl) (by kernel_rfl) (Pl.guarded 9 3 21 true (by kernel_rfl) (by kernel_rfl) (by decide) rfl) (Pl.move 9 (.tmp 0) (by kernel_rfl) (by decide)) h ?_
  refine Pl.H.take 10 28 (.int .i64 ((j : Nat) : Int)) (by kernel_rfl) (by kernel_rfl) (by kernel_rfl) (Pl.guarded 10 3 21 true (by kernel_rfl) (by kernel_rfl) (by decide) rfl) (Pl.move 10 (.tmp 9) (by kernel_rfl) (by decide)) h ?_
  refine Pl.H.take 11 29 (.int .i64 ((j - 1 : Nat) : Int)) (by kernel_rfl) (by kernel_rfl) (by kernel_rfl) (Pl.guarded 11 3 21 true (by kernel_rfl) (by kernel_rfl) (by decide) rfl) (Pl.binV 11 .sub 3 3 (.tmp 28) (.const (.int .i64 1)) (.int .i64 ((j : Nat) : Int)) (.int .i64 1) _ (by kernel_rfl) (by decide) (by decide) rfl rfl (subN j 1 _ _ hp (by omega))) h ?_
  refine Pl.H.take 12 30 (.pointer (some ⟨b, o + (j - 1) * 2, none⟩)) (by kernel_rfl) (by kernel_rfl) (by kernel_rfl) (Pl.guarded 12 3 21 true (by kernel_rfl) (by kernel_rfl) (by decide) rfl) (Pl.index 12 25 (.tmp 27) (.tmp 29) _ (by kernel_rfl) (by decide) (by decide) (ixIm b o len cap (j - 1) (by omega))) h ?_
  refine Pl.H.take 13 31 (Ix.val y) (by kernel_rfl) (by kernel_rfl) (by kernel_rfl) (Pl.guarded 13 3 21 true (by kernel_rfl) (by kernel_rfl) (by decide) rfl) (Pl.load 13 28 (.tmp 30) _ (by kernel_rfl) (by decide) (fun w' hS => ldIm _ _ _ w' ((hS hp).2))) h ?_
  refine Pl.H.callV 14 32 30 (.tmp 22) [(.tmp 26), (.tmp 31)] #[28, 28] (by kernel_rfl) (by kernel_rfl) (by kernel_rfl) (Pl.guarded 14 3 21 true (by kernel_rfl) (by kernel_rfl) (by decide) rfl) (by kernel_rfl) (by decide) rfl (by decide) entClosure (Calls.mono (closure_any x y w.drew) ?_)
  rintro e w2 ⟨rfl, hb2⟩
  refine ⟨.int .i64 (cmpI x.page y.page), rfl, (SortS.below h hb2), ?_⟩
  refine Pl.H.take 15 33 (.bool false) (by kernel_rfl) (by kernel_rfl) (by kernel_rfl) (Pl.guarded 15 3 21 true (by kernel_rfl) (by kernel_rfl) (by decide) rfl) (Pl.binV 15 .lss 3 3 (.tmp 32) (.const (.int .i64 0)) (.int .i64 (cmpI x.page y.page)) (.int .i64 0) _ (by kernel_rfl) (by decide) (by decide) rfl rfl (lssF _ _ _ _ hc)) (SortS.below h hb2) ?_
  refine Pl.H.take 16 34 (.bool false) (by kernel_rfl) (by kernel_rfl) (by kernel_rfl) (Pl.free 16 (by kernel_rfl)) (Pl.pick 16 (.tmp 21) (.tmp 33) (.const (.bool false)) (by kernel_rfl) (by decide) (by decide) rfl) (SortS.below h hb2) ?_
  refine Pl.H.done (by kernel_rfl) (fun A' hA' => ?_)
  rw [Pl.At.ext hA' (((((((((((((((((hA.put 18 _).put 19 _).put 20 _).put 21 _).put 22 _).put 23 _).put 24 _).put 25 _).put 26 _).put 27 _).put 28 _).put 29 _).put 30 _).put 31 _).put 32 _).put 33 _).put 34 _)]
  exact hend (fun d => if d = 18 then .int .i64 ((j : Nat) : Int) else if d = 19 then .int .i64 0 else if d = 20 then .bool true else if d = 21 then .bool true else if d = 22 then .func (.func 30) #[] #[] else if d = 23 then .slice (some ⟨b, o, none⟩) len cap else if d = 24 then .int .i64 ((j : Nat) : Int) else if d = 25 then .pointer (some ⟨b, o + j * 2, none⟩) else if d = 26 then Ix.val x else if d = 27 then .slice (some ⟨b, o, none⟩) len cap else if d = 28 then .int .i64 ((j : Nat) : Int) else if d = 29 then .int .i64 ((j - 1 : Nat) : Int) else if d = 30 then .pointer (some ⟨b, o + (j - 1) * 2, none⟩) else if d = 31 then Ix.val y else if d = 32 then .int .i64 (cmpI x.page y.page) else if d = 33 then .bool false else undef) _ (rBelow (below_drew w) hb2)

set_option maxHeartbeats 2000000 in
set_option maxRecDepth 100000 in
theorem isort6 (w : World) (b o len cap j : Nat) (x y : Ix) (h : SortS b o j x y w.drew) (hp : 0 < j) (hj : j < len) (hbig : len ≤ 1000000) (hst1 : (Instr.storeAt 28 (.pointer (some ⟨b, o + j * 2, none⟩)) y.val).run Try.prog w.drew = .ok () (setIm w.drew b (o + j * 2) y)) (hst2 : (Instr.storeAt 28 (.pointer (some ⟨b, o + (j - 1) * 2, none⟩)) x.val).run Try.prog (setIm w.drew b (o + j * 2) y) = .ok () (setIm (setIm w.drew b (o + j * 2) y) b (o + (j - 1) * 2) x))
    {Q : Exit → Act → World → Prop} {A : Act} (hsz : A.tmps.size = 53) (hdf : A.defers = []) (s0 : A.tmps.getD 0 undef = .slice (some ⟨b, o, none⟩) len cap) (s9 : A.tmps.getD 9 undef = .int .i64 ((j : Nat) : Int))
    (hend : ∀ (u : Nat → Value) w', w' = (setIm (setIm w.drew b (o + j * 2) y) b (o + (j - 1) * 2) x) → Q .normal (((((((((((((((((A).put (some 37) (u 37)).put (some 38) (u 38)).put (some 39) (u 39)).put (some 40) (u 40)).put (some 41) (u 41)).put (some 42) (u 42)).put (some 43) (u 43)).put (some 44) (u 44)).put (some 45) (u 45)).put (some 47) (u 47)).put (some 48) (u 48)).put (some 49) (u 49)).put (some 46) (u 46)).put (some 50) (u 50)).put (some 51) (u 51)).put (some 52) (u 52)) w') :
    (Code.region 6 (Pl.find 6 ((Try.f39.body).getD .skip)) true).wp Try.prog Q A w := by
  have hA := Pl.At.same (v := .int .i64 ((j : Nat) : Int)) (d := 9) (Pl.At.same (v := .slice (some ⟨b, o, none⟩) len cap) (d := 0) (Pl.At.here hsz hdf) s0) s9
  refine Pl.H.start (S := (fun _ => True)) (by kernel_rfl) hA trivial ?_
  rw [show (Pl.find 6 ((Try.f39.body).getD .skip)).size = 18 by kernel_rfl]
  refine Pl.H.take 0 37 (.slice (some ⟨b, o, none⟩) len cap) (by kernel_rfl) (by kernel_rfl) (by kernel_rfl) (Pl.free 0 (by kernel_rfl)) (Pl.move 0 (.tmp 0) (by kernel_rfl) (by decide)) trivial ?_
  refine Pl.H.take 1 38 (.int .i64 ((j : Nat) : Int)) (by kernel_rfl) (by kernel_rfl) (by kernel_rfl) (Pl.free 1 (by kernel_rfl)) (Pl.move 1 (.tmp 9) (by kernel_rfl) (by decide)) trivial ?_
  refine Pl.H.take 2 39 (.slice (some ⟨b, o, none⟩) len cap) (by kernel_rfl) (by kernel_rfl) (by kernel_rfl) (Pl.free 2 (by kernel_rfl)) (Pl.move 2 (.tmp 0) (by kernel_rfl) (by decide)) trivial ?_
  refine Pl.H.take 3 40 (.int .i64 ((j : Nat) : Int)) (by kernel_rfl) (by kernel_rfl) (by kernel_rfl) (Pl.free 3 (by kernel_rfl)) (Pl.move 3 (.tmp 9) (by kernel_rfl) (by decide)) trivial ?_
  refine Pl.H.take 4 41 (.int .i64 ((j - 1 : Nat) : Int)) (by kernel_rfl) (by kernel_rfl) (by kernel_rfl) (Pl.free 4 (by kernel_rfl)) (Pl.binV 4 .sub 3 3 (.tmp 40) (.const (.int .i64 1)) (.int .i64 ((j : Nat) : Int)) (.int .i64 1) _ (by kernel_rfl) (by decide) (by decide) rfl rfl (subN j 1 _ _ hp (by omega))) trivial ?_
  refine Pl.H.take 5 42 (.slice (some ⟨b, o, none⟩) len cap) (by kernel_rfl) (by kernel_rfl) (by kernel_rfl) (Pl.free 5 (by kernel_rfl)) (Pl.move 5 (.tmp 0) (by kernel_rfl) (by decide)) trivial ?_
  refine Pl.H.take 6 43 (.int .i64 ((j : Nat) : Int)) (by kernel_rfl) (by kernel_rfl) (by kernel_rfl) (Pl.free 6 (by kernel_rfl)) (Pl.move 6 (.tmp 9) (by kernel_rfl) (by decide)) trivial ?_
  refine Pl.H.take 7 44 (.int .i64 ((j - 1 : Nat) : Int)) (by kernel_rfl) (by kernel_rfl) (by kernel_rfl) (Pl.free 7 (by kernel_rfl)) (Pl.binV 7 .sub 3 3 (.tmp 43) (.const (.int .i64 1)) (.int .i64 ((j : Nat) : Int)) (.int .i64 1) _ (by kernel_rfl) (by decide) (by decide) rfl rfl (subN j 1 _ _ hp (by omega))) trivial ?_
  refine Pl.H.take 8 45 (.pointer (some ⟨b, o + (j - 1) * 2, none⟩)) (by kernel_rfl) (by kernel_rfl) (by kernel_rfl) (Pl.free 8 (by kernel_rfl)) (Pl.index 8 25 (.tmp 42) (.tmp 44) _ (by kernel_rfl) (by decide) (by decide) (ixIm b o len cap (j - 1) (by omega))) trivial ?_
  refine Pl.H.take 10 47 (.slice (some ⟨b, o, none⟩) len cap) (by kernel_rfl) (by kernel_rfl) (by kernel_rfl) (Pl.free 10 (by kernel_rfl)) (Pl.move 10 (.tmp 0) (by kernel_rfl) (by decide)) trivial ?_
  refine Pl.H.take 11 48 (.int .i64 ((j : Nat) : Int)) (by kernel_rfl) (by kernel_rfl) (by kernel_rfl) (Pl.free 11 (by kernel_rfl)) (Pl.move 11 (.tmp 9) (by kernel_rfl) (by decide)) trivial ?_
  refine Pl.H.take 12 49 (.pointer (some ⟨b, o + j * 2, none⟩)) (by kernel_rfl) (by kernel_rfl) (by kernel_rfl) (Pl.free 12 (by kernel_rfl)) (Pl.index 12 25 (.tmp 47) (.tmp 48) _ (by kernel_rfl) (by decide) (by decide) (ixIm b o len cap j hj)) trivial ?_
  refine Pl.H.two 9 13 (by kernel_rfl) ?_ ?_
  · refine Pl.HOp.value 9 46 (Ix.val y) w.drew (by kernel_rfl) (by kernel_rfl) (by kernel_rfl) (Pl.load1 9 28 (.tmp 45) _ (by kernel_rfl) (by decide) (ldIm _ _ y w.drew (h hp).2)) trivial ?_
    refine Pl.H.solo 13 50 (Ix.val x) (by kernel_rfl) (by kernel_rfl) (by kernel_rfl) (Pl.free 13 (by kernel_rfl)) (Pl.load1 13 28 (.tmp 49) _ (by kernel_rfl) (by decide) (ldIm _ _ x w.drew (h hp).1)) trivial ?_
    refine Pl.H.take 14 51 (.pointer (some ⟨b, o + j * 2, none⟩)) (by kernel_rfl) (by kernel_rfl) (by kernel_rfl) (Pl.free 14 (by kernel_rfl)) (Pl.index 14 25 (.tmp 37) (.tmp 38) _ (by kernel_rfl) (by decide) (by decide) (ixIm b o len cap j hj)) trivial ?_
    refine Pl.H.store 15 (setIm w.drew b (o + j * 2) y) (by kernel_rfl) (by kernel_rfl) (by kernel_rfl) (Pl.free 15 (by kernel_rfl)) (Pl.storeV 15 28 (.tmp 51) (.tmp 46) _ (by kernel_rfl) (by decide) (by decide) hst1) trivial ?_
    refine Pl.H.take 16 52 (.pointer (some ⟨b, o + (j - 1) * 2, none⟩)) (by kernel_rfl) (by kernel_rfl) (by kernel_rfl) (Pl.free 16 (by kernel_rfl)) (Pl.index 16 25 (.tmp 39) (.tmp 41) _ (by kernel_rfl) (by decide) (by decide) (ixIm b o len cap (j - 1) (by omega))) trivial ?_
    refine Pl.H.store 17 (setIm (setIm w.drew b (o + j * 2) y) b (o + (j - 1) * 2) x) (by kernel_rfl) (by kernel_rfl) (by kernel_rfl) (Pl.free 17 (by kernel_rfl)) (Pl.storeV 17 28 (.tmp 52) (.tmp 50) _ (by kernel_rfl) (by decide) (by decide) hst2) trivial ?_
    refine Pl.H.done (by kernel_rfl) (fun A' hA' => ?_)
    rw [Pl.At.ext hA' ((((((((((((((((hA.put 37 _).put 38 _).put 39 _).put 40 _).put 41 _).put 42 _).put 43 _).put 44 _).put 45 _).put 47 _).put 48 _).put 49 _).put 46 _).put 50 _).put 51 _).put 52 _)]
    exact hend (fun d => if d = 37 then .slice (some ⟨b, o, none⟩) len cap else if d = 38 then .int .i64 ((j : Nat) : Int) else if d = 39 then .slice (some ⟨b, o, none⟩) len cap else if d = 40 then .int .i64 ((j : Nat) : Int) else if d = 41 then .int .i64 ((j - 1 : Nat) : Int) else if d = 42 then .slice (some ⟨b, o, none⟩) len cap else if d = 43 then .int .i64 ((j : Nat) : Int) else if d = 44 then .int .i64 ((j - 1 : Nat) : Int) else if d = 45 then .pointer (some ⟨b, o + (j - 1) * 2, none⟩) else if d = 47 then .slice (some ⟨b, o, none⟩) len cap else if d = 48 then .int .i64 ((j : Nat) : Int) else if d = 49 then .pointer (some ⟨b, o + j * 2, none⟩) else if d = 46 then Ix.val y else if d = 50 then Ix.val x else if d = 51 then .pointer (some ⟨b, o + j * 2, none⟩) else if d = 52 then .pointer (some ⟨b, o + (j - 1) * 2, none⟩) else undef) _ rfl
  · refine Pl.HOp.value 13 50 (Ix.val x) w.drew (by kernel_rfl) (by kernel_rfl) (by kernel_rfl) (Pl.load1 13 28 (.tmp 49) _ (by kernel_rfl) (by decide) (ldIm _ _ x w.drew (h hp).1)) trivial ?_
    refine Pl.H.solo 9 46 (Ix.val y) (by kernel_rfl) (by kernel_rfl) (by kernel_rfl) (Pl.free 9 (by kernel_rfl)) (Pl.load1 9 28 (.tmp 45) _ (by kernel_rfl) (by decide) (ldIm _ _ y w.drew (h hp).2)) trivial ?_
    rw [Pl.upd_comm _ 50 46 _ _ (by decide)]
    refine Pl.H.take 14 51 (.pointer (some ⟨b, o + j * 2, none⟩)) (by kernel_rfl) (by kernel_rfl) (by kernel_rfl) (Pl.free 14 (by kernel_rfl)) (Pl.index 14 25 (.tmp 37) (.tmp 38) _ (by kernel_rfl) (by decide) (by decide) (ixIm b o len cap j hj)) trivial ?_
    refine Pl.H.store 15 (setIm w.drew b (o + j * 2) y) (by kernel_rfl) (by kernel_rfl) (by kernel_rfl) (Pl.free 15 (by kernel_rfl)) (Pl.storeV 15 28 (.tmp 51) (.tmp 46) _ (by kernel_rfl) (by decide) (by decide) hst1) trivial ?_
    refine Pl.H.take 16 52 (.pointer (some ⟨b, o + (j - 1) * 2, none⟩)) (by kernel_rfl) (by kernel_rfl) (by kernel_rfl) (Pl.free 16 (by kernel_rfl)) (Pl.index 16 25 (.tmp 39) (.tmp 41) _ (by kernel_rfl) (by decide) (by decide) (ixIm b o len cap (j - 1) (by omega))) trivial ?_
    refine Pl.H.store 17 (setIm (setIm w.drew b (o + j * 2) y) b (o + (j - 1) * 2) x) (by kernel_rfl) (by kernel_rfl) (by kernel_rfl) (Pl.free 17 (by kernel_rfl)) (Pl.storeV 17 28 (.tmp 52) (.tmp 50) _ (by kernel_rfl) (by decide) (by decide) hst2) trivial ?_
    refine Pl.H.done (by kernel_rfl) (fun A' hA' => ?_)
    rw [Pl.At.ext hA' ((((((((((((((((hA.put 37 _).put 38 _).put 39 _).put 40 _).put 41 _).put 42 _).put 43 _).put 44 _).put 45 _).put 47 _).put 48 _).put 49 _).put 46 _).put 50 _).put 51 _).put 52 _)]
    exact hend (fun d => if d = 37 then .slice (some ⟨b, o, none⟩) len cap else if d = 38 then .int .i64 ((j : Nat) : Int) else if d = 39 then .slice (some ⟨b, o, none⟩) len cap else if d = 40 then .int .i64 ((j : Nat) : Int) else if d = 41 then .int .i64 ((j - 1 : Nat) : Int) else if d = 42 then .slice (some ⟨b, o, none⟩) len cap else if d = 43 then .int .i64 ((j : Nat) : Int) else if d = 44 then .int .i64 ((j - 1 : Nat) : Int) else if d = 45 then .pointer (some ⟨b, o + (j - 1) * 2, none⟩) else if d = 47 then .slice (some ⟨b, o, none⟩) len cap else if d = 48 then .int .i64 ((j : Nat) : Int) else if d = 49 then .pointer (some ⟨b, o + j * 2, none⟩) else if d = 46 then Ix.val y else if d = 50 then Ix.val x else if d = 51 then .pointer (some ⟨b, o + j * 2, none⟩) else if d = 52 then .pointer (some ⟨b, o + (j - 1) * 2, none⟩) else undef) _ rfl

namespace Ap
variable {α : Type} (p : α → Int)
/-- Where one is put: behind all that are not above it. -/
theorem ins_at : ∀ {S : List α} {m : α} {j : Nat}, Rising p S → j ≤ S.length → (∀ y ∈ S.drop j, p m < p y) → (∀ y ∈ S.take j, p y ≤ p m) → ins p S m = S.take j ++ m :: S.drop j
  | [], m, j, _, hj, _, _ => by
    simp at hj
    subst hj
    rfl
  | x :: r, m, 0, _, _, h1, _ => by
    have := h1 x (by simp)
    unfold ins
    rw [if_pos this]
    rfl
  | x :: r, m, j + 1, hr, hj, h1, h2 => by
    have hx := h2 x (by simp)
    show (if p m < p x then m :: x :: r else x :: ins p r m) = _
    rw [if_neg (by omega), ins_at hr.2 (by simpa using hj) (fun y hy => h1 y (by simpa using hy)) (fun y hy => h2 y (by simp [hy]))]
    rfl
theorem sort_snoc (l : List α) (m : α) : sort p (l ++ [m]) = ins p (sort p l) m := by simp [sort]
theorem ins_length : ∀ (l : List α) (m : α), (ins p l m).length = l.length + 1
  | [], _ => rfl
  | x :: r, m => by
    unfold ins
    split
    · simp
    · simp [ins_length r m]
theorem foldl_length : ∀ (l s : List α), (l.foldl (ins p) s).length = s.length + l.length
  | [], s => by simp
  | m :: r, s => by
    rw [List.foldl_cons, foldl_length r, ins_length, List.length_cons]
    omega
theorem sort_length (l : List α) : (sort p l).length = l.length := by
  unfold sort
  rw [foldl_length]
  simp
theorem foldl_rising : ∀ (l s : List α), Rising p s → Rising p (l.foldl (ins p) s)
  | [], _, h => h
  | m :: r, _, h => foldl_rising r _ (ins_rising p m h)
theorem sort_is_rising (l : List α) : Rising p (sort p l) := foldl_rising p l [] trivial
theorem rising_take : ∀ {S : List α} {j : Nat} {m : α} {y : α}, Rising p S → (hj : j < S.length) → p S[j] ≤ p m → y ∈ S.take (j + 1) → p y ≤ p m
  | x :: r, 0, m, y, _, _, h, hy => by
    simp at hy
    rw [hy]
    exact h
  | x :: r, j + 1, m, y, hr, hj, h, hy => by
    have hj' : j < r.length := by simpa using hj
    have hm : r[j] ∈ r := List.getElem_mem hj'
    have h' : p r[j] ≤ p m := h
    rcases List.mem_cons.1 hy with rfl | hy
    · have := hr.1 _ hm
      omega
    · exact rising_take hr.2 hj' h' hy
theorem mem_sort : ∀ (l s : List α) (y : α), y ∈ l.foldl (ins p) s → y ∈ s ∨ y ∈ l
  | [], _, _, h => .inl h
  | m :: r, s, y, h => by
    rcases mem_sort r _ y h with h | h
    · rcases (mem_ins p s m y).1 h with h | h
      · exact .inr (by simp [h])
      · exact .inl h
    · exact .inr (by simp [h])
end Ap
end Go.Proofs.Ytjgeiooblcpiaaa
