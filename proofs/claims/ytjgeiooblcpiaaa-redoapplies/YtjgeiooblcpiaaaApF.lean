/-
  Layer 6: images behind a group, by the document: drawn regions.
-/
import Derived.Test.YtjgeiooblcpiaaaApE
namespace Go.Proofs.Ytjgeiooblcpiaaa
open Go.RowKit

/-- The pages of two images. -/
def TwoP (b o c z k i : Nat) (x y : Ix) (w : World) : Prop := w.cell? ⟨b, o + k * 2, none⟩ = some (.int .i64 y.page) ∧ w.cell? ⟨c, z + i * 2, none⟩ = some (.int .i64 x.page)

set_option maxHeartbeats 2000000 in
set_option maxRecDepth 100000 in
theorem rap9A (w : World) (b o c z len cap len2 cap2 k i : Nat) (x y : Ix) (h : TwoP b o c z k i x y w.drew) 
    {Q : Exit → Act → World → Prop} {A : Act} (hsz : A.tmps.size = 73) (hdf : A.defers = []) (s0 : A.tmps.getD 0 undef = .slice (some ⟨b, o, none⟩) len cap) (s1 : A.tmps.getD 1 undef = .slice (some ⟨c, z, none⟩) len2 cap2) (s5 : A.tmps.getD 5 undef = .int .i64 ((i : Nat) : Int)) (s7 : A.tmps.getD 7 undef = .bool true) (s8 : A.tmps.getD 8 undef = .int .i64 ((k : Nat) : Int))
    (hend : ∀ (u : Nat → Value) w', w' = w.drew → Q .normal ((((((((((((((((A).put (some 22) (u 22)).put (some 23) (u 23)).put (some 24) (u 24)).put (some 25) (u 25)).put (some 26) (u 26)).put (some 27) (u 27)).put (some 28) (u 28)).put (some 29) (u 29)).put (some 30) (u 30)).put (some 31) (u 31)).put (some 32) (u 32)).put (some 33) (u 33)).put (some 34) (u 34)).put (some 35) (u 35)).put (some 36) (.bool false)) w') :
    (Code.region 9 (Pl.find 9 ((Try.f20.body).getD .skip)) true).wp Try.prog Q A w := by
  have hA := Pl.At.same (v := .int .i64 ((k : Nat) : Int)) (d := 8) (Pl.At.same (v := .bool true) (d := 7) (Pl.At.same (v := .int .i64 ((i : Nat) : Int)) (d := 5) (Pl.At.same (v := .slice (some ⟨c, z, none⟩) len2 cap2) (d := 1) (Pl.At.same (v := .slice (some ⟨b, o, none⟩) len cap) (d := 0) (Pl.At.here hsz hdf) s0) s1) s5) s7) s8
  refine Pl.H.start (S := TwoP b o c z k i x y) (by kernel_rfl) hA h ?_
  rw [show (Pl.find 9 ((Try.f20.body).getD .skip)).size = 15 by kernel_rfl]
  refine Pl.H.take 0 22 (.bool true) (by kernel_rfl) (by kernel_rfl) (by kernel_rfl) (Pl.free 0 (by kernel_rfl)) (Pl.move 0 (.tmp 7) (by kernel_rfl) (by decide)) h ?_
  refine Pl.H.take 1 23 (.bool false) (by kernel_rfl) (by kernel_rfl) (by kernel_rfl) (Pl.free 1 (by kernel_rfl)) (Pl.neg 1 4 (.tmp 22) true (by kernel_rfl) (by decide) rfl) h ?_
  refine Pl.H.take 2 24 (.bool false) (by kernel_rfl) (by kernel_rfl) (by kernel_rfl) (Pl.free 2 (by kernel_rfl)) (Pl.move 2 (.tmp 23) (by kernel_rfl) (by decide)) h ?_
  refine Pl.H.skip 3 25 (by kernel_rfl) (by kernel_rfl) (by kernel_rfl) (Pl.unwanted 3 2 24 true (by kernel_rfl) (by kernel_rfl) (by decide) rfl) h ?_
  refine Pl.H.skip 4 26 (by kernel_rfl) (by kernel_rfl) (by kernel_rfl) (Pl.unwanted 4 2 24 true (by kernel_rfl) (by kernel_rfl) (by decide) rfl) h ?_
  refine Pl.H.skip 5 27 (by kernel_rfl) (by kernel_rfl) (by kernel_rfl) (Pl.unwanted 5 2 24 true (by kernel_rfl) (by kernel_rfl) (by decide) rfl) h ?_
  refine Pl.H.skip 6 28 (by kernel_rfl) (by kernel_rfl) (by kernel_rfl) (Pl.unwanted 6 2 24 true (by kernel_rfl) (by kernel_rfl) (by decide) rfl) h ?_
  refine Pl.H.skip 7 29 (by kernel_rfl) (by kernel_rfl) (by kernel_rfl) (Pl.unwanted 7 2 24 true (by kernel_rfl) (by kernel_rfl) (by decide) rfl) h ?_
  refine Pl.H.skip 8 30 (by kernel_rfl) (by kernel_rfl) (by kernel_rfl) (Pl.unwanted 8 2 24 true (by kernel_rfl) (by kernel_rfl) (by decide) rfl) h ?_
  refine Pl.H.skip 9 31 (by kernel_rfl) (by kernel_rfl) (by kernel_rfl) (Pl.unwanted 9 2 24 true (by kernel_rfl) (by kernel_rfl) (by decide) rfl) h ?_
  refine Pl.H.skip 10 32 (by kernel_rfl) (by kernel_rfl) (by kernel_rfl) (Pl.unwanted 10 2 24 true (by kernel_rfl) (by kernel_rfl) (by decide) rfl) h ?_
  refine Pl.H.skip 11 33 (by kernel_rfl) (by kernel_rfl) (by kernel_rfl) (Pl.unwanted 11 2 24 true (by kernel_rfl) (by kernel_rfl) (by decide) rfl) h ?_
  refine Pl.H.skip 12 34 (by kernel_rfl) (by kernel_rfl) (by kernel_rfl) (Pl.unwanted 12 2 24 true (by kernel_rfl) (by kernel_rfl) (by decide) rfl) h ?_
  refine Pl.H.skip 13 35 (by kernel_rfl) (by kernel_rfl) (by kernel_rfl) (Pl.unwanted 13 2 24 true (by kernel_rfl) (by kernel_rfl) (by decide) rfl) h ?_
  refine Pl.H.take 14 36 (.bool false) (by kernel_rfl) (by kernel_rfl) (by kernel_rfl) (Pl.free 14 (by kernel_rfl)) (Pl.pickF 14 (.tmp 24) (.tmp 35) (.const (.bool false)) (by kernel_rfl) (by decide) (by decide) rfl) h ?_
  refine Pl.H.done (by kernel_rfl) (fun A' hA' => ?_)
  rw [Pl.At.ext hA' (((((((((((((((hA.put 22 _).put 23 _).put 24 _).put 25 _).put 26 _).put 27 _).put 28 _).put 29 _).put 30 _).put 31 _).put 32 _).put 33 _).put 34 _).put 35 _).put 36 _)]
  exact hend (fun d => if d = 22 then .bool true else if d = 23 then .bool false else if d = 24 then .bool false else if d = 25 then undef else if d = 26 then undef else if d = 27 then undef else if d = 28 then undef else if d = 29 then undef else if d = 30 then undef else if d = 31 then undef else if d = 32 then undef else if d = 33 then undef else if d = 34 then undef else if d = 35 then undef else undef) _ rfl

set_option maxHeartbeats 2000000 in
set_option maxRecDepth 100000 in
theorem rap9B (w : World) (b o c z len cap len2 cap2 k i : Nat) (x y : Ix) (h : TwoP b o c z k i x y w.drew) (hk : k < len) (hi : i < len2) (hc : x.page ≤ y.page)
    {Q : Exit → Act → World → Prop} {A : Act} (hsz : A.tmps.size = 73) (hdf : A.defers = []) (s0 : A.tmps.getD 0 undef = .slice (some ⟨b, o, none⟩) len cap) (s1 : A.tmps.getD 1 undef = .slice (some ⟨c, z, none⟩) len2 cap2) (s5 : A.tmps.getD 5 undef = .int .i64 ((i : Nat) : Int)) (s7 : A.tmps.getD 7 undef = .bool false) (s8 : A.tmps.getD 8 undef = .int .i64 ((k : Nat) : Int))
    (hend : ∀ (u : Nat → Value) w', w' = w.drew → Q .normal ((((((((((((((((A).put (some 22) (u 22)).put (some 23) (u 23)).put (some 24) (u 24)).put (some 25) (u 25)).put (some 26) (u 26)).put (some 27) (u 27)).put (some 28) (u 28)).put (some 29) (u 29)).put (some 30) (u 30)).put (some 31) (u 31)).put (some 32) (u 32)).put (some 33) (u 33)).put (some 34) (u 34)).put (some 35) (u 35)).put (some 36) (.bool true)) w') :
    (Code.region 9 (Pl.find 9 ((Try.f20.body).getD .skip)) true).wp Try.prog Q A w := by
  have hA := Pl.At.same (v := .int .i64 ((k : Nat) : Int)) (d := 8) (Pl.At.same (v := .bool false) (d := 7) (Pl.At.same (v := .int .i64 ((i : Nat) : Int)) (d := 5) (Pl.At.same (v := .slice (some ⟨c, z, none⟩) len2 cap2) (d := 1) (Pl.At.same (v := .slice (some ⟨b, o, none⟩) len cap) (d := 0) (Pl.At.here hsz hdf) s0) s1) s5) s7) s8
  refine Pl.H.start (S := TwoP b o c z k i x y) (by kernel_rfl) hA h ?_
  rw [show (Pl.find 9 ((Try.f20.body).getD .skip)).size = 15 by kernel_rfl]
  refine Pl.H.take 0 22 (.bool false) (by kernel_rfl) (by kernel_rfl) (by kernel_rfl) (Pl.free 0 (by kernel_rfl)) (Pl.move 0 (.tmp 7) (by kernel_rfl) (by decide)) h ?_
  refine Pl.H.take 1 23 (.bool true) (by kernel_rfl) (by kernel_rfl) (by kernel_rfl) (Pl.free 1 (by kernel_rfl)) (Pl.neg 1 4 (.tmp 22) false (by kernel_rfl) (by decide) rfl) h ?_
  refine Pl.H.take 2 24 (.bool true) (by kernel_rfl) (by kernel_rfl) (by kernel_rfl) (Pl.free 2 (by kernel_rfl)) (Pl.move 2 (.tmp 23) (by kernel_rfl) (by decide)) h ?_
  refine Pl.H.take 3 25 (.slice (some ⟨b, o, none⟩) len cap) (by kernel_rfl) (by kernel_rfl) (by kernel_rfl) (Pl.guarded 3 2 24 true (by kernel_rfl) (by kernel_rfl) (by decide) rfl) (Pl.move 3 (.tmp 0) (by kernel_rfl) (by decide)) h ?_
  refine Pl.H.take 4 26 (.int .i64 ((k : Nat) : Int)) (by kernel_rfl) (by kernel_rfl) (by kernel_rfl) (Pl.guarded 4 2 24 true (by kernel_rfl) (by kernel_rfl) (by decide) rfl) (Pl.move 4 (.tmp 8) (by kernel_rfl) (by decide)) h ?_
  refine Pl.H.take 5 27 (.pointer (some ⟨b, o + k * 2, none⟩)) (by kernel_rfl) (by kernel_rfl) (by kernel_rfl) (Pl.guarded 5 2 24 true (by kernel_rfl) (by kernel_rfl) (by decide) rfl) (Pl.index 5 25 (.tmp 25) (.tmp 26) _ (by kernel_rfl) (by decide) (by decide) (ixIm b o len cap k hk)) h ?_
  refine Pl.H.take 6 28 (.pointer (some ⟨b, o + k * 2, none⟩)) (by kernel_rfl) (by kernel_rfl) (by kernel_rfl) (Pl.guarded 6 2 24 true (by kernel_rfl) (by kernel_rfl) (by decide) rfl) (Pl.field 6 28 (.tmp 27) 0 _ (by kernel_rfl) (by decide) (fdI0 b (o + k * 2))) h ?_
  refine Pl.H.take 7 29 (.int .i64 y.page) (by kernel_rfl) (by kernel_rfl) (by kernel_rfl) (Pl.guarded 7 2 24 true (by kernel_rfl) (by kernel_rfl) (by decide) rfl) (Pl.load 7 3 (.tmp 28) _ (by kernel_rfl) (by decide) (fun w' hS => ldInt _ _ _ w' (hS.1))) h ?_
  refine Pl.H.take 8 30 (.slice (some ⟨c, z, none⟩) len2 cap2) (by kernel_rfl) (by kernel_rfl) (by kernel_rfl) (Pl.guarded 8 2 24 true (by kernel_rfl) (by kernel_rfl) (by decide) rfl) (Pl.move 8 (.tmp 1) (by kernel_rfl) (by decide)) h ?_
  refine Pl.H.take 9 31 (.int .i64 ((i : Nat) : Int)) (by kernel_rfl) (by kernel_rfl) (by kernel_rfl) (Pl.guarded 9 2 24 true (by kernel_rfl) (by kernel_rfl) (by decide) rfl) (Pl.move 9 (.tmp 5) (by kernel_rfl) (by decide)) h ?_
  refine Pl.H.take 10 32 (.pointer (some ⟨c, z + i * 2, none⟩)) (by kernel_rfl) (by kernel_rfl) (by kernel_rfl) (Pl.guarded 10 2 24 true (by kernel_rfl) (by kernel_rfl) (by decide) rfl) (Pl.index 10 25 (.tmp 30) (.tmp 31) _ (by kernel_rfl) (by decide) (by decide) (ixIm c z len2 cap2 i hi)) h ?_
  refine Pl.H.take 11 33 (.pointer (some ⟨c, z + i * 2, none⟩)) (by kernel_rfl) (by kernel_rfl) (by kernel_rfl) (Pl.guarded 11 2 24 true (by kernel_rfl) (by kernel_rfl) (by decide) rfl) (Pl.field 11 28 (.tmp 32) 0 _ (by kernel_rfl) (by decide) (fdI0 c (z + i * 2))) h ?_
  refine Pl.H.take 12 34 (.int .i64 x.page) (by kernel_rfl) (by kernel_rfl) (by kernel_rfl) (Pl.guarded 12 2 24 true (by kernel_rfl) (by kernel_rfl) (by decide) rfl) (Pl.load 12 3 (.tmp 33) _ (by kernel_rfl) (by decide) (fun w' hS => ldInt _ _ _ w' (hS.2))) h ?_
  refine Pl.H.take 13 35 (.bool true) (by kernel_rfl) (by kernel_rfl) (by kernel_rfl) (Pl.guarded 13 2 24 true (by kernel_rfl) (by kernel_rfl) (by decide) rfl) (Pl.binV 13 .geq 3 3 (.tmp 29) (.tmp 34) (.int .i64 y.page) (.int .i64 x.page) _ (by kernel_rfl) (by decide) (by decide) rfl rfl (geqT _ _ _ _ hc)) h ?_
  refine Pl.H.take 14 36 (.bool true) (by kernel_rfl) (by kernel_rfl) (by kernel_rfl) (Pl.free 14 (by kernel_rfl)) (Pl.pick 14 (.tmp 24) (.tmp 35) (.const (.bool false)) (by kernel_rfl) (by decide) (by decide) rfl) h ?_
  refine Pl.H.done (by kernel_rfl) (fun A' hA' => ?_)
  rw [Pl.At.ext hA' (((((((((((((((hA.put 22 _).put 23 _).put 24 _).put 25 _).put 26 _).put 27 _).put 28 _).put 29 _).put 30 _).put 31 _).put 32 _).put 33 _).put 34 _).put 35 _).put 36 _)]
  exact hend (fun d => if d = 22 then .bool false else if d = 23 then .bool true else if d = 24 then .bool true else if d = 25 then .slice (some ⟨b, o, none⟩) len cap else if d = 26 then .int .i64 ((k : Nat) : Int) else if d = 27 then .pointer (some ⟨b, o + k * 2, none⟩) else if d = 28 then .pointer (some ⟨b, o + k * 2, none⟩) else if d = 29 then .int .i64 y.page else if d = 30 then .slice (some ⟨c, z, none⟩) len2 cap2 else if d = 31 then .int .i64 ((i : Nat) : Int) else if d = 32 then .pointer (some ⟨c, z + i * 2, none⟩) else if d = 33 then .pointer (some ⟨c, z + i * 2, none⟩) else if d = 34 then .int .i64 x.page else if d = 35 then .bool true else undef) _ rfl

set_option maxHeartbeats 2000000 in
set_option maxRecDepth 100000 in
theorem rap9C (w : World) (b o c z len cap len2 cap2 k i : Nat) (x y : Ix) (h : TwoP b o c z k i x y w.drew) (hk : k < len) (hi : i < len2) (hc : ¬ x.page ≤ y.page)
    {Q : Exit → Act → World → Prop} {A : Act} (hsz : A.tmps.size = 73) (hdf : A.defers = []) (s0 : A.tmps.getD 0 undef = .slice (some ⟨b, o, none⟩) len cap) (s1 : A.tmps.getD 1 undef = .slice (some ⟨c, z, none⟩) len2 cap2) (s5 : A.tmps.getD 5 undef = .int .i64 ((i : Nat) : Int)) (s7 : A.tmps.getD 7 undef = .bool false) (s8 : A.tmps.getD 8 undef = .int .i64 ((k : Nat) : Int))
    (hend : ∀ (u : Nat → Value) w', w' = w.drew → Q .normal ((((((((((((((((A).put (some 22) (u 22)).put (some 23) (u 23)).put (some 24) (u 24)).put (some 25) (u 25)).put (some 26) (u 26)).put (some 27) (u 27)).put (some 28) (u 28)).put (some 29) (u 29)).put (some 30) (u 30)).put (some 31) (u 31)).put (some 32) (u 32)).put (some 33) (u 33)).put (some 34) (u 34)).put (some 35) (u 35)).put (some 36) (.bool false)) w') :
    (Code.region 9 (Pl.find 9 ((Try.f20.body).getD .skip)) true).wp Try.prog Q A w := by
  have hA := Pl.At.same (v := .int .i64 ((k : Nat) : Int)) (d := 8) (Pl.At.same (v := .bool false) (d := 7) (Pl.At.same (v := .int .i64 ((i : Nat) : Int)) (d := 5) (Pl.At.same (v := .slice (some ⟨c, z, none⟩) len2 cap2) (d := 1) (Pl.At.same (v := .slice (some ⟨b, o, none⟩) len cap) (d := 0) (Pl.At.here hsz hdf) s0) s1) s5) s7) s8
  refine Pl.H.start (S := TwoP b o c z k i x y) (by kernel_rfl) hA h ?_
  rw [show (Pl.find 9 ((Try.f20.body).getD .skip)).size = 15 by kernel_rfl]
  refine Pl.H.take 0 22 (.bool false) (by kernel_rfl) (by kernel_rfl) (by kernel_rfl) (Pl.free 0 (by kernel_rfl)) (Pl.move 0 (.tmp 7) (by kernel_rfl) (by decide)) h ?_
  refine Pl.H.take 1 23 (.bool true) (by kernel_rfl) (by kernel_rfl) (by kernel_rfl) (Pl.free 1 (by kernel_rfl)) (Pl.neg 1 4 (.tmp 22) false (by kernel_rfl) (by decide) rfl) h ?_
  refine Pl.H.take 2 24 (.bool true) (by kernel_rfl) (by kernel_rfl) (by kernel_rfl) (Pl.free 2 (by kernel_rfl)) (Pl.move 2 (.tmp 23) (by kernel_rfl) (by decide)) h ?_
  refine Pl.H.take 3 25 (.slice (some ⟨b, o, none⟩) len cap) (by kernel_rfl) (by kernel_rfl) (by kernel_rfl) (Pl.guarded 3 2 24 true (by kernel_rfl) (by kernel_rfl) (by decide) rfl) (Pl.move 3 (.tmp 0) (by kernel_rfl) (by decide)) h ?_
  refine Pl.H.take 4 26 (.int .i64 ((k : Nat) : Int)) (by kernel_rfl) (by kernel_rfl) (by kernel_rfl) (Pl.guarded 4 2 24 true (by kernel_rfl) (by kernel_rfl) (by decide) rfl) (Pl.move 4 (.tmp 8) (by kernel_rfl) (by decide)) h ?_
  refine Pl.H.take 5 27 (.pointer (some ⟨b, o + k * 2, none⟩)) (by kernel_rfl) (by kernel_rfl) (by kernel_rfl) (Pl.guarded 5 2 24 true (by kernel_rfl) (by kernel_rfl) (by decide) rfl) (Pl.index 5 25 (.tmp 25) (.tmp 26) _ (by kernel_rfl) (by decide) (by decide) (ixIm b o len cap k hk)) h ?_
  refine Pl.H.take 6 28 (.pointer (some ⟨b, o + k * 2, none⟩)) (by kernel_rfl) (by kernel_rfl) (by kernel_rfl) (Pl.guarded 6 2 24 true (by kernel_rfl) (by kernel_rfl) (by decide) rfl) (Pl.field 6 28 (.tmp 27) 0 _ (by kernel_rfl) (by decide) (fdI0 b (o + k * 2))) h ?_
  refine Pl.H.take 7 29 (.int .i64 y.page) (by kernel_rfl) (by kernel_rfl) (by kernel_rfl) (Pl.guarded 7 2 24 true (by kernel_rfl) (by kernel_rfl) (by decide) rfl) (Pl.load 7 3 (.tmp 28) _ (by kernel_rfl) (by decide) (fun w' hS => ldInt _ _ _ w' (hS.1))) h ?_
  refine Pl.H.take 8 30 (.slice (some ⟨c, z, none⟩) len2 cap2) (by kernel_rfl) (by kernel_rfl) (by kernel_rfl) (Pl.guarded 8 2 24 true (by kernel_rfl) (by kernel_rfl) (by decide) rfl) (Pl.move 8 (.tmp 1) (by kernel_rfl) (by decide)) h ?_
  refine Pl.H.take 9 31 (.int .i64 ((i : Nat) : Int)) (by kernel_rfl) (by kernel_rfl) (by kernel_rfl) (Pl.guarded 9 2 24 true (by kernel_rfl) (by kernel_rfl) (by decide) rfl) (Pl.move 9 (.tmp 5) (by kernel_rfl) (by decide)) h ?_
  refine Pl.H.take 10 32 (.pointer (some ⟨c, z + i * 2, none⟩)) (by kernel_rfl) (by kernel_rfl) (by kernel_rfl) (Pl.guarded 10 2 24 true (by kernel_rfl) (by kernel_rfl) (by decide) rfl) (Pl.index 10 25 (.tmp 30) (.tmp 31) _ (by kernel_rfl) (by decide) (by decide) (ixIm c z len2 cap2 i hi)) h ?_
  refine Pl.H.take 11 33 (.pointer (some ⟨c, z + i * 2, none⟩)) (by kernel_rfl) (by kernel_rfl) (by kernel_rfl) (Pl.guarded 11 2 24 true (by kernel_rfl) (by kernel_rfl) (by decide) rfl) (Pl.field 11 28 (.tmp 32) 0 _ (by kernel_rfl) (by decide) (fdI0 c (z + i * 2))) h ?_
  refine Pl.H.take 12 34 (.int .i64 x.page) (by kernel_rfl) (by kernel_rfl) (by kernel_rfl) (Pl.guarded 12 2 24 true (by kernel_rfl) (by kernel_rfl) (by decide) rfl) (Pl.load 12 3 (.tmp 33) _ (by kernel_rfl) (by decide) (fun w' hS => ldInt _ _ _ w' (hS.2))) h ?_
  refine Pl.H.take 13 35 (.bool false) (by kernel_rfl) (by kernel_rfl) (by kernel_rfl) (Pl.guarded 13 2 24 true (by kernel_rfl) (by kernel_rfl) (by decide) rfl) (Pl.binV 13 .geq 3 3 (.tmp 29) (.tmp 34) (.int .i64 y.page) (.int .i64 x.page) _ (by kernel_rfl) (by decide) (by decide) rfl rfl (geqF _ _ _ _ hc)) h ?_
  refine Pl.H.take 14 36 (.bool false) (by kernel_rfl) (by kernel_rfl) (by kernel_rfl) (Pl.free 14 (by kernel_rfl)) (Pl.pick 14 (.tmp 24) (.tmp 35) (.const (.bool false)) (by kernel_rfl) (by decide) (by decide) rfl) h ?_
  refine Pl.H.done (by kernel_rfl) (fun A' hA' => ?_)
  rw [Pl.At.ext hA' (((((((((((((((hA.put 22 _).put 23 _).put 24 _).put 25 _).put 26 _).put 27 _).put 28 _).put 29 _).put 30 _).put 31 _).put 32 _).put 33 _).put 34 _).put 35 _).put 36 _)]
  exact hend (fun d => if d = 22 then .bool false else if d = 23 then .bool true else if d = 24 then .bool true else if d = 25 then .slice (some ⟨b, o, none⟩) len cap else if d = 26 then .int .i64 ((k : Nat) : Int) else if d = 27 then .pointer (some ⟨b, o + k * 2, none⟩) else if d = 28 then .pointer (some ⟨b, o + k * 2, none⟩) else if d = 29 then .int .i64 y.page else if d = 30 then .slice (some ⟨c, z, none⟩) len2 cap2 else if d = 31 then .int .i64 ((i : Nat) : Int) else if d = 32 then .pointer (some ⟨c, z + i * 2, none⟩) else if d = 33 then .pointer (some ⟨c, z + i * 2, none⟩) else if d = 34 then .int .i64 x.page else if d = 35 then .bool false else undef) _ rfl

set_option maxHeartbeats 2000000 in
set_option maxRecDepth 100000 in
theorem rap12A (w : World) (b o c z len cap len2 cap2 k i : Nat) (x y : Ix) (h : TwoP b o c z k i x y w.drew) (hk : k < len) (hi : i < len2) (hc : y.page ≠ x.page)
    {Q : Exit → Act → World → Prop} {A : Act} (hsz : A.tmps.size = 73) (hdf : A.defers = []) (s0 : A.tmps.getD 0 undef = .slice (some ⟨b, o, none⟩) len cap) (s1 : A.tmps.getD 1 undef = .slice (some ⟨c, z, none⟩) len2 cap2) (s5 : A.tmps.getD 5 undef = .int .i64 ((i : Nat) : Int)) (s8 : A.tmps.getD 8 undef = .int .i64 ((k : Nat) : Int))
    (hend : ∀ (u : Nat → Value) w', w' = w.drew → Q .normal ((((((((((((A).put (some 44) (u 44)).put (some 45) (u 45)).put (some 46) (u 46)).put (some 47) (u 47)).put (some 48) (u 48)).put (some 49) (u 49)).put (some 50) (u 50)).put (some 51) (u 51)).put (some 52) (u 52)).put (some 53) (u 53)).put (some 54) (.bool true)) w') :
    (Code.region 12 (Pl.find 12 ((Try.f20.body).getD .skip)) true).wp Try.prog Q A w := by
  have hA := Pl.At.same (v := .int .i64 ((k : Nat) : Int)) (d := 8) (Pl.At.same (v := .int .i64 ((i : Nat) : Int)) (d := 5) (Pl.At.same (v := .slice (some ⟨c, z, none⟩) len2 cap2) (d := 1) (Pl.At.same (v := .slice (some ⟨b, o, none⟩) len cap) (d := 0) (Pl.At.here hsz hdf) s0) s1) s5) s8
  refine Pl.H.start (S := TwoP b o c z k i x y) (by kernel_rfl) hA h ?_
  rw [show (Pl.find 12 ((Try.f20.body).getD .skip)).size = 11 by kernel_rfl]
  refine Pl.H.take 0 44 (.slice (some ⟨b, o, none⟩) len cap) (by kernel_rfl) (by kernel_rfl) (by kernel_rfl) (Pl.free 0 (by kernel_rfl)) (Pl.move 0 (.tmp 0) (by kernel_rfl) (by decide)) h ?_
  refine Pl.H.take 1 45 (.int .i64 ((k : Nat) : Int)) (by kernel_rfl) (by kernel_rfl) (by kernel_rfl) (Pl.free 1 (by kernel_rfl)) (Pl.move 1 (.tmp 8) (by kernel_rfl) (by decide)) h ?_
  refine Pl.H.take 2 46 (.pointer (some ⟨b, o + k * 2, none⟩)) (by kernel_rfl) (by kernel_rfl) (by kernel_rfl) (Pl.free 2 (by kernel_rfl)) (Pl.index 2 25 (.tmp 44) (.tmp 45) _ (by kernel_rfl) (by decide) (by decide) (ixIm b o len cap k hk)) h ?_
  refine Pl.H.take 3 47 (.pointer (some ⟨b, o + k * 2, none⟩)) (by kernel_rfl) (by kernel_rfl) (by kernel_rfl) (Pl.free 3 (by kernel_rfl)) (Pl.field 3 28 (.tmp 46) 0 _ (by kernel_rfl) (by decide) (fdI0 b (o + k * 2))) h ?_
  refine Pl.H.take 4 48 (.int .i64 y.page) (by kernel_rfl) (by kernel_rfl) (by kernel_rfl) (Pl.free 4 (by kernel_rfl)) (Pl.load 4 3 (.tmp 47) _ (by kernel_rfl) (by decide) (fun w' hS => ldInt _ _ _ w' (hS.1))) h ?_
  refine Pl.H.take 5 49 (.slice (some ⟨c, z, none⟩) len2 cap2) (by kernel_rfl) (by kernel_rfl) (by kernel_rfl) (Pl.free 5 (by kernel_rfl)) (Pl.move 5 (.tmp 1) (by kernel_rfl) (by decide)) h ?_
  refine Pl.H.take 6 50 (.int .i64 ((i : Nat) : Int)) (by kernel_rfl) (by kernel_rfl) (by kernel_rfl) (Pl.free 6 (by kernel_rfl)) (Pl.move 6 (.tmp 5) (by kernel_rfl) (by decide)) h ?_
  refine Pl.H.take 7 51 (.pointer (some ⟨c, z + i * 2, none⟩)) (by kernel_rfl) (by kernel_rfl) (by kernel_rfl) (Pl.free 7 (by kernel_rfl)) (Pl.index 7 25 (.tmp 49) (.tmp 50) _ (by kernel_rfl) (by decide) (by decide) (ixIm c z len2 cap2 i hi)) h ?_
  refine Pl.H.take 8 52 (.pointer (some ⟨c, z + i * 2, none⟩)) (by kernel_rfl) (by kernel_rfl) (by kernel_rfl) (Pl.free 8 (by kernel_rfl)) (Pl.field 8 28 (.tmp 51) 0 _ (by kernel_rfl) (by decide) (fdI0 c (z + i * 2))) h ?_
  refine Pl.H.take 9 53 (.int .i64 x.page) (by kernel_rfl) (by kernel_rfl) (by kernel_rfl) (Pl.free 9 (by kernel_rfl)) (Pl.load 9 3 (.tmp 52) _ (by kernel_rfl) (by decide) (fun w' hS => ldInt _ _ _ w' (hS.2))) h ?_
  refine Pl.H.take 10 54 (.bool true) (by kernel_rfl) (by kernel_rfl) (by kernel_rfl) (Pl.free 10 (by kernel_rfl)) (Pl.binV 10 .neq 3 3 (.tmp 48) (.tmp 53) (.int .i64 y.page) (.int .i64 x.page) _ (by kernel_rfl) (by decide) (by decide) rfl rfl (neqT _ _ _ _ hc)) h ?_
  refine Pl.H.done (by kernel_rfl) (fun A' hA' => ?_)
  rw [Pl.At.ext hA' (((((((((((hA.put 44 _).put 45 _).put 46 _).put 47 _).put 48 _).put 49 _).put 50 _).put 51 _).put 52 _).put 53 _).put 54 _)]
  exact hend (fun d => if d = 44 then .slice (some ⟨b, o, none⟩) len cap else if d = 45 then .int .i64 ((k : Nat) : Int) else if d = 46 then .pointer (some ⟨b, o + k * 2, none⟩) else if d = 47 then .pointer (some ⟨b, o + k * 2, none⟩) else if d = 48 then .int .i64 y.page else if d = 49 then .slice (some ⟨c, z, none⟩) len2 cap2 else if d = 50 then .int .i64 ((i : Nat) : Int) else if d = 51 then .pointer (some ⟨c, z + i * 2, none⟩) else if d = 52 then .pointer (some ⟨c, z + i * 2, none⟩) else if d = 53 then .int .i64 x.page else undef) _ rfl

set_option maxHeartbeats 2000000 in
set_option maxRecDepth 100000 in
theorem rap12B (w : World) (b o c z len cap len2 cap2 k i : Nat) (x y : Ix) (h : TwoP b o c z k i x y w.drew) (hk : k < len) (hi : i < len2) (hc : ¬ y.page ≠ x.page)
    {Q : Exit → Act → World → Prop} {A : Act} (hsz : A.tmps.size = 73) (hdf : A.defers = []) (s0 : A.tmps.getD 0 undef = .slice (some ⟨b, o, none⟩) len cap) (s1 : A.tmps.getD 1 undef = .slice (some ⟨c, z, none⟩) len2 cap2) (s5 : A.tmps.getD 5 undef = .int .i64 ((i : Nat) : Int)) (s8 : A.tmps.getD 8 undef = .int .i64 ((k : Nat) : Int))
    (hend : ∀ (u : Nat → Value) w', w' = w.drew → Q .normal ((((((((((((A).put (some 44) (u 44)).put (some 45) (u 45)).put (some 46) (u 46)).put (some 47) (u 47)).put (some 48) (u 48)).put (some 49) (u 49)).put (some 50) (u 50)).put (some 51) (u 51)).put (some 52) (u 52)).put (some 53) (u 53)).put (some 54) (.bool false)) w') :
    (Code.region 12 (Pl.find 12 ((Try.f20.body).getD .skip)) true).wp Try.prog Q A w := by
  have hA := Pl.At.same (v := .int .i64 ((k : Nat) : Int)) (d := 8) (Pl.At.same (v := .int .i64 ((i : Nat) : Int)) (d := 5) (Pl.At.same (v := .slice (some ⟨c, z, none⟩) len2 cap2) (d := 1) (Pl.At.same (v := .slice (some ⟨b, o, none⟩) len cap) (d := 0) (Pl.At.here hsz hdf) s0) s1) s5) s8
  refine Pl.H.start (S := TwoP b o c z k i x y) (by kernel_rfl) hA h ?_
  rw [show (Pl.find 12 ((Try.f20.body).getD .skip)).size = 11 by kernel_rfl]
  refine Pl.H.take 0 44 (.slice (some ⟨b, o, none⟩) len cap) (by kernel_rfl) (by kernel_rfl) (by kernel_rfl) (Pl.free 0 (by kernel_rfl)) (Pl.move 0 (.tmp 0) (by kernel_rfl) (by decide)) h ?_
  refine Pl.H.take 1 45 (.int .i64 ((k : Nat) : Int)) (by kernel_rfl) (by kernel_rfl) (by kernel_rfl) (Pl.free 1 (by kernel_rfl)) (Pl.move 1 (.tmp 8) (by kernel_rfl) (by decide)) h ?_
  refine Pl.H.take 2 46 (.pointer (some ⟨b, o + k * 2, none⟩)) (by kernel_rfl) (by kernel_rfl) (by kernel_rfl) (Pl.free 2 (by kernel_rfl)) (Pl.index 2 25 (.tmp 44) (.tmp 45) _ (by kernel_rfl) (by decide) (by decide) (ixIm b o len cap k hk)) h ?_
  refine Pl.H.take 3 47 (.pointer (some ⟨b, o + k * 2, none⟩)) (by kernel_rfl) (by kernel_rfl) (by kernel_rfl) (Pl.free 3 (by kernel_rfl)) (Pl.field 3 28 (.tmp 46) 0 _ (by kernel_rfl) (by decide) (fdI0 b (o + k * 2))) h ?_
  refine Pl.H.take 4 48 (.int .i64 y.page) (by kernel_rfl) (by kernel_rfl) (by kernel_rfl) (Pl.free 4 (by kernel_rfl)) (Pl.load 4 3 (.tmp 47) _ (by kernel_rfl) (by decide) (fun w' hS => ldInt _ _ _ w' (hS.1))) h ?_
  refine Pl.H.take 5 49 (.slice (some ⟨c, z, none⟩) len2 cap2) (by kernel_rfl) (by kernel_rfl) (by kernel_rfl) (Pl.free 5 (by kernel_rfl)) (Pl.move 5 (.tmp 1) (by kernel_rfl) (by decide)) h ?_
  refine Pl.H.take 6 50 (.int .i64 ((i : Nat) : Int)) (by kernel_rfl) (by kernel_rfl) (by kernel_rfl) (Pl.free 6 (by kernel_rfl)) (Pl.move 6 (.tmp 5) (by kernel_rfl) (by decide)) h ?_
  refine Pl.H.take 7 51 (.pointer (some ⟨c, z + i * 2, none⟩)) (by kernel_rfl) (by kernel_rfl) (by kernel_rfl) (Pl.free 7 (by kernel_rfl)) (Pl.index 7 25 (.tmp 49) (.tmp 50) _ (by kernel_rfl) (by decide) (by decide) (ixIm c z len2 cap2 i hi)) h ?_
  refine Pl.H.take 8 52 (.pointer (some ⟨c, z + i * 2, none⟩)) (by kernel_rfl) (by kernel_rfl) (by kernel_rfl) (Pl.free 8 (by kernel_rfl)) (Pl.field 8 28 (.tmp 51) 0 _ (by kernel_rfl) (by decide) (fdI0 c (z + i * 2))) h ?_
  refine Pl.H.take 9 53 (.int .i64 x.page) (by kernel_rfl) (by kernel_rfl) (by kernel_rfl) (Pl.free 9 (by kernel_rfl)) (Pl.load 9 3 (.tmp 52) _ (by kernel_rfl) (by decide) (fun w' hS => ldInt _ _ _ w' (hS.2))) h ?_
  refine Pl.H.take 10 54 (.bool false) (by kernel_rfl) (by kernel_rfl) (by kernel_rfl) (Pl.free 10 (by kernel_rfl)) (Pl.binV 10 .neq 3 3 (.tmp 48) (.tmp 53) (.int .i64 y.page) (.int .i64 x.page) _ (by kernel_rfl) (by decide) (by decide) rfl rfl (neqF _ _ _ _ hc)) h ?_
  refine Pl.H.done (by kernel_rfl) (fun A' hA' => ?_)
  rw [Pl.At.ext hA' (((((((((((hA.put 44 _).put 45 _).put 46 _).put 47 _).put 48 _).put 49 _).put 50 _).put 51 _).put 52 _).put 53 _).put 54 _)]
  exact hend (fun d => if d = 44 then .slice (some ⟨b, o, none⟩) len cap else if d = 45 then .int .i64 ((k : Nat) : Int) else if d = 46 then .pointer (some ⟨b, o + k * 2, none⟩) else if d = 47 then .pointer (some ⟨b, o + k * 2, none⟩) else if d = 48 then .int .i64 y.page else if d = 49 then .slice (some ⟨c, z, none⟩) len2 cap2 else if d = 50 then .int .i64 ((i : Nat) : Int) else if d = 51 then .pointer (some ⟨c, z + i * 2, none⟩) else if d = 52 then .pointer (some ⟨c, z + i * 2, none⟩) else if d = 53 then .int .i64 x.page else undef) _ rfl

/-- A row that is being built, over what is elder. -/
def PutInv (wr wz : World) (o : Sl) (lo : List Ix) : Prop := GI (fun _ => True) wr.heap.size wz o lo ∧ Below wr.heap.size wr wz
theorem PutInv.step {wr wz wy : World} {o : Sl} {lo : List Ix} (h : PutInv wr wz o lo) (hb : Below wz.heap.size wz wy) : PutInv wr wy o lo := ⟨h.1.keep hb, rBelow h.2 hb⟩
theorem PutInv.add {wr wz wy : World} {o o' : Sl} {lo : List Ix} {x : Ix} (h : PutInv wr wz o lo) (hx : Cm (fun _ => True) wr x.s x.bs) (ho : OwnI wy o' (lo ++ [x])) (hf : Frm (fun k => o.blk = some k) wz wy) (hb : o'.blk = o.blk ∨ ∃ k, o'.blk = some k ∧ wz.heap.size ≤ k) : PutInv wr wy o' (lo ++ [x]) := by
  have hx1 : Cm (fun k => k < wr.heap.size) wr x.s x.bs := hx.mono (fun _ _ hl => hl)
  have hx2 : Cm (fun k => True ∧ o.blk ≠ some k) wz x.s x.bs := (hx1.keep (Kept.below h.2 (fun _ hk _ => hk))).mono (fun k hk _ => ⟨trivial, fun e => by have := h.1.blk k e; omega⟩)
  obtain ⟨h1, h2⟩ := h.1.add hx2 ho hf hb h.2.size
  exact ⟨h1, h.2.trans h2⟩
theorem PutInv.own {wr wz : World} {o : Sl} {lo : List Ix} (h : PutInv wr wz o lo) : OwnI wz o lo := h.1.own

/-- How far one image has been put among others. -/
def PutAt (l : List Ix) (x : Ix) (pb : Bool) (lo : List Ix) (k : Nat) : Prop := lo ++ (if pb = true then l.drop k else Ap.put Ix.page (l.drop k) x) = Ap.put Ix.page l x ∧ (pb = true → ∀ y ∈ l.drop k, x.page < y.page)
theorem PutAt.start (l : List Ix) (x : Ix) : PutAt l x false [] 0 := ⟨rfl, fun h => by cases h⟩
theorem PutAt.behind {l : List Ix} {x : Ix} {lo : List Ix} {k : Nat} (h : PutAt l x true lo k) (hk : k < l.length) : PutAt l x true (lo ++ [l.getD k Ix.zero]) (k + 1) ∧ x.page < (l.getD k Ix.zero).page := by
  have e : l.getD k Ix.zero = l[k] := by simp [List.getD, hk]
  have d : l.drop k = l[k] :: l.drop (k + 1) := List.drop_eq_getElem_cons hk
  obtain ⟨h1, h2⟩ := h
  rw [if_pos rfl, d] at h1
  rw [d] at h2
  rw [e]
  refine ⟨⟨?_, fun _ y hy => h2 rfl y (List.mem_cons_of_mem _ hy)⟩, h2 rfl _ List.mem_cons_self⟩
  rw [if_pos rfl, List.append_assoc]
  exact h1
theorem PutAt.ahead {l : List Ix} {x : Ix} {lo : List Ix} {k : Nat} (h : PutAt l x false lo k) (hk : k < l.length) (hc : ¬ x.page ≤ (l.getD k Ix.zero).page) : PutAt l x false (lo ++ [l.getD k Ix.zero]) (k + 1) := by
  have e : l.getD k Ix.zero = l[k] := by simp [List.getD, hk]
  have d : l.drop k = l[k] :: l.drop (k + 1) := List.drop_eq_getElem_cons hk
  rw [e] at hc ⊢
  obtain ⟨h1, _⟩ := h
  rw [if_neg (by decide), d] at h1
  refine ⟨?_, fun h => by cases h⟩
  rw [if_neg (by decide), List.append_assoc]
  have : Ap.put Ix.page (l[k] :: l.drop (k + 1)) x = l[k] :: Ap.put Ix.page (l.drop (k + 1)) x := by
    show (if x.page ≤ l[k].page then _ else l[k] :: Ap.put Ix.page (l.drop (k + 1)) x) = _
    rw [if_neg hc]
  rw [this] at h1
  exact h1
theorem steep_drop : ∀ {l : List Ix} (k : Nat), Ap.Steep Ix.page l → Ap.Steep Ix.page (l.drop k)
  | _, 0, h => h
  | [], _ + 1, _ => trivial
  | _ :: _, k + 1, h => steep_drop k h.2
theorem PutAt.same {l : List Ix} {x : Ix} {lo : List Ix} {k : Nat} (h : PutAt l x false lo k) (hs : Ap.Steep Ix.page l) (hk : k < l.length) (hc : (l.getD k Ix.zero).page = x.page) : PutAt l x true (lo ++ [x]) (k + 1) := by
  have e : l.getD k Ix.zero = l[k] := by simp [List.getD, hk]
  have d : l.drop k = l[k] :: l.drop (k + 1) := List.drop_eq_getElem_cons hk
  have hsd := steep_drop k hs
  rw [d] at hsd
  rw [e] at hc
  obtain ⟨h1, _⟩ := h
  rw [if_neg (by decide), d] at h1
  refine ⟨?_, fun _ y hy => by have := hsd.1 y hy; omega⟩
  rw [if_pos rfl, List.append_assoc]
  have : Ap.put Ix.page (l[k] :: l.drop (k + 1)) x = x :: l.drop (k + 1) := by
    unfold Ap.put
    rw [if_pos (by omega), if_pos hc]
  rw [this] at h1
  exact h1
theorem PutAt.over {l : List Ix} {x : Ix} {lo : List Ix} {k : Nat} (h : PutAt l x false lo k) (hs : Ap.Steep Ix.page l) (hk : k < l.length) (hc : x.page < (l.getD k Ix.zero).page) : PutAt l x true (lo ++ [x] ++ [l.getD k Ix.zero]) (k + 1) := by
  have e : l.getD k Ix.zero = l[k] := by simp [List.getD, hk]
  have d : l.drop k = l[k] :: l.drop (k + 1) := List.drop_eq_getElem_cons hk
  have hsd := steep_drop k hs
  rw [d] at hsd
  rw [e] at hc ⊢
  obtain ⟨h1, _⟩ := h
  rw [if_neg (by decide), d] at h1
  refine ⟨?_, fun _ y hy => by have := hsd.1 y hy; omega⟩
  rw [if_pos rfl, List.append_assoc, List.append_assoc]
  have : Ap.put Ix.page (l[k] :: l.drop (k + 1)) x = x :: l[k] :: l.drop (k + 1) := by
    unfold Ap.put
    rw [if_pos (by omega), if_neg (by omega)]
  rw [this] at h1
  exact h1
theorem PutAt.done {l : List Ix} {x : Ix} {lo : List Ix} {pb : Bool} (h : PutAt l x pb lo l.length) : (pb = true → lo = Ap.put Ix.page l x) ∧ (pb = false → lo ++ [x] = Ap.put Ix.page l x) := by
  obtain ⟨h1, _⟩ := h
  rw [List.drop_length] at h1
  constructor
  · intro e
    rw [if_pos e, List.append_nil] at h1
    exact h1
  · intro e
    rw [if_neg (by rw [e]; decide)] at h1
    exact h1
end Go.Proofs.Ytjgeiooblcpiaaa
