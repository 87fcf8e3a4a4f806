/-
  Layer 8: the drawn statement of the document's Join.
-/
import Derived.Test.YtgieigpbbkeonaaLfJ
namespace Go.Proofs.Ytgieigpbbkeonaa
open Go.RowKit


set_option maxHeartbeats 2000000 in
set_option maxRecDepth 100000 in
theorem join13A (w : World) (g b2 o2 len2 cap2 i k : Nat)
    {Q : Exit → Act → World → Prop} {A : Act} (hsz : A.tmps.size = 78) (hdf : A.defers = []) (s2 : A.tmps.getD 2 undef = .slice (some ⟨b2, o2, none⟩) len2 cap2) (s3 : A.tmps.getD 3 undef = .pointer (some ⟨g, 0, none⟩)) (s10 : A.tmps.getD 10 undef = .int .i64 ((i : Nat) : Int)) (s11 : A.tmps.getD 11 undef = .bool true) (s12 : A.tmps.getD 12 undef = .int .i64 ((k : Nat) : Int))
    (hend : ∀ (u : Nat → Value) w', Below w.heap.size w w' → Q .normal (((((((((((((((A).put (some 38) (u 38)).put (some 39) (u 39)).put (some 40) (u 40)).put (some 41) (u 41)).put (some 42) (u 42)).put (some 43) (u 43)).put (some 44) (u 44)).put (some 45) (u 45)).put (some 46) (u 46)).put (some 47) (u 47)).put (some 48) (u 48)).put (some 49) (u 49)).put (some 50) (u 50)).put (some 11) (.bool true)) w') :
    (Code.region 13 (Pl.find 13 ((Try.f21.body).getD .skip)) true).wp Try.prog Q A w := by
  have hA := Pl.At.same (v := .int .i64 ((k : Nat) : Int)) (d := 12) (Pl.At.same (v := .bool true) (d := 11) (Pl.At.same (v := .int .i64 ((i : Nat) : Int)) (d := 10) (Pl.At.same (v := .pointer (some ⟨g, 0, none⟩)) (d := 3) (Pl.At.same (v := .slice (some ⟨b2, o2, none⟩) len2 cap2) (d := 2) (Pl.At.here hsz hdf) s2) s3) s10) s11) s12
  refine Pl.H.start (S := (fun w' => Below w.heap.size w w')) (by kernel_rfl) hA (below_drew w) ?_
  rw [show (Pl.find 13 ((Try.f21.body).getD .skip)).size = 14 by kernel_rfl]
  refine Pl.H.take 0 38 (.bool true) (by kernel_rfl) (by kernel_rfl) (by kernel_rfl) (Pl.free 0 (by kernel_rfl)) (Pl.move 0 (.tmp 11) (by kernel_rfl) (by decide)) (below_drew w) ?_
  refine Pl.H.take 1 39 (.bool true) (by kernel_rfl) (by kernel_rfl) (by kernel_rfl) (Pl.free 1 (by kernel_rfl)) (Pl.move 1 (.tmp 38) (by kernel_rfl) (by decide)) (below_drew w) ?_
  refine Pl.H.skip 2 40 (by kernel_rfl) (by kernel_rfl) (by kernel_rfl) (Pl.unwanted 2 1 39 false (by kernel_rfl) (by kernel_rfl) (by decide) rfl) (below_drew w) ?_
  refine Pl.H.skip 3 41 (by kernel_rfl) (by kernel_rfl) (by kernel_rfl) (Pl.unwanted 3 1 39 false (by kernel_rfl) (by kernel_rfl) (by decide) rfl) (below_drew w) ?_
  refine Pl.H.skip 4 42 (by kernel_rfl) (by kernel_rfl) (by kernel_rfl) (Pl.unwanted 4 1 39 false (by kernel_rfl) (by kernel_rfl) (by decide) rfl) (below_drew w) ?_
  refine Pl.H.skip 5 43 (by kernel_rfl) (by kernel_rfl) (by kernel_rfl) (Pl.unwanted 5 1 39 false (by kernel_rfl) (by kernel_rfl) (by decide) rfl) (below_drew w) ?_
  refine Pl.H.skip 6 44 (by kernel_rfl) (by kernel_rfl) (by kernel_rfl) (Pl.unwanted 6 1 39 false (by kernel_rfl) (by kernel_rfl) (by decide) rfl) (below_drew w) ?_
  refine Pl.H.skip 7 45 (by kernel_rfl) (by kernel_rfl) (by kernel_rfl) (Pl.unwanted 7 1 39 false (by kernel_rfl) (by kernel_rfl) (by decide) rfl) (below_drew w) ?_
  refine Pl.H.skip 8 46 (by kernel_rfl) (by kernel_rfl) (by kernel_rfl) (Pl.unwanted 8 1 39 false (by kernel_rfl) (by kernel_rfl) (by decide) rfl) (below_drew w) ?_
  refine Pl.H.skip 9 47 (by kernel_rfl) (by kernel_rfl) (by kernel_rfl) (Pl.unwanted 9 1 39 false (by kernel_rfl) (by kernel_rfl) (by decide) rfl) (below_drew w) ?_
  refine Pl.H.skip 10 48 (by kernel_rfl) (by kernel_rfl) (by kernel_rfl) (Pl.unwanted 10 1 39 false (by kernel_rfl) (by kernel_rfl) (by decide) rfl) (below_drew w) ?_
  refine Pl.H.skip 11 49 (by kernel_rfl) (by kernel_rfl) (by kernel_rfl) (Pl.unwanted 11 1 39 false (by kernel_rfl) (by kernel_rfl) (by decide) rfl) (below_drew w) ?_
  refine Pl.H.take 12 50 (.bool true) (by kernel_rfl) (by kernel_rfl) (by kernel_rfl) (Pl.free 12 (by kernel_rfl)) (Pl.pick 12 (.tmp 39) (.const (.bool true)) (.tmp 49) (by kernel_rfl) (by decide) (by decide) rfl) (below_drew w) ?_
  refine Pl.H.take 13 11 (.bool true) (by kernel_rfl) (by kernel_rfl) (by kernel_rfl) (Pl.free 13 (by kernel_rfl)) (Pl.assign 13 (.tmp 50) (by kernel_rfl) (by decide)) (below_drew w) ?_
  refine Pl.H.done (by kernel_rfl) (fun A' hA' => ?_)
  rw [Pl.At.ext hA' ((((((((((((((hA.put 38 _).put 39 _).put 40 _).put 41 _).put 42 _).put 43 _).put 44 _).put 45 _).put 46 _).put 47 _).put 48 _).put 49 _).put 50 _).put 11 _)]
  exact hend (fun d => if d = 38 then .bool true else if d = 39 then .bool true else if d = 40 then undef else if d = 41 then undef else if d = 42 then undef else if d = 43 then undef else if d = 44 then undef else if d = 45 then undef else if d = 46 then undef else if d = 47 then undef else if d = 48 then undef else if d = 49 then undef else if d = 50 then .bool true else undef) _ (below_drew w)

set_option maxHeartbeats 2000000 in
set_option maxRecDepth 100000 in
theorem join13B (w : World) (g b o len cap b2 o2 len2 cap2 i k : Nat) (v : Value) (x y : Int) (hi : i < len) (hk : k < len2) (hg : LfBlk w g (.slice (some ⟨b, o, none⟩) len cap) v) (hx : w.cell? ⟨b2, o2 + k, none⟩ = some (.int .i64 x)) (hy : w.cell? ⟨b, o + i, none⟩ = some (.int .i64 y)) (h1 : x = y)
    {Q : Exit → Act → World → Prop} {A : Act} (hsz : A.tmps.size = 78) (hdf : A.defers = []) (s2 : A.tmps.getD 2 undef = .slice (some ⟨b2, o2, none⟩) len2 cap2) (s3 : A.tmps.getD 3 undef = .pointer (some ⟨g, 0, none⟩)) (s10 : A.tmps.getD 10 undef = .int .i64 ((i : Nat) : Int)) (s11 : A.tmps.getD 11 undef = .bool false) (s12 : A.tmps.getD 12 undef = .int .i64 ((k : Nat) : Int))
    (hend : ∀ (u : Nat → Value) w', Below w.heap.size w w' → Q .normal (((((((((((((((A).put (some 38) (u 38)).put (some 39) (u 39)).put (some 40) (u 40)).put (some 41) (u 41)).put (some 42) (u 42)).put (some 43) (u 43)).put (some 44) (u 44)).put (some 45) (u 45)).put (some 46) (u 46)).put (some 47) (u 47)).put (some 48) (u 48)).put (some 49) (u 49)).put (some 50) (u 50)).put (some 11) (.bool true)) w') :
    (Code.region 13 (Pl.find 13 ((Try.f21.body).getD .skip)) true).wp Try.prog Q A w := by
  have hA := Pl.At.same (v := .int .i64 ((k : Nat) : Int)) (d := 12) (Pl.At.same (v := .bool false) (d := 11) (Pl.At.same (v := .int .i64 ((i : Nat) : Int)) (d := 10) (Pl.At.same (v := .pointer (some ⟨g, 0, none⟩)) (d := 3) (Pl.At.same (v := .slice (some ⟨b2, o2, none⟩) len2 cap2) (d := 2) (Pl.At.here hsz hdf) s2) s3) s10) s11) s12
  refine Pl.H.start (S := (fun w' => Below w.heap.size w w')) (by kernel_rfl) hA (below_drew w) ?_
  rw [show (Pl.find 13 ((Try.f21.body).getD .skip)).size = 14 by kernel_rfl]
  refine Pl.H.take 0 38 (.bool false) (by kernel_rfl) (by kernel_rfl) (by kernel_rfl) (Pl.free 0 (by kernel_rfl)) (Pl.move 0 (.tmp 11) (by kernel_rfl) (by decide)) (below_drew w) ?_
  refine Pl.H.take 1 39 (.bool false) (by kernel_rfl) (by kernel_rfl) (by kernel_rfl) (Pl.free 1 (by kernel_rfl)) (Pl.move 1 (.tmp 38) (by kernel_rfl) (by decide)) (below_drew w) ?_
  refine Pl.H.take 2 40 (.slice (some ⟨b2, o2, none⟩) len2 cap2) (by kernel_rfl) (by kernel_rfl) (by kernel_rfl) (Pl.guarded 2 1 39 false (by kernel_rfl) (by kernel_rfl) (by decide) rfl) (Pl.move 2 (.tmp 2) (by kernel_rfl) (by decide)) (below_drew w) ?_
  refine Pl.H.take 3 41 (.int .i64 ((k : Nat) : Int)) (by kernel_rfl) (by kernel_rfl) (by kernel_rfl) (Pl.guarded 3 1 39 false (by kernel_rfl) (by kernel_rfl) (by decide) rfl) (Pl.move 3 (.tmp 12) (by kernel_rfl) (by decide)) (below_drew w) ?_
  refine Pl.H.take 4 42 (.pointer (some ⟨b2, o2 + k, none⟩)) (by kernel_rfl) (by kernel_rfl) (by kernel_rfl) (Pl.guarded 4 1 39 false (by kernel_rfl) (by kernel_rfl) (by decide) rfl) (Pl.index 4 22 (.tmp 40) (.tmp 41) _ (by kernel_rfl) (by decide) (by decide) (ixI1 b2 o2 len2 cap2 k hk)) (below_drew w) ?_
  refine Pl.H.take 5 43 (.int .i64 x) (by kernel_rfl) (by kernel_rfl) (by kernel_rfl) (Pl.guarded 5 1 39 false (by kernel_rfl) (by kernel_rfl) (by decide) rfl) (Pl.load 5 3 (.tmp 42) _ (by kernel_rfl) (by decide) (fun w' hS => ldI1 b2 (o2 + k) x w' (cell_below hx hS))) (below_drew w) ?_
  refine Pl.H.take 6 44 (.pointer (some ⟨g, 0, none⟩)) (by kernel_rfl) (by kernel_rfl) (by kernel_rfl) (Pl.guarded 6 1 39 false (by kernel_rfl) (by kernel_rfl) (by decide) rfl) (Pl.field 6 25 (.tmp 3) 0 _ (by kernel_rfl) (by decide) (fdLf0 g)) (below_drew w) ?_
  refine Pl.H.take 7 45 (.slice (some ⟨b, o, none⟩) len cap) (by kernel_rfl) (by kernel_rfl) (by kernel_rfl) (Pl.guarded 7 1 39 false (by kernel_rfl) (by kernel_rfl) (by decide) rfl) (Pl.load 7 22 (.tmp 44) _ (by kernel_rfl) (by decide) (fun w' hS => ldLf0 g ⟨some ⟨b, o, none⟩, len, cap⟩ v w' (hg.below hS))) (below_drew w) ?_
  refine Pl.H.take 8 46 (.int .i64 ((i : Nat) : Int)) (by kernel_rfl) (by kernel_rfl) (by kernel_rfl) (Pl.guarded 8 1 39 false (by kernel_rfl) (by kernel_rfl) (by decide) rfl) (Pl.move 8 (.tmp 10) (by kernel_rfl) (by decide)) (below_drew w) ?_
  refine Pl.H.take 9 47 (.pointer (some ⟨b, o + i, none⟩)) (by kernel_rfl) (by kernel_rfl) (by kernel_rfl) (Pl.guarded 9 1 39 false (by kernel_rfl) (by kernel_rfl) (by decide) rfl) (Pl.index 9 22 (.tmp 45) (.tmp 46) _ (by kernel_rfl) (by decide) (by decide) (ixI1 b o len cap i hi)) (below_drew w) ?_
  refine Pl.H.take 10 48 (.int .i64 y) (by kernel_rfl) (by kernel_rfl) (by kernel_rfl) (Pl.guarded 10 1 39 false (by kernel_rfl) (by kernel_rfl) (by decide) rfl) (Pl.load 10 3 (.tmp 47) _ (by kernel_rfl) (by decide) (fun w' hS => ldI1 b (o + i) y w' (cell_below hy hS))) (below_drew w) ?_
  refine Pl.H.take 11 49 (.bool true) (by kernel_rfl) (by kernel_rfl) (by kernel_rfl) (Pl.guarded 11 1 39 false (by kernel_rfl) (by kernel_rfl) (by decide) rfl) (Pl.binV 11 .eql 3 3 (.tmp 43) (.tmp 48) (.int .i64 x) (.int .i64 y) _ (by kernel_rfl) (by decide) (by decide) rfl rfl (eqlT x y _ _ h1)) (below_drew w) ?_
  refine Pl.H.take 12 50 (.bool true) (by kernel_rfl) (by kernel_rfl) (by kernel_rfl) (Pl.free 12 (by kernel_rfl)) (Pl.pickF 12 (.tmp 39) (.const (.bool true)) (.tmp 49) (by kernel_rfl) (by decide) (by decide) rfl) (below_drew w) ?_
  refine Pl.H.take 13 11 (.bool true) (by kernel_rfl) (by kernel_rfl) (by kernel_rfl) (Pl.free 13 (by kernel_rfl)) (Pl.assign 13 (.tmp 50) (by kernel_rfl) (by decide)) (below_drew w) ?_
  refine Pl.H.done (by kernel_rfl) (fun A' hA' => ?_)
  rw [Pl.At.ext hA' ((((((((((((((hA.put 38 _).put 39 _).put 40 _).put 41 _).put 42 _).put 43 _).put 44 _).put 45 _).put 46 _).put 47 _).put 48 _).put 49 _).put 50 _).put 11 _)]
  exact hend (fun d => if d = 38 then .bool false else if d = 39 then .bool false else if d = 40 then .slice (some ⟨b2, o2, none⟩) len2 cap2 else if d = 41 then .int .i64 ((k : Nat) : Int) else if d = 42 then .pointer (some ⟨b2, o2 + k, none⟩) else if d = 43 then .int .i64 x else if d = 44 then .pointer (some ⟨g, 0, none⟩) else if d = 45 then .slice (some ⟨b, o, none⟩) len cap else if d = 46 then .int .i64 ((i : Nat) : Int) else if d = 47 then .pointer (some ⟨b, o + i, none⟩) else if d = 48 then .int .i64 y else if d = 49 then .bool true else if d = 50 then .bool true else undef) _ (below_drew w)

set_option maxHeartbeats 2000000 in
set_option maxRecDepth 100000 in
theorem join13C (w : World) (g b o len cap b2 o2 len2 cap2 i k : Nat) (v : Value) (x y : Int) (hi : i < len) (hk : k < len2) (hg : LfBlk w g (.slice (some ⟨b, o, none⟩) len cap) v) (hx : w.cell? ⟨b2, o2 + k, none⟩ = some (.int .i64 x)) (hy : w.cell? ⟨b, o + i, none⟩ = some (.int .i64 y)) (h1 : ¬ (x = y))
    {Q : Exit → Act → World → Prop} {A : Act} (hsz : A.tmps.size = 78) (hdf : A.defers = []) (s2 : A.tmps.getD 2 undef = .slice (some ⟨b2, o2, none⟩) len2 cap2) (s3 : A.tmps.getD 3 undef = .pointer (some ⟨g, 0, none⟩)) (s10 : A.tmps.getD 10 undef = .int .i64 ((i : Nat) : Int)) (s11 : A.tmps.getD 11 undef = .bool false) (s12 : A.tmps.getD 12 undef = .int .i64 ((k : Nat) : Int))
    (hend : ∀ (u : Nat → Value) w', Below w.heap.size w w' → Q .normal (((((((((((((((A).put (some 38) (u 38)).put (some 39) (u 39)).put (some 40) (u 40)).put (some 41) (u 41)).put (some 42) (u 42)).put (some 43) (u 43)).put (some 44) (u 44)).put (some 45) (u 45)).put (some 46) (u 46)).put (some 47) (u 47)).put (some 48) (u 48)).put (some 49) (u 49)).put (some 50) (u 50)).put (some 11) (.bool false)) w') :
    (Code.region 13 (Pl.find 13 ((Try.f21.body).getD .skip)) true).wp Try.prog Q A w := by
  have hA := Pl.At.same (v := .int .i64 ((k : Nat) : Int)) (d := 12) (Pl.At.same (v := .bool false) (d := 11) (Pl.At.same (v := .int .i64 ((i : Nat) : Int)) (d := 10) (Pl.At.same (v := .pointer (some ⟨g, 0, none⟩)) (d := 3) (Pl.At.same (v := .slice (some ⟨b2, o2, none⟩) len2 cap2) (d := 2) (Pl.At.here hsz hdf) s2) s3) s10) s11) s12
  refine Pl.H.start (S := (fun w' => Below w.heap.size w w')) (by kernel_rfl) hA (below_drew w) ?_
  rw [show (Pl.find 13 ((Try.f21.body).getD .skip)).size = 14 by kernel_rfl]
  refine Pl.H.take 0 38 (.bool false) (by kernel_rfl) (by kernel_rfl) (by kernel_rfl) (Pl.free 0 (by kernel_rfl)) (Pl.move 0 (.tmp 11) (by kernel_rfl) (by decide)) (below_drew w) ?_
  refine Pl.H.take 1 39 (.bool false) (by kernel_rfl) (by kernel_rfl) (by kernel_rfl) (Pl.free 1 (by kernel_rfl)) (Pl.move 1 (.tmp 38) (by kernel_rfl) (by decide)) (below_drew w) ?_
  refine Pl.H.take 2 40 (.slice (some ⟨b2, o2, none⟩) len2 cap2) (by kernel_rfl) (by kernel_rfl) (by kernel_rfl) (Pl.guarded 2 1 39 false (by kernel_rfl) (by kernel_rfl) (by decide) rfl) (Pl.move 2 (.tmp 2) (by kernel_rfl) (by decide)) (below_drew w) ?_
  refine Pl.H.take 3 41 (.int .i64 ((k : Nat) : Int)) (by kernel_rfl) (by kernel_rfl) (by kernel_rfl) (Pl.guarded 3 1 39 false (by kernel_rfl) (by kernel_rfl) (by decide) rfl) (Pl.move 3 (.tmp 12) (by kernel_rfl) (by decide)) (below_drew w) ?_
  refine Pl.H.take 4 42 (.pointer (some ⟨b2, o2 + k, none⟩)) (by kernel_rfl) (by kernel_rfl) (by kernel_rfl) (Pl.guarded 4 1 39 false (by kernel_rfl) (by kernel_rfl) (by decide) rfl) (Pl.index 4 22 (.tmp 40) (.tmp 41) _ (by kernel_rfl) (by decide) (by decide) (ixI1 b2 o2 len2 cap2 k hk)) (below_drew w) ?_
  refine Pl.H.take 5 43 (.int .i64 x) (by kernel_rfl) (by kernel_rfl) (by kernel_rfl) (Pl.guarded 5 1 39 false (by kernel_rfl) (by kernel_rfl) (by decide) rfl) (Pl.load 5 3 (.tmp 42) _ (by kernel_rfl) (by decide) (fun w' hS => ldI1 b2 (o2 + k) x w' (cell_below hx hS))) (below_drew w) ?_
  refine Pl.H.take 6 44 (.pointer (some ⟨g, 0, none⟩)) (by kernel_rfl) (by kernel_rfl) (by kernel_rfl) (Pl.guarded 6 1 39 false (by kernel_rfl) (by kernel_rfl) (by decide) rfl) (Pl.field 6 25 (.tmp 3) 0 _ (by kernel_rfl) (by decide) (fdLf0 g)) (below_drew w) ?_
  refine Pl.H.take 7 45 (.slice (some ⟨b, o, none⟩) len cap) (by kernel_rfl) (by kernel_rfl) (by kernel_rfl) (Pl.guarded 7 1 39 false (by kernel_rfl) (by kernel_rfl) (by decide) rfl) (Pl.load 7 22 (.tmp 44) _ (by kernel_rfl) (by decide) (fun w' hS => ldLf0 g ⟨some ⟨b, o, none⟩, len, cap⟩ v w' (hg.below hS))) (below_drew w) ?_
  refine Pl.H.take 8 46 (.int .i64 ((i : Nat) : Int)) (by kernel_rfl) (by kernel_rfl) (by kernel_rfl) (Pl.guarded 8 1 39 false (by kernel_rfl) (by kernel_rfl) (by decide) rfl) (Pl.move 8 (.tmp 10) (by kernel_rfl) (by decide)) (below_drew w) ?_
  refine Pl.H.take 9 47 (.pointer (some ⟨b, o + i, none⟩)) (by kernel_rfl) (by kernel_rfl) (by kernel_rfl) (Pl.guarded 9 1 39 false (by kernel_rfl) (by kernel_rfl) (by decide) rfl) (Pl.index 9 22 (.tmp 45) (.tmp 46) _ (by kernel_rfl) (by decide) (by decide) (ixI1 b o len cap i hi)) (below_drew w) ?_
  refine Pl.H.take 10 48 (.int .i64 y) (by kernel_rfl) (by kernel_rfl) (by kernel_rfl) (Pl.guarded 10 1 39 false (by kernel_rfl) (by kernel_rfl) (by decide) rfl) (Pl.load 10 3 (.tmp 47) _ (by kernel_rfl) (by decide) (fun w' hS => ldI1 b (o + i) y w' (cell_below hy hS))) (below_drew w) ?_
  refine Pl.H.take 11 49 (.bool false) (by kernel_rfl) (by kernel_rfl) (by kernel_rfl) (Pl.guarded 11 1 39 false (by kernel_rfl) (by kernel_rfl) (by decide) rfl) (Pl.binV 11 .eql 3 3 (.tmp 43) (.tmp 48) (.int .i64 x) (.int .i64 y) _ (by kernel_rfl) (by decide) (by decide) rfl rfl (eqlF x y _ _ h1)) (below_drew w) ?_
  refine Pl.H.take 12 50 (.bool false) (by kernel_rfl) (by kernel_rfl) (by kernel_rfl) (Pl.free 12 (by kernel_rfl)) (Pl.pickF 12 (.tmp 39) (.const (.bool true)) (.tmp 49) (by kernel_rfl) (by decide) (by decide) rfl) (below_drew w) ?_
  refine Pl.H.take 13 11 (.bool false) (by kernel_rfl) (by kernel_rfl) (by kernel_rfl) (Pl.free 13 (by kernel_rfl)) (Pl.assign 13 (.tmp 50) (by kernel_rfl) (by decide)) (below_drew w) ?_
  refine Pl.H.done (by kernel_rfl) (fun A' hA' => ?_)
  rw [Pl.At.ext hA' ((((((((((((((hA.put 38 _).put 39 _).put 40 _).put 41 _).put 42 _).put 43 _).put 44 _).put 45 _).put 46 _).put 47 _).put 48 _).put 49 _).put 50 _).put 11 _)]
  exact hend (fun d => if d = 38 then .bool false else if d = 39 then .bool false else if d = 40 then .slice (some ⟨b2, o2, none⟩) len2 cap2 else if d = 41 then .int .i64 ((k : Nat) : Int) else if d = 42 then .pointer (some ⟨b2, o2 + k, none⟩) else if d = 43 then .int .i64 x else if d = 44 then .pointer (some ⟨g, 0, none⟩) else if d = 45 then .slice (some ⟨b, o, none⟩) len cap else if d = 46 then .int .i64 ((i : Nat) : Int) else if d = 47 then .pointer (some ⟨b, o + i, none⟩) else if d = 48 then .int .i64 y else if d = 49 then .bool false else if d = 50 then .bool false else undef) _ (below_drew w)
end Go.Proofs.Ytgieigpbbkeonaa
