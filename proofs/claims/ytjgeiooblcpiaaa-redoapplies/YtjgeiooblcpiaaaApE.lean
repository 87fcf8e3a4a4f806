/-
  Layer 6: images behind a group, by the program.
-/
import Derived.Test.YtjgeiooblcpiaaaApD
namespace Go.Proofs.Ytjgeiooblcpiaaa
open Go.RowKit

/-- The image in a box, and the next one in the row. -/
def NextS (b o i q : Nat) (x y : Ix) (more : Prop) (w : World) : Prop := w.cell? ⟨q, 0, none⟩ = some (.int .i64 x.page) ∧ (more → w.cell? ⟨b, o + (i + 1) * 2, none⟩ = some (.int .i64 y.page))

set_option maxHeartbeats 2000000 in
set_option maxRecDepth 100000 in
theorem apply7A (w : World) (b o len cap i q : Nat) (x y : Ix) (more : Prop) (h : NextS b o i q x y more w.drew) (hi : i ≤ 1000000) (hz : ¬ (((i + 1 : Nat) : Int) < ((len : Nat) : Int)))
    {Q : Exit → Act → World → Prop} {A : Act} (hsz : A.tmps.size = 48) (hdf : A.defers = []) (s5 : A.tmps.getD 5 undef = .slice (some ⟨b, o, none⟩) len cap) (s7 : A.tmps.getD 7 undef = .int .i64 ((i : Nat) : Int)) (s8 : A.tmps.getD 8 undef = .pointer (some ⟨q, 0, none⟩))
    (hend : ∀ (u : Nat → Value) w', w' = w.drew → Q .normal (((((((((((((((((A).put (some 22) (u 22)).put (some 23) (u 23)).put (some 24) (u 24)).put (some 25) (u 25)).put (some 26) (u 26)).put (some 27) (u 27)).put (some 28) (u 28)).put (some 29) (u 29)).put (some 30) (u 30)).put (some 31) (u 31)).put (some 32) (u 32)).put (some 33) (u 33)).put (some 34) (u 34)).put (some 35) (u 35)).put (some 36) (u 36)).put (some 37) (.bool false)) w') :
    (Code.region 7 (Pl.find 7 ((Try.f19.body).getD .skip)) true).wp Try.prog Q A w := by
  have hA := Pl.At.same (v := .pointer (some ⟨q, 0, none⟩)) (d := 8) (Pl.At.same (v := .int .i64 ((i : Nat) : Int)) (d := 7) (Pl.At.same (v := .slice (some ⟨b, o, none⟩) len cap) (d := 5) (Pl.At.here hsz hdf) s5) s7) s8
  refine Pl.H.start (S := NextS b o i q x y more) (by kernel_rfl) hA h ?_
  rw [show (Pl.find 7 ((Try.f19.body).getD .skip)).size = 16 by kernel_rfl]
  refine Pl.H.take 0 22 (.int .i64 ((i : Nat) : Int)) (by kernel_rfl) (by kernel_rfl) (by kernel_rfl) (Pl.free 0 (by kernel_rfl)) (Pl.move 0 (.tmp 7) (by kernel_rfl) (by decide)) h ?_
  refine Pl.H.take 1 23 (.int .i64 ((i + 1 : Nat) : Int)) (by kernel_rfl) (by kernel_rfl) (by kernel_rfl) (Pl.free 1 (by kernel_rfl)) (Pl.binV 1 .add 3 3 (.tmp 22) (.const (.int .i64 1)) (.int .i64 ((i : Nat) : Int)) (.int .i64 1) _ (by kernel_rfl) (by decide) (by decide) rfl rfl (addN i 1 _ _ (by omega))) h ?_
  refine Pl.H.take 2 24 (.slice (some ⟨b, o, none⟩) len cap) (by kernel_rfl) (by kernel_rfl) (by kernel_rfl) (Pl.free 2 (by kernel_rfl)) (Pl.move 2 (.tmp 5) (by kernel_rfl) (by decide)) h ?_
  refine Pl.H.take 3 25 (.int .i64 ((len : Nat) : Int)) (by kernel_rfl) (by kernel_rfl) (by kernel_rfl) (Pl.free 3 (by kernel_rfl)) (Pl.lenOf 3 25 (.tmp 24) _ (by kernel_rfl) (by decide) (fun _ _ => rfl)) h ?_
  refine Pl.H.take 4 26 (.bool false) (by kernel_rfl) (by kernel_rfl) (by kernel_rfl) (Pl.free 4 (by kernel_rfl)) (Pl.binV 4 .lss 3 3 (.tmp 23) (.tmp 25) (.int .i64 ((i + 1 : Nat) : Int)) (.int .i64 ((len : Nat) : Int)) _ (by kernel_rfl) (by decide) (by decide) rfl rfl (lssF _ _ _ _ hz)) h ?_
  refine Pl.H.take 5 27 (.bool false) (by kernel_rfl) (by kernel_rfl) (by kernel_rfl) (Pl.free 5 (by kernel_rfl)) (Pl.move 5 (.tmp 26) (by kernel_rfl) (by decide)) h ?_
  refine Pl.H.skip 6 28 (by kernel_rfl) (by kernel_rfl) (by kernel_rfl) (Pl.unwanted 6 5 27 true (by kernel_rfl) (by kernel_rfl) (by decide) rfl) h ?_
  refine Pl.H.skip 7 29 (by kernel_rfl) (by kernel_rfl) (by kernel_rfl) (Pl.unwanted 7 5 27 true (by kernel_rfl) (by kernel_rfl) (by decide) rfl) h ?_
  refine Pl.H.skip 8 30 (by kernel_rfl) (by kernel_rfl) (by kernel_rfl) (Pl.unwanted 8 5 27 true (by kernel_rfl) (by kernel_rfl) (by decide) rfl) h ?_
  refine Pl.H.skip 9 31 (by kernel_rfl) (by kernel_rfl) (by kernel_rfl) (Pl.unwanted 9 5 27 true (by kernel_rfl) (by kernel_rfl) (by decide) rfl) h ?_
  refine Pl.H.skip 10 32 (by kernel_rfl) (by kernel_rfl) (by kernel_rfl) (Pl.unwanted 10 5 27 true (by kernel_rfl) (by kernel_rfl) (by decide) rfl) h ?_
  refine Pl.H.skip 11 33 (by kernel_rfl) (by kernel_rfl) (by kernel_rfl) (Pl.unwanted 11 5 27 true (by kernel_rfl) (by kernel_rfl) (by decide) rfl) h ?_
  refine Pl.H.skip 12 34 (by kernel_rfl) (by kernel_rfl) (by kernel_rfl) (Pl.unwanted 12 5 27 true (by kernel_rfl) (by kernel_rfl) (by decide) rfl) h ?_
  refine Pl.H.skip 13 35 (by kernel_rfl) (by kernel_rfl) (by kernel_rfl) (Pl.unwanted 13 5 27 true (by kernel_rfl) (by kernel_rfl) (by decide) rfl) h ?_
  refine Pl.H.skip 14 36 (by kernel_rfl) (by kernel_rfl) (by kernel_rfl) (Pl.unwanted 14 5 27 true (by kernel_rfl) (by kernel_rfl) (by decide) rfl) h ?_
  refine Pl.H.take 15 37 (.bool false) (by kernel_rfl) (by kernel_rfl) (by kernel_rfl) (Pl.free 15 (by kernel_rfl)) (Pl.pickF 15 (.tmp 27) (.tmp 36) (.const (.bool false)) (by kernel_rfl) (by decide) (by decide) rfl) h ?_
  refine Pl.H.done (by kernel_rfl) (fun A' hA' => ?_)
  rw [Pl.At.ext hA' ((((((((((((((((hA.put 22 _).put 23 _).put 24 _).put 25 _).put 26 _).put 27 _).put 28 _).put 29 _).put 30 _).put 31 _).put 32 _).put 33 _).put 34 _).put 35 _).put 36 _).put 37 _)]
  exact hend (fun d => if d = 22 then .int .i64 ((i : Nat) : Int) else if d = 23 then .int .i64 ((i + 1 : Nat) : Int) else if d = 24 then .slice (some ⟨b, o, none⟩) len cap else if d = 25 then .int .i64 ((len : Nat) : Int) else if d = 26 then .bool false else if d = 27 then .bool false else if d = 28 then undef else if d = 29 then undef else if d = 30 then undef else if d = 31 then undef else if d = 32 then undef else if d = 33 then undef else if d = 34 then undef else if d = 35 then undef else if d = 36 then undef else undef) _ rfl

set_option maxHeartbeats 2000000 in
set_option maxRecDepth 100000 in
theorem apply7B (w : World) (b o len cap i q : Nat) (x y : Ix) (more : Prop) (h : NextS b o i q x y more w.drew) (hi : i ≤ 1000000) (hmo : more) (hz : ((i + 1 : Nat) : Int) < ((len : Nat) : Int)) (hc : y.page = x.page)
    {Q : Exit → Act → World → Prop} {A : Act} (hsz : A.tmps.size = 48) (hdf : A.defers = []) (s5 : A.tmps.getD 5 undef = .slice (some ⟨b, o, none⟩) len cap) (s7 : A.tmps.getD 7 undef = .int .i64 ((i : Nat) : Int)) (s8 : A.tmps.getD 8 undef = .pointer (some ⟨q, 0, none⟩))
    (hend : ∀ (u : Nat → Value) w', w' = w.drew → Q .normal (((((((((((((((((A).put (some 22) (u 22)).put (some 23) (u 23)).put (some 24) (u 24)).put (some 25) (u 25)).put (some 26) (u 26)).put (some 27) (u 27)).put (some 28) (u 28)).put (some 29) (u 29)).put (some 30) (u 30)).put (some 31) (u 31)).put (some 32) (u 32)).put (some 33) (u 33)).put (some 34) (u 34)).put (some 35) (u 35)).put (some 36) (u 36)).put (some 37) (.bool true)) w') :
    (Code.region 7 (Pl.find 7 ((Try.f19.body).getD .skip)) true).wp Try.prog Q A w := by
  have hA := Pl.At.same (v := .pointer (some ⟨q, 0, none⟩)) (d := 8) (Pl.At.same (v := .int .i64 ((i : Nat) : Int)) (d := 7) (Pl.At.same (v := .slice (some ⟨b, o, none⟩) len cap) (d := 5) (Pl.At.here hsz hdf) s5) s7) s8
  refine Pl.H.start (S := NextS b o i q x y more) (by kernel_rfl) hA h ?_
  rw [show (Pl.find 7 ((Try.f19.body).getD .skip)).size = 16 by kernel_rfl]
  refine Pl.H.take 0 22 (.int .i64 ((i : Nat) : Int)) (by kernel_rfl) (by kernel_rfl) (by kernel_rfl) (Pl.free 0 (by kernel_rfl)) (Pl.move 0 (.tmp 7) (by kernel_rfl) (by decide)) h ?_
  refine Pl.H.take 1 23 (.int .i64 ((i + 1 : Nat) : Int)) (by kernel_rfl) (by kernel_rfl) (by kernel_rfl) (Pl.free 1 (by kernel_rfl)) (Pl.binV 1 .add 3 3 (.tmp 22) (.const (.int .i64 1)) (.int .i64 ((i : Nat) : Int)) (.int .i64 1) _ (by kernel_rfl) (by decide) (by decide) rfl rfl (addN i 1 _ _ (by omega))) h ?_
  refine Pl.H.take 2 24 (.slice (some ⟨b, o, none⟩) len cap) (by kernel_rfl) (by kernel_rfl) (by kernel_rfl) (Pl.free 2 (by kernel_rfl)) (Pl.move 2 (.tmp 5) (by kernel_rfl) (by decide)) h ?_
  refine Pl.H.take 3 25 (.int .i64 ((len : Nat) : Int)) (by kernel_rfl) (by kernel_rfl) (by kernel_rfl) (Pl.free 3 (by kernel_rfl)) (Pl.lenOf 3 25 (.tmp 24) _ (by kernel_rfl) (by decide) (fun _ _ => rfl)) h ?_
  refine Pl.H.take 4 26 (.bool true) (by kernel_rfl) (by kernel_rfl) (by kernel_rfl) (Pl.free 4 (by kernel_rfl)) (Pl.binV 4 .lss 3 3 (.tmp 23) (.tmp 25) (.int .i64 ((i + 1 : Nat) : Int)) (.int .i64 ((len : Nat) : Int)) _ (by kernel_rfl) (by decide) (by decide) rfl rfl (lssT _ _ _ _ hz)) h ?_
  refine Pl.H.take 5 27 (.bool true) (by kernel_rfl) (by kernel_rfl) (by kernel_rfl) (Pl.free 5 (by kernel_rfl)) (Pl.move 5 (.tmp 26) (by kernel_rfl) (by decide)) h ?_
  refine Pl.H.take 6 28 (.slice (some ⟨b, o, none⟩) len cap) (by kernel_rfl) (by kernel_rfl) (by kernel_rfl) (Pl.guarded 6 5 27 true (by kernel_rfl) (by kernel_rfl) (by decide) rfl) (Pl.move 6 (.tmp 5) (by kernel_rfl) (by decide)) h ?_
  refine Pl.H.take 7 29 (.int .i64 ((i : Nat) : Int)) (by kernel_rfl) (by kernel_rfl) (by kernel_rfl) (Pl.guarded 7 5 27 true (by kernel_rfl) (by kernel_rfl) (by decide) rfl) (Pl.move 7 (.tmp 7) (by kernel_rfl) (by decide)) h ?_
  refine Pl.H.take 8 30 (.int .i64 ((i + 1 : Nat) : Int)) (by kernel_rfl) (by kernel_rfl) (by kernel_rfl) (Pl.guarded 8 5 27 true (by kernel_rfl) (by kernel_rfl) (by decide) rfl) (Pl.binV 8 .add 3 3 (.tmp 29) (.const (.int .i64 1)) (.int .i64 ((i : Nat) : Int)) (.int .i64 1) _ (by kernel_rfl) (by decide) (by decide) rfl rfl (addN i 1 _ _ (by omega))) h ?_
  refine Pl.H.take 9 31 (.pointer (some ⟨b, o + (i + 1) * 2, none⟩)) (by kernel_rfl) (by kernel_rfl) (by kernel_rfl) (Pl.guarded 9 5 27 true (by kernel_rfl) (by kernel_rfl) (by decide) rfl) (Pl.index 9 25 (.tmp 28) (.tmp 30) _ (by kernel_rfl) (by decide) (by decide) (ixIm b o len cap (i + 1) (by omega))) h ?_
  refine Pl.H.take 10 32 (.pointer (some ⟨b, o + (i + 1) * 2, none⟩)) (by kernel_rfl) (by kernel_rfl) (by kernel_rfl) (Pl.guarded 10 5 27 true (by kernel_rfl) (by kernel_rfl) (by decide) rfl) (Pl.field 10 28 (.tmp 31) 0 _ (by kernel_rfl) (by decide) (fdI0 b (o + (i + 1) * 2))) h ?_
  refine Pl.H.take 11 33 (.int .i64 y.page) (by kernel_rfl) (by kernel_rfl) (by kernel_rfl) (Pl.guarded 11 5 27 true (by kernel_rfl) (by kernel_rfl) (by decide) rfl) (Pl.load 11 3 (.tmp 32) _ (by kernel_rfl) (by decide) (fun w' hS => ldInt _ _ _ w' (hS.2 hmo))) h ?_
  refine Pl.H.take 12 34 (.pointer (some ⟨q, 0, none⟩)) (by kernel_rfl) (by kernel_rfl) (by kernel_rfl) (Pl.guarded 12 5 27 true (by kernel_rfl) (by kernel_rfl) (by decide) rfl) (Pl.field 12 28 (.tmp 8) 0 _ (by kernel_rfl) (by decide) (fdI0 q 0)) h ?_
  refine Pl.H.take 13 35 (.int .i64 x.page) (by kernel_rfl) (by kernel_rfl) (by kernel_rfl) (Pl.guarded 13 5 27 true (by kernel_rfl) (by kernel_rfl) (by decide) rfl) (Pl.load 13 3 (.tmp 34) _ (by kernel_rfl) (by decide) (fun w' hS => ldInt _ _ _ w' (hS.1))) h ?_
  refine Pl.H.take 14 36 (.bool true) (by kernel_rfl) (by kernel_rfl) (by kernel_rfl) (Pl.guarded 14 5 27 true (by kernel_rfl) (by kernel_rfl) (by decide) rfl) (Pl.binV 14 .eql 3 3 (.tmp 33) (.tmp 35) (.int .i64 y.page) (.int .i64 x.page) _ (by kernel_rfl) (by decide) (by decide) rfl rfl (eqlT _ _ _ _ hc)) h ?_
  refine Pl.H.take 15 37 (.bool true) (by kernel_rfl) (by kernel_rfl) (by kernel_rfl) (Pl.free 15 (by kernel_rfl)) (Pl.pick 15 (.tmp 27) (.tmp 36) (.const (.bool false)) (by kernel_rfl) (by decide) (by decide) rfl) h ?_
  refine Pl.H.done (by kernel_rfl) (fun A' hA' => ?_)
  rw [Pl.At.ext hA' ((((((((((((((((hA.put 22 _).put 23 _).put 24 _).put 25 _).put 26 _).put 27 _).put 28 _).put 29 _).put 30 _).put 31 _).put 32 _).put 33 _).put 34 _).put 35 _).put 36 _).put 37 _)]
  exact hend (fun d => if d = 22 then .int .i64 ((i : Nat) : Int) else if d = 23 then .int .i64 ((i + 1 : Nat) : Int) else if d = 24 then .slice (some ⟨b, o, none⟩) len cap else if d = 25 then .int .i64 ((len : Nat) : Int) else if d = 26 then .bool true else if d = 27 then .bool true else if d = 28 then .slice (some ⟨b, o, none⟩) len cap else if d = 29 then .int .i64 ((i : Nat) : Int) else if d = 30 then .int .i64 ((i + 1 : Nat) : Int) else if d = 31 then .pointer (some ⟨b, o + (i + 1) * 2, none⟩) else if d = 32 then .pointer (some ⟨b, o + (i + 1) * 2, none⟩) else if d = 33 then .int .i64 y.page else if d = 34 then .pointer (some ⟨q, 0, none⟩) else if d = 35 then .int .i64 x.page else if d = 36 then .bool true else undef) _ rfl

set_option maxHeartbeats 2000000 in
set_option maxRecDepth 100000 in
theorem apply7C (w : World) (b o len cap i q : Nat) (x y : Ix) (more : Prop) (h : NextS b o i q x y more w.drew) (hi : i ≤ 1000000) (hmo : more) (hz : ((i + 1 : Nat) : Int) < ((len : Nat) : Int)) (hc : ¬ y.page = x.page)
    {Q : Exit → Act → World → Prop} {A : Act} (hsz : A.tmps.size = 48) (hdf : A.defers = []) (s5 : A.tmps.getD 5 undef = .slice (some ⟨b, o, none⟩) len cap) (s7 : A.tmps.getD 7 undef = .int .i64 ((i : Nat) : Int)) (s8 : A.tmps.getD 8 undef = .pointer (some ⟨q, 0, none⟩))
    (hend : ∀ (u : Nat → Value) w', w' = w.drew → Q .normal (((((((((((((((((A).put (some 22) (u 22)).put (some 23) (u 23)).put (some 24) (u 24)).put (some 25) (u 25)).put (some 26) (u 26)).put (some 27) (u 27)).put (some 28) (u 28)).put (some 29) (u 29)).put (some 30) (u 30)).put (some 31) (u 31)).put (some 32) (u 32)).put (some 33) (u 33)).put (some 34) (u 34)).put (some 35) (u 35)).put (some 36) (u 36)).put (some 37) (.bool false)) w') :
    (Code.region 7 (Pl.find 7 ((Try.f19.body).getD .skip)) true).wp Try.prog Q A w := by
  have hA := Pl.At.same (v := .pointer (some ⟨q, 0, none⟩)) (d := 8) (Pl.At.same (v := .int .i64 ((i : Nat) : Int)) (d := 7) (Pl.At.same (v := .slice (some ⟨b, o, none⟩) len cap) (d := 5) (Pl.At.here hsz hdf) s5) s7) s8
  refine Pl.H.start (S := NextS b o i q x y more) (by kernel_rfl) hA h ?_
  rw [show (Pl.find 7 ((Try.f19.body).getD .skip)).size = 16 by kernel_rfl]
  refine Pl.H.take 0 22 (.int .i64 ((i : Nat) : Int)) (by kernel_rfl) (by kernel_rfl) (by kernel_rfl) (Pl.free 0 (by kernel_rfl)) (Pl.move 0 (.tmp 7) (by kernel_rfl) (by decide)) h ?_
  refine Pl.H.take 1 23 (.int .i64 ((i + 1 : Nat) : Int)) (by kernel_rfl) (by kernel_rfl) (by kernel_rfl) (Pl.free 1 (by kernel_rfl)) (Pl.binV 1 .add 3 3 (.tmp 22) (.const (.int .i64 1)) (.int .i64 ((i : Nat) : Int)) (.int .i64 1) _ (by kernel_rfl) (by decide) (by decide) rfl rfl (addN i 1 _ _ (by omega))) h ?_
  refine Pl.H.take 2 24 (.slice (some ⟨b, o, none⟩) len cap) (by kernel_rfl) (by kernel_rfl) (by kernel_rfl) (Pl.free 2 (by kernel_rfl)) (Pl.move 2 (.tmp 5) (by kernel_rfl) (by decide)) h ?_
  refine Pl.H.take 3 25 (.int .i64 ((len : Nat) : Int)) (by kernel_rfl) (by kernel_rfl) (by kernel_rfl) (Pl.free 3 (by kernel_rfl)) (Pl.lenOf 3 25 (.tmp 24) _ (by kernel_rfl) (by decide) (fun _ _ => rfl)) h ?_
  refine Pl.H.take 4 26 (.bool true) (by kernel_rfl) (by kernel_rfl) (by kernel_rfl) (Pl.free 4 (by kernel_rfl)) (Pl.binV 4 .lss 3 3 (.tmp 23) (.tmp 25) (.int .i64 ((i + 1 : Nat) : Int)) (.int .i64 ((len : Nat) : Int)) _ (by kernel_rfl) (by decide) (by decide) rfl rfl (lssT _ _ _ _ hz)) h ?_
  refine Pl.H.take 5 27 (.bool true) (by kernel_rfl) (by kernel_rfl) (by kernel_rfl) (Pl.free 5 (by kernel_rfl)) (Pl.move 5 (.tmp 26) (by kernel_rfl) (by decide)) h ?_
  refine Pl.H.take 6 28 (.slice (some ⟨b, o, none⟩) len cap) (by kernel_rfl) (by kernel_rfl) (by kernel_rfl) (Pl.guarded 6 5 27 true (by kernel_rfl) (by kernel_rfl) (by decide) rfl) (Pl.move 6 (.tmp 5) (by kernel_rfl) (by decide)) h ?_
  refine Pl.H.take 7 29 (.int .i64 ((i : Nat) : Int)) (by kernel_rfl) (by kernel_rfl) (by kernel_rfl) (Pl.guarded 7 5 27 true (by kernel_rfl) (by kernel_rfl) (by decide) rfl) (Pl.move 7 (.tmp 7) (by kernel_rfl) (by decide)) h ?_
  refine Pl.H.take 8 30 (.int .i64 ((i + 1 : Nat) : Int)) (by kernel_rfl) (by kernel_rfl) (by kernel_rfl) (Pl.guarded 8 5 27 true (by kernel_rfl) (by kernel_rfl) (by decide) rfl) (Pl.binV 8 .add 3 3 (.tmp 29) (.const (.int .i64 1)) (.int .i64 ((i : Nat) : Int)) (.int .i64 1) _ (by kernel_rfl) (by decide) (by decide) rfl rfl (addN i 1 _ _ (by omega))) h ?_
  refine Pl.H.take 9 31 (.pointer (some ⟨b, o + (i + 1) * 2, none⟩)) (by kernel_rfl) (by kernel_rfl) (by kernel_rfl) (Pl.guarded 9 5 27 true (by kernel_rfl) (by kernel_rfl) (by decide) rfl) (Pl.index 9 25 (.tmp 28) (.tmp 30) _ (by kernel_rfl) (by decide) (by decide) (ixIm b o len cap (i + 1) (by omega))) h ?_
  refine Pl.H.take 10 32 (.pointer (some ⟨b, o + (i + 1) * 2, none⟩)) (by kernel_rfl) (by kernel_rfl) (by kernel_rfl) (Pl.guarded 10 5 27 true (by kernel_rfl) (by kernel_rfl) (by decide) rfl) (Pl.field 10 28 (.tmp 31) 0 _ (by kernel_rfl) (by decide) (fdI0 b (o + (i + 1) * 2))) h ?_
  refine Pl.H.take 11 33 (.int .i64 y.page) (by kernel_rfl) (by kernel_rfl) (by kernel_rfl) (Pl.guarded 11 5 27 true (by kernel_rfl) (by kernel_rfl) (by decide) rfl) (Pl.load 11 3 (.tmp 32) _ (by kernel_rfl) (by decide) (fun w' hS => ldInt _ _ _ w' (hS.2 hmo))) h ?_
  refine Pl.H.take 12 34 (.pointer (some ⟨q, 0, none⟩)) (by kernel_rfl) (by kernel_rfl) (by kernel_rfl) (Pl.guarded 12 5 27 true (by kernel_rfl) (by kernel_rfl) (by decide) rfl) (Pl.field 12 28 (.tmp 8) 0 _ (by kernel_rfl) (by decide) (fdI0 q 0)) h ?_
  refine Pl.H.take 13 35 (.int .i64 x.page) (by kernel_rfl) (by kernel_rfl) (by kernel_rfl) (Pl.guarded 13 5 27 true (by kernel_rfl) (by kernel_rfl) (by decide) rfl) (Pl.load 13 3 (.tmp 34) _ (by kernel_rfl) (by decide) (fun w' hS => ldInt _ _ _ w' (hS.1))) h ?_
  refine Pl.H.take 14 36 (.bool false) (by kernel_rfl) (by kernel_rfl) (by kernel_rfl) (Pl.guarded 14 5 27 true (by kernel_rfl) (by kernel_rfl) (by decide) rfl) (Pl.binV 14 .eql 3 3 (.tmp 33) (.tmp 35) (.int .i64 y.page) (.int .i64 x.page) _ (by kernel_rfl) (by decide) (by decide) rfl rfl (eqlF _ _ _ _ hc)) h ?_
  refine Pl.H.take 15 37 (.bool false) (by kernel_rfl) (by kernel_rfl) (by kernel_rfl) (Pl.free 15 (by kernel_rfl)) (Pl.pick 15 (.tmp 27) (.tmp 36) (.const (.bool false)) (by kernel_rfl) (by decide) (by decide) rfl) h ?_
  refine Pl.H.done (by kernel_rfl) (fun A' hA' => ?_)
  rw [Pl.At.ext hA' ((((((((((((((((hA.put 22 _).put 23 _).put 24 _).put 25 _).put 26 _).put 27 _).put 28 _).put 29 _).put 30 _).put 31 _).put 32 _).put 33 _).put 34 _).put 35 _).put 36 _).put 37 _)]
  exact hend (fun d => if d = 22 then .int .i64 ((i : Nat) : Int) else if d = 23 then .int .i64 ((i + 1 : Nat) : Int) else if d = 24 then .slice (some ⟨b, o, none⟩) len cap else if d = 25 then .int .i64 ((len : Nat) : Int) else if d = 26 then .bool true else if d = 27 then .bool true else if d = 28 then .slice (some ⟨b, o, none⟩) len cap else if d = 29 then .int .i64 ((i : Nat) : Int) else if d = 30 then .int .i64 ((i + 1 : Nat) : Int) else if d = 31 then .pointer (some ⟨b, o + (i + 1) * 2, none⟩) else if d = 32 then .pointer (some ⟨b, o + (i + 1) * 2, none⟩) else if d = 33 then .int .i64 y.page else if d = 34 then .pointer (some ⟨q, 0, none⟩) else if d = 35 then .int .i64 x.page else if d = 36 then .bool false else undef) _ rfl

set_option maxRecDepth 100000 in
theorem apply7N (w : World) (b o len cap i q : Nat) (x y : Ix) (h : NextS b o i q x y (i + 1 < len) w.drew) (hi : i ≤ 1000000) (hn : ¬ (i + 1 < len ∧ y.page = x.page))
    {Q : Exit → Act → World → Prop} {A : Act} (hsz : A.tmps.size = 48) (hdf : A.defers = []) (s5 : A.tmps.getD 5 undef = .slice (some ⟨b, o, none⟩) len cap) (s7 : A.tmps.getD 7 undef = .int .i64 ((i : Nat) : Int)) (s8 : A.tmps.getD 8 undef = .pointer (some ⟨q, 0, none⟩))
    (hend : ∀ (u : Nat → Value) w', w' = w.drew → Q .normal (((((((((((((((((A).put (some 22) (u 22)).put (some 23) (u 23)).put (some 24) (u 24)).put (some 25) (u 25)).put (some 26) (u 26)).put (some 27) (u 27)).put (some 28) (u 28)).put (some 29) (u 29)).put (some 30) (u 30)).put (some 31) (u 31)).put (some 32) (u 32)).put (some 33) (u 33)).put (some 34) (u 34)).put (some 35) (u 35)).put (some 36) (u 36)).put (some 37) (.bool false)) w') :
    (Code.region 7 (Pl.find 7 ((Try.f19.body).getD .skip)) true).wp Try.prog Q A w := by
  by_cases hmo : i + 1 < len
  · exact apply7C w b o len cap i q x y (i + 1 < len) h hi hmo (by omega) (fun e => hn ⟨hmo, e⟩) hsz hdf s5 s7 s8 hend
  · exact apply7A w b o len cap i q x y (i + 1 < len) h hi (by omega) hsz hdf s5 s7 s8 hend

theorem ims_dedup : ∀ (l : List Ix), ims (Ap.dedup Ix.page l) = Ap.dedup Im.page (ims l)
  | [] => rfl
  | [_] => rfl
  | x :: y :: r => by
    have ih := ims_dedup (y :: r)
    show ims (if y.page = x.page then _ else _) = (if y.page = x.page then _ else _)
    split
    · exact ih
    · show x.im :: ims (Ap.dedup Ix.page (y :: r)) = _
      rw [ih]
      rfl
theorem ims_ins : ∀ (l : List Ix) (m : Ix), ims (Ap.ins Ix.page l m) = Ap.ins Im.page (ims l) m.im
  | [], _ => rfl
  | x :: r, m => by
    have ih := ims_ins r m
    show ims (if m.page < x.page then _ else _) = (if m.page < x.page then _ else _)
    split
    · rfl
    · show x.im :: ims (Ap.ins Ix.page r m) = _
      rw [ih]
      rfl
theorem ims_foldl : ∀ (l s : List Ix), ims (l.foldl (Ap.ins Ix.page) s) = (ims l).foldl (Ap.ins Im.page) (ims s)
  | [], _ => rfl
  | m :: r, s => by
    rw [List.foldl_cons, ims_foldl r, ims_ins]
    rfl
theorem ims_sort (l : List Ix) : ims (Ap.sort Ix.page l) = Ap.sort Im.page (ims l) := ims_foldl l []

/-- Of the rest of a row: one that is followed by its page goes, another one stays. -/
theorem dedup_step {L : List Ix} {i : Nat} (hi : i < L.length) : (i + 1 < L.length ∧ (L.getD (i + 1) Ix.zero).page = (L.getD i Ix.zero).page → Ap.dedup Ix.page (L.drop i) = Ap.dedup Ix.page (L.drop (i + 1))) ∧ (¬ (i + 1 < L.length ∧ (L.getD (i + 1) Ix.zero).page = (L.getD i Ix.zero).page) → Ap.dedup Ix.page (L.drop i) = L.getD i Ix.zero :: Ap.dedup Ix.page (L.drop (i + 1))) := by
  have e0 : L.getD i Ix.zero = L[i] := by simp [List.getD, hi]
  have d0 : L.drop i = L[i] :: L.drop (i + 1) := List.drop_eq_getElem_cons hi
  rw [e0, d0]
  by_cases h : i + 1 < L.length
  · have e1 : L.getD (i + 1) Ix.zero = L[i + 1] := by simp [List.getD, h]
    have d1 : L.drop (i + 1) = L[i + 1] :: L.drop (i + 2) := List.drop_eq_getElem_cons h
    rw [e1, d1]
    constructor
    · rintro ⟨_, hp⟩
      show (if L[i + 1].page = L[i].page then _ else _) = _
      rw [if_pos hp]
    · intro hn
      show (if L[i + 1].page = L[i].page then _ else _) = _
      rw [if_neg (fun e => hn ⟨h, e⟩)]
  · have d1 : L.drop (i + 1) = [] := List.drop_eq_nil_of_le (by omega)
    rw [d1]
    exact ⟨fun hh => absurd hh.1 h, fun _ => rfl⟩

theorem rBelow' {a b c : World} (h : Below a.heap.size a b) (k : Below b.heap.size b c) : Below a.heap.size a c := rBelow h k

/-- What Apply leaves. -/
def ApplyPost (w : World) (g : List Im) (e : Ending) (w' : World) : Prop := ∃ (v : Sl) (l : List Ix), e = .returned v.val ∧ Gr (fun k => w.heap.size ≤ k) w' v l ∧ ims l = g ∧ Below w.heap.size w w'

/-- What stands in the middle of Apply's loop. -/
def ApInv (w3 wr : World) (v : Sl) (l L : List Ix) (i : Nat) : Prop := GI (fun k => w3.heap.size ≤ k) w3.heap.size wr v l ∧ ims l ++ ims (Ap.dedup Ix.page (L.drop i)) = ims (Ap.dedup Ix.page L) ∧ Below w3.heap.size w3 wr ∧ v.len ≤ i

set_option maxHeartbeats 8000000 in
set_option maxRecDepth 100000 in
theorem apply_any {D E : Nat → Prop} (w : World) (v1 v2 : Sl) (l1 l2 : List Ix) (h1 : Gr D w v1 l1) (h2 : Gr E w v2 l2) (hp : 0 < v1.len + v2.len) (hm : v1.len + v2.len ≤ 19) (hbl : ∀ x ∈ l1 ++ l2, x.s.len ≤ 1000000) :
    Calls Try.prog 19 #[v1.val, v2.val] w fun e w' => ApplyPost w (Ap.dedup Im.page (Ap.sort Im.page (ims l1 ++ ims l2))) e w' := by
  obtain ⟨a1, n1, k1⟩ := v1
  obtain ⟨a2, n2, k2⟩ := v2
  replace hp : 0 < n1 + n2 := hp
  replace hm : n1 + n2 ≤ 19 := hm
  have hl1 : l1.length = n1 := h1.len
  have hl2 : l2.length = n2 := h2.len
  have hA := below_alloc w (.cells #[.slice a1 n1 k1, .slice a2 n2 k2] 25)
  have hblk : (w.alloc (.cells #[.slice a1 n1 k1, .slice a2 n2 k2] 25)).heap[w.heap.size]? = some (.cells #[.slice a1 n1 k1, .slice a2 n2 k2] 25) := heap_alloc_new w _
  have HCC := hide (concat_any (w.alloc (.cells #[.slice a1 n1 k1, .slice a2 n2 k2] 25)) w.heap.size ⟨a1, n1, k1⟩ ⟨a2, n2, k2⟩ l1 l2 (by rw [cell_of_row _ _ _ _ _ _ hblk]; rfl) (by rw [cell_of_row _ _ _ _ _ _ hblk]; rfl) (h1.below hA (Nat.le_refl _)) (h2.below hA (Nat.le_refl _)) hp (by show n1 + n2 ≤ 1000; omega))
  have HA := hide hA
  have HBS : Hid (∀ x ∈ l1 ++ l2, Cm (fun _ => True) w x.s x.bs) := by
    intro x hx
    rcases List.mem_append.1 hx with hx | hx
    · exact (h1.bs x hx).mono (fun _ _ _ => trivial)
    · exact (h2.bs x hx).mono (fun _ _ _ => trivial)
  have HBL := hide hbl
  have HLL : Hid ((l1 ++ l2).length = n1 + n2) := by show _ = _; rw [List.length_append, hl1, hl2]
  have HG : Hid (ims (Ap.dedup Ix.page (Ap.sort Ix.page (l1 ++ l2))) = Ap.dedup Im.page (Ap.sort Im.page (ims l1 ++ ims l2))) := by
    show _ = _
    rw [ims_dedup, ims_sort, ims_append]
  clear h1 h2 hl1 hl2 hA hblk hbl
  unfold Sl.val
  simp only
  go_enter Try.func19, Try.ntmps19
  go_wp2_with fail
  refine HCC.out.mono ?_
  rintro e w2 ⟨⟨sa, sl, sc⟩, rfl, ho2, hl2, hk2, hb2⟩
  replace hl2 : sl = (l1 ++ l2).length := hl2
  rw [HLL.out] at hl2
  have HB2 := hide (rBelow HA.out hb2)
  have HST := hide (sortStable_any w2 sa sl sc (l1 ++ l2) ho2 (by omega))
  have HK2 : Hid (∀ k, (Sl.mk sa sl sc).blk = some k → w.heap.size ≤ k) := fun k hk => Nat.le_trans HA.out.size (hk2 k hk)
  have hsl : sl ≤ 19 := by omega
  have HSL := hide hl2
  clear ho2 hk2 hb2 hl2 HCC
  unfold cmpV at HST
  unfold Sl.val
  simp only
  go_wp2_with fail
  refine HST.out.mono ?_
  rintro e w3 ⟨rfl, ho3, hf3⟩
  obtain ⟨L, hL⟩ : ∃ L, L = Ap.sort Ix.page (l1 ++ l2) := ⟨_, rfl⟩
  rw [← hL] at ho3
  have HO3 := hide ho3
  have HB3 : Hid (Below w.heap.size w w3) := HB2.out.trans (hf3.below HB2.out.size HK2.out)
  have HLN : Hid (L.length = sl) := ho3.len
  have HMEM : Hid (∀ x ∈ L, x ∈ l1 ++ l2) := by
    intro x hx
    rw [hL] at hx
    rcases Ap.mem_sort Ix.page _ _ x hx with h | h
    · cases h
    · exact h
  have HGL : Hid (ims (Ap.dedup Ix.page L) = Ap.dedup Im.page (Ap.sort Im.page (ims l1 ++ ims l2))) := by rw [hL]; exact HG.out
  have H0 : Hid (ApInv w3 w3 Sl.nil [] L 0) := ⟨GI.none _ _ _, rfl, Below.refl _ _, Nat.le_refl _⟩
  clear ho3 hf3 hL HST HG
  go_wp2_with fail
  go_loopw [6, 17] (fun gv iv wr => ∃ (i : Nat) (v : Sl) (l : List Ix), i ≤ sl ∧ iv = .int .i64 (i : Nat) ∧ gv = v.val ∧ Hid (ApInv w3 wr v l L i)) (fun _ iv _ => 30 - (intOf iv).toNat)
  case atStart => exact ⟨0, Sl.nil, [], by omega, rfl, rfl, H0⟩
  case round =>
    obtain ⟨i, ⟨va, vl, vc⟩, l, hi, rfl, rfl, hinv⟩ := hrel
    obtain ⟨hg, heq, hW, hvl⟩ := hinv.out
    replace hvl : vl ≤ i := hvl
    have HGI := hide hg
    have HEQ := hide heq
    have HW := hide hW
    clear hg heq hW hinv
    unfold Sl.val
    simp only
    rcases Nat.lt_or_ge i sl with hlt | hge
    · have i1 : ((i : Nat) : Int) < ((sl : Nat) : Int) := by omega
      have hil : i < L.length := by rw [HLN.out]; exact hlt
      have hown : OwnI wr ⟨sa, sl, sc⟩ L := HO3.out.frame (fun k hk => HW.out.block k (HO3.out.lt hk))
      rcases hown.2 with ⟨h0, _⟩ | ⟨b, o, cur, ha, _⟩
      · have : sl = 0 := congrArg Sl.len h0
        omega
      replace ha : sa = some ⟨b, o, none⟩ := ha
      subst ha
      obtain ⟨c0, c1⟩ := hown.cells rfl (i := i) hlt
      obtain ⟨x, hx⟩ : ∃ x, x = L.getD i Ix.zero := ⟨_, rfl⟩
      obtain ⟨y, hy⟩ : ∃ y, y = L.getD (i + 1) Ix.zero := ⟨_, rfl⟩
      rw [← hx] at c0 c1
      have hstep := dedup_step hil
      rw [← hx, ← hy, HLN.out] at hstep
      have HSTEP := hide hstep
      have hxm : x ∈ l1 ++ l2 := HMEM.out x (by rw [hx]; exact getD_mem _ hil)
      have HCM := hide (HBS.out x hxm)
      have hxl := HBL.out x hxm
      have hny : i + 1 < sl → wr.cell? ⟨b, o + (i + 1) * 2, none⟩ = some (.int .i64 y.page) := by
        intro hlt2
        have := (hown.cells rfl (i := i + 1) hlt2).1
        rw [← hy] at this
        exact this
      have hbb : i + 1 < sl → b < wr.heap.size := fun hlt2 => World.block_lt_of_cell? wr _ (hny hlt2)
      obtain ⟨q, ⟨xa, xl, xc⟩, xb⟩ := x
      replace c0 : wr.cell? ⟨b, o + i * 2, none⟩ = some (.int .i64 q) := c0
      replace c1 : wr.cell? ⟨b, o + i * 2 + 1, none⟩ = some (.slice xa xl xc) := c1
      replace hxl : xl ≤ 1000000 := hxl
      have hbx := imBlk_new wr q (.slice xa xl xc)
      have hAl := below_alloc wr (.cells #[.int .i64 q, .slice xa xl xc] 28)
      have had := rBelow hAl (below_drew (wr.alloc (.cells #[.int .i64 q, .slice xa xl xc] 28)))
      have hNS : NextS b o i wr.heap.size ⟨q, ⟨xa, xl, xc⟩, xb⟩ y (i + 1 < sl) (wr.alloc (.cells #[.int .i64 q, .slice xa xl xc] 28)).drew :=
        ⟨hbx.c0, fun hlt2 => (had.cell (p := ⟨b, o + (i + 1) * 2, none⟩) (hbb hlt2)).trans (hny hlt2)⟩
      have HBX := hide (hbx.below (below_drew (wr.alloc (.cells #[.int .i64 q, .slice xa xl xc] 28))))
      have HAD := hide had
      by_cases hsm : i + 1 < sl ∧ y.page = q
      · have i2 : ((i + 1 : Nat) : Int) < ((sl : Nat) : Int) := by omega
        have HRG := hide (fun Q A => @apply7B (wr.alloc (.cells #[.int .i64 q, .slice xa xl xc] 28)) b o sl sc i wr.heap.size ⟨q, ⟨xa, xl, xc⟩, xb⟩ y (i + 1 < sl) hNS (by omega) hsm.1 i2 hsm.2 Q A)
        have HNX : Hid (ApInv w3 (wr.alloc (.cells #[.int .i64 q, .slice xa xl xc] 28)).drew ⟨va, vl, vc⟩ l L (i + 1)) := by
          refine ⟨HGI.out.keep had, ?_, rBelow' HW.out had, by show vl ≤ i + 1; omega⟩
          rw [← HSTEP.out.1 ⟨hsm.1, hsm.2⟩]
          exact HEQ.out
        clear hown hx hy hstep hxm hny hbb hbx hAl had hNS hsm i2
        go_wp2_with fail
        refine Pl.region_is (ops := Pl.find 7 ((Try.f19.body).getD .skip)) (by kernel_rfl) ?_
        refine HRG.out _ _ (by rfl) rfl (by rfl) (by rfl) (by rfl) ?_
        rintro uu w9 rfl
        simp only [Act.put, List.setIfInBounds_toArray, List.set_cons_zero, List.set_cons_succ]
        clear HRG HBX HAD
        generalize (wr.alloc (.cells #[.int .i64 q, .slice xa xl xc] 28)).drew = w9 at HNX ⊢
        go_wp2_with fail
        go_roundw
        case rel => exact ⟨i + 1, ⟨va, vl, vc⟩, l, by omega, by go_num, rfl, HNX⟩
        case measure => simp only [intOf]; omega
      · have HST2 := hide (HSTEP.out.2 hsm)
        have HRG := hide (fun Q A => @apply7N (wr.alloc (.cells #[.int .i64 q, .slice xa xl xc] 28)) b o sl sc i wr.heap.size ⟨q, ⟨xa, xl, xc⟩, xb⟩ y hNS (by omega) hsm Q A)
        have hcm : Came (wr.alloc (.cells #[.int .i64 q, .slice xa xl xc] 28)).drew xa xl xc xb := (HCM.out.below (HB3.out.trans ((rBelow' HW.out had).mono HB3.out.size)) (Nat.le_refl _)).came
        have HGD := hide (HGI.out.keep had)
        have HWD := hide (rBelow' HW.out had)
        clear hown hx hy hstep hxm hny hbb hbx hAl had hNS hsm HGI HW HAD
        go_wp2_with fail
        refine Pl.region_is (ops := Pl.find 7 ((Try.f19.body).getD .skip)) (by kernel_rfl) ?_
        refine HRG.out _ _ (by rfl) rfl (by rfl) (by rfl) (by rfl) ?_
        intro uu w9 hw9
        simp only [Act.put, List.setIfInBounds_toArray, List.set_cons_zero, List.set_cons_succ]
        rw [← hw9] at hcm HGD HWD HBX
        have d0 := HBX.out.c0
        have d1 := HBX.out.c1
        have HIM := hide (imageOf_any w9 q xa xl xc xb hcm hxl)
        clear HRG HBX hw9 hcm
        go_wp2_with fail
        refine HIM.out.mono ?_
        rintro e w10 ⟨sp, rfl, hb10, hc10⟩
        have HGT := hide (HGD.out.keep hb10)
        have HWT := hide (rBelow' HWD.out hb10)
        have HCX : Hid (Cm (fun k => w3.heap.size ≤ k ∧ (Sl.mk va vl vc).blk ≠ some k) w10 sp xb) := hc10.mono (fun k hk _ => ⟨Nat.le_trans HWD.out.size hk, fun e => by have := HGD.out.own.lt e; omega⟩)
        clear hb10 hc10 HIM HGD HWD d0 d1
        obtain ⟨pa, pl, pc⟩ := sp
        unfold Sl.val
        simp only
        go_wp2_with (at_builtin; refine wpList_append_im w10 ⟨q, ⟨pa, pl, pc⟩, xb⟩ rfl (.tmp 38) (.tmp 44) rfl ⟨va, vl, vc⟩ l rfl rfl HGT.out.own (by show vl + 1 ≤ 1000000; omega) ?_)
        intro v11 w11 ho11 hl11 hf11 hb11
        obtain ⟨hg11, hbb11⟩ := HGT.out.add (x := ⟨q, ⟨pa, pl, pc⟩, xb⟩) HCX.out ho11 hf11 hb11 HWT.out.size
        have HNX : Hid (ApInv w3 w11 v11 (l ++ [⟨q, ⟨pa, pl, pc⟩, xb⟩]) L (i + 1)) := by
          refine ⟨hg11, ?_, HWT.out.trans hbb11, by rw [hl11]; show vl + 1 ≤ i + 1; omega⟩
          have h9 := HEQ.out
          rw [HST2.out] at h9
          rw [ims_append, List.append_assoc]
          exact h9
        clear hg11 hbb11 ho11 hl11 hf11 hb11 HGT HWT HCX
        obtain ⟨ya, yl, yc⟩ := v11
        unfold Sl.val
        simp only
        go_wp2_with fail
        go_roundw
        case rel => exact ⟨i + 1, ⟨ya, yl, yc⟩, _, by omega, by go_num, rfl, HNX⟩
        case measure => simp only [intOf]; omega
    · have i1 : ¬ ((i : Nat) : Int) < ((sl : Nat) : Int) := by omega
      have HE : Hid (ims l = Ap.dedup Im.page (Ap.sort Im.page (ims l1 ++ ims l2))) := by
        have h9 := HEQ.out
        rw [List.drop_eq_nil_of_le (by rw [HLN.out]; exact hge)] at h9
        rw [← HGL.out, ← h9]
        show ims l = ims l ++ []
        rw [List.append_nil]
      have HGG : Hid (Gr (fun k => w.heap.size ≤ k) wr ⟨va, vl, vc⟩ l) := (HGI.out.gr (by show vl ≤ 1000000; omega)).mono (fun k hk _ => Nat.le_trans HB3.out.size (hk.elim id id))
      go_wp2_with fail
      go_ret
      exact ⟨⟨va, vl, vc⟩, l, rfl, HGG.out, HE.out, HB3.out.trans (HW.out.mono HB3.out.size)⟩
end Go.Proofs.Ytjgeiooblcpiaaa
