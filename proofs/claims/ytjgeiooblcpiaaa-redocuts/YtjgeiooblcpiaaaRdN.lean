/-
  Layer 6: two rows of groups held against each other: drawn regions.
-/
import Derived.Test.YtjgeiooblcpiaaaRdM
namespace Go.Proofs.Ytjgeiooblcpiaaa
open Go.RowKit

theorem entSame : ∀ args w, (callFunc 15 args).run Try.prog w = .ok (.enter 15 args) w := Pl.enters Try.func15 (by kernel_rfl) (by kernel_rfl)
/-- The places of two groups. -/
def TwoG (b o c q k : Nat) (x y : Sl) (w : World) : Prop := w.cell? ⟨b, o + k, none⟩ = some x.val ∧ w.cell? ⟨c, q + k, none⟩ = some y.val

set_option maxHeartbeats 2000000 in
set_option maxRecDepth 100000 in
theorem rows12 (w : World) (b o c q len cap len2 cap2 k : Nat) (x y : Sl) (h : TwoG b o c q k x y w) (hk : k < len) (hk2 : k < len2) (hsame : Calls Try.prog 15 #[x.val, y.val] w.drew fun e w' => e = .returned (.bool true) ∧ Below w.drew.heap.size w.drew w') (hS2 : ∀ w2, Below w.drew.heap.size w.drew w2 → TwoG b o c q k x y w2)
    {Q : Exit → Act → World → Prop} {A : Act} (hsz : A.tmps.size = 85) (hdf : A.defers = []) (s9 : A.tmps.getD 9 undef = .slice (some ⟨b, o, none⟩) len cap) (s11 : A.tmps.getD 11 undef = .slice (some ⟨c, q, none⟩) len2 cap2) (s13 : A.tmps.getD 13 undef = .int .i64 ((k : Nat) : Int))
    (hend : ∀ (u : Nat → Value) w', Below w.heap.size w w' → Q .normal (((((((((((A).put (some 74) (u 74)).put (some 75) (u 75)).put (some 76) (u 76)).put (some 77) (u 77)).put (some 78) (u 78)).put (some 79) (u 79)).put (some 80) (u 80)).put (some 81) (u 81)).put (some 82) (u 82)).put (some 83) (.bool false)) w') :
    (Code.region 12 (Pl.find 12 ((Try.f4.body).getD .skip)) true).wp Try.prog Q A w := by
  have hA := Pl.At.same (v := .int .i64 ((k : Nat) : Int)) (d := 13) (Pl.At.same (v := .slice (some ⟨c, q, none⟩) len2 cap2) (d := 11) (Pl.At.same (v := .slice (some ⟨b, o, none⟩) len cap) (d := 9) (Pl.At.here hsz hdf) s9) s11) s13
  refine Pl.H.start (S := TwoG b o c q k x y) (by kernel_rfl) hA (show TwoG b o c q k x y w.drew from h) ?_
  rw [show (Pl.find 12 ((Try.f4.body).getD .skip)).size = 10 by kernel_rfl]
  refine Pl.H.take 0 74 (.slice (some ⟨b, o, none⟩) len cap) (by kernel_rfl) (by kernel_rfl) (by kernel_rfl) (Pl.free 0 (by kernel_rfl)) (Pl.move 0 (.tmp 9) (by kernel_rfl) (by decide)) (show TwoG b o c q k x y w.drew from h) ?_
  refine Pl.H.take 1 75 (.int .i64 ((k : Nat) : Int)) (by kernel_rfl) (by kernel_rfl) (by kernel_rfl) (Pl.free 1 (by kernel_rfl)) (Pl.move 1 (.tmp 13) (by kernel_rfl) (by decide)) (show TwoG b o c q k x y w.drew from h) ?_
  refine Pl.H.take 2 76 (.pointer (some ⟨b, o + k, none⟩)) (by kernel_rfl) (by kernel_rfl) (by kernel_rfl) (Pl.free 2 (by kernel_rfl)) (Pl.index 2 40 (.tmp 74) (.tmp 75) _ (by kernel_rfl) (by decide) (by decide) (ixGr b o len cap k hk)) (show TwoG b o c q k x y w.drew from h) ?_
  refine Pl.H.take 3 77 (Sl.val x) (by kernel_rfl) (by kernel_rfl) (by kernel_rfl) (Pl.free 3 (by kernel_rfl)) (Pl.load 3 25 (.tmp 76) _ (by kernel_rfl) (by decide) (fun w' hS => ldGr _ _ _ w' (hS.1))) (show TwoG b o c q k x y w.drew from h) ?_
  refine Pl.H.take 4 78 (.slice (some ⟨c, q, none⟩) len2 cap2) (by kernel_rfl) (by kernel_rfl) (by kernel_rfl) (Pl.free 4 (by kernel_rfl)) (Pl.move 4 (.tmp 11) (by kernel_rfl) (by decide)) (show TwoG b o c q k x y w.drew from h) ?_
  refine Pl.H.take 5 79 (.int .i64 ((k : Nat) : Int)) (by kernel_rfl) (by kernel_rfl) (by kernel_rfl) (Pl.free 5 (by kernel_rfl)) (Pl.move 5 (.tmp 13) (by kernel_rfl) (by decide)) (show TwoG b o c q k x y w.drew from h) ?_
  refine Pl.H.take 6 80 (.pointer (some ⟨c, q + k, none⟩)) (by kernel_rfl) (by kernel_rfl) (by kernel_rfl) (Pl.free 6 (by kernel_rfl)) (Pl.index 6 40 (.tmp 78) (.tmp 79) _ (by kernel_rfl) (by decide) (by decide) (ixGr c q len2 cap2 k hk2)) (show TwoG b o c q k x y w.drew from h) ?_
  refine Pl.H.take 7 81 (Sl.val y) (by kernel_rfl) (by kernel_rfl) (by kernel_rfl) (Pl.free 7 (by kernel_rfl)) (Pl.load 7 25 (.tmp 80) _ (by kernel_rfl) (by decide) (fun w' hS => ldGr _ _ _ w' (hS.2))) (show TwoG b o c q k x y w.drew from h) ?_
  refine Pl.H.call 8 82 15 [(.tmp 77), (.tmp 81)] #[25, 25] (by kernel_rfl) (by kernel_rfl) (by kernel_rfl) (Pl.free 8 (by kernel_rfl)) (by kernel_rfl) (by decide) entSame (Calls.mono (hsame) ?_)
  rintro e w2 ⟨rfl, hb2⟩
  refine ⟨.bool true, rfl, (hS2 w2 hb2), ?_⟩
  refine Pl.H.take 9 83 (.bool false) (by kernel_rfl) (by kernel_rfl) (by kernel_rfl) (Pl.free 9 (by kernel_rfl)) (Pl.neg 9 4 (.tmp 82) true (by kernel_rfl) (by decide) rfl) (hS2 w2 hb2) ?_
  refine Pl.H.done (by kernel_rfl) (fun A' hA' => ?_)
  rw [Pl.At.ext hA' ((((((((((hA.put 74 _).put 75 _).put 76 _).put 77 _).put 78 _).put 79 _).put 80 _).put 81 _).put 82 _).put 83 _)]
  exact hend (fun d => if d = 74 then .slice (some ⟨b, o, none⟩) len cap else if d = 75 then .int .i64 ((k : Nat) : Int) else if d = 76 then .pointer (some ⟨b, o + k, none⟩) else if d = 77 then Sl.val x else if d = 78 then .slice (some ⟨c, q, none⟩) len2 cap2 else if d = 79 then .int .i64 ((k : Nat) : Int) else if d = 80 then .pointer (some ⟨c, q + k, none⟩) else if d = 81 then Sl.val y else if d = 82 then .bool true else undef) _ (rBelow (below_drew w) hb2)

set_option maxHeartbeats 2000000 in
set_option maxRecDepth 100000 in
theorem cuts25 (w : World) (b o c q len cap len2 cap2 k : Nat) (x y : Sl) (h : TwoG b o c q k x y w) (hk : k < len) (hk2 : k < len2) (hsame : Calls Try.prog 15 #[x.val, y.val] w.drew fun e w' => e = .returned (.bool true) ∧ Below w.drew.heap.size w.drew w') (hS2 : ∀ w2, Below w.drew.heap.size w.drew w2 → TwoG b o c q k x y w2)
    {Q : Exit → Act → World → Prop} {A : Act} (hsz : A.tmps.size = 107) (hdf : A.defers = []) (s16 : A.tmps.getD 16 undef = .slice (some ⟨b, o, none⟩) len cap) (s9 : A.tmps.getD 9 undef = .slice (some ⟨c, q, none⟩) len2 cap2) (s18 : A.tmps.getD 18 undef = .int .i64 ((k : Nat) : Int))
    (hend : ∀ (u : Nat → Value) w', Below w.heap.size w w' → Q .normal (((((((((((A).put (some 96) (u 96)).put (some 97) (u 97)).put (some 98) (u 98)).put (some 99) (u 99)).put (some 100) (u 100)).put (some 101) (u 101)).put (some 102) (u 102)).put (some 103) (u 103)).put (some 104) (u 104)).put (some 105) (.bool false)) w') :
    (Code.region 25 (Pl.find 25 ((Try.f5.body).getD .skip)) true).wp Try.prog Q A w := by
  have hA := Pl.At.same (v := .int .i64 ((k : Nat) : Int)) (d := 18) (Pl.At.same (v := .slice (some ⟨c, q, none⟩) len2 cap2) (d := 9) (Pl.At.same (v := .slice (some ⟨b, o, none⟩) len cap) (d := 16) (Pl.At.here hsz hdf) s16) s9) s18
  refine Pl.H.start (S := TwoG b o c q k x y) (by kernel_rfl) hA (show TwoG b o c q k x y w.drew from h) ?_
  rw [show (Pl.find 25 ((Try.f5.body).getD .skip)).size = 10 by kernel_rfl]
  refine Pl.H.take 0 96 (.slice (some ⟨b, o, none⟩) len cap) (by kernel_rfl) (by kernel_rfl) (by kernel_rfl) (Pl.free 0 (by kernel_rfl)) (Pl.move 0 (.tmp 16) (by kernel_rfl) (by decide)) (show TwoG b o c q k x y w.drew from h) ?_
  refine Pl.H.take 1 97 (.int .i64 ((k : Nat) : Int)) (by kernel_rfl) (by kernel_rfl) (by kernel_rfl) (Pl.free 1 (by kernel_rfl)) (Pl.move 1 (.tmp 18) (by kernel_rfl) (by decide)) (show TwoG b o c q k x y w.drew from h) ?_
  refine Pl.H.take 2 98 (.pointer (some ⟨b, o + k, none⟩)) (by kernel_rfl) (by kernel_rfl) (by kernel_rfl) (Pl.free 2 (by kernel_rfl)) (Pl.index 2 40 (.tmp 96) (.tmp 97) _ (by kernel_rfl) (by decide) (by decide) (ixGr b o len cap k hk)) (show TwoG b o c q k x y w.drew from h) ?_
  refine Pl.H.take 3 99 (Sl.val x) (by kernel_rfl) (by kernel_rfl) (by kernel_rfl) (Pl.free 3 (by kernel_rfl)) (Pl.load 3 25 (.tmp 98) _ (by kernel_rfl) (by decide) (fun w' hS => ldGr _ _ _ w' (hS.1))) (show TwoG b o c q k x y w.drew from h) ?_
  refine Pl.H.take 4 100 (.slice (some ⟨c, q, none⟩) len2 cap2) (by kernel_rfl) (by kernel_rfl) (by kernel_rfl) (Pl.free 4 (by kernel_rfl)) (Pl.move 4 (.tmp 9) (by kernel_rfl) (by decide)) (show TwoG b o c q k x y w.drew from h) ?_
  refine Pl.H.take 5 101 (.int .i64 ((k : Nat) : Int)) (by kernel_rfl) (by kernel_rfl) (by kernel_rfl) (Pl.free 5 (by kernel_rfl)) (Pl.move 5 (.tmp 18) (by kernel_rfl) (by decide)) (show TwoG b o c q k x y w.drew from h) ?_
  refine Pl.H.take 6 102 (.pointer (some ⟨c, q + k, none⟩)) (by kernel_rfl) (by kernel_rfl) (by kernel_rfl) (Pl.free 6 (by kernel_rfl)) (Pl.index 6 40 (.tmp 100) (.tmp 101) _ (by kernel_rfl) (by decide) (by decide) (ixGr c q len2 cap2 k hk2)) (show TwoG b o c q k x y w.drew from h) ?_
  refine Pl.H.take 7 103 (Sl.val y) (by kernel_rfl) (by kernel_rfl) (by kernel_rfl) (Pl.free 7 (by kernel_rfl)) (Pl.load 7 25 (.tmp 102) _ (by kernel_rfl) (by decide) (fun w' hS => ldGr _ _ _ w' (hS.2))) (show TwoG b o c q k x y w.drew from h) ?_
  refine Pl.H.call 8 104 15 [(.tmp 99), (.tmp 103)] #[25, 25] (by kernel_rfl) (by kernel_rfl) (by kernel_rfl) (Pl.free 8 (by kernel_rfl)) (by kernel_rfl) (by decide) entSame (Calls.mono (hsame) ?_)
  rintro e w2 ⟨rfl, hb2⟩
  refine ⟨.bool true, rfl, (hS2 w2 hb2), ?_⟩
  refine Pl.H.take 9 105 (.bool false) (by kernel_rfl) (by kernel_rfl) (by kernel_rfl) (Pl.free 9 (by kernel_rfl)) (Pl.neg 9 4 (.tmp 104) true (by kernel_rfl) (by decide) rfl) (hS2 w2 hb2) ?_
  refine Pl.H.done (by kernel_rfl) (fun A' hA' => ?_)
  rw [Pl.At.ext hA' ((((((((((hA.put 96 _).put 97 _).put 98 _).put 99 _).put 100 _).put 101 _).put 102 _).put 103 _).put 104 _).put 105 _)]
  exact hend (fun d => if d = 96 then .slice (some ⟨b, o, none⟩) len cap else if d = 97 then .int .i64 ((k : Nat) : Int) else if d = 98 then .pointer (some ⟨b, o + k, none⟩) else if d = 99 then Sl.val x else if d = 100 then .slice (some ⟨c, q, none⟩) len2 cap2 else if d = 101 then .int .i64 ((k : Nat) : Int) else if d = 102 then .pointer (some ⟨c, q + k, none⟩) else if d = 103 then Sl.val y else if d = 104 then .bool true else undef) _ (rBelow (below_drew w) hb2)

end Go.Proofs.Ytjgeiooblcpiaaa
