/-
  The law of what is added to a row: its walk.
-/
import Derived.Test.YtgckcalkdojeeaaRowP
namespace Go.Proofs.Ytgckcalkdojeeaa
open Go.RowKit

theorem set_other (xs : List Nat) (z : Nat) (k : Nat) (hk : 1 ≤ k) : (xs.set 0 z).getD k 0 = xs.getD k 0 := by
  cases xs with
  | nil => rfl
  | cons x r =>
    cases k with
    | zero => omega
    | succ k => rfl

theorem field_rw3 (b : Nat) (w : World) : (Instr.fieldAt 27 (.pointer (some ⟨b, 0, none⟩)) 3).run Try.prog w = .ok (.pointer (some ⟨b, 3, none⟩)) w := by simp [go_sem]

theorem roll_eq (c n : Int) (w : World) : (binOp .neq 25 (.agg #[.int .i64 c, .int .i64 n]) (.agg #[.int .i64 c, .int .i64 n])).run Try.prog w = .ok (.bool false) w := by
  simp [go_sem]

set_option maxHeartbeats 2000000 in
set_option maxRecDepth 100000 in
theorem sums10 (w0 w : World) (p q b1 o1 c1 b2 o2 c2 len k x : Nat) (X Y : Rw) (hq : RwBlk w0 q Y (.slice (some ⟨b1, o1, none⟩) len c1)) (hp : RwBlk w0 p X (.slice (some ⟨b2, o2, none⟩) len c2)) (hk : k < len) (h1 : w0.cell? ⟨b1, o1 + k, none⟩ = some (.float .f64 x)) (h2 : w0.cell? ⟨b2, o2 + k, none⟩ = some (.float .f64 x)) (hW : Below w0.heap.size w0 w)
    {Q : Exit → Act → World → Prop} {A : Act} (hsz : A.tmps.size = 104) (hdf : A.defers = []) (s3 : A.tmps.getD 3 undef = .pointer (some ⟨p, 0, none⟩)) (s9 : A.tmps.getD 9 undef = .pointer (some ⟨q, 0, none⟩)) (s11 : A.tmps.getD 11 undef = .int .i64 (k : Nat))
    (hend : ∀ (u : Nat → Value) w', Below w0.heap.size w0 w' → Q .normal (((((((((((((A).put (some 82) (u 82)).put (some 83) (u 83)).put (some 84) (u 84)).put (some 85) (u 85)).put (some 86) (u 86)).put (some 87) (u 87)).put (some 88) (u 88)).put (some 89) (u 89)).put (some 90) (u 90)).put (some 91) (u 91)).put (some 92) (u 92)).put (some 93) (.bool false)) w') :
    (Code.region 10 (Pl.find 10 ((Try.f7.body).getD .skip)) true).wp Try.prog Q A w := by
  have hS0 : Below w0.heap.size w0 w.drew := hW.drew
  have hA := Pl.At.same (v := .int .i64 (k : Nat)) (d := 11) (Pl.At.same (v := .pointer (some ⟨q, 0, none⟩)) (d := 9) (Pl.At.same (v := .pointer (some ⟨p, 0, none⟩)) (d := 3) (Pl.At.here hsz hdf) s3) s9) s11
  refine Pl.H.start (S := fun w' => Below w0.heap.size w0 w') (by kernel_rfl) hA hS0 ?_
  rw [show (Pl.find 10 ((Try.f7.body).getD .skip)).size = 12 by kernel_rfl]
  refine Pl.H.take 0 82 (.pointer (some ⟨q, 2, none⟩)) (by kernel_rfl) (by kernel_rfl) (by kernel_rfl) (Pl.free 0 (by kernel_rfl)) (Pl.field 0 27 (.tmp 9) 2 _ (by kernel_rfl) (by decide) (field_rw2 q)) hS0 ?_
  refine Pl.H.take 1 83 (.slice (some ⟨b1, o1, none⟩) len c1) (by kernel_rfl) (by kernel_rfl) (by kernel_rfl) (Pl.free 1 (by kernel_rfl)) (Pl.load 1 23 (.tmp 82) _ (by kernel_rfl) (by decide) (fun w' hS => load_fls q 2 _ _ _ w' (hq.keep hS).c2)) hS0 ?_
  refine Pl.H.take 2 84 (.int .i64 (k : Nat)) (by kernel_rfl) (by kernel_rfl) (by kernel_rfl) (Pl.free 2 (by kernel_rfl)) (Pl.move 2 (.tmp 11) (by kernel_rfl) (by decide)) hS0 ?_
  refine Pl.H.take 3 85 (.pointer (some ⟨b1, o1 + k, none⟩)) (by kernel_rfl) (by kernel_rfl) (by kernel_rfl) (Pl.free 3 (by kernel_rfl)) (Pl.index 3 23 (.tmp 83) (.tmp 84) _ (by kernel_rfl) (by decide) (by decide) (index_flt b1 o1 len c1 k hk)) hS0 ?_
  refine Pl.H.take 4 86 (.float .f64 x) (by kernel_rfl) (by kernel_rfl) (by kernel_rfl) (Pl.free 4 (by kernel_rfl)) (Pl.load 4 22 (.tmp 85) _ (by kernel_rfl) (by decide) (fun w' hS => load_flt b1 (o1 + k) x w' ((hS.cell (World.block_lt_of_cell? w0 _ h1)).trans h1))) hS0 ?_
  refine Pl.H.take 5 87 (.pointer (some ⟨p, 2, none⟩)) (by kernel_rfl) (by kernel_rfl) (by kernel_rfl) (Pl.free 5 (by kernel_rfl)) (Pl.field 5 27 (.tmp 3) 2 _ (by kernel_rfl) (by decide) (field_rw2 p)) hS0 ?_
  refine Pl.H.take 6 88 (.slice (some ⟨b2, o2, none⟩) len c2) (by kernel_rfl) (by kernel_rfl) (by kernel_rfl) (Pl.free 6 (by kernel_rfl)) (Pl.load 6 23 (.tmp 87) _ (by kernel_rfl) (by decide) (fun w' hS => load_fls p 2 _ _ _ w' (hp.keep hS).c2)) hS0 ?_
  refine Pl.H.take 7 89 (.int .i64 (k : Nat)) (by kernel_rfl) (by kernel_rfl) (by kernel_rfl) (Pl.free 7 (by kernel_rfl)) (Pl.move 7 (.tmp 11) (by kernel_rfl) (by decide)) hS0 ?_
  refine Pl.H.take 8 90 (.pointer (some ⟨b2, o2 + k, none⟩)) (by kernel_rfl) (by kernel_rfl) (by kernel_rfl) (Pl.free 8 (by kernel_rfl)) (Pl.index 8 23 (.tmp 88) (.tmp 89) _ (by kernel_rfl) (by decide) (by decide) (index_flt b2 o2 len c2 k hk)) hS0 ?_
  refine Pl.H.take 9 91 (.float .f64 x) (by kernel_rfl) (by kernel_rfl) (by kernel_rfl) (Pl.free 9 (by kernel_rfl)) (Pl.load 9 22 (.tmp 90) _ (by kernel_rfl) (by decide) (fun w' hS => load_flt b2 (o2 + k) x w' ((hS.cell (World.block_lt_of_cell? w0 _ h2)).trans h2))) hS0 ?_
  refine Pl.H.call 10 92 21 [(.tmp 86), (.tmp 91)] #[22, 22] (by kernel_rfl) (by kernel_rfl) (by kernel_rfl) (Pl.free 10 (by kernel_rfl)) (by kernel_rfl) (by decide) enters21 (Calls.mono (refSame_any x x w.drew) ?_)
  rintro e w1 ⟨rfl, hw1⟩
  rw [beq_self_eq_true]
  have hS1 : Below w0.heap.size w0 w1 := by rw [hw1]; exact hS0
  refine ⟨.bool true, rfl, hS1, ?_⟩
  refine Pl.H.take 11 93 (.bool false) (by kernel_rfl) (by kernel_rfl) (by kernel_rfl) (Pl.free 11 (by kernel_rfl)) (Pl.neg 11 4 (.tmp 92) true (by kernel_rfl) (by decide) rfl) hS1 ?_
  refine Pl.H.done (by kernel_rfl) (fun A' hA' => ?_)
  rw [Pl.At.ext hA' ((((((((((((hA.put 82 _).put 83 _).put 84 _).put 85 _).put 86 _).put 87 _).put 88 _).put 89 _).put 90 _).put 91 _).put 92 _).put 93 _)]
  exact hend (fun d => if d = 82 then .pointer (some ⟨q, 2, none⟩) else if d = 83 then .slice (some ⟨b1, o1, none⟩) len c1 else if d = 84 then .int .i64 (k : Nat) else if d = 85 then .pointer (some ⟨b1, o1 + k, none⟩) else if d = 86 then .float .f64 x else if d = 87 then .pointer (some ⟨p, 2, none⟩) else if d = 88 then .slice (some ⟨b2, o2, none⟩) len c2 else if d = 89 then .int .i64 (k : Nat) else if d = 90 then .pointer (some ⟨b2, o2 + k, none⟩) else if d = 91 then .float .f64 x else if d = 92 then .bool true else undef) _ hS1

set_option maxHeartbeats 2000000 in
set_option maxRecDepth 100000 in
theorem sums12 (w0 w : World) (p q x y : Nat) (X : Rw) (a : Option Addr) (len cap : Nat) (qa : Option Addr) (qc : Nat) (hp : RwBlk w0 p X (.slice a len cap)) (hq : RwBlk w0 q (plusR (plusR X x) y) (.slice qa len qc)) (hfa : Fs w0 a len cap X.xs) (hfq : Fs w0 qa len qc (plusR (plusR X x) y).xs) (hl : len ≤ 1000) (h0 : 0 < len) (hW : Below w0.heap.size w0 w)
    {Q : Exit → Act → World → Prop} {A : Act} (hsz : A.tmps.size = 104) (hdf : A.defers = []) (s1 : A.tmps.getD 1 undef = .float .f64 x) (s2 : A.tmps.getD 2 undef = .float .f64 y) (s3 : A.tmps.getD 3 undef = .pointer (some ⟨p, 0, none⟩)) (s9 : A.tmps.getD 9 undef = .pointer (some ⟨q, 0, none⟩))
    (hend : ∀ (u : Nat → Value) w', Below w0.heap.size w0 w' → Q .normal ((((((((((((A).put (some 94) (u 94)).put (some 95) (u 95)).put (some 96) (u 96)).put (some 98) (u 98)).put (some 97) (u 97)).put (some 99) (u 99)).put (some 100) (u 100)).put (some 101) (u 101)).put (some 102) (u 102)).put (some 103) (u 103)).put (some 6) (.bool true)) w') :
    (Code.region 12 (Pl.find 12 ((Try.f7.body).getD .skip)) true).wp Try.prog Q A w := by
  have hS0 : Below w0.heap.size w0 w.drew := hW.drew
  have hA := Pl.At.same (v := .pointer (some ⟨q, 0, none⟩)) (d := 9) (Pl.At.same (v := .pointer (some ⟨p, 0, none⟩)) (d := 3) (Pl.At.same (v := .float .f64 y) (d := 2) (Pl.At.same (v := .float .f64 x) (d := 1) (Pl.At.here hsz hdf) s1) s2) s3) s9
  refine Pl.H.start (S := fun w' => Below w0.heap.size w0 w') (by kernel_rfl) hA hS0 ?_
  rw [show (Pl.find 12 ((Try.f7.body).getD .skip)).size = 11 by kernel_rfl]
  refine Pl.H.take 0 94 ((plusR (plusR X x) y).val (.slice qa len qc)) (by kernel_rfl) (by kernel_rfl) (by kernel_rfl) (Pl.free 0 (by kernel_rfl)) (Pl.load 0 27 (.tmp 9) _ (by kernel_rfl) (by decide) (fun w' hS => load_rw q (plusR (plusR X x) y) (.slice qa len qc) ⟨_, _, _, rfl⟩ w' (hq.keep hS))) hS0 ?_
  refine Pl.H.take 1 95 (X.val (.slice a len cap)) (by kernel_rfl) (by kernel_rfl) (by kernel_rfl) (Pl.free 1 (by kernel_rfl)) (Pl.load 1 27 (.tmp 3) _ (by kernel_rfl) (by decide) (fun w' hS => load_rw p X (.slice a len cap) ⟨_, _, _, rfl⟩ w' (hp.keep hS))) hS0 ?_
  refine Pl.H.take 2 96 (.float .f64 x) (by kernel_rfl) (by kernel_rfl) (by kernel_rfl) (Pl.free 2 (by kernel_rfl)) (Pl.move 2 (.tmp 1) (by kernel_rfl) (by decide)) hS0 ?_
  refine Pl.H.take 4 98 (.float .f64 y) (by kernel_rfl) (by kernel_rfl) (by kernel_rfl) (Pl.free 4 (by kernel_rfl)) (Pl.move 4 (.tmp 2) (by kernel_rfl) (by decide)) hS0 ?_
  refine Pl.H.call 3 97 19 [(.tmp 95), (.tmp 96)] #[27, 22] (by kernel_rfl) (by kernel_rfl) (by kernel_rfl) (Pl.free 3 (by kernel_rfl)) (by kernel_rfl) (by decide) enters19 (Calls.mono (refPlus_any X a len cap x w.drew (hfa.keep hS0 (Nat.le_refl _)) hl h0) ?_)
  rintro e w1 ⟨hb1, oa, oc, rfl, hfo⟩
  have hS1 := hS0.trans (hb1.mono hS0.size)
  refine ⟨(plusR X x).val (.slice oa len oc), rfl, hS1, ?_⟩
  refine Pl.H.call 5 99 19 [(.tmp 97), (.tmp 98)] #[27, 22] (by kernel_rfl) (by kernel_rfl) (by kernel_rfl) (Pl.free 5 (by kernel_rfl)) (by kernel_rfl) (by decide) enters19 (Calls.mono (refPlus_any (plusR X x) oa len oc y w1 hfo hl h0) ?_)
  rintro e w2 ⟨hb2, pa, pc, rfl, hfp⟩
  have hS2 := hS1.trans (hb2.mono hS1.size)
  refine ⟨(plusR (plusR X x) y).val (.slice pa len pc), rfl, hS2, ?_⟩
  refine Pl.H.call 6 100 14 [(.tmp 94), (.tmp 99)] #[27, 27] (by kernel_rfl) (by kernel_rfl) (by kernel_rfl) (Pl.free 6 (by kernel_rfl)) (by kernel_rfl) (by decide) enters14 (Calls.mono (refSelf_any (plusR (plusR X x) y) qa len qc pa len pc w2 (hfq.keep hS2 (Nat.le_refl _)) hfp) ?_)
  rintro e w3 ⟨rfl, hb3⟩
  have hS3 := hS2.trans (hb3.mono hS2.size)
  refine ⟨.bool true, rfl, hS3, ?_⟩
  refine Pl.H.take 7 101 (.bool true) (by kernel_rfl) (by kernel_rfl) (by kernel_rfl) (Pl.free 7 (by kernel_rfl)) (Pl.move 7 (.tmp 100) (by kernel_rfl) (by decide)) hS3 ?_
  refine Pl.H.call 8 102 8 [] #[] (by kernel_rfl) (by kernel_rfl) (by kernel_rfl) (Pl.guarded 8 7 101 true (by kernel_rfl) (by kernel_rfl) (by decide) rfl) (by kernel_rfl) (by decide) enters8 (Calls.mono (awake_any w3) ?_)
  rintro e w4 ⟨rfl, hb4⟩
  have hS4 := hS3.trans (hb4.mono hS3.size)
  refine ⟨.bool true, rfl, hS4, ?_⟩
  refine Pl.H.take 9 103 (.bool true) (by kernel_rfl) (by kernel_rfl) (by kernel_rfl) (Pl.free 9 (by kernel_rfl)) (Pl.pick 9 (.tmp 101) (.tmp 102) (.const (.bool false)) (by kernel_rfl) (by decide) (by decide) rfl) hS4 ?_
  refine Pl.H.take 10 6 (.bool true) (by kernel_rfl) (by kernel_rfl) (by kernel_rfl) (Pl.free 10 (by kernel_rfl)) (Pl.assign 10 (.tmp 103) (by kernel_rfl) (by decide)) hS4 ?_
  refine Pl.H.done (by kernel_rfl) (fun A' hA' => ?_)
  rw [Pl.At.ext hA' (((((((((((hA.put 94 _).put 95 _).put 96 _).put 98 _).put 97 _).put 99 _).put 100 _).put 101 _).put 102 _).put 103 _).put 6 _)]
  exact hend (fun d => if d = 94 then (plusR (plusR X x) y).val (.slice qa len qc) else if d = 95 then X.val (.slice a len cap) else if d = 96 then .float .f64 x else if d = 98 then .float .f64 y else if d = 97 then (plusR X x).val (.slice oa len oc) else if d = 99 then (plusR (plusR X x) y).val (.slice pa len pc) else if d = 100 then .bool true else if d = 101 then .bool true else if d = 102 then .bool true else if d = 103 then .bool true else undef) _ hS4

set_option maxHeartbeats 4000000 in
set_option maxRecDepth 100000 in
theorem rowSums_none (A : Rw) (a : Option Addr) (len cap x y : Nat) (w : World) (h : Fs w a len cap A.xs) (hf : A.fits) (hbad : A.may = false ∨ len = 0) :
    Calls Try.prog 7 #[A.val (.slice a len cap), .float .f64 x, .float .f64 y] w fun e w' => e = .returned (.bool true) ∧ Below w.heap.size w w' := by
  have HX := hide (rwBlk_new w A (.slice a len cap))
  have HW := hide (below_alloc w (.cells #[.float .f64 A.key, .bool A.dead, .slice a len cap, .int .i64 A.wr, .int .i64 A.cell, .int .i64 A.no] 27))
  have HA := hide awake_any
  cases hm : A.may
  · have HM := hide (mayIs_any A false hm a len cap _ (h.keep HW.out (Nat.le_refl _)) hf)
    clear h hf hbad hm
    unfold Rw.val at HM ⊢
    go_enter Try.func7, Try.ntmps7
    go_wp2_with fail
    refine HM.out.mono ?_
    rintro e w1 ⟨rfl, hb1⟩
    have HW1 := hide (rBelow HW.out hb1)
    clear hb1
    go_wp2_with fail
    refine (HA.out _).mono ?_
    rintro e w2 ⟨rfl, hb2⟩
    have HW2 := hide (rBelow HW1.out hb2)
    clear hb2
    go_wp2_with fail
    go_ret
    exact ⟨rfl, HW2.out⟩
  · have h0 : len = 0 := by rcases hbad with h | h; · rw [hm] at h; cases h
                            · exact h
    subst h0
    have HM := hide (mayIs_any A true hm a 0 cap _ (h.keep HW.out (Nat.le_refl _)) hf)
    clear h hf hbad hm
    unfold Rw.val at HM ⊢
    go_enter Try.func7, Try.ntmps7
    go_wp2_with fail
    refine HM.out.mono ?_
    rintro e w1 ⟨rfl, hb1⟩
    have HW1 := hide (rBelow HW.out hb1)
    have HX1 := hide (HX.out.keep hb1)
    have x2 := HX1.out.c2
    clear hb1
    go_wp2_with fail
    refine (HA.out _).mono ?_
    rintro e w2 ⟨rfl, hb2⟩
    have HW2 := hide (rBelow HW1.out hb2)
    clear hb2
    go_wp2_with fail
    go_ret
    exact ⟨rfl, HW2.out⟩

set_option maxHeartbeats 4000000 in
set_option maxRecDepth 100000 in
theorem rowSums_walk (A : Rw) (a : Option Addr) (len cap x y : Nat) (w : World) (h : Fs w a len cap A.xs) (hf : A.fits) (hm : A.may = true) (h0 : 0 < len) :
    Calls Try.prog 7 #[A.val (.slice a len cap), .float .f64 x, .float .f64 y] w fun e w' => e = .returned (.bool true) ∧ Below w.heap.size w w' := by
  have hsf : ∀ (w : World) (a : Addr) (m : Mode) (x : Nat), (store a (.float .f64 x) m).run Try.prog w = stored Try.prog w a (.float .f64 x) m := fun w a m x => run_store Try.prog w a _ m rfl
  have HX := hide (rwBlk_new w A (.slice a len cap))
  have HW := hide (below_alloc w (.cells #[.float .f64 A.key, .bool A.dead, .slice a len cap, .int .i64 A.wr, .int .i64 A.cell, .int .i64 A.no] 27))
  have HM := hide (mayIs_any A true hm a len cap _ (h.keep HW.out (Nat.le_refl _)) hf)
  have HF := hide h
  have HL := hide h.len
  have h4 : len ≤ 4 := by have := (Rw.may_parts hm).2.1; rw [h.len] at this; exact this
  have hpm := plus_may hm (by rw [h.len]; exact h0) x
  have HPM := hide hpm.1
  have HD := hide hpm.2
  have HPF := hide (plus_fitsR hf x)
  have HMM := hide hm
  have HFit := hide hf
  have HPL : Hid ((plusR A x).xs.length = len) := by show (A.xs.set 0 _).length = len; rw [List.length_set, h.len]
  have i0 : ((len : Int) == 0) = false := beq_eq_false_iff_ne.2 (by omega)
  clear h hf hm hpm
  unfold Rw.val at HM ⊢
  go_enter Try.func7, Try.ntmps7
  go_wp2_with fail
  refine HM.out.mono ?_
  rintro e w1 ⟨rfl, hb1⟩
  have HW1 := hide (rBelow HW.out hb1)
  have HX1 := hide (HX.out.keep hb1)
  have x0 := HX1.out.c0
  have x1 := HX1.out.c1
  have x2 := HX1.out.c2
  have x3 := HX1.out.c3
  have x4 := HX1.out.c4
  have x5 := HX1.out.c5
  have HP := hide (plus_any A a len cap x w1 (HF.out.keep HW1.out (Nat.le_refl _)) HFit.out HMM.out h0)
  unfold Rw.val at HP
  clear hb1 HM
  go_wp2_with fail
  refine HP.out.mono ?_
  rintro e w2 ⟨hb2, pa, pc, rfl, hfp⟩
  obtain ⟨Y, hY⟩ : ∃ Y, Y = plusR A x := ⟨_, rfl⟩
  rw [← hY] at hfp HPM HPF HPL ⊢
  have HY := hide hY
  obtain ⟨w3, hw3⟩ : ∃ w3, w3 = w2.alloc (.cells #[.float .f64 Y.key, .bool Y.dead, .slice pa len pc, .int .i64 Y.wr, .int .i64 Y.cell, .int .i64 Y.no] 27) := ⟨_, rfl⟩
  have hb3 : Below w2.heap.size w2 w3 := by rw [hw3]; exact below_alloc _ _
  have HW3 := hide (rBelow (rBelow HW1.out hb2) hb3)
  have HX3 := hide ((HX1.out.keep hb2).keep hb3)
  have HQ := hide (plus_any Y pa len pc y w3 (hfp.keep hb3 (Nat.le_refl _)) HPF.out HPM.out h0)
  rw [hw3] at HQ
  have HE3 := hide hw3
  unfold Rw.val at HQ
  clear hb2 hb3 hw3 hfp hY x0 x1 x2 x3 x4 x5 HP
  go_wp2_with fail
  refine HQ.out.mono ?_
  rw [← HE3.out]
  rintro e w4 ⟨hb4, qa, qc, rfl, hfq⟩
  obtain ⟨w5, hw5⟩ : ∃ w5, w5 = w4.alloc (.cells #[.float .f64 (plusR Y y).key, .bool (plusR Y y).dead, .slice qa len qc, .int .i64 (plusR Y y).wr, .int .i64 (plusR Y y).cell, .int .i64 (plusR Y y).no] 27) := ⟨_, rfl⟩
  have hb5 : Below w4.heap.size w4 w5 := by rw [hw5]; exact below_alloc _ _
  have hq5 : RwBlk w5 w4.heap.size (plusR Y y) (.slice qa len qc) := by rw [hw5]; exact rwBlk_new w4 (plusR Y y) _
  have HW5 := hide (rBelow (rBelow HW3.out hb4) hb5)
  have HX5 := hide ((HX3.out.keep hb4).keep hb5)
  have HFQ := hide (hfq.keep hb5 (Nat.le_refl _))
  have HQ5 := hide hq5
  have HE5 := hide hw5
  have t0 := HX5.out.c0
  have t2 := HX5.out.c2
  have t3 := HX5.out.c3
  have t4 := HX5.out.c4
  have t5 := HX5.out.c5
  rw [hw5] at t0 t2 t3 t4 t5
  have ek : (plusR Y y).key = A.key := by rw [HY.out]; rfl
  have ew : (plusR Y y).wr = A.wr := by rw [HY.out]; rfl
  have ec : (plusR Y y).cell = A.cell := by rw [HY.out]; rfl
  have en : (plusR Y y).no = A.no := by rw [HY.out]; rfl
  have ed : (plusR Y y).dead = false := by rw [HY.out]; exact HD.out
  rw [ek, ew, ec, en, ed] at HE5 t0 t2 t3 t4 t5 ⊢
  have HS := hide (refSame_any A.key A.key)
  rw [beq_self_eq_true] at HS
  clear hb4 hb5 hq5 hw5 hfq ek ew ec en ed HQ
  go_wp2_with fail
  refine (HS.out _).mono ?_
  rintro e w' ⟨rfl, hw⟩
  subst hw
  have hroll := roll_eq A.cell A.no
  go_wp2_with fail
  rw [← HE5.out]
  go_loopw [11] (fun i wr => ∃ k : Nat, 1 ≤ k ∧ k ≤ len ∧ i = .int .i64 k ∧ Hid (Below w.heap.size w wr) ∧ Hid (RwBlk wr w.heap.size A (.slice a len cap)) ∧ Hid (RwBlk wr w4.heap.size (plusR Y y) (.slice qa len qc)) ∧ Hid (Fs wr qa len qc (plusR Y y).xs)) (fun i _ => len - (intOf i).toNat)
  case atStart => exact ⟨1, by omega, by omega, rfl, HW5, HX5, HQ5, HFQ⟩
  case round =>
    obtain ⟨k, h1k, hk, rfl, hWr, hXr, hQr, hFr⟩ := hrel
    have y2 := hXr.out.c2
    rcases Nat.lt_or_ge k len with hlt | hge
    · obtain ⟨b1, o1, rfl, c1, _, _⟩ := hFr.out.at k hlt
      obtain ⟨b2, o2, rfl, c2, _, _⟩ := (HF.out.keep hWr.out (Nat.le_refl _)).at k hlt
      have eq1 : (plusR Y y).xs.getD k 0 = A.xs.getD k 0 := by
        rw [HY.out]
        show ((A.xs.set 0 _).set 0 _).getD k 0 = _
        rw [set_other _ _ _ h1k, set_other _ _ _ h1k]
      rw [eq1] at c1
      have C1 := hide c1
      have C2 := hide c2
      clear c1 c2 eq1
      go_wp2_with fail
      refine Pl.region_is (ops := Pl.find 10 ((Try.f7.body).getD .skip)) (by kernel_rfl) ?_
      refine sums10 wr wr w.heap.size w4.heap.size b1 o1 qc b2 o2 cap len k _ A (plusR Y y) hQr.out hXr.out hlt C1.out C2.out (Below.refl _ _) (by rfl) (by rfl) (by rfl) (by rfl) (by rfl) ?_
      intro u w6 hb6
      simp only [Act.put, List.setIfInBounds_toArray, List.set_cons_zero, List.set_cons_succ]
      have HB6 := hide (rBelow hWr.out hb6)
      have HX6 := hide (hXr.out.keep hb6)
      have HQ6 := hide (hQr.out.keep hb6)
      have HF6 := hide (hFr.out.keep hb6 (Nat.le_refl _))
      clear hb6 y2
      go_wp2_with fail
      go_roundw
      case rel => exact ⟨k + 1, by omega, by omega, by go_num, HB6, HX6, HQ6, HF6⟩
      case measure => simp only [intOf]; omega
    · go_wp2_with fail
      refine Pl.region_is (ops := Pl.find 12 ((Try.f7.body).getD .skip)) (by kernel_rfl) ?_
      refine sums12 wr wr w.heap.size w4.heap.size x y A a len cap qa qc hXr.out (by rw [← HY.out]; exact hQr.out) (HF.out.keep hWr.out (Nat.le_refl _)) (by rw [← HY.out]; exact hFr.out) (by omega) h0 (Below.refl _ _) (by rfl) (by rfl) (by rfl) (by rfl) (by rfl) (by rfl) ?_
      intro u w6 hb6
      simp only [Act.put, List.setIfInBounds_toArray, List.set_cons_zero, List.set_cons_succ]
      have HB6 := hide (rBelow hWr.out hb6)
      clear hb6 y2
      go_wp2_with fail
      go_ret
      exact ⟨rfl, HB6.out⟩

end Go.Proofs.Ytgckcalkdojeeaa
