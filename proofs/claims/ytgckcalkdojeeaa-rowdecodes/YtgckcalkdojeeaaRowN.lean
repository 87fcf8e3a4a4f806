/-
  The law of which rows are alike: its walk.
-/
import Derived.Test.YtgckcalkdojeeaaRowM
namespace Go.Proofs.Ytgckcalkdojeeaa
open Go.RowKit

theorem load_rw (b : Nat) (r : Rw) (c : Value) (hc : ∃ a len cap, c = .slice a len cap) (w : World) (h : RwBlk w b r c) : (Instr.loadAt 27 (.pointer (some ⟨b, 0, none⟩))).run Try.prog w = .ok (r.val c) w := by
  have c0 := h.c0
  have c1 := h.c1
  have c2 := h.c2
  have c3 := h.c3
  have c4 := h.c4
  have c5 := h.c5
  obtain ⟨a, len, cap, rfl⟩ := hc
  simp [go_sem, c0, c1, c2, c3, c4, c5, Rw.val]

theorem enters20 : ∀ args w, (callFunc 20 args).run Try.prog w = .ok (.enter 20 args) w := Pl.enters Try.func20 (by kernel_rfl) (by kernel_rfl)
theorem enters14 : ∀ args w, (callFunc 14 args).run Try.prog w = .ok (.enter 14 args) w := Pl.enters Try.func14 (by kernel_rfl) (by kernel_rfl)
theorem enters8 : ∀ args w, (callFunc 8 args).run Try.prog w = .ok (.enter 8 args) w := Pl.enters Try.func8 (by kernel_rfl) (by kernel_rfl)
theorem enters11 : ∀ args w, (callFunc 11 args).run Try.prog w = .ok (.enter 11 args) w := Pl.enters Try.func11 (by kernel_rfl) (by kernel_rfl)
theorem enters10 : ∀ args w, (callFunc 10 args).run Try.prog w = .ok (.enter 10 args) w := Pl.enters Try.func10 (by kernel_rfl) (by kernel_rfl)
theorem enters13 : ∀ args w, (callFunc 13 args).run Try.prog w = .ok (.enter 13 args) w := Pl.enters Try.func13 (by kernel_rfl) (by kernel_rfl)
theorem enters17 : ∀ args w, (callFunc 17 args).run Try.prog w = .ok (.enter 17 args) w := Pl.enters Try.func17 (by kernel_rfl) (by kernel_rfl)
theorem enters19 : ∀ args w, (callFunc 19 args).run Try.prog w = .ok (.enter 19 args) w := Pl.enters Try.func19 (by kernel_rfl) (by kernel_rfl)

theorem sameSelf_any (r : Rw) (a : Option Addr) (len cap : Nat) (b : Option Addr) (len' cap' : Nat) (w : World) (h : Fs w a len cap r.xs) (h' : Fs w b len' cap' r.xs) :
    Calls Try.prog 20 #[r.val (.slice a len cap), r.val (.slice b len' cap')] w fun e w' => e = .returned (.bool true) ∧ Below w.heap.size w w' := by
  have := rowSame_any r r a len cap b len' cap' w h h'
  rw [Rw.same_self] at this
  exact this

theorem refSelf_any (r : Rw) (a : Option Addr) (len cap : Nat) (b : Option Addr) (len' cap' : Nat) (w : World) (h : Fs w a len cap r.xs) (h' : Fs w b len' cap' r.xs) :
    Calls Try.prog 14 #[r.val (.slice a len cap), r.val (.slice b len' cap')] w fun e w' => e = .returned (.bool true) ∧ Below w.heap.size w w' := by
  have := refRowSame_any r r a len cap b len' cap' w h h'
  rw [Rw.same_self] at this
  exact this

theorem mayIs_any (r : Rw) (m : Bool) (hm : r.may = m) (a : Option Addr) (len cap : Nat) (w : World) (h : Fs w a len cap r.xs) (hf : r.fits) :
    Calls Try.prog 11 #[r.val (.slice a len cap)] w fun e w' => e = .returned (.bool m) ∧ Below w.heap.size w w' := by
  have := refMayRow_any r a len cap w h hf
  rw [hm] at this
  exact this

theorem fs_nil (w : World) : Fs w none 0 0 [] := ⟨⟨rfl, (fun u hu => by cases hu), fun j hj => by omega⟩, (fun x hx => by cases hx), fun _ => rfl, Nat.le_refl _, by decide⟩

set_option maxHeartbeats 2000000 in
set_option maxRecDepth 100000 in
theorem same7 (w0 w : World) (p q : Nat) (X Y : Rw) (a : Option Addr) (len cap : Nat) (b : Option Addr) (len' cap' : Nat) (hx : RwBlk w0 p X (.slice a len cap)) (hy : RwBlk w0 q Y (.slice b len' cap')) (hfa : Fs w0 a len cap X.xs) (hfb : Fs w0 b len' cap' Y.xs) (hW : Below w0.heap.size w0 w)
    {Q : Exit → Act → World → Prop} {A : Act} (hsz : A.tmps.size = 68) (hdf : A.defers = []) (s3 : A.tmps.getD 3 undef = .pointer (some ⟨p, 0, none⟩)) (s4 : A.tmps.getD 4 undef = .pointer (some ⟨q, 0, none⟩))
    (hend : ∀ (u : Nat → Value) w', Below w0.heap.size w0 w' → Q .normal (((((((((((((((((A).put (some 53) (u 53)).put (some 54) (u 54)).put (some 56) (u 56)).put (some 57) (u 57)).put (some 55) (u 55)).put (some 58) (u 58)).put (some 59) (u 59)).put (some 60) (u 60)).put (some 61) (u 61)).put (some 62) (u 62)).put (some 63) (u 63)).put (some 64) (u 64)).put (some 65) (u 65)).put (some 66) (u 66)).put (some 67) (u 67)).put (some 6) (.bool true)) w') :
    (Code.region 7 (Pl.find 7 ((Try.f6.body).getD .skip)) true).wp Try.prog Q A w := by
  have hS0 : Below w0.heap.size w0 w.drew := hW.drew
  have hA := Pl.At.same (v := .pointer (some ⟨q, 0, none⟩)) (d := 4) (Pl.At.same (v := .pointer (some ⟨p, 0, none⟩)) (d := 3) (Pl.At.here hsz hdf) s3) s4
  refine Pl.H.start (S := fun w' => Below w0.heap.size w0 w') (by kernel_rfl) hA hS0 ?_
  rw [show (Pl.find 7 ((Try.f6.body).getD .skip)).size = 16 by kernel_rfl]
  refine Pl.H.take 0 53 (X.val (.slice a len cap)) (by kernel_rfl) (by kernel_rfl) (by kernel_rfl) (Pl.free 0 (by kernel_rfl)) (Pl.load 0 27 (.tmp 3) _ (by kernel_rfl) (by decide) (fun w' hS => load_rw p X (.slice a len cap) ⟨_, _, _, rfl⟩ w' (hx.keep hS))) hS0 ?_
  refine Pl.H.take 1 54 (Y.val (.slice b len' cap')) (by kernel_rfl) (by kernel_rfl) (by kernel_rfl) (Pl.free 1 (by kernel_rfl)) (Pl.load 1 27 (.tmp 4) _ (by kernel_rfl) (by decide) (fun w' hS => load_rw q Y (.slice b len' cap') ⟨_, _, _, rfl⟩ w' (hy.keep hS))) hS0 ?_
  refine Pl.H.take 3 56 (X.val (.slice a len cap)) (by kernel_rfl) (by kernel_rfl) (by kernel_rfl) (Pl.free 3 (by kernel_rfl)) (Pl.load 3 27 (.tmp 3) _ (by kernel_rfl) (by decide) (fun w' hS => load_rw p X (.slice a len cap) ⟨_, _, _, rfl⟩ w' (hx.keep hS))) hS0 ?_
  refine Pl.H.take 4 57 (Y.val (.slice b len' cap')) (by kernel_rfl) (by kernel_rfl) (by kernel_rfl) (Pl.free 4 (by kernel_rfl)) (Pl.load 4 27 (.tmp 4) _ (by kernel_rfl) (by decide) (fun w' hS => load_rw q Y (.slice b len' cap') ⟨_, _, _, rfl⟩ w' (hy.keep hS))) hS0 ?_
  refine Pl.H.call 2 55 20 [(.tmp 53), (.tmp 54)] #[27, 27] (by kernel_rfl) (by kernel_rfl) (by kernel_rfl) (Pl.free 2 (by kernel_rfl)) (by kernel_rfl) (by decide) enters20 (Calls.mono (rowSame_any X Y a len cap b len' cap' w.drew (hfa.keep hS0 (Nat.le_refl _)) (hfb.keep hS0 (Nat.le_refl _))) ?_)
  rintro e w1 ⟨rfl, hb1⟩
  have hS1 := hS0.trans (hb1.mono hS0.size)
  refine ⟨.bool (X.same Y), rfl, hS1, ?_⟩
  refine Pl.H.call 5 58 14 [(.tmp 56), (.tmp 57)] #[27, 27] (by kernel_rfl) (by kernel_rfl) (by kernel_rfl) (Pl.free 5 (by kernel_rfl)) (by kernel_rfl) (by decide) enters14 (Calls.mono (refRowSame_any X Y a len cap b len' cap' w1 (hfa.keep hS1 (Nat.le_refl _)) (hfb.keep hS1 (Nat.le_refl _))) ?_)
  rintro e w2 ⟨rfl, hb2⟩
  have hS2 := hS1.trans (hb2.mono hS1.size)
  refine ⟨.bool (X.same Y), rfl, hS2, ?_⟩
  refine Pl.H.take 6 59 (.bool true) (by kernel_rfl) (by kernel_rfl) (by kernel_rfl) (Pl.free 6 (by kernel_rfl)) (Pl.binV 6 .eql 4 4 (.tmp 55) (.tmp 58) (.bool (X.same Y)) (.bool (X.same Y)) _ (by kernel_rfl) (by decide) (by decide) rfl rfl (fun w => by simp [go_sem, eqGuard])) hS2 ?_
  refine Pl.H.take 7 60 (.bool true) (by kernel_rfl) (by kernel_rfl) (by kernel_rfl) (Pl.free 7 (by kernel_rfl)) (Pl.move 7 (.tmp 59) (by kernel_rfl) (by decide)) hS2 ?_
  refine Pl.H.take 8 61 (X.val (.slice a len cap)) (by kernel_rfl) (by kernel_rfl) (by kernel_rfl) (Pl.guarded 8 7 60 true (by kernel_rfl) (by kernel_rfl) (by decide) rfl) (Pl.load 8 27 (.tmp 3) _ (by kernel_rfl) (by decide) (fun w' hS => load_rw p X (.slice a len cap) ⟨_, _, _, rfl⟩ w' (hx.keep hS))) hS2 ?_
  refine Pl.H.take 9 62 (X.val (.slice a len cap)) (by kernel_rfl) (by kernel_rfl) (by kernel_rfl) (Pl.guarded 9 7 60 true (by kernel_rfl) (by kernel_rfl) (by decide) rfl) (Pl.load 9 27 (.tmp 3) _ (by kernel_rfl) (by decide) (fun w' hS => load_rw p X (.slice a len cap) ⟨_, _, _, rfl⟩ w' (hx.keep hS))) hS2 ?_
  refine Pl.H.call 10 63 20 [(.tmp 61), (.tmp 62)] #[27, 27] (by kernel_rfl) (by kernel_rfl) (by kernel_rfl) (Pl.guarded 10 7 60 true (by kernel_rfl) (by kernel_rfl) (by decide) rfl) (by kernel_rfl) (by decide) enters20 (Calls.mono (sameSelf_any X a len cap a len cap w2 (hfa.keep hS2 (Nat.le_refl _)) (hfa.keep hS2 (Nat.le_refl _))) ?_)
  rintro e w3 ⟨rfl, hb3⟩
  have hS3 := hS2.trans (hb3.mono hS2.size)
  refine ⟨.bool true, rfl, hS3, ?_⟩
  refine Pl.H.take 11 64 (.bool true) (by kernel_rfl) (by kernel_rfl) (by kernel_rfl) (Pl.free 11 (by kernel_rfl)) (Pl.pick 11 (.tmp 60) (.tmp 63) (.const (.bool false)) (by kernel_rfl) (by decide) (by decide) rfl) hS3 ?_
  refine Pl.H.take 12 65 (.bool true) (by kernel_rfl) (by kernel_rfl) (by kernel_rfl) (Pl.free 12 (by kernel_rfl)) (Pl.move 12 (.tmp 64) (by kernel_rfl) (by decide)) hS3 ?_
  refine Pl.H.call 13 66 8 [] #[] (by kernel_rfl) (by kernel_rfl) (by kernel_rfl) (Pl.guarded 13 12 65 true (by kernel_rfl) (by kernel_rfl) (by decide) rfl) (by kernel_rfl) (by decide) enters8 (Calls.mono (awake_any w3) ?_)
  rintro e w4 ⟨rfl, hb4⟩
  have hS4 := hS3.trans (hb4.mono hS3.size)
  refine ⟨.bool true, rfl, hS4, ?_⟩
  refine Pl.H.take 14 67 (.bool true) (by kernel_rfl) (by kernel_rfl) (by kernel_rfl) (Pl.free 14 (by kernel_rfl)) (Pl.pick 14 (.tmp 65) (.tmp 66) (.const (.bool false)) (by kernel_rfl) (by decide) (by decide) rfl) hS4 ?_
  refine Pl.H.take 15 6 (.bool true) (by kernel_rfl) (by kernel_rfl) (by kernel_rfl) (Pl.free 15 (by kernel_rfl)) (Pl.assign 15 (.tmp 67) (by kernel_rfl) (by decide)) hS4 ?_
  refine Pl.H.done (by kernel_rfl) (fun A' hA' => ?_)
  rw [Pl.At.ext hA' ((((((((((((((((hA.put 53 _).put 54 _).put 56 _).put 57 _).put 55 _).put 58 _).put 59 _).put 60 _).put 61 _).put 62 _).put 63 _).put 64 _).put 65 _).put 66 _).put 67 _).put 6 _)]
  exact hend (fun d => if d = 53 then X.val (.slice a len cap) else if d = 54 then Y.val (.slice b len' cap') else if d = 56 then X.val (.slice a len cap) else if d = 57 then Y.val (.slice b len' cap') else if d = 55 then .bool (X.same Y) else if d = 58 then .bool (X.same Y) else if d = 59 then .bool true else if d = 60 then .bool true else if d = 61 then X.val (.slice a len cap) else if d = 62 then X.val (.slice a len cap) else if d = 63 then .bool true else if d = 64 then .bool true else if d = 65 then .bool true else if d = 66 then .bool true else if d = 67 then .bool true else undef) _ hS4

theorem zero_same (w : World) : Calls Try.prog 14 #[zeroV, zeroV] w fun e w' => e = .returned (.bool true) ∧ Below w.heap.size w w' :=
  refSelf_any zeroR none 0 0 none 0 0 w (fs_nil w) (fs_nil w)

set_option maxHeartbeats 4000000 in
set_option maxRecDepth 100000 in
theorem rowSame_far (A B : Rw) (a : Option Addr) (len cap : Nat) (b : Option Addr) (len' cap' x : Nat) (w : World) (h1 : len ≤ 9223372036854775807) (h2 : len' ≤ 9223372036854775807) (hd : 100 < len ∨ 100 < len') :
    Calls Try.prog 6 #[A.val (.slice a len cap), B.val (.slice b len' cap'), .float .f64 x] w fun e w' => e = .returned (.bool true) ∧ Below w.heap.size w w' := by
  have HA := hide awake_any
  have HW := hide (below_two w (.cells #[.float .f64 A.key, .bool A.dead, .slice a len cap, .int .i64 A.wr, .int .i64 A.cell, .int .i64 A.no] 27) (.cells #[.float .f64 B.key, .bool B.dead, .slice b len' cap', .int .i64 B.wr, .int .i64 B.cell, .int .i64 B.no] 27))
  unfold Rw.val
  by_cases hx : 100 < len
  · have i1 : (100 : Int) < (len : Int) := by omega
    go_enter Try.func6, Try.ntmps6
    go_wp2_with fail
    refine (HA.out _).mono ?_
    rintro e w' ⟨rfl, hb⟩
    have HB := hide (rBelow HW.out hb)
    clear hb
    go_wp2_with fail
    go_ret
    exact ⟨rfl, HB.out⟩
  · have i1 : ¬ (100 : Int) < (len : Int) := by omega
    have i2 : (100 : Int) < (len' : Int) := by omega
    go_enter Try.func6, Try.ntmps6
    go_wp2_with fail
    refine (HA.out _).mono ?_
    rintro e w' ⟨rfl, hb⟩
    have HB := hide (rBelow HW.out hb)
    clear hb
    go_wp2_with fail
    go_ret
    exact ⟨rfl, HB.out⟩

set_option maxHeartbeats 4000000 in
set_option maxRecDepth 100000 in
theorem rowSame_walk (A B : Rw) (a : Option Addr) (len cap : Nat) (b : Option Addr) (len' cap' x : Nat) (w : World) (hA : Fs w a len cap A.xs) (hB : Fs w b len' cap' B.xs) (hfA : A.fits) (h1 : len ≤ 100) (h2 : len' ≤ 100) :
    Calls Try.prog 6 #[A.val (.slice a len cap), B.val (.slice b len' cap'), .float .f64 x] w fun e w' => e = .returned (.bool true) ∧ Below w.heap.size w w' := by
  have hsf : ∀ (w : World) (a : Addr) (m : Mode) (x : Nat), (store a (.float .f64 x) m).run Try.prog w = stored Try.prog w a (.float .f64 x) m := fun w a m x => run_store Try.prog w a _ m rfl
  have i1 : ¬ (100 : Int) < (len : Int) := by omega
  have i2 : ¬ (100 : Int) < (len' : Int) := by omega
  have HX := hide ((rwBlk_new w A (.slice a len cap)).keep (below_alloc _ (.cells #[.float .f64 B.key, .bool B.dead, .slice b len' cap', .int .i64 B.wr, .int .i64 B.cell, .int .i64 B.no] 27)))
  have HY : Hid (RwBlk ((w.alloc (.cells #[.float .f64 A.key, .bool A.dead, .slice a len cap, .int .i64 A.wr, .int .i64 A.cell, .int .i64 A.no] 27)).alloc (.cells #[.float .f64 B.key, .bool B.dead, .slice b len' cap', .int .i64 B.wr, .int .i64 B.cell, .int .i64 B.no] 27)) (w.heap.size + 1) B (.slice b len' cap')) := by
    have := rwBlk_new (w.alloc (.cells #[.float .f64 A.key, .bool A.dead, .slice a len cap, .int .i64 A.wr, .int .i64 A.cell, .int .i64 A.no] 27)) B (.slice b len' cap')
    exact hide (by simpa using this)
  have HW := hide (below_two w (.cells #[.float .f64 A.key, .bool A.dead, .slice a len cap, .int .i64 A.wr, .int .i64 A.cell, .int .i64 A.no] 27) (.cells #[.float .f64 B.key, .bool B.dead, .slice b len' cap', .int .i64 B.wr, .int .i64 B.cell, .int .i64 B.no] 27))
  have HFA := hide hA
  have HFB := hide hB
  have HFit := hide hfA
  by_cases hok : A.may = true ∧ 0 < len
  · have HP := hide (plus_any A a len cap x _ (hA.keep HW.out (Nat.le_refl _)) hfA hok.1 hok.2)
    have HM := hide (mayIs_any A true hok.1 a len cap)
    have i3 : (0 : Int) < (len : Int) := by have := hok.2; omega
    clear hA hB hfA hok
    unfold Rw.val at HP HM ⊢
    go_enter Try.func6, Try.ntmps6
    go_wp2_with fail
    refine HP.out.mono ?_
    rintro e w1 ⟨hb1, ca, cc, rfl, _⟩
    have HW1 := hide (rBelow HW.out hb1)
    obtain ⟨w2, hw2⟩ : ∃ w2, w2 = w1.alloc (.cells #[.float .f64 (plusR A x).key, .bool (plusR A x).dead, .slice ca len cc, .int .i64 (plusR A x).wr, .int .i64 (plusR A x).cell, .int .i64 (plusR A x).no] 27) := ⟨_, rfl⟩
    have hb2 : Below w1.heap.size w1 w2 := by rw [hw2]; exact below_alloc _ _
    have HW2 := hide (rBelow HW1.out hb2)
    have HX2 := hide ((HX.out.keep hb1).keep hb2)
    have HY2 := hide ((HY.out.keep hb1).keep hb2)
    have x0 := HX2.out.c0
    have x1 := HX2.out.c1
    have x2 := HX2.out.c2
    have x3 := HX2.out.c3
    have x4 := HX2.out.c4
    have x5 := HX2.out.c5
    rw [hw2] at x0 x1 x2 x3 x4 x5
    have HMw := hide (HM.out w2 (HFA.out.keep HW2.out (Nat.le_refl _)) HFit.out)
    rw [hw2] at HMw
    have HE2 := hide hw2
    clear hb1 hb2 HP hw2
    go_wp2_with fail
    refine HMw.out.mono ?_
    rw [← HE2.out]
    rintro e w3 ⟨rfl, hb3⟩
    have HW3 := hide (rBelow HW2.out hb3)
    have HX3 := hide (HX2.out.keep hb3)
    have HY3 := hide (HY2.out.keep hb3)
    have y2 := HX3.out.c2
    clear hb3 x0 x1 x2 x3 x4 x5 HMw
    go_wp2_with fail
    refine Pl.region_is (ops := Pl.find 7 ((Try.f6.body).getD .skip)) (by kernel_rfl) ?_
    refine same7 w3 w3 w.heap.size (w.heap.size + 1) A B a len cap b len' cap' HX3.out HY3.out (HFA.out.keep HW3.out (Nat.le_refl _)) (HFB.out.keep HW3.out (Nat.le_refl _)) (Below.refl _ _) (by rfl) (by rfl) (by rfl) (by rfl) ?_
    intro u w4 hb4
    simp only [Act.put, List.setIfInBounds_toArray, List.set_cons_zero, List.set_cons_succ]
    have HW4 := hide (rBelow HW3.out hb4)
    clear hb4
    go_wp2_with fail
    go_ret
    exact ⟨rfl, HW4.out⟩
  · have hbad : A.may = false ∨ len = 0 := by
      cases hm : A.may
      · exact .inl rfl
      · exact .inr (by rcases Nat.eq_zero_or_pos len with h | h; · exact h
                       · exact absurd ⟨hm, h⟩ hok)
    have HP := hide (plus_bad A a len cap x _ (hA.keep HW.out (Nat.le_refl _)) hfA hbad)
    have HZ := hide zero_same
    unfold zeroV at HP HZ
    cases hm : A.may
    all_goals
      have HM := hide (mayIs_any A _ hm a len cap)
      have i3 : A.may = true → ¬ (0 : Int) < (len : Int) := fun h => by have := hok; simp only [h, true_and] at this; omega
      try (have i4 : ¬ (0 : Int) < (len : Int) := i3 hm)
      clear i3
      clear hbad hok
      have HMM := hide hm
      clear hm
      unfold Rw.val at HM ⊢
      go_enter Try.func6, Try.ntmps6
      go_wp2_with fail
      refine HP.out.mono ?_
      rintro e w1 ⟨hb1, rfl⟩
      have HW1 := hide (rBelow HW.out hb1)
      obtain ⟨w2, hw2⟩ : ∃ w2, w2 = w1.alloc (.cells #[.float .f64 0, .bool false, .slice none 0 0, .int .i64 0, .int .i64 0, .int .i64 0] 27) := ⟨_, rfl⟩
      have hb2 : Below w1.heap.size w1 w2 := by rw [hw2]; exact below_alloc _ _
      have hz2 : RwBlk w2 w1.heap.size zeroR (.slice none 0 0) := by rw [hw2]; exact rwBlk_new w1 zeroR _
      have HW2 := hide (rBelow HW1.out hb2)
      have HX2 := hide ((HX.out.keep hb1).keep hb2)
      have HY2 := hide ((HY.out.keep hb1).keep hb2)
      have HZ2 := hide hz2
      have x0 := HX2.out.c0
      have x1 := HX2.out.c1
      have x2 := HX2.out.c2
      have x3 := HX2.out.c3
      have x4 := HX2.out.c4
      have x5 := HX2.out.c5
      rw [hw2] at x0 x1 x2 x3 x4 x5
      have HMw := hide (HM.out w2 (HFA.out.keep HW2.out (Nat.le_refl _)) HFit.out)
      rw [hw2] at HMw
      have HE2 := hide hw2
      clear hb1 hb2 hw2 hz2 HP
      go_wp2_with fail
      refine HMw.out.mono ?_
      rw [← HE2.out]
      rintro e w3 ⟨rfl, hb3⟩
      have HW3 := hide (rBelow HW2.out hb3)
      have HX3 := hide (HX2.out.keep hb3)
      have HY3 := hide (HY2.out.keep hb3)
      have HZ3 := hide (HZ2.out.keep hb3)
      have y2 := HX3.out.c2
      have z0 := HZ3.out.c0
      have z1 := HZ3.out.c1
      have z2 := HZ3.out.c2
      have z3 := HZ3.out.c3
      have z4 := HZ3.out.c4
      have z5 := HZ3.out.c5
      simp only [zeroR] at z0 z1 z3 z4 z5
      clear hb3 x0 x1 x2 x3 x4 x5 HMw
      go_wp2_with fail
      refine (HZ.out _).mono ?_
      rintro e w5 ⟨rfl, hb5⟩
      have HW5 := hide (rBelow HW3.out hb5)
      have HX5 := hide (HX3.out.keep hb5)
      have HY5 := hide (HY3.out.keep hb5)
      clear hb5 y2 z0 z1 z2 z3 z4 z5
      go_wp2_with fail
      refine Pl.region_is (ops := Pl.find 7 ((Try.f6.body).getD .skip)) (by kernel_rfl) ?_
      refine same7 w5 w5 w.heap.size (w.heap.size + 1) A B a len cap b len' cap' HX5.out HY5.out (HFA.out.keep HW5.out (Nat.le_refl _)) (HFB.out.keep HW5.out (Nat.le_refl _)) (Below.refl _ _) (by rfl) (by rfl) (by rfl) (by rfl) ?_
      intro u w4 hb4
      simp only [Act.put, List.setIfInBounds_toArray, List.set_cons_zero, List.set_cons_succ]
      have HW4 := hide (rBelow HW5.out hb4)
      clear hb4
      go_wp2_with fail
      go_ret
      exact ⟨rfl, HW4.out⟩

end Go.Proofs.Ytgckcalkdojeeaa
