/-
  The law of which undoings may be, and their bytes: its walk.
-/
import Derived.Test.YtgjpeeicgkkkbaaUrG
namespace Go.Proofs.Ytgjpeeicgkkkbaa
open Go.RowKit
set_option linter.unusedVariables false

theorem enters9 : ∀ args w, (callFunc 9 args).run Try.prog w = .ok (.enter 9 args) w := Pl.enters Try.func9 (by kernel_rfl) (by kernel_rfl)

theorem enters13 : ∀ args w, (callFunc 13 args).run Try.prog w = .ok (.enter 13 args) w := Pl.enters Try.func13 (by kernel_rfl) (by kernel_rfl)

theorem enters7 : ∀ args w, (callFunc 7 args).run Try.prog w = .ok (.enter 7 args) w := Pl.enters Try.func7 (by kernel_rfl) (by kernel_rfl)

theorem checkIsU (u : Un) (m : Bool) (hm : u.may = m) (a : Option Addr) (len cap : Nat) (w : World) (h : Fs w a len cap u.row.xs) (hf : u.row.fits) :
    Calls Try.prog 9 #[u.val (.slice a len cap)] w fun e w' => e = .returned (.int .i64 (chk m)) ∧ Below w.heap.size w w' := by
  have := checkU_any u a len cap w h hf
  rw [hm] at this
  exact this

theorem leq66 (n : Nat) (h : n ≤ 66) (x y : Operand) (w : World) : (do eqGuard .leq 3 x y (.int .i64 ((n : Nat) : Int)) (.int .i64 66); binOp .leq 3 (.int .i64 ((n : Nat) : Int)) (.int .i64 66) : Sem Value).run Try.prog w = .ok (.bool true) w := by
  simp [go_sem, eqGuard]
  omega

set_option maxHeartbeats 2000000 in
set_option maxRecDepth 100000 in
theorem cod4a (w0 w : World) (p : Nat) (X : Un) (a : Option Addr) (len cap : Nat) (hx : UnBlk w0 p X (.slice a len cap)) (hfa : Fs w0 a len cap X.row.xs) (hf : X.fits) (hm : X.may = false) (hW : Below w0.heap.size w0 w)
    {Q : Exit → Act → World → Prop} {A : Act} (hsz : A.tmps.size = 69) (hdf : A.defers = []) (s1 : A.tmps.getD 1 undef = .pointer (some ⟨p, 0, none⟩))
    (hend : ∀ (u : Nat → Value) w', Below w0.heap.size w0 w' → Q .normal (((((((A).put (some 18) (u 18)).put (some 21) (u 21)).put (some 19) (u 19)).put (some 20) (u 20)).put (some 22) (u 22)).put (some 23) (.bool false)) w') :
    (Code.region 4 (Pl.find 4 ((Try.f3.body).getD .skip)) true).wp Try.prog Q A w := by
  have hS0 : Below w0.heap.size w0 w.drew := hW.drew
  have hA := Pl.At.same (v := .pointer (some ⟨p, 0, none⟩)) (d := 1) (Pl.At.here hsz hdf) s1
  refine Pl.H.start (S := fun w' => Below w0.heap.size w0 w') (by kernel_rfl) hA hS0 ?_
  rw [show (Pl.find 4 ((Try.f3.body).getD .skip)).size = 6 by kernel_rfl]
  refine Pl.H.take 0 18 (X.val (.slice a len cap)) (by kernel_rfl) (by kernel_rfl) (by kernel_rfl) (Pl.free 0 (by kernel_rfl)) (Pl.load 0 29 (.tmp 1) _ (by kernel_rfl) (by decide) (fun w' hS => load_un p X (.slice a len cap) ⟨_, _, _, rfl⟩ w' (hx.keep hS))) hS0 ?_
  refine Pl.H.take 3 21 (X.val (.slice a len cap)) (by kernel_rfl) (by kernel_rfl) (by kernel_rfl) (Pl.free 3 (by kernel_rfl)) (Pl.load 3 29 (.tmp 1) _ (by kernel_rfl) (by decide) (fun w' hS => load_un p X (.slice a len cap) ⟨_, _, _, rfl⟩ w' (hx.keep hS))) hS0 ?_
  refine Pl.H.call 1 19 9 [(.tmp 18)] #[29] (by kernel_rfl) (by kernel_rfl) (by kernel_rfl) (Pl.free 1 (by kernel_rfl)) (by kernel_rfl) (by decide) enters9 (Calls.mono (checkIsU X false hm a len cap w.drew (hfa.keep hS0 (Nat.le_refl _)) hf.row) ?_)
  rintro e w1 ⟨rfl, hb1⟩
  have hS1 : Below w0.heap.size w0 w1 := rBelow' hS0 hb1
  refine ⟨.int .i64 1, rfl, hS1, ?_⟩
  refine Pl.H.take 2 20 (.bool false) (by kernel_rfl) (by kernel_rfl) (by kernel_rfl) (Pl.free 2 (by kernel_rfl)) (Pl.binV 2 .eql 32 32 (.tmp 19) (.const (.int .i64 0)) (.int .i64 1) (.int .i64 0) _ (by kernel_rfl) (by decide) (by decide) rfl rfl (fun w => by simp [go_sem, eqGuard])) hS1 ?_
  refine Pl.H.call 4 22 10 [(.tmp 21)] #[29] (by kernel_rfl) (by kernel_rfl) (by kernel_rfl) (Pl.free 4 (by kernel_rfl)) (by kernel_rfl) (by decide) enters10 (Calls.mono (mayIsU X false hm a len cap w1 (hfa.keep hS1 (Nat.le_refl _)) hf.row) ?_)
  rintro e w2 ⟨rfl, hb2⟩
  have hS2 : Below w0.heap.size w0 w2 := rBelow' hS1 hb2
  refine ⟨.bool false, rfl, hS2, ?_⟩
  refine Pl.H.take 5 23 (.bool false) (by kernel_rfl) (by kernel_rfl) (by kernel_rfl) (Pl.free 5 (by kernel_rfl)) (Pl.binV 5 .neq 4 4 (.tmp 20) (.tmp 22) (.bool false) (.bool false) _ (by kernel_rfl) (by decide) (by decide) rfl rfl (fun w => by simp [go_sem, eqGuard])) hS2 ?_
  refine Pl.H.done (by kernel_rfl) (fun A' hA' => ?_)
  rw [Pl.At.ext hA' ((((((hA.put 18 _).put 21 _).put 19 _).put 20 _).put 22 _).put 23 _)]
  exact hend (fun d => if d = 18 then X.val (.slice a len cap) else if d = 21 then X.val (.slice a len cap) else if d = 19 then .int .i64 1 else if d = 20 then .bool false else if d = 22 then .bool false else undef) _ hS2

set_option maxHeartbeats 2000000 in
set_option maxRecDepth 100000 in
theorem cod4b (w0 w : World) (p : Nat) (X : Un) (a : Option Addr) (len cap : Nat) (hx : UnBlk w0 p X (.slice a len cap)) (hfa : Fs w0 a len cap X.row.xs) (hf : X.fits) (hm : X.may = true) (hW : Below w0.heap.size w0 w)
    {Q : Exit → Act → World → Prop} {A : Act} (hsz : A.tmps.size = 69) (hdf : A.defers = []) (s1 : A.tmps.getD 1 undef = .pointer (some ⟨p, 0, none⟩))
    (hend : ∀ (u : Nat → Value) w', Below w0.heap.size w0 w' → Q .normal (((((((A).put (some 18) (u 18)).put (some 21) (u 21)).put (some 19) (u 19)).put (some 20) (u 20)).put (some 22) (u 22)).put (some 23) (.bool false)) w') :
    (Code.region 4 (Pl.find 4 ((Try.f3.body).getD .skip)) true).wp Try.prog Q A w := by
  have hS0 : Below w0.heap.size w0 w.drew := hW.drew
  have hA := Pl.At.same (v := .pointer (some ⟨p, 0, none⟩)) (d := 1) (Pl.At.here hsz hdf) s1
  refine Pl.H.start (S := fun w' => Below w0.heap.size w0 w') (by kernel_rfl) hA hS0 ?_
  rw [show (Pl.find 4 ((Try.f3.body).getD .skip)).size = 6 by kernel_rfl]
  refine Pl.H.take 0 18 (X.val (.slice a len cap)) (by kernel_rfl) (by kernel_rfl) (by kernel_rfl) (Pl.free 0 (by kernel_rfl)) (Pl.load 0 29 (.tmp 1) _ (by kernel_rfl) (by decide) (fun w' hS => load_un p X (.slice a len cap) ⟨_, _, _, rfl⟩ w' (hx.keep hS))) hS0 ?_
  refine Pl.H.take 3 21 (X.val (.slice a len cap)) (by kernel_rfl) (by kernel_rfl) (by kernel_rfl) (Pl.free 3 (by kernel_rfl)) (Pl.load 3 29 (.tmp 1) _ (by kernel_rfl) (by decide) (fun w' hS => load_un p X (.slice a len cap) ⟨_, _, _, rfl⟩ w' (hx.keep hS))) hS0 ?_
  refine Pl.H.call 1 19 9 [(.tmp 18)] #[29] (by kernel_rfl) (by kernel_rfl) (by kernel_rfl) (Pl.free 1 (by kernel_rfl)) (by kernel_rfl) (by decide) enters9 (Calls.mono (checkIsU X true hm a len cap w.drew (hfa.keep hS0 (Nat.le_refl _)) hf.row) ?_)
  rintro e w1 ⟨rfl, hb1⟩
  have hS1 : Below w0.heap.size w0 w1 := rBelow' hS0 hb1
  refine ⟨.int .i64 0, rfl, hS1, ?_⟩
  refine Pl.H.take 2 20 (.bool true) (by kernel_rfl) (by kernel_rfl) (by kernel_rfl) (Pl.free 2 (by kernel_rfl)) (Pl.eqlSame 2 32 32 (.tmp 19) (.const (.int .i64 0)) _ _ (by kernel_rfl) (by decide) (by decide) rfl rfl) hS1 ?_
  refine Pl.H.call 4 22 10 [(.tmp 21)] #[29] (by kernel_rfl) (by kernel_rfl) (by kernel_rfl) (Pl.free 4 (by kernel_rfl)) (by kernel_rfl) (by decide) enters10 (Calls.mono (mayIsU X true hm a len cap w1 (hfa.keep hS1 (Nat.le_refl _)) hf.row) ?_)
  rintro e w2 ⟨rfl, hb2⟩
  have hS2 : Below w0.heap.size w0 w2 := rBelow' hS1 hb2
  refine ⟨.bool true, rfl, hS2, ?_⟩
  refine Pl.H.take 5 23 (.bool false) (by kernel_rfl) (by kernel_rfl) (by kernel_rfl) (Pl.free 5 (by kernel_rfl)) (Pl.binV 5 .neq 4 4 (.tmp 20) (.tmp 22) (.bool true) (.bool true) _ (by kernel_rfl) (by decide) (by decide) rfl rfl (fun w => by simp [go_sem, eqGuard])) hS2 ?_
  refine Pl.H.done (by kernel_rfl) (fun A' hA' => ?_)
  rw [Pl.At.ext hA' ((((((hA.put 18 _).put 21 _).put 19 _).put 20 _).put 22 _).put 23 _)]
  exact hend (fun d => if d = 18 then X.val (.slice a len cap) else if d = 21 then X.val (.slice a len cap) else if d = 19 then .int .i64 0 else if d = 20 then .bool true else if d = 22 then .bool true else undef) _ hS2

set_option maxHeartbeats 2000000 in
set_option maxRecDepth 100000 in
theorem cod9 (w0 w : World) (p q : Nat) (X : Un) (a : Option Addr) (len cap : Nat) (xa : Option Addr) (xl xc : Nat) (hx : UnBlk w0 p X (.slice a len cap)) (hq : UnBlk w0 q X (.slice xa xl xc)) (hfa : Fs w0 a len cap X.row.xs) (hfq : Fs w0 xa xl xc X.row.xs) (hf : X.fits) (hm : X.may = true) (ya : Option Addr) (yn yc : Nat) (he : Enc w0 ya yn yc X) (hW : Below w0.heap.size w0 w)
    {Q : Exit → Act → World → Prop} {A : Act} (hsz : A.tmps.size = 69) (hdf : A.defers = []) (s1 : A.tmps.getD 1 undef = .pointer (some ⟨p, 0, none⟩)) (s3 : A.tmps.getD 3 undef = .slice ya yn yc) (s4 : A.tmps.getD 4 undef = .int .i64 0) (s5 : A.tmps.getD 5 undef = .pointer (some ⟨q, 0, none⟩)) (s6 : A.tmps.getD 6 undef = .int .i64 0)
    (hend : ∀ (u : Nat → Value) w', Below w0.heap.size w0 w' → Q .normal (((((((((((((((((((((((((((((A).put (some 42) (u 42)).put (some 43) (u 43)).put (some 44) (u 44)).put (some 45) (u 45)).put (some 46) (u 46)).put (some 47) (u 47)).put (some 48) (u 48)).put (some 49) (u 49)).put (some 50) (u 50)).put (some 51) (u 51)).put (some 52) (u 52)).put (some 53) (u 53)).put (some 54) (u 54)).put (some 55) (u 55)).put (some 56) (u 56)).put (some 57) (u 57)).put (some 58) (u 58)).put (some 59) (u 59)).put (some 60) (u 60)).put (some 61) (u 61)).put (some 62) (u 62)).put (some 63) (u 63)).put (some 64) (u 64)).put (some 65) (u 65)).put (some 66) (u 66)).put (some 67) (u 67)).put (some 68) (u 68)).put (some 2) (.bool true)) w') :
    (Code.region 9 (Pl.find 9 ((Try.f3.body).getD .skip)) true).wp Try.prog Q A w := by
  have hS0 : Below w0.heap.size w0 w.drew := hW.drew
  have hA := Pl.At.same (v := .int .i64 0) (d := 6) (Pl.At.same (v := .pointer (some ⟨q, 0, none⟩)) (d := 5) (Pl.At.same (v := .int .i64 0) (d := 4) (Pl.At.same (v := .slice ya yn yc) (d := 3) (Pl.At.same (v := .pointer (some ⟨p, 0, none⟩)) (d := 1) (Pl.At.here hsz hdf) s1) s3) s4) s5) s6
  refine Pl.H.start (S := fun w' => Below w0.heap.size w0 w') (by kernel_rfl) hA hS0 ?_
  rw [show (Pl.find 9 ((Try.f3.body).getD .skip)).size = 28 by kernel_rfl]
  refine Pl.H.take 0 42 (.int .i64 0) (by kernel_rfl) (by kernel_rfl) (by kernel_rfl) (Pl.free 0 (by kernel_rfl)) (Pl.move 0 (.tmp 4) (by kernel_rfl) (by decide)) hS0 ?_
  refine Pl.H.take 1 43 (.bool true) (by kernel_rfl) (by kernel_rfl) (by kernel_rfl) (Pl.free 1 (by kernel_rfl)) (Pl.eqlSame 1 32 32 (.tmp 42) (.const (.int .i64 0)) _ _ (by kernel_rfl) (by decide) (by decide) rfl rfl) hS0 ?_
  refine Pl.H.take 2 44 (.bool true) (by kernel_rfl) (by kernel_rfl) (by kernel_rfl) (Pl.free 2 (by kernel_rfl)) (Pl.move 2 (.tmp 43) (by kernel_rfl) (by decide)) hS0 ?_
  refine Pl.H.take 3 45 (.slice ya yn yc) (by kernel_rfl) (by kernel_rfl) (by kernel_rfl) (Pl.guarded 3 2 44 true (by kernel_rfl) (by kernel_rfl) (by decide) rfl) (Pl.move 3 (.tmp 3) (by kernel_rfl) (by decide)) hS0 ?_
  refine Pl.H.take 4 46 (.int .i64 ((yn : Nat) : Int)) (by kernel_rfl) (by kernel_rfl) (by kernel_rfl) (Pl.guarded 4 2 44 true (by kernel_rfl) (by kernel_rfl) (by decide) rfl) (Pl.lenOf 4 31 (.tmp 45) _ (by kernel_rfl) (by decide) (fun _ _ => rfl)) hS0 ?_
  refine Pl.H.take 5 47 (.bool true) (by kernel_rfl) (by kernel_rfl) (by kernel_rfl) (Pl.guarded 5 2 44 true (by kernel_rfl) (by kernel_rfl) (by decide) rfl) (Pl.binV 5 .leq 3 3 (.tmp 46) (.const (.int .i64 66)) (.int .i64 ((yn : Nat) : Int)) (.int .i64 66) _ (by kernel_rfl) (by decide) (by decide) rfl rfl (fun w => leq66 yn he.few _ _ w)) hS0 ?_
  refine Pl.H.take 6 48 (.bool true) (by kernel_rfl) (by kernel_rfl) (by kernel_rfl) (Pl.free 6 (by kernel_rfl)) (Pl.pick 6 (.tmp 44) (.tmp 47) (.const (.bool false)) (by kernel_rfl) (by decide) (by decide) rfl) hS0 ?_
  refine Pl.H.take 7 49 (.bool true) (by kernel_rfl) (by kernel_rfl) (by kernel_rfl) (Pl.free 7 (by kernel_rfl)) (Pl.move 7 (.tmp 48) (by kernel_rfl) (by decide)) hS0 ?_
  refine Pl.H.take 8 50 (.slice ya yn yc) (by kernel_rfl) (by kernel_rfl) (by kernel_rfl) (Pl.guarded 8 7 49 true (by kernel_rfl) (by kernel_rfl) (by decide) rfl) (Pl.move 8 (.tmp 3) (by kernel_rfl) (by decide)) hS0 ?_
  refine Pl.H.take 9 51 (.string (bstr X.bytes)) (by kernel_rfl) (by kernel_rfl) (by kernel_rfl) (Pl.guarded 9 7 49 true (by kernel_rfl) (by kernel_rfl) (by decide) rfl) (Pl.convV 9 31 9 (.tmp 50) (.slice ya yn yc) _ (by kernel_rfl) (by decide) rfl (fun w' hS => run_string_of yc (he.came.bs.keep hS (Nat.le_refl _)))) hS0 ?_
  refine Pl.H.take 10 52 (X.val (.slice a len cap)) (by kernel_rfl) (by kernel_rfl) (by kernel_rfl) (Pl.guarded 10 7 49 true (by kernel_rfl) (by kernel_rfl) (by decide) rfl) (Pl.load 10 29 (.tmp 1) _ (by kernel_rfl) (by decide) (fun w' hS => load_un p X (.slice a len cap) ⟨_, _, _, rfl⟩ w' (hx.keep hS))) hS0 ?_
  refine Pl.H.call 11 53 12 [(.tmp 52)] #[29] (by kernel_rfl) (by kernel_rfl) (by kernel_rfl) (Pl.guarded 11 7 49 true (by kernel_rfl) (by kernel_rfl) (by decide) rfl) (by kernel_rfl) (by decide) enters12 (Calls.mono (refBytesU_any X a len cap w.drew (hfa.keep hS0 (Nat.le_refl _)) hf hm) ?_)
  rintro e w1 ⟨v1, rfl, ho1, hb1⟩
  have hS1 : Below w0.heap.size w0 w1 := rBelow' hS0 hb1
  obtain ⟨ba, be, rfl, hbs1, _⟩ := ho1.bs (Un.bytes_bytes hm)
  refine ⟨.slice ba X.bytes.length be, rfl, hS1, ?_⟩
  refine Pl.H.make 12 54 (.string (bstr X.bytes)) w1 (by kernel_rfl) (by kernel_rfl) (by kernel_rfl) (Pl.guarded 12 7 49 true (by kernel_rfl) (by kernel_rfl) (by decide) rfl) (Pl.conv1 12 31 9 (.tmp 53) _ (by kernel_rfl) (by decide) (run_string_of be hbs1)) hS1 ?_
  refine Pl.H.take 13 55 (.bool true) (by kernel_rfl) (by kernel_rfl) (by kernel_rfl) (Pl.guarded 13 7 49 true (by kernel_rfl) (by kernel_rfl) (by decide) rfl) (Pl.eqlStr 13 9 9 (.tmp 51) (.tmp 54) _ (by kernel_rfl) (by decide) (by decide) rfl rfl) hS1 ?_
  refine Pl.H.take 14 56 (.bool true) (by kernel_rfl) (by kernel_rfl) (by kernel_rfl) (Pl.free 14 (by kernel_rfl)) (Pl.pick 14 (.tmp 49) (.tmp 55) (.const (.bool false)) (by kernel_rfl) (by decide) (by decide) rfl) hS1 ?_
  refine Pl.H.take 15 57 (.bool true) (by kernel_rfl) (by kernel_rfl) (by kernel_rfl) (Pl.free 15 (by kernel_rfl)) (Pl.move 15 (.tmp 56) (by kernel_rfl) (by decide)) hS1 ?_
  refine Pl.H.take 16 58 (.int .i64 0) (by kernel_rfl) (by kernel_rfl) (by kernel_rfl) (Pl.guarded 16 15 57 true (by kernel_rfl) (by kernel_rfl) (by decide) rfl) (Pl.move 16 (.tmp 6) (by kernel_rfl) (by decide)) hS1 ?_
  refine Pl.H.take 17 59 (.bool true) (by kernel_rfl) (by kernel_rfl) (by kernel_rfl) (Pl.guarded 17 15 57 true (by kernel_rfl) (by kernel_rfl) (by decide) rfl) (Pl.eqlSame 17 32 32 (.tmp 58) (.const (.int .i64 0)) _ _ (by kernel_rfl) (by decide) (by decide) rfl rfl) hS1 ?_
  refine Pl.H.take 18 60 (.bool true) (by kernel_rfl) (by kernel_rfl) (by kernel_rfl) (Pl.free 18 (by kernel_rfl)) (Pl.pick 18 (.tmp 57) (.tmp 59) (.const (.bool false)) (by kernel_rfl) (by decide) (by decide) rfl) hS1 ?_
  refine Pl.H.take 19 61 (.bool true) (by kernel_rfl) (by kernel_rfl) (by kernel_rfl) (Pl.free 19 (by kernel_rfl)) (Pl.move 19 (.tmp 60) (by kernel_rfl) (by decide)) hS1 ?_
  refine Pl.H.take 20 62 (X.val (.slice xa xl xc)) (by kernel_rfl) (by kernel_rfl) (by kernel_rfl) (Pl.guarded 20 19 61 true (by kernel_rfl) (by kernel_rfl) (by decide) rfl) (Pl.load 20 29 (.tmp 5) _ (by kernel_rfl) (by decide) (fun w' hS => load_un q X (.slice xa xl xc) ⟨_, _, _, rfl⟩ w' (hq.keep hS))) hS1 ?_
  refine Pl.H.take 21 63 (X.val (.slice a len cap)) (by kernel_rfl) (by kernel_rfl) (by kernel_rfl) (Pl.guarded 21 19 61 true (by kernel_rfl) (by kernel_rfl) (by decide) rfl) (Pl.load 21 29 (.tmp 1) _ (by kernel_rfl) (by decide) (fun w' hS => load_un p X (.slice a len cap) ⟨_, _, _, rfl⟩ w' (hx.keep hS))) hS1 ?_
  refine Pl.H.call 22 64 13 [(.tmp 62), (.tmp 63)] #[29, 29] (by kernel_rfl) (by kernel_rfl) (by kernel_rfl) (Pl.guarded 22 19 61 true (by kernel_rfl) (by kernel_rfl) (by decide) rfl) (by kernel_rfl) (by decide) enters13 (Calls.mono (refUnSelf_any X xa xl xc a len cap w1 (hfq.keep hS1 (Nat.le_refl _)) (hfa.keep hS1 (Nat.le_refl _))) ?_)
  rintro e w2 ⟨rfl, hb2⟩
  have hS2 : Below w0.heap.size w0 w2 := rBelow' hS1 hb2
  refine ⟨.bool true, rfl, hS2, ?_⟩
  refine Pl.H.take 23 65 (.bool true) (by kernel_rfl) (by kernel_rfl) (by kernel_rfl) (Pl.free 23 (by kernel_rfl)) (Pl.pick 23 (.tmp 61) (.tmp 64) (.const (.bool false)) (by kernel_rfl) (by decide) (by decide) rfl) hS2 ?_
  refine Pl.H.take 24 66 (.bool true) (by kernel_rfl) (by kernel_rfl) (by kernel_rfl) (Pl.free 24 (by kernel_rfl)) (Pl.move 24 (.tmp 65) (by kernel_rfl) (by decide)) hS2 ?_
  refine Pl.H.call 25 67 7 [] #[] (by kernel_rfl) (by kernel_rfl) (by kernel_rfl) (Pl.guarded 25 24 66 true (by kernel_rfl) (by kernel_rfl) (by decide) rfl) (by kernel_rfl) (by decide) enters7 (Calls.mono (awakeU_any w2) ?_)
  rintro e w3 ⟨rfl, hb3⟩
  have hS3 : Below w0.heap.size w0 w3 := rBelow' hS2 hb3
  refine ⟨.bool true, rfl, hS3, ?_⟩
  refine Pl.H.take 26 68 (.bool true) (by kernel_rfl) (by kernel_rfl) (by kernel_rfl) (Pl.free 26 (by kernel_rfl)) (Pl.pick 26 (.tmp 66) (.tmp 67) (.const (.bool false)) (by kernel_rfl) (by decide) (by decide) rfl) hS3 ?_
  refine Pl.H.take 27 2 (.bool true) (by kernel_rfl) (by kernel_rfl) (by kernel_rfl) (Pl.free 27 (by kernel_rfl)) (Pl.assign 27 (.tmp 68) (by kernel_rfl) (by decide)) hS3 ?_
  refine Pl.H.done (by kernel_rfl) (fun A' hA' => ?_)
  rw [Pl.At.ext hA' ((((((((((((((((((((((((((((hA.put 42 _).put 43 _).put 44 _).put 45 _).put 46 _).put 47 _).put 48 _).put 49 _).put 50 _).put 51 _).put 52 _).put 53 _).put 54 _).put 55 _).put 56 _).put 57 _).put 58 _).put 59 _).put 60 _).put 61 _).put 62 _).put 63 _).put 64 _).put 65 _).put 66 _).put 67 _).put 68 _).put 2 _)]
  exact hend (fun d => if d = 42 then .int .i64 0 else if d = 43 then .bool true else if d = 44 then .bool true else if d = 45 then .slice ya yn yc else if d = 46 then .int .i64 ((yn : Nat) : Int) else if d = 47 then .bool true else if d = 48 then .bool true else if d = 49 then .bool true else if d = 50 then .slice ya yn yc else if d = 51 then .string (bstr X.bytes) else if d = 52 then X.val (.slice a len cap) else if d = 53 then .slice ba X.bytes.length be else if d = 54 then .string (bstr X.bytes) else if d = 55 then .bool true else if d = 56 then .bool true else if d = 57 then .bool true else if d = 58 then .int .i64 0 else if d = 59 then .bool true else if d = 60 then .bool true else if d = 61 then .bool true else if d = 62 then X.val (.slice xa xl xc) else if d = 63 then X.val (.slice a len cap) else if d = 64 then .bool true else if d = 65 then .bool true else if d = 66 then .bool true else if d = 67 then .bool true else if d = 68 then .bool true else undef) _ hS3

set_option maxHeartbeats 4000000 in
set_option maxRecDepth 100000 in
theorem codesU_far (A : Un) (a : Option Addr) (len cap : Nat) (w : World) (h1 : len ≤ 9223372036854775807) (hd : 100 < len) :
    Calls Try.prog 3 #[A.val (.slice a len cap)] w fun e w' => e = .returned (.bool true) ∧ Below w.heap.size w w' := by
  have HA := hide awakeU_any
  have HW := hide (below_alloc w (.cells #[.int .i64 A.tx, .int .i64 A.no, .int .i64 A.prev, .int .i64 A.kind, .int .i64 A.page, .int .i64 A.slot, .float .f64 A.row.key, .bool A.row.dead, .slice a len cap, .int .i64 A.row.wr, .int .i64 A.row.cell, .int .i64 A.row.no] 29))
  unfold Un.val
  have i1 : (100 : Int) < (len : Int) := by omega
  go_enter Try.func3, Try.ntmps3
  go_wp2_with fail
  refine (HA.out _).mono ?_
  rintro e w' ⟨rfl, hb⟩
  have HB := hide (rBelow HW.out hb)
  clear hb
  go_wp2_with fail
  go_ret
  exact ⟨rfl, HB.out⟩

set_option maxHeartbeats 4000000 in
set_option maxRecDepth 100000 in
theorem codesU_walk (A : Un) (a : Option Addr) (len cap : Nat) (w : World) (hA : Fs w a len cap A.row.xs) (hfA : A.fits) (h1 : len ≤ 100) :
    Calls Try.prog 3 #[A.val (.slice a len cap)] w fun e w' => e = .returned (.bool true) ∧ Below w.heap.size w w' := by
  have i1 : ¬ (100 : Int) < (len : Int) := by omega
  have HX := hide (unBlk_new w A (.slice a len cap))
  have HW := hide (below_alloc w (.cells #[.int .i64 A.tx, .int .i64 A.no, .int .i64 A.prev, .int .i64 A.kind, .int .i64 A.page, .int .i64 A.slot, .float .f64 A.row.key, .bool A.row.dead, .slice a len cap, .int .i64 A.row.wr, .int .i64 A.row.cell, .int .i64 A.row.no] 29))
  have HFA := hide hA
  have HFit := hide hfA
  have HAW := hide awakeU_any
  cases hm : A.may
  · have HE := hide (encodeU_no A a len cap _ (hA.keep HW.out (Nat.le_refl _)) hfA hm)
    have HM := hide (mayIsU A _ hm a len cap)
    have HMM := hide hm
    unfold Un.val at HE ⊢
    clear hA hfA hm
    go_enter Try.func3, Try.ntmps3
    go_wp2_with fail
    refine HE.out.mono ?_
    rintro e w1 ⟨rfl, hb1⟩
    have HW1 := hide (rBelow HW.out hb1)
    have HX1 := hide (HX.out.keep hb1)
    clear hb1 HE HX
    go_wp2_with fail
    refine Pl.region_is (ops := Pl.find 4 ((Try.f3.body).getD .skip)) (by kernel_rfl) ?_
    refine cod4a w1 w1 w.heap.size A a len cap HX1.out (HFA.out.keep HW1.out (Nat.le_refl _)) HFit.out HMM.out (Below.refl _ _) (by rfl) (by rfl) (by rfl) ?_
    intro u w2 hb2
    simp only [Act.put, List.setIfInBounds_toArray, List.set_cons_zero, List.set_cons_succ]
    have HW2 := hide (rBelow HW1.out hb2)
    have HX2 := hide (HX1.out.keep hb2)
    have HLA := hide (load_un _ _ _ ⟨_, _, _, rfl⟩ _ HX2.out)
    clear hb2
    go_wp2_with (refine wpList_load _ rfl 29 (.tmp 1) rfl (.pointer (some ⟨w.heap.size, 0, none⟩)) (A.val (.slice a len cap)) rfl HLA.out ?_)
    refine (HM.out _ (HFA.out.keep HW2.out (Nat.le_refl _)) HFit.out.row).mono ?_
    rintro e w3 ⟨rfl, hb3⟩
    have HW3 := hide (rBelow HW2.out hb3)
    clear hb3 HLA
    go_wp2_with fail
    refine (HAW.out _).mono ?_
    rintro e w4 ⟨rfl, hb4⟩
    have HW4 := hide (rBelow HW3.out hb4)
    clear hb4
    go_wp2_with fail
    go_ret
    exact ⟨by simp, HW4.out⟩
  · have HE := hide (encodeU_yes A a len cap _ (hA.keep HW.out (Nat.le_refl _)) hfA hm)
    have HM := hide (mayIsU A _ hm a len cap)
    have HMM := hide hm
    unfold Un.val at HE ⊢
    clear hA hfA hm
    go_enter Try.func3, Try.ntmps3
    go_wp2_with fail
    refine HE.out.mono ?_
    rintro e w1 ⟨ya, yn, yc, rfl, hb1, hen⟩
    have HW1 := hide (rBelow HW.out hb1)
    have HX1 := hide (HX.out.keep hb1)
    have HN1 := hide hen
    clear hb1 HE HX hen
    go_wp2_with fail
    refine Pl.region_is (ops := Pl.find 4 ((Try.f3.body).getD .skip)) (by kernel_rfl) ?_
    refine cod4b w1 w1 w.heap.size A a len cap HX1.out (HFA.out.keep HW1.out (Nat.le_refl _)) HFit.out HMM.out (Below.refl _ _) (by rfl) (by rfl) (by rfl) ?_
    intro u w2 hb2
    simp only [Act.put, List.setIfInBounds_toArray, List.set_cons_zero, List.set_cons_succ]
    have HW2 := hide (rBelow HW1.out hb2)
    have HX2 := hide (HX1.out.keep hb2)
    have HN2 := hide (HN1.out.keep hb2)
    have HLA := hide (load_un _ _ _ ⟨_, _, _, rfl⟩ _ HX2.out)
    clear hb2 HN1
    go_wp2_with (refine wpList_load _ rfl 29 (.tmp 1) rfl (.pointer (some ⟨w.heap.size, 0, none⟩)) (A.val (.slice a len cap)) rfl HLA.out ?_)
    refine (HM.out _ (HFA.out.keep HW2.out (Nat.le_refl _)) HFit.out.row).mono ?_
    rintro e w3 ⟨rfl, hb3⟩
    have HW3 := hide (rBelow HW2.out hb3)
    have HX3 := hide (HX2.out.keep hb3)
    have HN3 := hide (HN2.out.keep hb3)
    have HD := hide (decodeU_yes A HFit.out HMM.out ya yn yc w3 HN3.out)
    clear hb3 HLA HN2
    go_wp2_with fail
    refine HD.out.mono ?_
    rintro e w4 ⟨xa, xl, xc, rfl, hb4, hfx⟩
    have HW4 := hide (rBelow HW3.out hb4)
    obtain ⟨w5, hst, hblk, hbw⟩ := box_un w4 A xa xl xc
    have HST := hide hst
    have HW5 := hide (rBelow HW4.out hbw)
    have HX5 := hide ((HX3.out.keep hb4).keep hbw)
    have HN5 := hide ((HN3.out.keep hb4).keep hbw)
    have HF5 := hide (hfx.keep hbw (Nat.le_refl _))
    have HQ5 := hide hblk
    clear hb4 hst hblk hbw HD HN3 hfx
    go_wp2_with (first | refine wpList_alloc _ rfl 29 rfl (.pointer (some ⟨w4.heap.size, 0, none⟩)) (w4.alloc (.cells #[.int .i64 0, .int .i64 0, .int .i64 0, .int .i64 0, .int .i64 0, .int .i64 0, .float .f64 0, .bool false, .slice none 0 0, .int .i64 0, .int .i64 0, .int .i64 0] 29)) (alloc_un w4) ?_ | refine wpList_store _ rfl rfl 29 (.tmp 5) (.tmp 40) rfl (.pointer (some ⟨w4.heap.size, 0, none⟩)) (A.val (.slice xa xl xc)) rfl rfl w5 HST.out ?_)
    refine Pl.region_is (ops := Pl.find 9 ((Try.f3.body).getD .skip)) (by kernel_rfl) ?_
    refine cod9 w5 w5 w.heap.size w4.heap.size A a len cap xa xl xc HX5.out HQ5.out (HFA.out.keep HW5.out (Nat.le_refl _)) HF5.out HFit.out HMM.out ya yn yc HN5.out (Below.refl _ _) (by rfl) (by rfl) (by rfl) (by rfl) (by rfl) (by rfl) (by rfl) ?_
    intro u2 w6 hb6
    simp only [Act.put, List.setIfInBounds_toArray, List.set_cons_zero, List.set_cons_succ]
    have HW6 := hide (rBelow HW5.out hb6)
    clear hb6
    go_wp2_with fail
    go_ret
    exact ⟨rfl, HW6.out⟩

end Go.Proofs.Ytgjpeeicgkkkbaa
