/-
  The law of any row's bytes, read back: its walk.
-/
import Derived.Test.YtgckcalkdojeeaaRowN
namespace Go.Proofs.Ytgckcalkdojeeaa
open Go.RowKit

theorem chk_eq (m : Bool) : (chk m == 0) = m := by cases m <;> decide

theorem mul_eight (len : Nat) (h : len ≤ 1000) (x y : Operand) (w : World) : (do eqGuard .mul 3 x y (.int .i64 8) (.int .i64 (len : Nat)); binOp .mul 3 (.int .i64 8) (.int .i64 (len : Nat)) : Sem Value).run Try.prog w = .ok (.int .i64 ((8 * len : Nat) : Int)) w := by
  have e : IntKind.i64.wrap (8 * (len : Int)) = ((8 * len : Nat) : Int) := by rw [IntKind.wrap_i64]; omega
  simp [go_sem, eqGuard, e]

theorem add_twenty (len : Nat) (h : len ≤ 1000) (x y : Operand) (w : World) : (do eqGuard .add 3 x y (.int .i64 20) (.int .i64 ((8 * len : Nat) : Int)); binOp .add 3 (.int .i64 20) (.int .i64 ((8 * len : Nat) : Int)) : Sem Value).run Try.prog w = .ok (.int .i64 ((20 + 8 * len : Nat) : Int)) w := add_nat 20 (8 * len) x y (by omega) w

theorem len_byts (a : Option Addr) (len cap : Nat) (ty : TypeId) (w : World) : (Builtin.len_ #[29] ty #[.slice a len cap]).run Try.prog w = .ok (.int .i64 (len : Nat)) w := by
  simp [go_sem]

set_option maxHeartbeats 2000000 in
set_option maxRecDepth 100000 in
theorem codes4 (w0 w : World) (p : Nat) (X : Rw) (a : Option Addr) (len cap : Nat) (hx : RwBlk w0 p X (.slice a len cap)) (hfa : Fs w0 a len cap X.xs) (hf : X.fits) (hW : Below w0.heap.size w0 w)
    {Q : Exit → Act → World → Prop} {A : Act} (hsz : A.tmps.size = 73) (hdf : A.defers = []) (s1 : A.tmps.getD 1 undef = .pointer (some ⟨p, 0, none⟩))
    (hend : ∀ (u : Nat → Value) w', Below w0.heap.size w0 w' → Q .normal (((((((A).put (some 17) (u 17)).put (some 20) (u 20)).put (some 18) (u 18)).put (some 19) (u 19)).put (some 21) (u 21)).put (some 22) (.bool false)) w') :
    (Code.region 4 (Pl.find 4 ((Try.f3.body).getD .skip)) true).wp Try.prog Q A w := by
  have hS0 : Below w0.heap.size w0 w.drew := hW.drew
  have hA := Pl.At.same (v := .pointer (some ⟨p, 0, none⟩)) (d := 1) (Pl.At.here hsz hdf) s1
  refine Pl.H.start (S := fun w' => Below w0.heap.size w0 w') (by kernel_rfl) hA hS0 ?_
  rw [show (Pl.find 4 ((Try.f3.body).getD .skip)).size = 6 by kernel_rfl]
  refine Pl.H.take 0 17 (X.val (.slice a len cap)) (by kernel_rfl) (by kernel_rfl) (by kernel_rfl) (Pl.free 0 (by kernel_rfl)) (Pl.load 0 27 (.tmp 1) _ (by kernel_rfl) (by decide) (fun w' hS => load_rw p X (.slice a len cap) ⟨_, _, _, rfl⟩ w' (hx.keep hS))) hS0 ?_
  refine Pl.H.take 3 20 (X.val (.slice a len cap)) (by kernel_rfl) (by kernel_rfl) (by kernel_rfl) (Pl.free 3 (by kernel_rfl)) (Pl.load 3 27 (.tmp 1) _ (by kernel_rfl) (by decide) (fun w' hS => load_rw p X (.slice a len cap) ⟨_, _, _, rfl⟩ w' (hx.keep hS))) hS0 ?_
  refine Pl.H.call 1 18 10 [(.tmp 17)] #[27] (by kernel_rfl) (by kernel_rfl) (by kernel_rfl) (Pl.free 1 (by kernel_rfl)) (by kernel_rfl) (by decide) enters10 (Calls.mono (checkRow_any X a len cap w.drew (hfa.keep hS0 (Nat.le_refl _)) hf) ?_)
  rintro e w1 ⟨rfl, hb1⟩
  have hS1 := hS0.trans (hb1.mono hS0.size)
  refine ⟨.int .i64 (chk X.may), rfl, hS1, ?_⟩
  refine Pl.H.take 2 19 (.bool X.may) (by kernel_rfl) (by kernel_rfl) (by kernel_rfl) (Pl.free 2 (by kernel_rfl)) (Pl.binV 2 .eql 30 30 (.tmp 18) (.const (.int .i64 0)) (.int .i64 (chk X.may)) (.int .i64 0) _ (by kernel_rfl) (by decide) (by decide) rfl rfl (fun w => by simp [go_sem, eqGuard, chk_eq])) hS1 ?_
  refine Pl.H.call 4 21 11 [(.tmp 20)] #[27] (by kernel_rfl) (by kernel_rfl) (by kernel_rfl) (Pl.free 4 (by kernel_rfl)) (by kernel_rfl) (by decide) enters11 (Calls.mono (refMayRow_any X a len cap w1 (hfa.keep hS1 (Nat.le_refl _)) hf) ?_)
  rintro e w2 ⟨rfl, hb2⟩
  have hS2 := hS1.trans (hb2.mono hS1.size)
  refine ⟨.bool X.may, rfl, hS2, ?_⟩
  refine Pl.H.take 5 22 (.bool false) (by kernel_rfl) (by kernel_rfl) (by kernel_rfl) (Pl.free 5 (by kernel_rfl)) (Pl.binV 5 .neq 4 4 (.tmp 19) (.tmp 21) (.bool X.may) (.bool X.may) _ (by kernel_rfl) (by decide) (by decide) rfl rfl (fun w => by simp [go_sem, eqGuard])) hS2 ?_
  refine Pl.H.done (by kernel_rfl) (fun A' hA' => ?_)
  rw [Pl.At.ext hA' ((((((hA.put 17 _).put 20 _).put 18 _).put 19 _).put 21 _).put 22 _)]
  exact hend (fun d => if d = 17 then X.val (.slice a len cap) else if d = 20 then X.val (.slice a len cap) else if d = 18 then .int .i64 (chk X.may) else if d = 19 then .bool X.may else if d = 21 then .bool X.may else undef) _ hS2

set_option maxHeartbeats 2000000 in
set_option maxRecDepth 100000 in
theorem codes9 (w0 w : World) (p : Nat) (X : Rw) (a : Option Addr) (len cap : Nat) (hx : RwBlk w0 p X (.slice a len cap)) (hfa : Fs w0 a len cap X.xs) (hf : X.fits) (hl : len ≤ 1000) (hm : X.may = true) (pa : Option Addr) (pc : Nat) (hc : Came w0 pa (20 + 8 * len) pc X.bytes) (q : Nat) (xa : Option Addr) (xl xc : Nat) (hq : RwBlk w0 q X (.slice xa xl xc)) (hfx : Fs w0 xa xl xc X.xs) (hW : Below w0.heap.size w0 w)
    {Q : Exit → Act → World → Prop} {A : Act} (hsz : A.tmps.size = 73) (hdf : A.defers = []) (s1 : A.tmps.getD 1 undef = .pointer (some ⟨p, 0, none⟩)) (s3 : A.tmps.getD 3 undef = .slice pa (20 + 8 * len) pc) (s4 : A.tmps.getD 4 undef = .int .i64 0) (s5 : A.tmps.getD 5 undef = .pointer (some ⟨q, 0, none⟩)) (s6 : A.tmps.getD 6 undef = .int .i64 0)
    (hend : ∀ (u : Nat → Value) w', Below w0.heap.size w0 w' → Q .normal ((((((((((((((((((((((((((((((((((A).put (some 41) (u 41)).put (some 42) (u 42)).put (some 43) (u 43)).put (some 44) (u 44)).put (some 45) (u 45)).put (some 46) (u 46)).put (some 47) (u 47)).put (some 48) (u 48)).put (some 49) (u 49)).put (some 50) (u 50)).put (some 51) (u 51)).put (some 52) (u 52)).put (some 53) (u 53)).put (some 54) (u 54)).put (some 55) (u 55)).put (some 56) (u 56)).put (some 57) (u 57)).put (some 58) (u 58)).put (some 59) (u 59)).put (some 60) (u 60)).put (some 61) (u 61)).put (some 62) (u 62)).put (some 63) (u 63)).put (some 64) (u 64)).put (some 65) (u 65)).put (some 66) (u 66)).put (some 67) (u 67)).put (some 68) (u 68)).put (some 69) (u 69)).put (some 70) (u 70)).put (some 71) (u 71)).put (some 72) (u 72)).put (some 2) (.bool true)) w') :
    (Code.region 9 (Pl.find 9 ((Try.f3.body).getD .skip)) true).wp Try.prog Q A w := by
  have hS0 : Below w0.heap.size w0 w.drew := hW.drew
  have hA := Pl.At.same (v := .int .i64 0) (d := 6) (Pl.At.same (v := .pointer (some ⟨q, 0, none⟩)) (d := 5) (Pl.At.same (v := .int .i64 0) (d := 4) (Pl.At.same (v := .slice pa (20 + 8 * len) pc) (d := 3) (Pl.At.same (v := .pointer (some ⟨p, 0, none⟩)) (d := 1) (Pl.At.here hsz hdf) s1) s3) s4) s5) s6
  refine Pl.H.start (S := fun w' => Below w0.heap.size w0 w') (by kernel_rfl) hA hS0 ?_
  rw [show (Pl.find 9 ((Try.f3.body).getD .skip)).size = 33 by kernel_rfl]
  refine Pl.H.take 0 41 (.int .i64 0) (by kernel_rfl) (by kernel_rfl) (by kernel_rfl) (Pl.free 0 (by kernel_rfl)) (Pl.move 0 (.tmp 4) (by kernel_rfl) (by decide)) hS0 ?_
  refine Pl.H.take 1 42 (.bool true) (by kernel_rfl) (by kernel_rfl) (by kernel_rfl) (Pl.free 1 (by kernel_rfl)) (Pl.eqlSame 1 30 30 (.tmp 41) (.const (.int .i64 0)) _ _ (by kernel_rfl) (by decide) (by decide) rfl rfl) hS0 ?_
  refine Pl.H.take 2 43 (.bool true) (by kernel_rfl) (by kernel_rfl) (by kernel_rfl) (Pl.free 2 (by kernel_rfl)) (Pl.move 2 (.tmp 42) (by kernel_rfl) (by decide)) hS0 ?_
  refine Pl.H.take 3 44 (.slice pa (20 + 8 * len) pc) (by kernel_rfl) (by kernel_rfl) (by kernel_rfl) (Pl.guarded 3 2 43 true (by kernel_rfl) (by kernel_rfl) (by decide) rfl) (Pl.move 3 (.tmp 3) (by kernel_rfl) (by decide)) hS0 ?_
  refine Pl.H.take 4 45 (.string (bstr X.bytes)) (by kernel_rfl) (by kernel_rfl) (by kernel_rfl) (Pl.guarded 4 2 43 true (by kernel_rfl) (by kernel_rfl) (by decide) rfl) (Pl.convV 4 29 9 (.tmp 44) (.slice pa (20 + 8 * len) pc) _ (by kernel_rfl) (by decide) rfl (fun w' hS => run_string_of pc (hc.bs.keep hS (Nat.le_refl _)))) hS0 ?_
  refine Pl.H.take 5 46 (X.val (.slice a len cap)) (by kernel_rfl) (by kernel_rfl) (by kernel_rfl) (Pl.guarded 5 2 43 true (by kernel_rfl) (by kernel_rfl) (by decide) rfl) (Pl.load 5 27 (.tmp 1) _ (by kernel_rfl) (by decide) (fun w' hS => load_rw p X (.slice a len cap) ⟨_, _, _, rfl⟩ w' (hx.keep hS))) hS0 ?_
  refine Pl.H.call 6 47 13 [(.tmp 46)] #[27] (by kernel_rfl) (by kernel_rfl) (by kernel_rfl) (Pl.guarded 6 2 43 true (by kernel_rfl) (by kernel_rfl) (by decide) rfl) (by kernel_rfl) (by decide) enters13 (Calls.mono (refBytes_any X a len cap w.drew (hfa.keep hS0 (Nat.le_refl _)) hf hm) ?_)
  rintro e w1 ⟨v1, rfl, ho1, hb1⟩
  have hS1 := hS0.trans (hb1.mono hS0.size)
  obtain ⟨ba, bc, rfl, hbs1, _⟩ := ho1.bs (bytes_bytes hm)
  refine ⟨.slice ba X.bytes.length bc, rfl, hS1, ?_⟩
  refine Pl.H.solo 7 48 (.string (bstr X.bytes)) (by kernel_rfl) (by kernel_rfl) (by kernel_rfl) (Pl.guarded 7 2 43 true (by kernel_rfl) (by kernel_rfl) (by decide) rfl) (Pl.conv1 7 29 9 (.tmp 47) _ (by kernel_rfl) (by decide) (run_string_of bc hbs1)) hS1 ?_
  refine Pl.H.take 8 49 (.bool true) (by kernel_rfl) (by kernel_rfl) (by kernel_rfl) (Pl.guarded 8 2 43 true (by kernel_rfl) (by kernel_rfl) (by decide) rfl) (Pl.eqlStr 8 9 9 (.tmp 45) (.tmp 48) _ (by kernel_rfl) (by decide) (by decide) rfl rfl) hS1 ?_
  refine Pl.H.take 9 50 (.bool true) (by kernel_rfl) (by kernel_rfl) (by kernel_rfl) (Pl.free 9 (by kernel_rfl)) (Pl.pick 9 (.tmp 43) (.tmp 49) (.const (.bool false)) (by kernel_rfl) (by decide) (by decide) rfl) hS1 ?_
  refine Pl.H.take 10 51 (.bool true) (by kernel_rfl) (by kernel_rfl) (by kernel_rfl) (Pl.free 10 (by kernel_rfl)) (Pl.move 10 (.tmp 50) (by kernel_rfl) (by decide)) hS1 ?_
  refine Pl.H.take 11 52 (.slice pa (20 + 8 * len) pc) (by kernel_rfl) (by kernel_rfl) (by kernel_rfl) (Pl.guarded 11 10 51 true (by kernel_rfl) (by kernel_rfl) (by decide) rfl) (Pl.move 11 (.tmp 3) (by kernel_rfl) (by decide)) hS1 ?_
  refine Pl.H.take 12 53 (.int .i64 ((20 + 8 * len : Nat) : Int)) (by kernel_rfl) (by kernel_rfl) (by kernel_rfl) (Pl.guarded 12 10 51 true (by kernel_rfl) (by kernel_rfl) (by decide) rfl) (Pl.lenOf 12 29 (.tmp 52) _ (by kernel_rfl) (by decide) (fun ty w => len_byts _ _ _ ty w)) hS1 ?_
  refine Pl.H.take 13 54 (.pointer (some ⟨p, 2, none⟩)) (by kernel_rfl) (by kernel_rfl) (by kernel_rfl) (Pl.guarded 13 10 51 true (by kernel_rfl) (by kernel_rfl) (by decide) rfl) (Pl.field 13 27 (.tmp 1) 2 _ (by kernel_rfl) (by decide) (field_rw2 p)) hS1 ?_
  refine Pl.H.take 14 55 (.slice a len cap) (by kernel_rfl) (by kernel_rfl) (by kernel_rfl) (Pl.guarded 14 10 51 true (by kernel_rfl) (by kernel_rfl) (by decide) rfl) (Pl.load 14 23 (.tmp 54) _ (by kernel_rfl) (by decide) (fun w' hS => load_fls p 2 _ _ _ w' (hx.keep hS).c2)) hS1 ?_
  refine Pl.H.take 15 56 (.int .i64 (len : Nat)) (by kernel_rfl) (by kernel_rfl) (by kernel_rfl) (Pl.guarded 15 10 51 true (by kernel_rfl) (by kernel_rfl) (by decide) rfl) (Pl.lenOf 15 23 (.tmp 55) _ (by kernel_rfl) (by decide) (fun ty w => len_fls _ _ _ ty w)) hS1 ?_
  refine Pl.H.take 16 57 (.int .i64 ((8 * len : Nat) : Int)) (by kernel_rfl) (by kernel_rfl) (by kernel_rfl) (Pl.guarded 16 10 51 true (by kernel_rfl) (by kernel_rfl) (by decide) rfl) (Pl.binV 16 .mul 3 3 (.const (.int .i64 8)) (.tmp 56) (.int .i64 8) (.int .i64 (len : Nat)) _ (by kernel_rfl) (by decide) (by decide) rfl rfl (fun w => mul_eight len hl _ _ w)) hS1 ?_
  refine Pl.H.take 17 58 (.int .i64 ((20 + 8 * len : Nat) : Int)) (by kernel_rfl) (by kernel_rfl) (by kernel_rfl) (Pl.guarded 17 10 51 true (by kernel_rfl) (by kernel_rfl) (by decide) rfl) (Pl.binV 17 .add 3 3 (.const (.int .i64 20)) (.tmp 57) (.int .i64 20) (.int .i64 ((8 * len : Nat) : Int)) _ (by kernel_rfl) (by decide) (by decide) rfl rfl (fun w => add_twenty len hl _ _ w)) hS1 ?_
  refine Pl.H.take 18 59 (.bool true) (by kernel_rfl) (by kernel_rfl) (by kernel_rfl) (Pl.guarded 18 10 51 true (by kernel_rfl) (by kernel_rfl) (by decide) rfl) (Pl.eqlSame 18 3 3 (.tmp 53) (.tmp 58) _ _ (by kernel_rfl) (by decide) (by decide) rfl rfl) hS1 ?_
  refine Pl.H.take 19 60 (.bool true) (by kernel_rfl) (by kernel_rfl) (by kernel_rfl) (Pl.free 19 (by kernel_rfl)) (Pl.pick 19 (.tmp 51) (.tmp 59) (.const (.bool false)) (by kernel_rfl) (by decide) (by decide) rfl) hS1 ?_
  refine Pl.H.take 20 61 (.bool true) (by kernel_rfl) (by kernel_rfl) (by kernel_rfl) (Pl.free 20 (by kernel_rfl)) (Pl.move 20 (.tmp 60) (by kernel_rfl) (by decide)) hS1 ?_
  refine Pl.H.take 21 62 (.int .i64 0) (by kernel_rfl) (by kernel_rfl) (by kernel_rfl) (Pl.guarded 21 20 61 true (by kernel_rfl) (by kernel_rfl) (by decide) rfl) (Pl.move 21 (.tmp 6) (by kernel_rfl) (by decide)) hS1 ?_
  refine Pl.H.take 22 63 (.bool true) (by kernel_rfl) (by kernel_rfl) (by kernel_rfl) (Pl.guarded 22 20 61 true (by kernel_rfl) (by kernel_rfl) (by decide) rfl) (Pl.eqlSame 22 30 30 (.tmp 62) (.const (.int .i64 0)) _ _ (by kernel_rfl) (by decide) (by decide) rfl rfl) hS1 ?_
  refine Pl.H.take 23 64 (.bool true) (by kernel_rfl) (by kernel_rfl) (by kernel_rfl) (Pl.free 23 (by kernel_rfl)) (Pl.pick 23 (.tmp 61) (.tmp 63) (.const (.bool false)) (by kernel_rfl) (by decide) (by decide) rfl) hS1 ?_
  refine Pl.H.take 24 65 (.bool true) (by kernel_rfl) (by kernel_rfl) (by kernel_rfl) (Pl.free 24 (by kernel_rfl)) (Pl.move 24 (.tmp 64) (by kernel_rfl) (by decide)) hS1 ?_
  refine Pl.H.take 25 66 (X.val (.slice xa xl xc)) (by kernel_rfl) (by kernel_rfl) (by kernel_rfl) (Pl.guarded 25 24 65 true (by kernel_rfl) (by kernel_rfl) (by decide) rfl) (Pl.load 25 27 (.tmp 5) _ (by kernel_rfl) (by decide) (fun w' hS => load_rw q X (.slice xa xl xc) ⟨_, _, _, rfl⟩ w' (hq.keep hS))) hS1 ?_
  refine Pl.H.take 26 67 (X.val (.slice a len cap)) (by kernel_rfl) (by kernel_rfl) (by kernel_rfl) (Pl.guarded 26 24 65 true (by kernel_rfl) (by kernel_rfl) (by decide) rfl) (Pl.load 26 27 (.tmp 1) _ (by kernel_rfl) (by decide) (fun w' hS => load_rw p X (.slice a len cap) ⟨_, _, _, rfl⟩ w' (hx.keep hS))) hS1 ?_
  refine Pl.H.call 27 68 14 [(.tmp 66), (.tmp 67)] #[27, 27] (by kernel_rfl) (by kernel_rfl) (by kernel_rfl) (Pl.guarded 27 24 65 true (by kernel_rfl) (by kernel_rfl) (by decide) rfl) (by kernel_rfl) (by decide) enters14 (Calls.mono (refSelf_any X xa xl xc a len cap w1 (hfx.keep hS1 (Nat.le_refl _)) (hfa.keep hS1 (Nat.le_refl _))) ?_)
  rintro e w2 ⟨rfl, hb2⟩
  have hS2 := hS1.trans (hb2.mono hS1.size)
  refine ⟨.bool true, rfl, hS2, ?_⟩
  refine Pl.H.take 28 69 (.bool true) (by kernel_rfl) (by kernel_rfl) (by kernel_rfl) (Pl.free 28 (by kernel_rfl)) (Pl.pick 28 (.tmp 65) (.tmp 68) (.const (.bool false)) (by kernel_rfl) (by decide) (by decide) rfl) hS2 ?_
  refine Pl.H.take 29 70 (.bool true) (by kernel_rfl) (by kernel_rfl) (by kernel_rfl) (Pl.free 29 (by kernel_rfl)) (Pl.move 29 (.tmp 69) (by kernel_rfl) (by decide)) hS2 ?_
  refine Pl.H.call 30 71 8 [] #[] (by kernel_rfl) (by kernel_rfl) (by kernel_rfl) (Pl.guarded 30 29 70 true (by kernel_rfl) (by kernel_rfl) (by decide) rfl) (by kernel_rfl) (by decide) enters8 (Calls.mono (awake_any w2) ?_)
  rintro e w3 ⟨rfl, hb3⟩
  have hS3 := hS2.trans (hb3.mono hS2.size)
  refine ⟨.bool true, rfl, hS3, ?_⟩
  refine Pl.H.take 31 72 (.bool true) (by kernel_rfl) (by kernel_rfl) (by kernel_rfl) (Pl.free 31 (by kernel_rfl)) (Pl.pick 31 (.tmp 70) (.tmp 71) (.const (.bool false)) (by kernel_rfl) (by decide) (by decide) rfl) hS3 ?_
  refine Pl.H.take 32 2 (.bool true) (by kernel_rfl) (by kernel_rfl) (by kernel_rfl) (Pl.free 32 (by kernel_rfl)) (Pl.assign 32 (.tmp 72) (by kernel_rfl) (by decide)) hS3 ?_
  refine Pl.H.done (by kernel_rfl) (fun A' hA' => ?_)
  rw [Pl.At.ext hA' (((((((((((((((((((((((((((((((((hA.put 41 _).put 42 _).put 43 _).put 44 _).put 45 _).put 46 _).put 47 _).put 48 _).put 49 _).put 50 _).put 51 _).put 52 _).put 53 _).put 54 _).put 55 _).put 56 _).put 57 _).put 58 _).put 59 _).put 60 _).put 61 _).put 62 _).put 63 _).put 64 _).put 65 _).put 66 _).put 67 _).put 68 _).put 69 _).put 70 _).put 71 _).put 72 _).put 2 _)]
  exact hend (fun d => if d = 41 then .int .i64 0 else if d = 42 then .bool true else if d = 43 then .bool true else if d = 44 then .slice pa (20 + 8 * len) pc else if d = 45 then .string (bstr X.bytes) else if d = 46 then X.val (.slice a len cap) else if d = 47 then .slice ba X.bytes.length bc else if d = 48 then .string (bstr X.bytes) else if d = 49 then .bool true else if d = 50 then .bool true else if d = 51 then .bool true else if d = 52 then .slice pa (20 + 8 * len) pc else if d = 53 then .int .i64 ((20 + 8 * len : Nat) : Int) else if d = 54 then .pointer (some ⟨p, 2, none⟩) else if d = 55 then .slice a len cap else if d = 56 then .int .i64 (len : Nat) else if d = 57 then .int .i64 ((8 * len : Nat) : Int) else if d = 58 then .int .i64 ((20 + 8 * len : Nat) : Int) else if d = 59 then .bool true else if d = 60 then .bool true else if d = 61 then .bool true else if d = 62 then .int .i64 0 else if d = 63 then .bool true else if d = 64 then .bool true else if d = 65 then .bool true else if d = 66 then X.val (.slice xa xl xc) else if d = 67 then X.val (.slice a len cap) else if d = 68 then .bool true else if d = 69 then .bool true else if d = 70 then .bool true else if d = 71 then .bool true else if d = 72 then .bool true else undef) _ hS3

set_option maxHeartbeats 4000000 in
set_option maxRecDepth 100000 in
theorem rowCodes_far (A : Rw) (a : Option Addr) (len cap : Nat) (w : World) (h1 : len ≤ 9223372036854775807) (hd : 100 < len) :
    Calls Try.prog 3 #[A.val (.slice a len cap)] w fun e w' => e = .returned (.bool true) ∧ Below w.heap.size w w' := by
  have HA := hide awake_any
  have HW := hide (below_alloc w (.cells #[.float .f64 A.key, .bool A.dead, .slice a len cap, .int .i64 A.wr, .int .i64 A.cell, .int .i64 A.no] 27))
  unfold Rw.val
  have i1 : (100 : Int) < (len : Int) := by omega
  go_enter Try.func3, Try.ntmps3
  go_wp2_with fail
  refine (HA.out _).mono ?_
  rintro e w' ⟨rfl, hb⟩
  have HB := hide (rBelow HW.out hb)
  clear hb
  go_wp2_with fail
  go_ret
  exact ⟨rfl, HB.out⟩

set_option maxHeartbeats 4000000 in
set_option maxRecDepth 100000 in
theorem rowCodes_walk (A : Rw) (a : Option Addr) (len cap : Nat) (w : World) (hA : Fs w a len cap A.xs) (hfA : A.fits) (h1 : len ≤ 100) :
    Calls Try.prog 3 #[A.val (.slice a len cap)] w fun e w' => e = .returned (.bool true) ∧ Below w.heap.size w w' := by
  have hsf : ∀ (w : World) (a : Addr) (m : Mode) (x : Nat), (store a (.float .f64 x) m).run Try.prog w = stored Try.prog w a (.float .f64 x) m := fun w a m x => run_store Try.prog w a _ m rfl
  have i1 : ¬ (100 : Int) < (len : Int) := by omega
  have HX := hide (rwBlk_new w A (.slice a len cap))
  have HW := hide (below_alloc w (.cells #[.float .f64 A.key, .bool A.dead, .slice a len cap, .int .i64 A.wr, .int .i64 A.cell, .int .i64 A.no] 27))
  have HFA := hide hA
  have HLA := hide hA.len
  have HFit := hide hfA
  have HE := hide (encode_any A a len cap _ (hA.keep HW.out (Nat.le_refl _)) hfA)
  clear hA hfA
  cases hm : A.may
  all_goals
    have HM := hide (mayIs_any A _ hm a len cap)
    rw [hm] at HE
    unfold chk at HE
    unfold Rw.val at HM HE ⊢
    have HMM := hide hm
    clear hm
  · go_enter Try.func3, Try.ntmps3
    go_wp2_with fail
    refine HE.out.mono ?_
    rintro e w1 ⟨v1, rfl, hb1, _, hn1⟩
    obtain rfl := hn1 (by trivial)
    have HW1 := hide (rBelow HW.out hb1)
    have HX1 := hide (HX.out.keep hb1)
    clear hb1 hn1 HE
    go_wp2_with fail
    refine Pl.region_is (ops := Pl.find 4 ((Try.f3.body).getD .skip)) (by kernel_rfl) ?_
    refine codes4 w1 w1 w.heap.size A a len cap HX1.out (HFA.out.keep HW1.out (Nat.le_refl _)) HFit.out (Below.refl _ _) (by rfl) (by rfl) (by rfl) ?_
    intro u w2 hb2
    simp only [Act.put, List.setIfInBounds_toArray, List.set_cons_zero, List.set_cons_succ]
    have HW2 := hide (rBelow HW1.out hb2)
    have HX2 := hide (HX1.out.keep hb2)
    have x0 := HX2.out.c0
    have x1 := HX2.out.c1
    have x2 := HX2.out.c2
    have x3 := HX2.out.c3
    have x4 := HX2.out.c4
    have x5 := HX2.out.c5
    have HMw := hide (HM.out w2 (HFA.out.keep HW2.out (Nat.le_refl _)) HFit.out)
    clear hb2
    go_wp2_with fail
    refine HMw.out.mono ?_
    rintro e w3 ⟨rfl, hb3⟩
    have HW3 := hide (rBelow HW2.out hb3)
    have HAW := hide (awake_any w3)
    clear hb3 x0 x1 x2 x3 x4 x5
    go_wp2_with fail
    refine HAW.out.mono ?_
    rintro e w4 ⟨rfl, hb4⟩
    have HW4 := hide (rBelow HW3.out hb4)
    clear hb4
    go_wp2_with fail
    go_ret
    exact ⟨by simp, HW4.out⟩
  · go_enter Try.func3, Try.ntmps3
    go_wp2_with fail
    refine HE.out.mono ?_
    rintro e w1 ⟨v1, rfl, hb1, ho1, _⟩
    have hbl : A.bytes.length = 20 + 8 * len := by rw [bytes_len, HLA.out]
    obtain ⟨pa, pc, rfl, hcm⟩ := (ho1 (by trivial)).cameN (bytes_bytes HMM.out) hbl (by omega)
    have HCM := hide hcm
    have HW1 := hide (rBelow HW.out hb1)
    have HX1 := hide (HX.out.keep hb1)
    clear hb1 ho1 hcm hbl HE
    go_wp2_with fail
    refine Pl.region_is (ops := Pl.find 4 ((Try.f3.body).getD .skip)) (by kernel_rfl) ?_
    refine codes4 w1 w1 w.heap.size A a len cap HX1.out (HFA.out.keep HW1.out (Nat.le_refl _)) HFit.out (Below.refl _ _) (by rfl) (by rfl) (by rfl) ?_
    intro u w2 hb2
    simp only [Act.put, List.setIfInBounds_toArray, List.set_cons_zero, List.set_cons_succ]
    have HW2 := hide (rBelow HW1.out hb2)
    have HX2 := hide (HX1.out.keep hb2)
    have HC2 := hide (HCM.out.keep hb2 (Nat.le_refl _))
    have x0 := HX2.out.c0
    have x1 := HX2.out.c1
    have x2 := HX2.out.c2
    have x3 := HX2.out.c3
    have x4 := HX2.out.c4
    have x5 := HX2.out.c5
    have HMw := hide (HM.out w2 (HFA.out.keep HW2.out (Nat.le_refl _)) HFit.out)
    clear hb2
    go_wp2_with fail
    refine HMw.out.mono ?_
    rintro e w3 ⟨rfl, hb3⟩
    have HW3 := hide (rBelow HW2.out hb3)
    have HX3 := hide (HX2.out.keep hb3)
    have HC3 := hide (HC2.out.keep hb3 (Nat.le_refl _))
    have HD := hide (decode_any pa (20 + 8 * len) pc A.bytes w3 HC3.out (by omega))
    clear hb3 x0 x1 x2 x3 x4 x5 HMw
    go_wp2_with fail
    refine HD.out.mono ?_
    rintro e w4 ⟨hb4, _, hd⟩
    obtain ⟨_, xa, xl, xc, rfl, hfx⟩ := hd A (dec_bytes HMM.out HFit.out)
    obtain ⟨w5, hw5⟩ : ∃ w5, w5 = w4.alloc (.cells #[.float .f64 A.key, .bool A.dead, .slice xa xl xc, .int .i64 A.wr, .int .i64 A.cell, .int .i64 A.no] 27) := ⟨_, rfl⟩
    have hb5 : Below w4.heap.size w4 w5 := by rw [hw5]; exact below_alloc _ _
    have hq5 : RwBlk w5 w4.heap.size A (.slice xa xl xc) := by rw [hw5]; exact rwBlk_new w4 A _
    have HW5 := hide (rBelow (rBelow HW3.out hb4) hb5)
    have HX5 := hide ((HX3.out.keep hb4).keep hb5)
    have HC5 := hide ((HC3.out.keep hb4 (Nat.le_refl _)).keep hb5 (Nat.le_refl _))
    have HFX := hide (hfx.keep hb5 (Nat.le_refl _))
    have HQ5 := hide hq5
    have HE5 := hide hw5
    unfold Rw.val
    clear hb4 hd hfx hb5 hq5 hw5 HD
    go_wp2_with fail
    rw [← HE5.out]
    refine Pl.region_is (ops := Pl.find 9 ((Try.f3.body).getD .skip)) (by kernel_rfl) ?_
    refine codes9 w5 w5 w.heap.size A a len cap HX5.out (HFA.out.keep HW5.out (Nat.le_refl _)) HFit.out (by omega) HMM.out pa pc HC5.out w4.heap.size xa xl xc HQ5.out HFX.out (Below.refl _ _) (by rfl) (by rfl) (by rfl) (by rfl) (by rfl) (by rfl) (by rfl) ?_
    intro u w6 hb6
    simp only [Act.put, List.setIfInBounds_toArray, List.set_cons_zero, List.set_cons_succ]
    have HW6 := hide (rBelow HW5.out hb6)
    clear hb6
    go_wp2_with fail
    go_ret
    exact ⟨rfl, HW6.out⟩

end Go.Proofs.Ytgckcalkdojeeaa
