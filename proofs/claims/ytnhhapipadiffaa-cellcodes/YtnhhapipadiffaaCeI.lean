/-
  The law of cells' pages: its walk, over the contracts.
-/
import Derived.Test.YtnhhapipadiffaaCeG
namespace Go.Proofs.Ytnhhapipadiffaa
open Go.RowKit
set_option linter.unusedVariables false

theorem enters12 : ∀ args w, (callFunc 12 args).run Try.prog w = .ok (.enter 12 args) w := Pl.enters Try.func12 (by kernel_rfl) (by kernel_rfl)

theorem enters7 : ∀ args w, (callFunc 7 args).run Try.prog w = .ok (.enter 7 args) w := Pl.enters Try.func7 (by kernel_rfl) (by kernel_rfl)


set_option maxHeartbeats 2000000 in
set_option maxRecDepth 100000 in
theorem cdc12 (HA : ∀ w, Calls Try.prog 7 #[] w fun e w' => e = .returned (.bool true) ∧ Below w.heap.size w w') (w0 w : World) (a : Option Addr) (cap : Nat) (l : List Ux) (hu : Us w0 a 6 l) (hm : MayC (uns l) = true) (ya : Option Addr) (yc : Nat) (hy : Came w0 ya 512 yc (pageC (uns l))) (sa : Option Addr) (sc : Nat) (m : List Ux) (hv : Us w0 sa 6 m) (he : uns m = uns l) (hW : Below w0.heap.size w0 w)
    {Q : Exit → Act → World → Prop} {A : Act} (hsz : A.tmps.size = 76) (hdf : A.defers = []) (s0 : A.tmps.getD 0 undef = .slice a 6 cap) (s4 : A.tmps.getD 4 undef = .slice ya 512 yc) (s5 : A.tmps.getD 5 undef = .int .i64 0) (s6 : A.tmps.getD 6 undef = .slice sa 6 sc) (s7 : A.tmps.getD 7 undef = .int .i64 0)
    (hend : ∀ (u : Nat → Value) w', Below w0.heap.size w0 w' → Q .normal ((((((((((((((((((((((((A).put (some 54) (u 54)).put (some 55) (u 55)).put (some 56) (u 56)).put (some 57) (u 57)).put (some 58) (u 58)).put (some 59) (u 59)).put (some 60) (u 60)).put (some 61) (u 61)).put (some 62) (u 62)).put (some 63) (u 63)).put (some 64) (u 64)).put (some 65) (u 65)).put (some 66) (u 66)).put (some 67) (u 67)).put (some 68) (u 68)).put (some 69) (u 69)).put (some 70) (u 70)).put (some 71) (u 71)).put (some 72) (u 72)).put (some 73) (u 73)).put (some 74) (u 74)).put (some 75) (u 75)).put (some 2) (.bool true)) w') :
    (Code.region 12 (Pl.find 12 ((Try.f3.body).getD .skip)) true).wp Try.prog Q A w := by
  have hS0 : Below w0.heap.size w0 w.drew := hW.drew
  have hA := Pl.At.same (v := .int .i64 0) (d := 7) (Pl.At.same (v := .slice sa 6 sc) (d := 6) (Pl.At.same (v := .int .i64 0) (d := 5) (Pl.At.same (v := .slice ya 512 yc) (d := 4) (Pl.At.same (v := .slice a 6 cap) (d := 0) (Pl.At.here hsz hdf) s0) s4) s5) s6) s7
  refine Pl.H.start (S := fun w' => Below w0.heap.size w0 w') (by kernel_rfl) hA hS0 ?_
  rw [show (Pl.find 12 ((Try.f3.body).getD .skip)).size = 23 by kernel_rfl]
  refine Pl.H.take 0 54 (.int .i64 0) (by kernel_rfl) (by kernel_rfl) (by kernel_rfl) (Pl.free 0 (by kernel_rfl)) (Pl.move 0 (.tmp 5) (by kernel_rfl) (by decide)) hS0 ?_
  refine Pl.H.take 1 55 (.bool true) (by kernel_rfl) (by kernel_rfl) (by kernel_rfl) (Pl.free 1 (by kernel_rfl)) (Pl.eqlSame 1 33 33 (.tmp 54) (.const (.int .i64 0)) _ _ (by kernel_rfl) (by decide) (by decide) rfl rfl) hS0 ?_
  refine Pl.H.take 2 56 (.bool true) (by kernel_rfl) (by kernel_rfl) (by kernel_rfl) (Pl.free 2 (by kernel_rfl)) (Pl.move 2 (.tmp 55) (by kernel_rfl) (by decide)) hS0 ?_
  refine Pl.H.take 3 57 (.slice ya 512 yc) (by kernel_rfl) (by kernel_rfl) (by kernel_rfl) (Pl.guarded 3 2 56 true (by kernel_rfl) (by kernel_rfl) (by decide) rfl) (Pl.move 3 (.tmp 4) (by kernel_rfl) (by decide)) hS0 ?_
  refine Pl.H.take 4 58 (.string (bstr (pageC (uns l)))) (by kernel_rfl) (by kernel_rfl) (by kernel_rfl) (Pl.guarded 4 2 56 true (by kernel_rfl) (by kernel_rfl) (by decide) rfl) (Pl.convV 4 32 9 (.tmp 57) (.slice ya 512 yc) _ (by kernel_rfl) (by decide) rfl (fun w' hS => run_string_of yc (hy.bs.keep hS (Nat.le_refl _)))) hS0 ?_
  refine Pl.H.take 5 59 (.slice a 6 cap) (by kernel_rfl) (by kernel_rfl) (by kernel_rfl) (Pl.guarded 5 2 56 true (by kernel_rfl) (by kernel_rfl) (by decide) rfl) (Pl.move 5 (.tmp 0) (by kernel_rfl) (by decide)) hS0 ?_
  refine Pl.H.call 6 60 11 [(.tmp 59)] #[22] (by kernel_rfl) (by kernel_rfl) (by kernel_rfl) (Pl.guarded 6 2 56 true (by kernel_rfl) (by kernel_rfl) (by decide) rfl) (by kernel_rfl) (by decide) enters11 (Calls.mono (refPageC_any a cap l w.drew (hu.keep hS0 (Nat.le_refl _)) hm) ?_)
  rintro e w1 ⟨v1, rfl, ho1, hb1⟩
  have hS1 : Below w0.heap.size w0 w1 := rBelow' hS0 hb1
  obtain ⟨ba, be, rfl, hbs1, _⟩ := ho1.bs (pageC_bytes hm)
  refine ⟨.slice ba (pageC (uns l)).length be, rfl, hS1, ?_⟩
  refine Pl.H.make 7 61 (.string (bstr (pageC (uns l)))) w1 (by kernel_rfl) (by kernel_rfl) (by kernel_rfl) (Pl.guarded 7 2 56 true (by kernel_rfl) (by kernel_rfl) (by decide) rfl) (Pl.conv1 7 32 9 (.tmp 60) _ (by kernel_rfl) (by decide) (run_string_of be hbs1)) hS1 ?_
  refine Pl.H.take 8 62 (.bool true) (by kernel_rfl) (by kernel_rfl) (by kernel_rfl) (Pl.guarded 8 2 56 true (by kernel_rfl) (by kernel_rfl) (by decide) rfl) (Pl.eqlStr 8 9 9 (.tmp 58) (.tmp 61) _ (by kernel_rfl) (by decide) (by decide) rfl rfl) hS1 ?_
  refine Pl.H.take 9 63 (.bool true) (by kernel_rfl) (by kernel_rfl) (by kernel_rfl) (Pl.free 9 (by kernel_rfl)) (Pl.pick 9 (.tmp 56) (.tmp 62) (.const (.bool false)) (by kernel_rfl) (by decide) (by decide) rfl) hS1 ?_
  refine Pl.H.take 10 64 (.bool true) (by kernel_rfl) (by kernel_rfl) (by kernel_rfl) (Pl.free 10 (by kernel_rfl)) (Pl.move 10 (.tmp 63) (by kernel_rfl) (by decide)) hS1 ?_
  refine Pl.H.take 11 65 (.int .i64 0) (by kernel_rfl) (by kernel_rfl) (by kernel_rfl) (Pl.guarded 11 10 64 true (by kernel_rfl) (by kernel_rfl) (by decide) rfl) (Pl.move 11 (.tmp 7) (by kernel_rfl) (by decide)) hS1 ?_
  refine Pl.H.take 12 66 (.bool true) (by kernel_rfl) (by kernel_rfl) (by kernel_rfl) (Pl.guarded 12 10 64 true (by kernel_rfl) (by kernel_rfl) (by decide) rfl) (Pl.eqlSame 12 33 33 (.tmp 65) (.const (.int .i64 0)) _ _ (by kernel_rfl) (by decide) (by decide) rfl rfl) hS1 ?_
  refine Pl.H.take 13 67 (.bool true) (by kernel_rfl) (by kernel_rfl) (by kernel_rfl) (Pl.free 13 (by kernel_rfl)) (Pl.pick 13 (.tmp 64) (.tmp 66) (.const (.bool false)) (by kernel_rfl) (by decide) (by decide) rfl) hS1 ?_
  refine Pl.H.take 14 68 (.bool true) (by kernel_rfl) (by kernel_rfl) (by kernel_rfl) (Pl.free 14 (by kernel_rfl)) (Pl.move 14 (.tmp 67) (by kernel_rfl) (by decide)) hS1 ?_
  refine Pl.H.take 15 69 (.slice sa 6 sc) (by kernel_rfl) (by kernel_rfl) (by kernel_rfl) (Pl.guarded 15 14 68 true (by kernel_rfl) (by kernel_rfl) (by decide) rfl) (Pl.move 15 (.tmp 6) (by kernel_rfl) (by decide)) hS1 ?_
  refine Pl.H.take 16 70 (.slice a 6 cap) (by kernel_rfl) (by kernel_rfl) (by kernel_rfl) (Pl.guarded 16 14 68 true (by kernel_rfl) (by kernel_rfl) (by decide) rfl) (Pl.move 16 (.tmp 0) (by kernel_rfl) (by decide)) hS1 ?_
  refine Pl.H.call 17 71 12 [(.tmp 69), (.tmp 70)] #[22, 22] (by kernel_rfl) (by kernel_rfl) (by kernel_rfl) (Pl.guarded 17 14 68 true (by kernel_rfl) (by kernel_rfl) (by decide) rfl) (by kernel_rfl) (by decide) enters12 (Calls.mono (refListU_same sa 6 sc m a cap l w1 (hv.keep hS1 (Nat.le_refl _)) (hu.keep hS1 (Nat.le_refl _)) he (by decide)) ?_)
  rintro e w2 ⟨rfl, hb2⟩
  have hS2 : Below w0.heap.size w0 w2 := rBelow' hS1 hb2
  refine ⟨.bool true, rfl, hS2, ?_⟩
  refine Pl.H.take 18 72 (.bool true) (by kernel_rfl) (by kernel_rfl) (by kernel_rfl) (Pl.free 18 (by kernel_rfl)) (Pl.pick 18 (.tmp 68) (.tmp 71) (.const (.bool false)) (by kernel_rfl) (by decide) (by decide) rfl) hS2 ?_
  refine Pl.H.take 19 73 (.bool true) (by kernel_rfl) (by kernel_rfl) (by kernel_rfl) (Pl.free 19 (by kernel_rfl)) (Pl.move 19 (.tmp 72) (by kernel_rfl) (by decide)) hS2 ?_
  refine Pl.H.call 20 74 7 [] #[] (by kernel_rfl) (by kernel_rfl) (by kernel_rfl) (Pl.guarded 20 19 73 true (by kernel_rfl) (by kernel_rfl) (by decide) rfl) (by kernel_rfl) (by decide) enters7 (Calls.mono (HA w2) ?_)
  rintro e w3 ⟨rfl, hb3⟩
  have hS3 : Below w0.heap.size w0 w3 := rBelow' hS2 hb3
  refine ⟨.bool true, rfl, hS3, ?_⟩
  refine Pl.H.take 21 75 (.bool true) (by kernel_rfl) (by kernel_rfl) (by kernel_rfl) (Pl.free 21 (by kernel_rfl)) (Pl.pick 21 (.tmp 73) (.tmp 74) (.const (.bool false)) (by kernel_rfl) (by decide) (by decide) rfl) hS3 ?_
  refine Pl.H.take 22 2 (.bool true) (by kernel_rfl) (by kernel_rfl) (by kernel_rfl) (Pl.free 22 (by kernel_rfl)) (Pl.assign 22 (.tmp 75) (by kernel_rfl) (by decide)) hS3 ?_
  refine Pl.H.done (by kernel_rfl) (fun A' hA' => ?_)
  rw [Pl.At.ext hA' (((((((((((((((((((((((hA.put 54 _).put 55 _).put 56 _).put 57 _).put 58 _).put 59 _).put 60 _).put 61 _).put 62 _).put 63 _).put 64 _).put 65 _).put 66 _).put 67 _).put 68 _).put 69 _).put 70 _).put 71 _).put 72 _).put 73 _).put 74 _).put 75 _).put 2 _)]
  exact hend (fun d => if d = 54 then .int .i64 0 else if d = 55 then .bool true else if d = 56 then .bool true else if d = 57 then .slice ya 512 yc else if d = 58 then .string (bstr (pageC (uns l))) else if d = 59 then .slice a 6 cap else if d = 60 then .slice ba (pageC (uns l)).length be else if d = 61 then .string (bstr (pageC (uns l))) else if d = 62 then .bool true else if d = 63 then .bool true else if d = 64 then .bool true else if d = 65 then .int .i64 0 else if d = 66 then .bool true else if d = 67 then .bool true else if d = 68 then .bool true else if d = 69 then .slice sa 6 sc else if d = 70 then .slice a 6 cap else if d = 71 then .bool true else if d = 72 then .bool true else if d = 73 then .bool true else if d = 74 then .bool true else if d = 75 then .bool true else undef) _ hS3

set_option maxHeartbeats 4000000 in
set_option maxRecDepth 100000 in
theorem codesC_walk (HEnc : EncC) (HDec : DecC) (HA : ∀ w, Calls Try.prog 7 #[] w fun e w' => e = .returned (.bool true) ∧ Below w.heap.size w w') (a : Option Addr) (len cap : Nat) (l : List Ux) (w : World) (h : Us w a len l) (hlen : len ≤ 9223372036854775807) :
    Calls Try.prog 3 #[.slice a len cap] w fun e w' => e = .returned (.bool true) ∧ Below w.heap.size w w' := by
  have H := hide h
  have HAW := hide HA
  have HEN := hide HEnc
  have HDE := hide HDec
  clear h HA HEnc HDec
  go_enter Try.func3, Try.ntmps3
  go_wp2_with fail
  go_loop [3] (fun i => ∃ k : Nat, k ≤ len ∧ k ≤ 9 ∧ i = .int .i64 k) (fun i => len - (intOf i).toNat)
  case atStart => exact ⟨0, by omega, by omega, rfl⟩
  case round =>
    obtain ⟨k, hk, hk9, rfl⟩ := hrel
    by_cases hgo : k < len ∧ k < 9
    · have j1 : ((k : Nat) : Int) < ((len : Nat) : Int) := by omega
      have j2 : ((k : Nat) : Int) < 9 := by omega
      obtain ⟨b, off, rfl, hat⟩ := H.out.at' k hgo.1
      have c8 := hat.c8
      obtain ⟨x, hxe⟩ : ∃ x, x = l.getD k Ux.zero := ⟨_, rfl⟩
      rw [← hxe] at c8
      have hxn : x.n ≤ 9223372036854775807 := by rw [hxe]; exact (H.out.cols _ (H.out.mem hgo.1)).big
      clear hat hxe
      by_cases h50 : 50 < x.n
      · have j3 : (50 : Int) < ((x.n : Nat) : Int) := by omega
        go_wp2_with fail
        refine (HAW.out _).mono ?_
        rintro e w' ⟨rfl, hb⟩
        have HB := hide hb
        clear hb
        go_wp2_with fail
        go_ret
        exact ⟨rfl, HB.out⟩
      · have j3 : ¬ (50 : Int) < ((x.n : Nat) : Int) := by omega
        go_wp2_with fail
        go_round
        case rel => exact ⟨k + 1, by omega, by omega, by go_num⟩
        case measure => simp only [intOf]; omega
    · by_cases h9 : 9 < len
      · have ek : k = 9 := by omega
        have j1 : ((k : Nat) : Int) < ((len : Nat) : Int) := by omega
        have j2 : ¬ ((k : Nat) : Int) < 9 := by omega
        have j3 : (9 : Int) < ((len : Nat) : Int) := by omega
        clear ek
        go_wp2_with fail
        refine (HAW.out _).mono ?_
        rintro e w' ⟨rfl, hb⟩
        have HB := hide hb
        clear hb
        go_wp2_with fail
        go_ret
        exact ⟨rfl, HB.out⟩
      · have ek : k = len := by omega
        have j1 : ¬ ((k : Nat) : Int) < ((len : Nat) : Int) := by omega
        have j3 : ¬ (9 : Int) < ((len : Nat) : Int) := by omega
        clear ek
        cases hm : MayC (uns l)
        · have HE := hide (encC_no HEN.out a len cap l w H.out (by omega) hm)
          have HM := hide (fun w' hb => mayCIs hm a len cap w' (H.out.keep (B := w.heap.size) hb (Nat.le_refl _)) hlen)
          clear hm
          go_wp2_with fail
          refine HE.out.mono ?_
          rintro e w1 ⟨rfl, hb1⟩
          have HW1 := hide hb1
          clear hb1 HE
          go_wp2_with fail
          refine (HM.out _ HW1.out).mono ?_
          rintro e w2 ⟨rfl, hb2⟩
          have HW2 := hide (rBelow HW1.out hb2)
          clear hb2
          go_wp2_with fail
          refine (HAW.out _).mono ?_
          rintro e w3 ⟨rfl, hb3⟩
          have HW3 := hide (rBelow HW2.out hb3)
          clear hb3
          go_wp2_with fail
          go_ret
          exact ⟨by simp, HW3.out⟩
        · have h6 : len = 6 := by rw [← H.out.len, ← uns_len]; exact (MayC.parts hm).2
          subst h6
          have HE := hide (encC_yes HEN.out a 6 cap l w H.out (by decide) hm)
          have HM := hide (fun w' hb => mayCIs hm a 6 cap w' (H.out.keep (B := w.heap.size) hb (Nat.le_refl _)) (by decide))
          have HMay := hide hm
          have HFits : Hid (∀ v ∈ uns l, v.fits) := fun v hv => by
            obtain ⟨y, hy, rfl⟩ := List.mem_map.1 hv
            exact H.out.fits y hy
          clear hm
          go_wp2_with fail
          refine HE.out.mono ?_
          rintro e w1 ⟨ya, yc, rfl, hb1, hy1⟩
          have HW1 := hide hb1
          have HY1 := hide hy1
          clear hb1 hy1 HE
          go_wp2_with fail
          refine (HM.out _ HW1.out).mono ?_
          rintro e w2 ⟨rfl, hb2⟩
          have HW2 := hide (rBelow HW1.out hb2)
          have HY2 := hide (HY1.out.keep hb2 (Nat.le_refl _))
          have HD := hide (decC_yes HDE.out ya yc (uns l) w2 HY2.out HMay.out HFits.out)
          clear hb2
          go_wp2_with fail
          refine HD.out.mono ?_
          rintro e w3 ⟨s, m, rfl, hb3, hu3, he3⟩
          obtain ⟨sa, sn, sc⟩ := s
          have HW3 := hide (rBelow HW2.out hb3)
          have HY3 := hide (HY2.out.keep hb3 (Nat.le_refl _))
          have HU3 := hide hu3
          have HE3 := hide he3
          clear hb3 hu3 he3 HD
          go_wp2_with fail
          refine Pl.region_is (ops := Pl.find 12 ((Try.f3.body).getD .skip)) (by kernel_rfl) ?_
          refine cdc12 HAW.out w3 w3 a cap l (H.out.keep HW3.out (Nat.le_refl _)) HMay.out ya yc HY3.out sa sc m HU3.out HE3.out (Below.refl _ _) (by rfl) (by rfl) (by rfl) (by rfl) (by rfl) (by rfl) (by rfl) ?_
          intro u w4 hb4
          simp only [Act.put, List.setIfInBounds_toArray, List.set_cons_zero, List.set_cons_succ]
          have HW4 := hide (rBelow HW3.out hb4)
          clear hb4
          go_wp2_with fail
          go_ret
          exact ⟨rfl, HW4.out⟩

end Go.Proofs.Ytnhhapipadiffaa
