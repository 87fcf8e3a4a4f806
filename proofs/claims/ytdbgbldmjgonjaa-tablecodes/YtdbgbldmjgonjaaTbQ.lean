/-
  The law of pages of tables, over what the functions say.
-/
import Derived.Test.YtdbgbldmjgonjaaTbP
namespace Go.Proofs.Ytdbgbldmjgonjaa
open Go.RowKit
set_option linter.unusedVariables false

theorem enters11 : ∀ args w, (callFunc 11 args).run Try.prog w = .ok (.enter 11 args) w := Pl.enters Try.func11 (by kernel_rfl) (by kernel_rfl)

theorem enters17 : ∀ args w, (callFunc 17 args).run Try.prog w = .ok (.enter 17 args) w := Pl.enters Try.func17 (by kernel_rfl) (by kernel_rfl)

theorem enters8 : ∀ args w, (callFunc 8 args).run Try.prog w = .ok (.enter 8 args) w := Pl.enters Try.func8 (by kernel_rfl) (by kernel_rfl)

theorem check_yes (HC : CheckTS) {t : Tb} (hm : t.May) (v : Sl) (w : World) (h : Es w v t.es) : Calls Try.prog 11 #[t.val v] w fun e w' => e = .returned (.int .i64 0) ∧ Below w.heap.size w w' := by
  have := HC t v w h (es_few h hm.len)
  rw [checkL_yes hm] at this
  exact this
theorem same_yes (t : Tb) (v s : Sl) (w : World) (h : Es w v t.es) (k : Es w s t.es) : Calls Try.prog 17 #[t.val v, t.val s] w fun e w' => e = .returned (.bool true) ∧ Below w.heap.size w w' := by
  have := rsameT_any t v t s w h k
  rw [sameT_self] at this
  exact this

set_option maxHeartbeats 2000000 in
set_option maxRecDepth 100000 in
theorem tcd7 (HC : CheckTS) (HA : AwakeT) (w0 w : World) (t : Tb) (hm : t.May) (v s : Sl) (p g : Nat) (hT : TbBlk w0 p t v) (hE : Es w0 v t.es) (hG : TbBlk w0 g t s) (hE2 : Es w0 s t.es) (ba : Option Addr) (bc : Nat) (hb : Bs w0 ba 512 (pageT t)) (hW : Below w0.heap.size w0 w)
    {Q : Exit → Act → World → Prop} {A : Act} (hsz : A.tmps.size = 83) (hdf : A.defers = []) (s1 : A.tmps.getD 1 undef = .pointer (some ⟨p, 0, none⟩)) (s3 : A.tmps.getD 3 undef = .slice ba 512 bc) (s4 : A.tmps.getD 4 undef = .int .i64 0) (s5 : A.tmps.getD 5 undef = .pointer (some ⟨g, 0, none⟩)) (s6 : A.tmps.getD 6 undef = .int .i64 0)
    (hend : ∀ (u : Nat → Value) w', Below w0.heap.size w0 w' → Q .normal (((((((((((((((((((((((((((((A).put (some 56) (u 56)).put (some 57) (u 57)).put (some 58) (u 58)).put (some 59) (u 59)).put (some 60) (u 60)).put (some 61) (u 61)).put (some 62) (u 62)).put (some 63) (u 63)).put (some 64) (u 64)).put (some 65) (u 65)).put (some 66) (u 66)).put (some 67) (u 67)).put (some 68) (u 68)).put (some 69) (u 69)).put (some 70) (u 70)).put (some 71) (u 71)).put (some 72) (u 72)).put (some 73) (u 73)).put (some 74) (u 74)).put (some 75) (u 75)).put (some 76) (u 76)).put (some 77) (u 77)).put (some 78) (u 78)).put (some 79) (u 79)).put (some 80) (u 80)).put (some 81) (u 81)).put (some 82) (u 82)).put (some 2) (.bool true)) w') :
    (Code.region 7 (Pl.find 7 ((Try.f3.body).getD .skip)) true).wp Try.prog Q A w := by
  have hS0 : Below w0.heap.size w0 w.drew := hW.drew
  have hA := Pl.At.same (v := .int .i64 0) (d := 6) (Pl.At.same (v := .pointer (some ⟨g, 0, none⟩)) (d := 5) (Pl.At.same (v := .int .i64 0) (d := 4) (Pl.At.same (v := .slice ba 512 bc) (d := 3) (Pl.At.same (v := .pointer (some ⟨p, 0, none⟩)) (d := 1) (Pl.At.here hsz hdf) s1) s3) s4) s5) s6
  refine Pl.H.start (S := fun w' => Below w0.heap.size w0 w') (by kernel_rfl) hA hS0 ?_
  rw [show (Pl.find 7 ((Try.f3.body).getD .skip)).size = 28 by kernel_rfl]
  refine Pl.H.take 0 56 (t.val v) (by kernel_rfl) (by kernel_rfl) (by kernel_rfl) (Pl.free 0 (by kernel_rfl)) (Pl.load 0 24 (.tmp 1) _ (by kernel_rfl) (by decide) (fun w' hS => load_tb p t v w' (hT.keep hS))) hS0 ?_
  refine Pl.H.call 1 57 11 [(.tmp 56)] #[24] (by kernel_rfl) (by kernel_rfl) (by kernel_rfl) (Pl.free 1 (by kernel_rfl)) (by kernel_rfl) (by decide) enters11 (Calls.mono (check_yes HC hm v w.drew (hE.keep hS0 (Nat.le_refl _))) ?_)
  rintro e w1 ⟨rfl, hb1⟩
  have hS1 : Below w0.heap.size w0 w1 := rBelowT hS0 hb1
  refine ⟨.int .i64 0, rfl, hS1, ?_⟩
  refine Pl.H.take 2 58 (.bool true) (by kernel_rfl) (by kernel_rfl) (by kernel_rfl) (Pl.free 2 (by kernel_rfl)) (Pl.binV 2 .eql 27 27 (.tmp 57) (.const (.int .i64 0)) (.int .i64 0) (.int .i64 0) _ (by kernel_rfl) (by decide) (by decide) rfl rfl (fun w => by simp [go_sem, eqGuard])) hS1 ?_
  refine Pl.H.take 3 59 (.bool true) (by kernel_rfl) (by kernel_rfl) (by kernel_rfl) (Pl.free 3 (by kernel_rfl)) (Pl.move 3 (.tmp 58) (by kernel_rfl) (by decide)) hS1 ?_
  refine Pl.H.take 4 60 (.int .i64 0) (by kernel_rfl) (by kernel_rfl) (by kernel_rfl) (Pl.guarded 4 3 59 true (by kernel_rfl) (by kernel_rfl) (by decide) rfl) (Pl.move 4 (.tmp 4) (by kernel_rfl) (by decide)) hS1 ?_
  refine Pl.H.take 5 61 (.bool true) (by kernel_rfl) (by kernel_rfl) (by kernel_rfl) (Pl.guarded 5 3 59 true (by kernel_rfl) (by kernel_rfl) (by decide) rfl) (Pl.binV 5 .eql 27 27 (.tmp 60) (.const (.int .i64 0)) (.int .i64 0) (.int .i64 0) _ (by kernel_rfl) (by decide) (by decide) rfl rfl (fun w => by simp [go_sem, eqGuard])) hS1 ?_
  refine Pl.H.take 6 62 (.bool true) (by kernel_rfl) (by kernel_rfl) (by kernel_rfl) (Pl.free 6 (by kernel_rfl)) (Pl.pick 6 (.tmp 59) (.tmp 61) (.const (.bool false)) (by kernel_rfl) (by decide) (by decide) rfl) hS1 ?_
  refine Pl.H.take 7 63 (.bool true) (by kernel_rfl) (by kernel_rfl) (by kernel_rfl) (Pl.free 7 (by kernel_rfl)) (Pl.move 7 (.tmp 62) (by kernel_rfl) (by decide)) hS1 ?_
  refine Pl.H.take 8 64 (.slice ba 512 bc) (by kernel_rfl) (by kernel_rfl) (by kernel_rfl) (Pl.guarded 8 7 63 true (by kernel_rfl) (by kernel_rfl) (by decide) rfl) (Pl.move 8 (.tmp 3) (by kernel_rfl) (by decide)) hS1 ?_
  refine Pl.H.take 9 65 (.string (bstr (pageT t))) (by kernel_rfl) (by kernel_rfl) (by kernel_rfl) (Pl.guarded 9 7 63 true (by kernel_rfl) (by kernel_rfl) (by decide) rfl) (Pl.convV 9 26 9 (.tmp 64) (.slice ba 512 bc) _ (by kernel_rfl) (by decide) rfl (fun w' hS => run_string_of bc (hb.keep hS (Nat.le_refl _)))) hS1 ?_
  refine Pl.H.take 10 66 (t.val v) (by kernel_rfl) (by kernel_rfl) (by kernel_rfl) (Pl.guarded 10 7 63 true (by kernel_rfl) (by kernel_rfl) (by decide) rfl) (Pl.load 10 24 (.tmp 1) _ (by kernel_rfl) (by decide) (fun w' hS => load_tb p t v w' (hT.keep hS))) hS1 ?_
  refine Pl.H.call 11 67 16 [(.tmp 66)] #[24] (by kernel_rfl) (by kernel_rfl) (by kernel_rfl) (Pl.guarded 11 7 63 true (by kernel_rfl) (by kernel_rfl) (by decide) rfl) (by kernel_rfl) (by decide) enters16 (Calls.mono (rpageT_any t v w1 (hE.keep hS1 (Nat.le_refl _)) hm) ?_)
  rintro e w2 ⟨v2, rfl, ho2, hb2⟩
  have hS2 : Below w0.heap.size w0 w2 := rBelowT hS1 hb2
  obtain ⟨qa, qe, rfl, hbs1, _⟩ := ho2.bs (sealed_bytes (bodyT_bytes hm))
  refine ⟨.slice qa (pageT t).length qe, rfl, hS2, ?_⟩
  refine Pl.H.make 12 68 (.string (bstr (pageT t))) w2 (by kernel_rfl) (by kernel_rfl) (by kernel_rfl) (Pl.guarded 12 7 63 true (by kernel_rfl) (by kernel_rfl) (by decide) rfl) (Pl.conv1 12 26 9 (.tmp 67) _ (by kernel_rfl) (by decide) (run_string_of qe hbs1)) hS2 ?_
  refine Pl.H.take 13 69 (.bool true) (by kernel_rfl) (by kernel_rfl) (by kernel_rfl) (Pl.guarded 13 7 63 true (by kernel_rfl) (by kernel_rfl) (by decide) rfl) (Pl.eqlStr 13 9 9 (.tmp 65) (.tmp 68) _ (by kernel_rfl) (by decide) (by decide) rfl rfl) hS2 ?_
  refine Pl.H.take 14 70 (.bool true) (by kernel_rfl) (by kernel_rfl) (by kernel_rfl) (Pl.free 14 (by kernel_rfl)) (Pl.pick 14 (.tmp 63) (.tmp 69) (.const (.bool false)) (by kernel_rfl) (by decide) (by decide) rfl) hS2 ?_
  refine Pl.H.take 15 71 (.bool true) (by kernel_rfl) (by kernel_rfl) (by kernel_rfl) (Pl.free 15 (by kernel_rfl)) (Pl.move 15 (.tmp 70) (by kernel_rfl) (by decide)) hS2 ?_
  refine Pl.H.take 16 72 (.int .i64 0) (by kernel_rfl) (by kernel_rfl) (by kernel_rfl) (Pl.guarded 16 15 71 true (by kernel_rfl) (by kernel_rfl) (by decide) rfl) (Pl.move 16 (.tmp 6) (by kernel_rfl) (by decide)) hS2 ?_
  refine Pl.H.take 17 73 (.bool true) (by kernel_rfl) (by kernel_rfl) (by kernel_rfl) (Pl.guarded 17 15 71 true (by kernel_rfl) (by kernel_rfl) (by decide) rfl) (Pl.binV 17 .eql 27 27 (.tmp 72) (.const (.int .i64 0)) (.int .i64 0) (.int .i64 0) _ (by kernel_rfl) (by decide) (by decide) rfl rfl (fun w => by simp [go_sem, eqGuard])) hS2 ?_
  refine Pl.H.take 18 74 (.bool true) (by kernel_rfl) (by kernel_rfl) (by kernel_rfl) (Pl.free 18 (by kernel_rfl)) (Pl.pick 18 (.tmp 71) (.tmp 73) (.const (.bool false)) (by kernel_rfl) (by decide) (by decide) rfl) hS2 ?_
  refine Pl.H.take 19 75 (.bool true) (by kernel_rfl) (by kernel_rfl) (by kernel_rfl) (Pl.free 19 (by kernel_rfl)) (Pl.move 19 (.tmp 74) (by kernel_rfl) (by decide)) hS2 ?_
  refine Pl.H.take 20 76 (t.val s) (by kernel_rfl) (by kernel_rfl) (by kernel_rfl) (Pl.guarded 20 19 75 true (by kernel_rfl) (by kernel_rfl) (by decide) rfl) (Pl.load 20 24 (.tmp 5) _ (by kernel_rfl) (by decide) (fun w' hS => load_tb g t s w' (hG.keep hS))) hS2 ?_
  refine Pl.H.take 21 77 (t.val v) (by kernel_rfl) (by kernel_rfl) (by kernel_rfl) (Pl.guarded 21 19 75 true (by kernel_rfl) (by kernel_rfl) (by decide) rfl) (Pl.load 21 24 (.tmp 1) _ (by kernel_rfl) (by decide) (fun w' hS => load_tb p t v w' (hT.keep hS))) hS2 ?_
  refine Pl.H.call 22 78 17 [(.tmp 76), (.tmp 77)] #[24, 24] (by kernel_rfl) (by kernel_rfl) (by kernel_rfl) (Pl.guarded 22 19 75 true (by kernel_rfl) (by kernel_rfl) (by decide) rfl) (by kernel_rfl) (by decide) enters17 (Calls.mono (same_yes t s v w2 (hE2.keep hS2 (Nat.le_refl _)) (hE.keep hS2 (Nat.le_refl _))) ?_)
  rintro e w3 ⟨rfl, hb3⟩
  have hS3 : Below w0.heap.size w0 w3 := rBelowT hS2 hb3
  refine ⟨.bool true, rfl, hS3, ?_⟩
  refine Pl.H.take 23 79 (.bool true) (by kernel_rfl) (by kernel_rfl) (by kernel_rfl) (Pl.free 23 (by kernel_rfl)) (Pl.pick 23 (.tmp 75) (.tmp 78) (.const (.bool false)) (by kernel_rfl) (by decide) (by decide) rfl) hS3 ?_
  refine Pl.H.take 24 80 (.bool true) (by kernel_rfl) (by kernel_rfl) (by kernel_rfl) (Pl.free 24 (by kernel_rfl)) (Pl.move 24 (.tmp 79) (by kernel_rfl) (by decide)) hS3 ?_
  refine Pl.H.call 25 81 8 [] #[] (by kernel_rfl) (by kernel_rfl) (by kernel_rfl) (Pl.guarded 25 24 80 true (by kernel_rfl) (by kernel_rfl) (by decide) rfl) (by kernel_rfl) (by decide) enters8 (Calls.mono (HA w3) ?_)
  rintro e w4 ⟨rfl, hb4⟩
  have hS4 : Below w0.heap.size w0 w4 := rBelowT hS3 hb4
  refine ⟨.bool true, rfl, hS4, ?_⟩
  refine Pl.H.take 26 82 (.bool true) (by kernel_rfl) (by kernel_rfl) (by kernel_rfl) (Pl.free 26 (by kernel_rfl)) (Pl.pick 26 (.tmp 80) (.tmp 81) (.const (.bool false)) (by kernel_rfl) (by decide) (by decide) rfl) hS4 ?_
  refine Pl.H.take 27 2 (.bool true) (by kernel_rfl) (by kernel_rfl) (by kernel_rfl) (Pl.free 27 (by kernel_rfl)) (Pl.assign 27 (.tmp 82) (by kernel_rfl) (by decide)) hS4 ?_
  refine Pl.H.done (by kernel_rfl) (fun A' hA' => ?_)
  rw [Pl.At.ext hA' ((((((((((((((((((((((((((((hA.put 56 _).put 57 _).put 58 _).put 59 _).put 60 _).put 61 _).put 62 _).put 63 _).put 64 _).put 65 _).put 66 _).put 67 _).put 68 _).put 69 _).put 70 _).put 71 _).put 72 _).put 73 _).put 74 _).put 75 _).put 76 _).put 77 _).put 78 _).put 79 _).put 80 _).put 81 _).put 82 _).put 2 _)]
  exact hend (fun d => if d = 56 then t.val v else if d = 57 then .int .i64 0 else if d = 58 then .bool true else if d = 59 then .bool true else if d = 60 then .int .i64 0 else if d = 61 then .bool true else if d = 62 then .bool true else if d = 63 then .bool true else if d = 64 then .slice ba 512 bc else if d = 65 then .string (bstr (pageT t)) else if d = 66 then t.val v else if d = 67 then .slice qa (pageT t).length qe else if d = 68 then .string (bstr (pageT t)) else if d = 69 then .bool true else if d = 70 then .bool true else if d = 71 then .bool true else if d = 72 then .int .i64 0 else if d = 73 then .bool true else if d = 74 then .bool true else if d = 75 then .bool true else if d = 76 then t.val s else if d = 77 then t.val v else if d = 78 then .bool true else if d = 79 then .bool true else if d = 80 then .bool true else if d = 81 then .bool true else if d = 82 then .bool true else undef) _ hS4

set_option maxHeartbeats 4000000 in
set_option maxRecDepth 100000 in
theorem codesT_walk (HF : FirstTS) (HC : CheckTS) (HEnc : EncTS) (HDec : DecTS) (HFi : FindTS) (HLi : LiveTS) (HEl : EldTS) (HA : AwakeT) (t : Tb) (v : Sl) (w : World) (h : Es w v t.es) :
    Calls Try.prog 3 #[t.val v] w fun e w' => e = .returned (.bool true) ∧ Below w.heap.size w w' := by
  have hb0 := below_box w t v
  have HB0 := hide hb0
  have HT := hide (TbBlk.new w t v)
  have HE := hide (h.keep hb0 (Nat.le_refl _))
  have hbig := h.big
  have HAW := hide HA
  clear h hb0
  obtain ⟨va, vl, vc⟩ := v
  simp only at hbig
  unfold Tb.val
  by_cases hl : 40 < vl
  case pos =>
    have i1 : (40 : Int) < ((vl : Nat) : Int) := by omega
    clear HE HT HA HF HC HEnc HDec HFi HLi HEl
    go_enter Try.func3, Try.ntmps3
    go_wp2_with fail
    refine (HAW.out _).mono ?_
    rintro e w1 ⟨rfl, hb1⟩
    have HB1 := hide (rBelow HB0.out hb1)
    clear hb1
    go_wp2_with fail
    go_ret
    exact ⟨by simp, HB1.out⟩
  have i1 : ¬ (40 : Int) < ((vl : Nat) : Int) := by omega
  have hvl : (⟨va, vl, vc⟩ : Sl).len ≤ 100 := by show vl ≤ 100; omega
  have HVL := hide hvl
  have HKS := hide (And.intro HF (And.intro HC (And.intro HEnc (And.intro HDec (And.intro HFi (And.intro HLi HEl))))))
  clear HF HC HEnc HDec HFi HLi HEl hvl HA
  go_enter Try.func3, Try.ntmps3
  simp only at HB0 HT HE
  generalize hW0 : w.alloc (.cells #[.int .i64 t.nx, .int .i64 t.no, .int .i64 t.cm, .slice va vl vc] 24) = W0 at *
  have c0 := (HT.out).c0
  have c1 := (HT.out).c1
  have c2 := (HT.out).c2
  have c3 := (HT.out).c3
  have HEn := hide (HKS.out.2.2.1 t ⟨va, vl, vc⟩ W0 HE.out HVL.out)
  go_wp2_with fail
  refine HEn.out.mono ?_
  rintro e w1 ⟨u1, rfl, hb1, hy1, hn1⟩
  have HB1 := hide (rBelow HB0.out hb1)
  have HT1 := hide (HT.out.keep hb1)
  have HE1 := hide (HE.out.keep hb1 (Nat.le_refl _))
  have HY1 := hide hy1
  have HN1 := hide hn1
  clear hb1 hy1 hn1 HEn c0 c1 c2 c3
  have c0 := (HT1.out).c0
  have c1 := (HT1.out).c1
  have c2 := (HT1.out).c2
  have c3 := (HT1.out).c3
  have HM := hide (rmayT_any t ⟨va, vl, vc⟩ w1 HE1.out)
  go_wp2_with fail
  refine HM.out.mono ?_
  rintro e w2 ⟨rfl, hb2⟩
  have HB2 := hide (rBelow HB1.out hb2)
  have HT2 := hide (HT1.out.keep hb2)
  have HE2 := hide (HE1.out.keep hb2 (Nat.le_refl _))
  clear HM c0 c1 c2 c3
  have c0 := (HT2.out).c0
  have c1 := (HT2.out).c1
  have c2 := (HT2.out).c2
  have c3 := (HT2.out).c3
  cases hm : mayB t with
  | false =>
    obtain ⟨ua, uc, hu⟩ := HN1.out hm
    subst hu
    have hck := HKS.out.2.1 t ⟨va, vl, vc⟩ w2 HE2.out HVL.out
    rw [checkL_no hm] at hck
    have HCk := hide hck
    rw [checkL_no hm]
    have HMF := hide hm
    clear hck hm hb2 HY1 HN1
    go_wp2_with fail
    refine HCk.out.mono ?_
    rintro e w3 ⟨rfl, hb3⟩
    have HB3 := hide (rBelow HB2.out hb3)
    have HT3 := hide (HT2.out.keep hb3)
    have HE3 := hide (HE2.out.keep hb3 (Nat.le_refl _))
    have hli := HKS.out.2.2.2.2.2.1 t ⟨va, vl, vc⟩ w3 HE3.out HVL.out
    rw [liveL_no HMF.out] at hli
    have HLi := hide hli
    clear hb3 HCk hli c0 c1 c2 c3
    have c0 := (HT3.out).c0
    have c1 := (HT3.out).c1
    have c2 := (HT3.out).c2
    have c3 := (HT3.out).c3
    go_wp2_with fail
    refine HLi.out.mono ?_
    rintro e w4 ⟨s4, rfl, ho4, hb4⟩
    obtain ⟨sa, sc, hs4, _, _, _⟩ := ho4.vs (kVals_oneT _)
    have hs4' : s4 = .slice sa 0 sc := hs4
    subst hs4'
    have HB4 := hide (rBelow HB3.out hb4)
    have HT4 := hide (HT3.out.keep hb4)
    have HE4 := hide (HE3.out.keep hb4 (Nat.le_refl _))
    have hel := HKS.out.2.2.2.2.2.2 t ⟨va, vl, vc⟩ w4 HE4.out HVL.out
    rw [eldestL_no HMF.out] at hel
    have HEl := hide hel
    clear hb4 HLi hel c0 c1 c2 c3 ho4 hs4
    have c0 := (HT4.out).c0
    have c1 := (HT4.out).c1
    have c2 := (HT4.out).c2
    have c3 := (HT4.out).c3
    go_wp2_with fail
    refine HEl.out.mono ?_
    rintro e w5 ⟨rfl, hb5⟩
    have HB5 := hide (rBelow HB4.out hb5)
    have HT5 := hide (HT4.out.keep hb5)
    have HE5 := hide (HE4.out.keep hb5 (Nat.le_refl _))
    have hfi := HKS.out.2.2.2.2.1 t ⟨va, vl, vc⟩ 1 w5 HE5.out HVL.out
    rw [findL_no HMF.out] at hfi
    have HFi := hide hfi
    clear hb5 HEl hfi c0 c1 c2 c3
    have c0 := (HT5.out).c0
    have c1 := (HT5.out).c1
    have c2 := (HT5.out).c2
    have c3 := (HT5.out).c3
    go_wp2_with fail
    refine HFi.out.mono ?_
    rintro e w6 ⟨rfl, hb6⟩
    have HB6 := hide (rBelow HB5.out hb6)
    clear hb6 HFi c0 c1 c2 c3
    go_wp2_with fail
    refine (HAW.out _).mono ?_
    rintro e w7 ⟨rfl, hb7⟩
    have HB7 := hide (rBelow HB6.out hb7)
    clear hb7
    go_wp2_with fail
    go_ret
    exact ⟨by simp, HB7.out⟩
  | true =>
    have hmay := mayB_iff.1 hm
    obtain ⟨ba, bc, hu, hcm⟩ := (HY1.out hm).cameT (sealed_bytes (bodyT_bytes hmay)) (pageT_len hmay.len) (by decide)
    subst hu
    have hcm2 := cameT_keep hcm hb2 (Nat.le_refl _)
    have HCM2 := hide hcm2
    have hdc := HKS.out.2.2.2.1 ba 512 bc (pageT t) w2 hcm2 (by decide)
    rw [decT_page hmay] at hdc
    have HDc := hide hdc
    have HMY := hide hmay
    rw [checkL_yes hmay]
    clear hb2 hm hmay hcm hcm2 hdc HN1 HY1
    go_wp2_with fail
    refine HDc.out.mono ?_
    rintro e w3 ⟨s3, rfl, he3, hb3⟩
    obtain ⟨W4, hst4, hbk4, hb4, hsz4⟩ := boxT w3 t s3
    have HST4 := hide hst4
    have HB4 := hide (rBelow (rBelow HB2.out hb3) hb4)
    have HT4 := hide ((HT2.out.keep hb3).keep hb4)
    have HE4 := hide ((HE2.out.keep hb3 (Nat.le_refl _)).keep hb4 (Nat.le_refl _))
    have HG4 := hide hbk4
    have HS4 := hide (he3.keep hb4 (Nat.le_refl _))
    have HBs := hide ((HCM2.out.bs.keep hb3 (Nat.le_refl _)).keep hb4 (Nat.le_refl _))
    clear hst4 hbk4 hb4 hsz4 he3 hb3 HDc c0 c1 c2 c3
    simp only
    go_wp2_with (refine wpList_store _ rfl rfl 24 (.tmp 5) (.tmp 54) rfl (.pointer (some ⟨w3.heap.size, 0, none⟩)) (t.val s3) rfl rfl W4 HST4.out ?_)
    refine Pl.region_is (ops := Pl.find 7 ((Try.f3.body).getD .skip)) (by kernel_rfl) ?_
    refine tcd7 HKS.out.2.1 HAW.out W4 W4 t HMY.out ⟨va, vl, vc⟩ s3 w.heap.size w3.heap.size HT4.out HE4.out HG4.out HS4.out ba bc HBs.out (Below.refl _ _) (by rfl) (by rfl) (by rfl) (by rfl) (by rfl) (by rfl) (by rfl) ?_
    intro u5 w5 hb5
    simp only [Act.put, List.setIfInBounds_toArray, List.set_cons_zero, List.set_cons_succ]
    have HB5 := hide (rBelow HB4.out hb5)
    clear hb5
    go_wp2_with fail
    go_ret
    exact ⟨by simp, HB5.out⟩

end Go.Proofs.Ytdbgbldmjgonjaa
