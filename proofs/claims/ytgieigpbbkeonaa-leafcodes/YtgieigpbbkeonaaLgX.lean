/-
  Layer 8: the law LeafCodes.
-/
import Derived.Test.YtgieigpbbkeonaaLgL
import Derived.Test.YtgieigpbbkeonaaLgS
import Derived.Test.YtgieigpbbkeonaaLgW
namespace Go.Proofs.Ytgieigpbbkeonaa
open Go.ChangeShapes Go.WideShapes Go.ChangeAt Go.RowKit

theorem ldLf8 (p : Nat) (u v : Sl) (w : World) (k : LfBlk w p u.val v.val) : (Instr.loadAt 25 (.pointer (some ⟨p, 0, none⟩))).run Try.prog w = .ok (lfV u v) w := by
  have c0 := k.c0
  have c1 := k.c1
  obtain ⟨a, len, cap⟩ := u
  obtain ⟨a2, len2, cap2⟩ := v
  unfold lfV Sl.val at *
  simp [go_sem, Instr.loadAt, c0, c1]
theorem entCheck : ∀ args w, (callFunc 12 args).run Try.prog w = .ok (.enter 12 args) w := Pl.enters Try.func12 (by kernel_rfl) (by kernel_rfl)
theorem entRoom : ∀ args w, (callFunc 13 args).run Try.prog w = .ok (.enter 13 args) w := Pl.enters Try.func13 (by kernel_rfl) (by kernel_rfl)
theorem entNeed : ∀ args w, (callFunc 15 args).run Try.prog w = .ok (.enter 15 args) w := Pl.enters Try.func15 (by kernel_rfl) (by kernel_rfl)
theorem entPage : ∀ args w, (callFunc 16 args).run Try.prog w = .ok (.enter 16 args) w := Pl.enters Try.func16 (by kernel_rfl) (by kernel_rfl)
theorem entSame : ∀ args w, (callFunc 17 args).run Try.prog w = .ok (.enter 17 args) w := Pl.enters Try.func17 (by kernel_rfl) (by kernel_rfl)
theorem entAwake : ∀ args w, (callFunc 9 args).run Try.prog w = .ok (.enter 9 args) w := Pl.enters Try.func9 (by kernel_rfl) (by kernel_rfl)
theorem page_nul (t : List Int) (s : List (List Nat)) : nul (pageL t s) = false := by
  have h4 : (pageL t s).getD 4 0 = 76 := by
    unfold pageL text508 itemsL headL
    rw [List.cons_append, putB_cons, itB_bytes (by decide)]
    rfl
  refine nul_no (i := 4) ?_ (by rw [h4]; decide)
  rcases Nat.lt_or_ge 4 (pageL t s).length with h | h
  · exact h
  · simp [List.getD, h] at h4
theorem page_drop (t : List Int) (s : List (List Nat)) : (pageL t s).drop 4 = text508 t s := (sealed_page (page_sealed t s)).2 rfl
theorem page_len {t : List Int} {s : List (List Nat)} (h : OkL t s) : (pageL t s).length = 512 := by
  unfold pageL
  rw [List.length_append, h.len]
  rfl
theorem page_bytes {t : List Int} {s : List (List Nat)} (h : OkL t s) : Bytes (pageL t s) := sealed_bytes h.bytes
theorem decode_page (w : World) (a : Option Addr) (cap : Nat) {t : List Int} {s : List (List Nat)} (hok : OkL t s) (h : Came w a 512 cap (pageL t s)) :
    Calls Try.prog 14 #[.slice a 512 cap] w fun e w' => Told w t s (mk2 0) e w' := by
  refine (decode_says w a cap _ h).mono ?_
  have hgot : Got ((pageL t s).drop 4) t s := ⟨hok, page_drop t s⟩
  rintro e w' (⟨h1, _⟩ | ⟨_, h1, _⟩ | ⟨_, _, ⟨t', s', hg, ht⟩ | ⟨hn, _⟩⟩)
  · rw [page_nul] at h1; cases h1
  · exact absurd (page_sealed t s) h1
  · obtain ⟨rfl, rfl⟩ := hg.one hgot
    exact ht
  · exact absurd ⟨t, s, hgot⟩ hn

set_option maxHeartbeats 2000000 in
set_option maxRecDepth 100000 in
theorem codes7 {D E : Nat → Prop} (w : World) (g1 g5 : Nat) (u v u5 v5 : Sl) (t : List Int) (l l5 : List Sb) (pa : Option Addr) (pc : Nat) (hi : Gi D w u t) (hg : Gb D w v l) (hok : OkL t (bss l)) (hi5 : Gi E w u5 t) (hg5 : Gb E w v5 l5) (hbs : bss l5 = bss l) (hk1 : LfBlk w g1 u.val v.val) (hk5 : LfBlk w g5 u5.val v5.val) (hp : Bs w pa 512 (pageL t (bss l)))
    {Q : Exit → Act → World → Prop} {A : Act} (hsz : A.tmps.size = 79) (hdf : A.defers = []) (s1 : A.tmps.getD 1 undef = .pointer (some ⟨g1, 0, none⟩)) (s3 : A.tmps.getD 3 undef = .slice pa 512 pc) (s4 : A.tmps.getD 4 undef = .int .i64 0) (s5 : A.tmps.getD 5 undef = .pointer (some ⟨g5, 0, none⟩)) (s6 : A.tmps.getD 6 undef = .int .i64 0)
    (hend : ∀ (u : Nat → Value) w', Below w.heap.size w w' → Q .normal (((((((((((((((((((((((((((((((((((((A).put (some 44) (u 44)).put (some 45) (u 45)).put (some 46) (u 46)).put (some 47) (u 47)).put (some 48) (u 48)).put (some 50) (u 50)).put (some 49) (u 49)).put (some 51) (u 51)).put (some 52) (u 52)).put (some 53) (u 53)).put (some 54) (u 54)).put (some 55) (u 55)).put (some 56) (u 56)).put (some 57) (u 57)).put (some 58) (u 58)).put (some 59) (u 59)).put (some 60) (u 60)).put (some 61) (u 61)).put (some 62) (u 62)).put (some 63) (u 63)).put (some 64) (u 64)).put (some 65) (u 65)).put (some 66) (u 66)).put (some 67) (u 67)).put (some 68) (u 68)).put (some 69) (u 69)).put (some 70) (u 70)).put (some 71) (u 71)).put (some 72) (u 72)).put (some 73) (u 73)).put (some 74) (u 74)).put (some 75) (u 75)).put (some 76) (u 76)).put (some 77) (u 77)).put (some 78) (u 78)).put (some 2) (.bool true)) w') :
    (Code.region 7 (Pl.find 7 ((Try.f3.body).getD .skip)) true).wp Try.prog Q A w := by
  have hn508 : need (bss l) ≤ 508 := hok.may.need
  have hA := Pl.At.same (v := .int .i64 0) (d := 6) (Pl.At.same (v := .pointer (some ⟨g5, 0, none⟩)) (d := 5) (Pl.At.same (v := .int .i64 0) (d := 4) (Pl.At.same (v := .slice pa 512 pc) (d := 3) (Pl.At.same (v := .pointer (some ⟨g1, 0, none⟩)) (d := 1) (Pl.At.here hsz hdf) s1) s3) s4) s5) s6
  refine Pl.H.start (S := (fun w' => Below w.heap.size w w')) (by kernel_rfl) hA (below_drew w) ?_
  rw [show (Pl.find 7 ((Try.f3.body).getD .skip)).size = 36 by kernel_rfl]
  refine Pl.H.take 0 44 (lfV u v) (by kernel_rfl) (by kernel_rfl) (by kernel_rfl) (Pl.free 0 (by kernel_rfl)) (Pl.load 0 25 (.tmp 1) _ (by kernel_rfl) (by decide) (fun w' hS => ldLf8 g1 u v w' (hk1.below hS))) (below_drew w) ?_
  refine Pl.H.call 1 45 12 [(.tmp 44)] #[25] (by kernel_rfl) (by kernel_rfl) (by kernel_rfl) (Pl.free 1 (by kernel_rfl)) (by kernel_rfl) (by decide) entCheck (Calls.mono (check_yes w.drew u v t l (hi.below (below_drew w) (Nat.le_refl _)) (hg.below (below_drew w) (Nat.le_refl _)) hok.may) ?_)
  rintro e w1 ⟨rfl, hb1⟩
  have e1 := rBelow (below_drew w) hb1
  refine ⟨.int .i64 0, rfl, e1, ?_⟩
  refine Pl.H.take 2 46 (.bool true) (by kernel_rfl) (by kernel_rfl) (by kernel_rfl) (Pl.free 2 (by kernel_rfl)) (Pl.eqlSame 2 29 29 (.tmp 45) (.const (.int .i64 0)) _ _ (by kernel_rfl) (by decide) (by decide) rfl rfl) e1 ?_
  refine Pl.H.take 3 47 (.bool true) (by kernel_rfl) (by kernel_rfl) (by kernel_rfl) (Pl.free 3 (by kernel_rfl)) (Pl.move 3 (.tmp 46) (by kernel_rfl) (by decide)) e1 ?_
  refine Pl.H.take 4 48 (lfV u v) (by kernel_rfl) (by kernel_rfl) (by kernel_rfl) (Pl.guarded 4 3 47 true (by kernel_rfl) (by kernel_rfl) (by decide) rfl) (Pl.load 4 25 (.tmp 1) _ (by kernel_rfl) (by decide) (fun w' hS => ldLf8 g1 u v w' (hk1.below hS))) e1 ?_
  refine Pl.H.take 6 50 (lfV u v) (by kernel_rfl) (by kernel_rfl) (by kernel_rfl) (Pl.guarded 6 3 47 true (by kernel_rfl) (by kernel_rfl) (by decide) rfl) (Pl.load 6 25 (.tmp 1) _ (by kernel_rfl) (by decide) (fun w' hS => ldLf8 g1 u v w' (hk1.below hS))) e1 ?_
  refine Pl.H.call 5 49 13 [(.tmp 48)] #[25] (by kernel_rfl) (by kernel_rfl) (by kernel_rfl) (Pl.guarded 5 3 47 true (by kernel_rfl) (by kernel_rfl) (by decide) rfl) (by kernel_rfl) (by decide) entRoom (Calls.mono (room_yes w1 u v t l (hi.below e1 (Nat.le_refl _)) (hg.below e1 (Nat.le_refl _)) hok.may) ?_)
  rintro e w5 ⟨rfl, hb5⟩
  have e5 := rBelow e1 hb5
  refine ⟨.int .i64 (508 - ((need (bss l) : Nat) : Int)), rfl, e5, ?_⟩
  refine Pl.H.call 7 51 15 [(.tmp 50)] #[25] (by kernel_rfl) (by kernel_rfl) (by kernel_rfl) (Pl.guarded 7 3 47 true (by kernel_rfl) (by kernel_rfl) (by decide) rfl) (by kernel_rfl) (by decide) entNeed (Calls.mono (rneed_any w5 u v l (hg.below e5 (Nat.le_refl _))) ?_)
  rintro e w7 ⟨rfl, hb7⟩
  have e7 := rBelow e5 hb7
  refine ⟨.int .i64 ((need (bss l) : Nat) : Int), rfl, e7, ?_⟩
  refine Pl.H.take 8 52 (.int .i64 (508 - ((need (bss l) : Nat) : Int))) (by kernel_rfl) (by kernel_rfl) (by kernel_rfl) (Pl.guarded 8 3 47 true (by kernel_rfl) (by kernel_rfl) (by decide) rfl) (Pl.binV 8 .sub 3 3 (.const (.int .i64 508)) (.tmp 51) (.int .i64 508) (.int .i64 ((need (bss l) : Nat) : Int)) _ (by kernel_rfl) (by decide) (by decide) rfl rfl (fun w => sub_int 508 ((need (bss l) : Nat) : Int) _ _ (by omega) (by omega) w)) e7 ?_
  refine Pl.H.take 9 53 (.bool true) (by kernel_rfl) (by kernel_rfl) (by kernel_rfl) (Pl.guarded 9 3 47 true (by kernel_rfl) (by kernel_rfl) (by decide) rfl) (Pl.eqlSame 9 3 3 (.tmp 49) (.tmp 52) _ _ (by kernel_rfl) (by decide) (by decide) rfl rfl) e7 ?_
  refine Pl.H.take 10 54 (.bool true) (by kernel_rfl) (by kernel_rfl) (by kernel_rfl) (Pl.free 10 (by kernel_rfl)) (Pl.pick 10 (.tmp 47) (.tmp 53) (.const (.bool false)) (by kernel_rfl) (by decide) (by decide) rfl) e7 ?_
  refine Pl.H.take 11 55 (.bool true) (by kernel_rfl) (by kernel_rfl) (by kernel_rfl) (Pl.free 11 (by kernel_rfl)) (Pl.move 11 (.tmp 54) (by kernel_rfl) (by decide)) e7 ?_
  refine Pl.H.take 12 56 (.int .i64 0) (by kernel_rfl) (by kernel_rfl) (by kernel_rfl) (Pl.guarded 12 11 55 true (by kernel_rfl) (by kernel_rfl) (by decide) rfl) (Pl.move 12 (.tmp 4) (by kernel_rfl) (by decide)) e7 ?_
  refine Pl.H.take 13 57 (.bool true) (by kernel_rfl) (by kernel_rfl) (by kernel_rfl) (Pl.guarded 13 11 55 true (by kernel_rfl) (by kernel_rfl) (by decide) rfl) (Pl.eqlSame 13 29 29 (.tmp 56) (.const (.int .i64 0)) _ _ (by kernel_rfl) (by decide) (by decide) rfl rfl) e7 ?_
  refine Pl.H.take 14 58 (.bool true) (by kernel_rfl) (by kernel_rfl) (by kernel_rfl) (Pl.free 14 (by kernel_rfl)) (Pl.pick 14 (.tmp 55) (.tmp 57) (.const (.bool false)) (by kernel_rfl) (by decide) (by decide) rfl) e7 ?_
  refine Pl.H.take 15 59 (.bool true) (by kernel_rfl) (by kernel_rfl) (by kernel_rfl) (Pl.free 15 (by kernel_rfl)) (Pl.move 15 (.tmp 58) (by kernel_rfl) (by decide)) e7 ?_
  refine Pl.H.take 16 60 (.slice pa 512 pc) (by kernel_rfl) (by kernel_rfl) (by kernel_rfl) (Pl.guarded 16 15 59 true (by kernel_rfl) (by kernel_rfl) (by decide) rfl) (Pl.move 16 (.tmp 3) (by kernel_rfl) (by decide)) e7 ?_
  refine Pl.H.take 17 61 (.string (bstr (pageL t (bss l)))) (by kernel_rfl) (by kernel_rfl) (by kernel_rfl) (Pl.guarded 17 15 59 true (by kernel_rfl) (by kernel_rfl) (by decide) rfl) (Pl.convV 17 28 9 (.tmp 60) (.slice pa 512 pc) _ (by kernel_rfl) (by decide) rfl (fun w' hS => run_string_of pc (hp.keep hS (Nat.le_refl _)))) e7 ?_
  refine Pl.H.take 18 62 (lfV u v) (by kernel_rfl) (by kernel_rfl) (by kernel_rfl) (Pl.guarded 18 15 59 true (by kernel_rfl) (by kernel_rfl) (by decide) rfl) (Pl.load 18 25 (.tmp 1) _ (by kernel_rfl) (by decide) (fun w' hS => ldLf8 g1 u v w' (hk1.below hS))) e7 ?_
  refine Pl.H.call 19 63 16 [(.tmp 62)] #[25] (by kernel_rfl) (by kernel_rfl) (by kernel_rfl) (Pl.guarded 19 15 59 true (by kernel_rfl) (by kernel_rfl) (by decide) rfl) (by kernel_rfl) (by decide) entPage (Calls.mono (rpage_any w7 u v t l (hi.below e7 (Nat.le_refl _)) (hg.below e7 (Nat.le_refl _)) hok) ?_)
  rintro e w19 ⟨x2, rfl, ho2, hb19⟩
  have e19 := rBelow e7 hb19
  obtain ⟨pa2, pc2, rfl, hcm2⟩ := ho2.came8 (page_bytes hok) (page_len hok) (by decide)
  have hp2 := hcm2.bs
  refine ⟨.slice pa2 512 pc2, rfl, e19, ?_⟩
  refine Pl.H.make 20 64 (.string (bstr (pageL t (bss l)))) w19 (by kernel_rfl) (by kernel_rfl) (by kernel_rfl) (Pl.guarded 20 15 59 true (by kernel_rfl) (by kernel_rfl) (by decide) rfl) (Pl.convM 20 28 9 (.tmp 63) _ _ (by kernel_rfl) (by decide) (run_string_of pc2 hp2)) e19 ?_
  refine Pl.H.take 21 65 (.bool true) (by kernel_rfl) (by kernel_rfl) (by kernel_rfl) (Pl.guarded 21 15 59 true (by kernel_rfl) (by kernel_rfl) (by decide) rfl) (Pl.eqlStr 21 9 9 (.tmp 61) (.tmp 64) _ (by kernel_rfl) (by decide) (by decide) rfl rfl) e19 ?_
  refine Pl.H.take 22 66 (.bool true) (by kernel_rfl) (by kernel_rfl) (by kernel_rfl) (Pl.free 22 (by kernel_rfl)) (Pl.pick 22 (.tmp 59) (.tmp 65) (.const (.bool false)) (by kernel_rfl) (by decide) (by decide) rfl) e19 ?_
  refine Pl.H.take 23 67 (.bool true) (by kernel_rfl) (by kernel_rfl) (by kernel_rfl) (Pl.free 23 (by kernel_rfl)) (Pl.move 23 (.tmp 66) (by kernel_rfl) (by decide)) e19 ?_
  refine Pl.H.take 24 68 (.int .i64 0) (by kernel_rfl) (by kernel_rfl) (by kernel_rfl) (Pl.guarded 24 23 67 true (by kernel_rfl) (by kernel_rfl) (by decide) rfl) (Pl.move 24 (.tmp 6) (by kernel_rfl) (by decide)) e19 ?_
  refine Pl.H.take 25 69 (.bool true) (by kernel_rfl) (by kernel_rfl) (by kernel_rfl) (Pl.guarded 25 23 67 true (by kernel_rfl) (by kernel_rfl) (by decide) rfl) (Pl.eqlSame 25 29 29 (.tmp 68) (.const (.int .i64 0)) _ _ (by kernel_rfl) (by decide) (by decide) rfl rfl) e19 ?_
  refine Pl.H.take 26 70 (.bool true) (by kernel_rfl) (by kernel_rfl) (by kernel_rfl) (Pl.free 26 (by kernel_rfl)) (Pl.pick 26 (.tmp 67) (.tmp 69) (.const (.bool false)) (by kernel_rfl) (by decide) (by decide) rfl) e19 ?_
  refine Pl.H.take 27 71 (.bool true) (by kernel_rfl) (by kernel_rfl) (by kernel_rfl) (Pl.free 27 (by kernel_rfl)) (Pl.move 27 (.tmp 70) (by kernel_rfl) (by decide)) e19 ?_
  refine Pl.H.take 28 72 (lfV u5 v5) (by kernel_rfl) (by kernel_rfl) (by kernel_rfl) (Pl.guarded 28 27 71 true (by kernel_rfl) (by kernel_rfl) (by decide) rfl) (Pl.load 28 25 (.tmp 5) _ (by kernel_rfl) (by decide) (fun w' hS => ldLf8 g5 u5 v5 w' (hk5.below hS))) e19 ?_
  refine Pl.H.take 29 73 (lfV u v) (by kernel_rfl) (by kernel_rfl) (by kernel_rfl) (Pl.guarded 29 27 71 true (by kernel_rfl) (by kernel_rfl) (by decide) rfl) (Pl.load 29 25 (.tmp 1) _ (by kernel_rfl) (by decide) (fun w' hS => ldLf8 g1 u v w' (hk1.below hS))) e19 ?_
  refine Pl.H.call 30 74 17 [(.tmp 72), (.tmp 73)] #[25, 25] (by kernel_rfl) (by kernel_rfl) (by kernel_rfl) (Pl.guarded 30 27 71 true (by kernel_rfl) (by kernel_rfl) (by decide) rfl) (by kernel_rfl) (by decide) entSame (Calls.mono (rlsame_any w19 u5 v5 t l5 (hi5.below e19 (Nat.le_refl _)) (hg5.below e19 (Nat.le_refl _)) u v t l (hi.below e19 (Nat.le_refl _)) (hg.below e19 (Nat.le_refl _))) ?_)
  rintro e w30 ⟨he, hb30⟩
  have e30 := rBelow e19 hb30
  rw [sameLB_iff.2 ⟨rfl, hbs⟩] at he
  subst he
  refine ⟨.bool true, rfl, e30, ?_⟩
  refine Pl.H.take 31 75 (.bool true) (by kernel_rfl) (by kernel_rfl) (by kernel_rfl) (Pl.free 31 (by kernel_rfl)) (Pl.pick 31 (.tmp 71) (.tmp 74) (.const (.bool false)) (by kernel_rfl) (by decide) (by decide) rfl) e30 ?_
  refine Pl.H.take 32 76 (.bool true) (by kernel_rfl) (by kernel_rfl) (by kernel_rfl) (Pl.free 32 (by kernel_rfl)) (Pl.move 32 (.tmp 75) (by kernel_rfl) (by decide)) e30 ?_
  refine Pl.H.call 33 77 9 [] #[] (by kernel_rfl) (by kernel_rfl) (by kernel_rfl) (Pl.guarded 33 32 76 true (by kernel_rfl) (by kernel_rfl) (by decide) rfl) (by kernel_rfl) (by decide) entAwake (Calls.mono (awake_any w30) ?_)
  rintro e w33 ⟨rfl, hb33⟩
  have e33 := rBelow e30 hb33
  refine ⟨.bool true, rfl, e33, ?_⟩
  refine Pl.H.take 34 78 (.bool true) (by kernel_rfl) (by kernel_rfl) (by kernel_rfl) (Pl.free 34 (by kernel_rfl)) (Pl.pick 34 (.tmp 76) (.tmp 77) (.const (.bool false)) (by kernel_rfl) (by decide) (by decide) rfl) e33 ?_
  refine Pl.H.take 35 2 (.bool true) (by kernel_rfl) (by kernel_rfl) (by kernel_rfl) (Pl.free 35 (by kernel_rfl)) (Pl.assign 35 (.tmp 78) (by kernel_rfl) (by decide)) e33 ?_
  refine Pl.H.done (by kernel_rfl) (fun A' hA' => ?_)
  rw [Pl.At.ext hA' ((((((((((((((((((((((((((((((((((((hA.put 44 _).put 45 _).put 46 _).put 47 _).put 48 _).put 50 _).put 49 _).put 51 _).put 52 _).put 53 _).put 54 _).put 55 _).put 56 _).put 57 _).put 58 _).put 59 _).put 60 _).put 61 _).put 62 _).put 63 _).put 64 _).put 65 _).put 66 _).put 67 _).put 68 _).put 69 _).put 70 _).put 71 _).put 72 _).put 73 _).put 74 _).put 75 _).put 76 _).put 77 _).put 78 _).put 2 _)]
  exact hend (fun d => if d = 44 then lfV u v else if d = 45 then .int .i64 0 else if d = 46 then .bool true else if d = 47 then .bool true else if d = 48 then lfV u v else if d = 50 then lfV u v else if d = 49 then .int .i64 (508 - ((need (bss l) : Nat) : Int)) else if d = 51 then .int .i64 ((need (bss l) : Nat) : Int) else if d = 52 then .int .i64 (508 - ((need (bss l) : Nat) : Int)) else if d = 53 then .bool true else if d = 54 then .bool true else if d = 55 then .bool true else if d = 56 then .int .i64 0 else if d = 57 then .bool true else if d = 58 then .bool true else if d = 59 then .bool true else if d = 60 then .slice pa 512 pc else if d = 61 then .string (bstr (pageL t (bss l))) else if d = 62 then lfV u v else if d = 63 then .slice pa2 512 pc2 else if d = 64 then .string (bstr (pageL t (bss l))) else if d = 65 then .bool true else if d = 66 then .bool true else if d = 67 then .bool true else if d = 68 then .int .i64 0 else if d = 69 then .bool true else if d = 70 then .bool true else if d = 71 then .bool true else if d = 72 then lfV u5 v5 else if d = 73 then lfV u v else if d = 74 then .bool true else if d = 75 then .bool true else if d = 76 then .bool true else if d = 77 then .bool true else if d = 78 then .bool true else undef) _ e33

set_option maxHeartbeats 8000000 in
set_option maxRecDepth 100000 in
theorem codes_walk (w : World) (u v : Sl) (t : List Int) (l : List Sb) (hI : InI w u t) (hg0 : InS w v l) :
    Calls Try.prog 3 #[lfV u v] w fun e w' => e = .returned (.bool true) ∧ Below w.heap.size w w' := by
  have hA := below_alloc w (.cells #[u.val, v.val] 25)
  have hg' : InS (w.alloc (.cells #[u.val, v.val] 25)) v l := ⟨hg0.len, hg0.nil, hg0.le, hg0.big, fun i hi => by
    obtain ⟨b, off, ha, hc⟩ := hg0.cell i hi
    exact ⟨b, off, ha, cell_below hc hA⟩, fun x hx => ⟨(hg0.bs x hx).bs.keep hA (Nat.le_refl _), (hg0.bs x hx).nil, (hg0.bs x hx).le, (hg0.bs x hx).big⟩⟩
  have HL := hide (light_any _ u v l hg' hI.big)
  have HA := hide hA
  have HKB := hide (lfBlk_new w u.val v.val)
  have HW := hide awake_any
  have HI0 := hide hI
  have HG0 := hide hg0
  clear hI hg0 hA hg'
  obtain ⟨a, len, cap⟩ := v
  obtain ⟨ua, ul, uc⟩ := u
  have HLF : Hid (lfV ⟨ua, ul, uc⟩ ⟨a, len, cap⟩ = .agg #[.slice ua ul uc, .slice a len cap]) := rfl
  unfold lfV at HL
  unfold Sl.val at HL HKB HA
  unfold lfV Sl.val
  simp only at *
  go_enter Try.func3, Try.ntmps3
  go_wp2_with fail
  refine HL.out.mono ?_
  rintro e w1 ⟨hs | ⟨hP, hs⟩, hb⟩
  · subst hs
    have HB := hide (rBelow HA.out hb)
    clear hb HL
    go_wp2_with fail
    refine (HW.out w1).mono ?_
    rintro e w2 ⟨rfl, hb2⟩
    have HB2 := hide (rBelow HB.out hb2)
    clear hb2
    go_wp2_with fail
    go_ret
    exact ⟨rfl, HB2.out⟩
  · subst hs
    have hb1 := rBelow HA.out hb
    have HB1 := hide hb1
    have hk1 := HKB.out.below hb
    have HK1 := hide hk1
    have hi := HI0.out.gi (by have := hP.2.1; omega)
    have hg := HG0.out.gb (by have := hP.1; omega) (fun x hx => by have := hP.2.2 x hx; omega)
    have hi1 := hi.below hb1 (Nat.le_refl _)
    have hg1 := hg.below hb1 (Nat.le_refl _)
    have HI1 := hide hi1
    have HG1 := hide hg1
    have c0 := hk1.c0
    have c1 := hk1.c1
    by_cases hm : MayL ⟨t, bss l⟩
    · have hok : OkL t (bss l) := hg1.okl hm
      have HOK := hide hok
      have HEN := hide (encode_yes w1 ⟨ua, ul, uc⟩ ⟨a, len, cap⟩ t l hi1 hg1 hok)
      clear hb hb1 HL hk1 HKB hi hg hi1 hg1 hm hok hP HI0 HG0
      unfold lfV Sl.val at HEN
      try unfold Sl.val at c0 c1
      simp only at HEN
      try simp only at c0 c1
      go_wp2_with fail
      refine HEN.out.mono ?_
      rintro e w2 ⟨x, rfl, ho, hb2⟩
      obtain ⟨pa, pc, rfl, hcm⟩ := ho.came8 (page_bytes HOK.out) (page_len HOK.out) (by decide)
      have HCM := hide hcm
      have HB2 := hide (rBelow HB1.out hb2)
      have hk2 := HK1.out.below hb2
      have HK2 := hide hk2
      have HI2 := hide (HI1.out.below hb2 (Nat.le_refl _))
      have HG2 := hide (HG1.out.below hb2 (Nat.le_refl _))
      have HMY := hide (rmay_yes w2 ⟨ua, ul, uc⟩ ⟨a, len, cap⟩ t l HI2.out HG2.out HOK.out.may)
      have d0 := hk2.c0
      have d1 := hk2.c1
      clear ho hcm hb2 hk2 c0 c1 HEN HB1 HK1 HI1 HG1
      unfold lfV Sl.val at HMY
      try unfold Sl.val at d0 d1
      simp only at HMY
      try simp only at d0 d1
      go_wp2_with fail
      refine HMY.out.mono ?_
      rintro e w3 ⟨rfl, hb3⟩
      have hcm3 : Came w3 pa 512 pc (pageL t (bss l)) := ⟨HCM.out.bs.keep hb3 (Nat.le_refl _), HCM.out.nil, HCM.out.le, HCM.out.big⟩
      have HDC := hide (decode_page w3 pa pc HOK.out hcm3)
      have HCM3 := hide hcm3
      have HB3 := hide (rBelow HB2.out hb3)
      have HK3 := hide (HK2.out.below hb3)
      have HI3 := hide (HI2.out.below hb3 (Nat.le_refl _))
      have HG3 := hide (HG2.out.below hb3 (Nat.le_refl _))
      clear hcm3 hb3 d0 d1 HMY HB2 HK2 HI2 HG2 HCM
      go_wp2_with fail
      refine HDC.out.mono ?_
      rintro e w4 td
      have hbT := td.1
      obtain ⟨a2, n2, c2, a5, n5, c5, l5, W5, rfl, hst5, bx5, hbs5⟩ := Bx.start HB3.out td
      have hb5 : Below w3.heap.size w3 W5 := rBelow hbT (by
        obtain ⟨W3', hst3', _, hb3'⟩ := box_new w4 ⟨a2, n2, c2⟩ ⟨a5, n5, c5⟩
        rw [hst5] at hst3'
        cases hst3'
        exact hb3')
      have HST5 := hide hst5
      have HBX5 := hide bx5
      have HBS5 := hide hbs5
      have HB5 := hide hb5
      clear td hbT hst5 bx5 hbs5 hb5 HDC
      unfold lfV Sl.val at HST5
      unfold lfV mk2 Sl.val
      simp only at HST5 ⊢
      go_wp2_with (first | refine wpList_alloc _ rfl 25 rfl (.pointer (some ⟨w4.heap.size, 0, none⟩)) (w4.alloc (.cells #[.slice none 0 0, .slice none 0 0] 25)) (alloc_lf w4) ?_ | refine wpList_store _ rfl rfl 25 (.tmp 5) (.tmp 42) rfl (.pointer (some ⟨w4.heap.size, 0, none⟩)) (.agg #[.slice a2 n2 c2, .slice a5 n5 c5]) rfl rfl W5 HST5.out ?_)
      refine Pl.region_is (ops := Pl.find 7 ((Try.f3.body).getD .skip)) (by kernel_rfl) ?_
      refine codes7 W5 w.heap.size w4.heap.size ⟨ua, ul, uc⟩ ⟨a, len, cap⟩ ⟨a2, n2, c2⟩ ⟨a5, n5, c5⟩ t l l5 pa pc (HI3.out.below HB5.out (Nat.le_refl _)) (HG3.out.below HB5.out (Nat.le_refl _)) HOK.out HBX5.out.gi HBX5.out.gb HBS5.out (HK3.out.below HB5.out) HBX5.out.k (HCM3.out.bs.keep HB5.out (Nat.le_refl _)) (by rfl) rfl (by rfl) (by rfl) (by rfl) (by rfl) (by rfl) ?_
      rintro uu w6 hb6
      simp only [Act.put, List.setIfInBounds_toArray, List.set_cons_zero, List.set_cons_succ]
      have HB6 := hide (rBelow HBX5.out.e hb6)
      clear hb6 HBX5 HB5
      go_wp2_with fail
      go_ret
      exact ⟨rfl, HB6.out⟩
    · have HM := hide hm
      have HEN := hide (encode_no w1 ⟨ua, ul, uc⟩ ⟨a, len, cap⟩ t l hi1 hg1 hm)
      clear hb hb1 HL hk1 HKB hi hg hi1 hg1 hm hP HI0 HG0
      unfold lfV Sl.val at HEN
      try unfold Sl.val at c0 c1
      simp only at HEN
      try simp only at c0 c1
      go_wp2_with fail
      refine HEN.out.mono ?_
      rintro e w2 ⟨rfl, hb2⟩
      have HB2 := hide (rBelow HB1.out hb2)
      have hk2 := HK1.out.below hb2
      have HK2 := hide hk2
      have HI2 := hide (HI1.out.below hb2 (Nat.le_refl _))
      have HG2 := hide (HG1.out.below hb2 (Nat.le_refl _))
      have HMY := hide (rmay_no w2 ⟨ua, ul, uc⟩ ⟨a, len, cap⟩ t l HI2.out HG2.out HM.out)
      have d0 := hk2.c0
      have d1 := hk2.c1
      clear hb2 hk2 c0 c1 HEN HB1 HK1 HI1 HG1
      unfold lfV Sl.val at HMY
      try unfold Sl.val at d0 d1
      simp only at HMY
      try simp only at d0 d1
      go_wp2_with fail
      refine HMY.out.mono ?_
      rintro e w3 ⟨rfl, hb3⟩
      have HB3 := hide (rBelow HB2.out hb3)
      have hk3 := HK2.out.below hb3
      have HK3 := hide hk3
      have HI3 := hide (HI2.out.below hb3 (Nat.le_refl _))
      have HG3 := hide (HG2.out.below hb3 (Nat.le_refl _))
      have HCK := hide (check_no w3 ⟨ua, ul, uc⟩ ⟨a, len, cap⟩ t l HI3.out HG3.out HM.out)
      have c0 := hk3.c0
      have c1 := hk3.c1
      clear hb3 hk3 d0 d1 HMY HB2 HK2 HI2 HG2
      unfold lfV Sl.val at HCK
      try unfold Sl.val at c0 c1
      simp only at HCK
      try simp only at c0 c1
      go_wp2_with fail
      refine HCK.out.mono ?_
      rintro e w4 ⟨rfl, hb4⟩
      have HB4 := hide (rBelow HB3.out hb4)
      have hk4 := HK3.out.below hb4
      have HRM := hide (room_no w4 ⟨ua, ul, uc⟩ ⟨a, len, cap⟩ t l (HI3.out.below hb4 (Nat.le_refl _)) (HG3.out.below hb4 (Nat.le_refl _)) HM.out)
      have d0 := hk4.c0
      have d1 := hk4.c1
      clear hb4 hk4 c0 c1 HCK HB3 HK3 HI3 HG3
      unfold lfV Sl.val at HRM
      try unfold Sl.val at d0 d1
      simp only at HRM
      try simp only at d0 d1
      go_wp2_with fail
      refine HRM.out.mono ?_
      rintro e w5 ⟨rfl, hb5⟩
      have HB5 := hide (rBelow HB4.out hb5)
      clear hb5 d0 d1 HRM HB4
      go_wp2_with fail
      refine (HW.out w5).mono ?_
      rintro e w6 ⟨rfl, hb6⟩
      have HB6 := hide (rBelow HB5.out hb6)
      clear hb6
      go_wp2_with fail
      go_ret
      exact ⟨rfl, HB6.out⟩
end Go.Proofs.Ytgieigpbbkeonaa
