/-
  Layer 7: pages that come by turns: the drawn statement; the rounds without memory.
-/
import Derived.Test.YtfdfpdioelfjdaaCkM
namespace Go.Proofs.Ytfdfpdioelfjdaa
open Go.RowKit

theorem remN (a b : Nat) (x y : Operand) (hb : 0 < b) (w : World) : (do eqGuard .rem 3 x y (.int .i64 ((a : Nat) : Int)) (.int .i64 ((b : Nat) : Int)); binOp .rem 3 (.int .i64 ((a : Nat) : Int)) (.int .i64 ((b : Nat) : Int)) : Sem Value).run Try.prog w = .ok (.int .i64 ((a % b : Nat) : Int)) w := by
  have e2 : Int.tmod ((a : Nat) : Int) ((b : Nat) : Int) = ((a % b : Nat) : Int) := by
    rw [Int.tmod_eq_emod_of_nonneg (by omega)]
    simp
  have e4 : ¬ b = 0 := by omega
  simp [go_sem, eqGuard, e2, e4]
theorem alloc_ck (w : World) : (Instr.alloc 24 true (.tuple #[])).run Try.prog w = .ok (.pointer (some ⟨w.heap.size, 0, none⟩)) (w.alloc (.cells #[.slice none 0 0, .int .i64 0] 24)) := by
  simp [go_sem, Instr.alloc]
theorem entTouch : ∀ args w, (callFunc 8 args).run Try.prog w = .ok (.enter 8 args) w := Pl.enters Try.func8 (by kernel_rfl) (by kernel_rfl)
/-- What is told, in a box of its own. -/
structure Nb (w w' : World) (g : Nat) (s : Sl) (h : Int) (l : List Sp) : Prop where
  k : CkBlk w' g s.val h
  sp : Gs (fun k => w.heap.size ≤ k ∧ k ≠ g) w' s l
  e : Below w.heap.size w w'
  le : w.heap.size ≤ g

set_option maxHeartbeats 2000000 in
set_option maxRecDepth 100000 in
theorem rounds8 (w : World) (g n i : Nat) (s : Sl) (h : Int) (t : Tc) (hn : n ≤ 100) (hk : CkBlk w g s.val h) (hT : ∀ W, Below w.heap.size w W → Calls Try.prog 8 #[ckV s h, .int .i64 ((i % (n + 1) : Nat) : Int)] W fun e w' => Below W.heap.size W w' ∧ ∃ s' : Sl, e = .returned (.tuple #[ckV s' t.h, .int .i64 t.at_, .int .i64 t.was, .int .i64 t.e]) ∧ Gs (fun k => W.heap.size ≤ k) w' s' t.l)
    {Q : Exit → Act → World → Prop} {A : Act} (hsz : A.tmps.size = 60) (hdf : A.defers = []) (s5 : A.tmps.getD 5 undef = .int .i64 ((n : Nat) : Int)) (s6 : A.tmps.getD 6 undef = .pointer (some ⟨g, 0, none⟩)) (s8 : A.tmps.getD 8 undef = .int .i64 ((i : Nat) : Int))
    (hend : ∀ (u : Nat → Value) w' (g1 : Nat) (s1 : Sl), Nb w w' g1 s1 t.h t.l → Q .normal ((((((((((((((((A).put (some 32) (u 32)).put (some 33) (u 33)).put (some 34) (u 34)).put (some 35) (u 35)).put (some 36) (u 36)).put (some 37) (u 37)).put (some 31) (u 31)).put (some 38) (u 38)).put (some 39) (u 39)).put (some 40) (u 40)).put (some 41) (u 41)).put (some 9) (.pointer (some ⟨g1, 0, none⟩))).put (some 10) (.int .i64 t.at_)).put (some 11) (.int .i64 t.was)).put (some 12) (.int .i64 t.e)) w') :
    (Code.region 8 (Pl.find 8 ((Try.f6.body).getD .skip)) true).wp Try.prog Q A w := by
  have hA := Pl.At.same (v := .int .i64 ((i : Nat) : Int)) (d := 8) (Pl.At.same (v := .pointer (some ⟨g, 0, none⟩)) (d := 6) (Pl.At.same (v := .int .i64 ((n : Nat) : Int)) (d := 5) (Pl.At.here hsz hdf) s5) s6) s8
  refine Pl.H.start (S := (fun w' => CkBlk w' g s.val h)) (by kernel_rfl) hA (hk.below (below_drew w)) ?_
  rw [show (Pl.find 8 ((Try.f6.body).getD .skip)).size = 16 by kernel_rfl]
  refine Pl.H.take 0 32 (ckV s h) (by kernel_rfl) (by kernel_rfl) (by kernel_rfl) (Pl.free 0 (by kernel_rfl)) (Pl.load 0 24 (.tmp 6) _ (by kernel_rfl) (by decide) (fun w' hS => ldCk g s h w' hS)) (hk.below (below_drew w)) ?_
  refine Pl.H.take 1 33 (.int .i64 ((i : Nat) : Int)) (by kernel_rfl) (by kernel_rfl) (by kernel_rfl) (Pl.free 1 (by kernel_rfl)) (Pl.move 1 (.tmp 8) (by kernel_rfl) (by decide)) (hk.below (below_drew w)) ?_
  refine Pl.H.take 2 34 (.int .i64 ((n : Nat) : Int)) (by kernel_rfl) (by kernel_rfl) (by kernel_rfl) (Pl.free 2 (by kernel_rfl)) (Pl.move 2 (.tmp 5) (by kernel_rfl) (by decide)) (hk.below (below_drew w)) ?_
  refine Pl.H.take 3 35 (.int .i64 ((n + 1 : Nat) : Int)) (by kernel_rfl) (by kernel_rfl) (by kernel_rfl) (Pl.free 3 (by kernel_rfl)) (Pl.binV 3 .add 3 3 (.tmp 34) (.const (.int .i64 1)) (.int .i64 ((n : Nat) : Int)) (.int .i64 1) _ (by kernel_rfl) (by decide) (by decide) rfl rfl (addN n 1 _ _ (by omega))) (hk.below (below_drew w)) ?_
  refine Pl.H.take 4 36 (.int .i64 ((i % (n + 1) : Nat) : Int)) (by kernel_rfl) (by kernel_rfl) (by kernel_rfl) (Pl.free 4 (by kernel_rfl)) (Pl.binV 4 .rem 3 3 (.tmp 33) (.tmp 35) (.int .i64 ((i : Nat) : Int)) (.int .i64 ((n + 1 : Nat) : Int)) _ (by kernel_rfl) (by decide) (by decide) rfl rfl (remN i (n + 1) _ _ (by omega))) (hk.below (below_drew w)) ?_
  refine Pl.H.two 5 11 (by kernel_rfl) ?_ ?_
  · refine Pl.HOp.call 5 37 8 [(.tmp 32), (.tmp 36)] #[24, 3] (by kernel_rfl) (by kernel_rfl) (by kernel_rfl) (by kernel_rfl) (by decide) entTouch (Calls.mono (hT w.drew (below_drew w)) ?_)
    rintro e w1 ⟨hb1, s1, rfl, hg1⟩
    have hE1 := rBelow (below_drew w) hb1
    have hS1 : CkBlk w1 g s.val h := hk.below hE1
    refine ⟨.tuple #[ckV s1 t.h, .int .i64 t.at_, .int .i64 t.was, .int .i64 t.e], rfl, hS1, ?_⟩
    refine Pl.H.take 6 31 (.tuple #[ckV s1 t.h, .int .i64 t.at_, .int .i64 t.was, .int .i64 t.e]) (by kernel_rfl) (by kernel_rfl) (by kernel_rfl) (Pl.free 6 (by kernel_rfl)) (Pl.move 6 (.tmp 37) (by kernel_rfl) (by decide)) hS1 ?_
    refine Pl.H.take 7 38 (ckV s1 t.h) (by kernel_rfl) (by kernel_rfl) (by kernel_rfl) (Pl.free 7 (by kernel_rfl)) (Pl.extr 7 (.tmp 31) 0 _ (by kernel_rfl) (by decide) (fun _ => rfl)) hS1 ?_
    refine Pl.H.take 8 39 (.int .i64 t.at_) (by kernel_rfl) (by kernel_rfl) (by kernel_rfl) (Pl.free 8 (by kernel_rfl)) (Pl.extr 8 (.tmp 31) 1 _ (by kernel_rfl) (by decide) (fun _ => rfl)) hS1 ?_
    refine Pl.H.take 9 40 (.int .i64 t.was) (by kernel_rfl) (by kernel_rfl) (by kernel_rfl) (Pl.free 9 (by kernel_rfl)) (Pl.extr 9 (.tmp 31) 2 _ (by kernel_rfl) (by decide) (fun _ => rfl)) hS1 ?_
    refine Pl.H.take 10 41 (.int .i64 t.e) (by kernel_rfl) (by kernel_rfl) (by kernel_rfl) (Pl.free 10 (by kernel_rfl)) (Pl.extr 10 (.tmp 31) 3 _ (by kernel_rfl) (by decide) (fun _ => rfl)) hS1 ?_
    have hEa := rBelow hE1 (below_alloc w1 (.cells #[.slice none 0 0, .int .i64 0] 24))
    have hSa : CkBlk (w1.alloc (.cells #[.slice none 0 0, .int .i64 0] 24)) g s.val h := hk.below hEa
    have hK1 := ckBlk_new w1 (.slice none 0 0) 0
    refine Pl.H.make 11 9 (.pointer (some ⟨w1.heap.size, 0, none⟩)) (w1.alloc (.cells #[.slice none 0 0, .int .i64 0] 24)) (by kernel_rfl) (by kernel_rfl) (by kernel_rfl) (Pl.free 11 (by kernel_rfl)) (Pl.allocV 11 24 _ _ (by kernel_rfl) (alloc_ck w1)) hSa ?_
    have hN : Nb w (setCk (w1.alloc (.cells #[.slice none 0 0, .int .i64 0] 24)) w1.heap.size s1.val t.h) w1.heap.size s1 t.h t.l := ⟨hK1.set s1.val t.h, ((hg1.mono (fun k hk' hl => (⟨hk', by omega⟩ : w.heap.size ≤ k ∧ k ≠ w1.heap.size))).below (below_alloc w1 (.cells #[.slice none 0 0, .int .i64 0] 24)) (Nat.le_refl _)).keep (Kept.frm (setCk_frm (w1.alloc (.cells #[.slice none 0 0, .int .i64 0] 24)) w1.heap.size s1.val t.h) (fun k hk' e => hk'.2 e)), Below.more hEa (setCk_frm (w1.alloc (.cells #[.slice none 0 0, .int .i64 0] 24)) w1.heap.size s1.val t.h) hEa.size hE1.size, hE1.size⟩
    have hSb : CkBlk (setCk (w1.alloc (.cells #[.slice none 0 0, .int .i64 0] 24)) w1.heap.size s1.val t.h) g s.val h := hSa.off (setCk_frm (w1.alloc (.cells #[.slice none 0 0, .int .i64 0] 24)) w1.heap.size s1.val t.h) (by have e1 := hS1.lt; omega)
    refine Pl.H.store 12 (setCk (w1.alloc (.cells #[.slice none 0 0, .int .i64 0] 24)) w1.heap.size s1.val t.h) (by kernel_rfl) (by kernel_rfl) (by kernel_rfl) (Pl.free 12 (by kernel_rfl)) (Pl.storeV 12 24 (.tmp 9) (.tmp 38) _ (by kernel_rfl) (by decide) (by decide) (store_ck w1.heap.size s1 t.h (w1.alloc (.cells #[.slice none 0 0, .int .i64 0] 24)) hK1)) hSb ?_
    refine Pl.H.take 13 10 (.int .i64 t.at_) (by kernel_rfl) (by kernel_rfl) (by kernel_rfl) (Pl.free 13 (by kernel_rfl)) (Pl.assign 13 (.tmp 39) (by kernel_rfl) (by decide)) hSb ?_
    refine Pl.H.take 14 11 (.int .i64 t.was) (by kernel_rfl) (by kernel_rfl) (by kernel_rfl) (Pl.free 14 (by kernel_rfl)) (Pl.assign 14 (.tmp 40) (by kernel_rfl) (by decide)) hSb ?_
    refine Pl.H.take 15 12 (.int .i64 t.e) (by kernel_rfl) (by kernel_rfl) (by kernel_rfl) (Pl.free 15 (by kernel_rfl)) (Pl.assign 15 (.tmp 41) (by kernel_rfl) (by decide)) hSb ?_
    refine Pl.H.done (by kernel_rfl) (fun A' hA' => ?_)
    rw [Pl.At.ext hA' (((((((((((((((hA.put 32 _).put 33 _).put 34 _).put 35 _).put 36 _).put 37 _).put 31 _).put 38 _).put 39 _).put 40 _).put 41 _).put 9 _).put 10 _).put 11 _).put 12 _)]
    exact hend (fun d => if d = 32 then ckV s h else if d = 33 then .int .i64 ((i : Nat) : Int) else if d = 34 then .int .i64 ((n : Nat) : Int) else if d = 35 then .int .i64 ((n + 1 : Nat) : Int) else if d = 36 then .int .i64 ((i % (n + 1) : Nat) : Int) else if d = 37 then .tuple #[ckV s1 t.h, .int .i64 t.at_, .int .i64 t.was, .int .i64 t.e] else if d = 31 then .tuple #[ckV s1 t.h, .int .i64 t.at_, .int .i64 t.was, .int .i64 t.e] else if d = 38 then ckV s1 t.h else if d = 39 then .int .i64 t.at_ else if d = 40 then .int .i64 t.was else if d = 41 then .int .i64 t.e else undef) _ w1.heap.size s1 hN
  · have hEa := rBelow (below_drew w) (below_alloc w.drew (.cells #[.slice none 0 0, .int .i64 0] 24))
    have hSa : CkBlk (w.drew.alloc (.cells #[.slice none 0 0, .int .i64 0] 24)) g s.val h := hk.below hEa
    refine Pl.HOp.value 11 9 (.pointer (some ⟨w.drew.heap.size, 0, none⟩)) (w.drew.alloc (.cells #[.slice none 0 0, .int .i64 0] 24)) (by kernel_rfl) (by kernel_rfl) (by kernel_rfl) (Pl.allocV 11 24 _ _ (by kernel_rfl) (alloc_ck w.drew)) hSa ?_
    refine Pl.H.call 5 37 8 [(.tmp 32), (.tmp 36)] #[24, 3] (by kernel_rfl) (by kernel_rfl) (by kernel_rfl) (Pl.free 5 (by kernel_rfl)) (by kernel_rfl) (by decide) entTouch (Calls.mono (hT (w.drew.alloc (.cells #[.slice none 0 0, .int .i64 0] 24)) hEa) ?_)
    rintro e w1 ⟨hb1, s1, rfl, hg1⟩
    have hE1 := rBelow hEa hb1
    have hS1 : CkBlk w1 g s.val h := hk.below hE1
    have hK1 : CkBlk w1 w.drew.heap.size (.slice none 0 0) 0 := (ckBlk_new w.drew _ _).below hb1
    refine ⟨.tuple #[ckV s1 t.h, .int .i64 t.at_, .int .i64 t.was, .int .i64 t.e], rfl, hS1, ?_⟩
    rw [Pl.upd_comm _ 9 37 _ _ (by decide)]
    refine Pl.H.take 6 31 (.tuple #[ckV s1 t.h, .int .i64 t.at_, .int .i64 t.was, .int .i64 t.e]) (by kernel_rfl) (by kernel_rfl) (by kernel_rfl) (Pl.free 6 (by kernel_rfl)) (Pl.move 6 (.tmp 37) (by kernel_rfl) (by decide)) hS1 ?_
    rw [Pl.upd_comm _ 9 31 _ _ (by decide)]
    refine Pl.H.take 7 38 (ckV s1 t.h) (by kernel_rfl) (by kernel_rfl) (by kernel_rfl) (Pl.free 7 (by kernel_rfl)) (Pl.extr 7 (.tmp 31) 0 _ (by kernel_rfl) (by decide) (fun _ => rfl)) hS1 ?_
    rw [Pl.upd_comm _ 9 38 _ _ (by decide)]
    refine Pl.H.take 8 39 (.int .i64 t.at_) (by kernel_rfl) (by kernel_rfl) (by kernel_rfl) (Pl.free 8 (by kernel_rfl)) (Pl.extr 8 (.tmp 31) 1 _ (by kernel_rfl) (by decide) (fun _ => rfl)) hS1 ?_
    rw [Pl.upd_comm _ 9 39 _ _ (by decide)]
    refine Pl.H.take 9 40 (.int .i64 t.was) (by kernel_rfl) (by kernel_rfl) (by kernel_rfl) (Pl.free 9 (by kernel_rfl)) (Pl.extr 9 (.tmp 31) 2 _ (by kernel_rfl) (by decide) (fun _ => rfl)) hS1 ?_
    rw [Pl.upd_comm _ 9 40 _ _ (by decide)]
    refine Pl.H.take 10 41 (.int .i64 t.e) (by kernel_rfl) (by kernel_rfl) (by kernel_rfl) (Pl.free 10 (by kernel_rfl)) (Pl.extr 10 (.tmp 31) 3 _ (by kernel_rfl) (by decide) (fun _ => rfl)) hS1 ?_
    rw [Pl.upd_comm _ 9 41 _ _ (by decide)]
    have hN : Nb w (setCk w1 w.drew.heap.size s1.val t.h) w.drew.heap.size s1 t.h t.l := ⟨hK1.set s1.val t.h, (hg1.off (setCk_frm w1 w.drew.heap.size s1.val t.h) (by rw [alloc_size]; exact Nat.lt_succ_self _)).mono (fun k hk' _ => ⟨by rw [alloc_size] at hk'; have e0 : w.drew.heap.size = w.heap.size := rfl; omega, by rw [alloc_size] at hk'; omega⟩), Below.more hE1 (setCk_frm w1 w.drew.heap.size s1.val t.h) hE1.size (Nat.le_refl _), Nat.le_refl _⟩
    have hSb : CkBlk (setCk w1 w.drew.heap.size s1.val t.h) g s.val h := hS1.off (setCk_frm w1 w.drew.heap.size s1.val t.h) (by have e0 : w.drew.heap.size = w.heap.size := rfl; have e1 := hk.lt; omega)
    refine Pl.H.store 12 (setCk w1 w.drew.heap.size s1.val t.h) (by kernel_rfl) (by kernel_rfl) (by kernel_rfl) (Pl.free 12 (by kernel_rfl)) (Pl.storeV 12 24 (.tmp 9) (.tmp 38) _ (by kernel_rfl) (by decide) (by decide) (store_ck w.drew.heap.size s1 t.h w1 hK1)) hSb ?_
    refine Pl.H.take 13 10 (.int .i64 t.at_) (by kernel_rfl) (by kernel_rfl) (by kernel_rfl) (Pl.free 13 (by kernel_rfl)) (Pl.assign 13 (.tmp 39) (by kernel_rfl) (by decide)) hSb ?_
    refine Pl.H.take 14 11 (.int .i64 t.was) (by kernel_rfl) (by kernel_rfl) (by kernel_rfl) (Pl.free 14 (by kernel_rfl)) (Pl.assign 14 (.tmp 40) (by kernel_rfl) (by decide)) hSb ?_
    refine Pl.H.take 15 12 (.int .i64 t.e) (by kernel_rfl) (by kernel_rfl) (by kernel_rfl) (Pl.free 15 (by kernel_rfl)) (Pl.assign 15 (.tmp 41) (by kernel_rfl) (by decide)) hSb ?_
    refine Pl.H.done (by kernel_rfl) (fun A' hA' => ?_)
    rw [Pl.At.ext hA' (((((((((((((((hA.put 32 _).put 33 _).put 34 _).put 35 _).put 36 _).put 37 _).put 31 _).put 38 _).put 39 _).put 40 _).put 41 _).put 9 _).put 10 _).put 11 _).put 12 _)]
    exact hend (fun d => if d = 32 then ckV s h else if d = 33 then .int .i64 ((i : Nat) : Int) else if d = 34 then .int .i64 ((n : Nat) : Int) else if d = 35 then .int .i64 ((n + 1 : Nat) : Int) else if d = 36 then .int .i64 ((i % (n + 1) : Nat) : Int) else if d = 37 then .tuple #[ckV s1 t.h, .int .i64 t.at_, .int .i64 t.was, .int .i64 t.e] else if d = 31 then .tuple #[ckV s1 t.h, .int .i64 t.at_, .int .i64 t.was, .int .i64 t.e] else if d = 38 then ckV s1 t.h else if d = 39 then .int .i64 t.at_ else if d = 40 then .int .i64 t.was else if d = 41 then .int .i64 t.e else undef) _ w.drew.heap.size s1 hN

/-- The page that leaves. -/
def want (n i : Nat) : Int := if n ≤ i then (((i - n) % (n + 1) : Nat) : Int) else -1
/-- So many rounds more are right. -/
def goR (n : Nat) : Nat → Nat → List Sp → Int → Bool
  | 0, _, _, _ => true
  | f + 1, i, l, h => may l h && ((touch l h ((i % (n + 1) : Nat) : Int)).e == 0 && ((touch l h ((i % (n + 1) : Nat) : Int)).was == want n i && goR n f (i + 1) (touch l h ((i % (n + 1) : Nat) : Int)).l (touch l h ((i % (n + 1) : Nat) : Int)).h))
theorem rounds_pure : (List.range 12).all (fun k => goR (k + 1) 255 0 (List.replicate (k + 1) Sp.none) 0) = true := by decide +kernel
end Go.Proofs.Ytfdfpdioelfjdaa
