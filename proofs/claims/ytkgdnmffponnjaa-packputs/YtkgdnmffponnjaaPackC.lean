/-
  Are two rows of items alike: the document's own List.
-/
import Derived.Test.YtkgdnmffponnjaaPackB
import Derived.Test.YtkgdnmffponnjaaPlan
namespace Go.Proofs.Ytkgdnmffponnjaa
open Go.RowKit

theorem index_item (b o len cap k : Nat) (hk : k < len) (w : World) : (Instr.indexAt 22 (.slice (some ⟨b, o, none⟩) len cap) (.int .i64 (k : Nat))).run Try.prog w = .ok (.pointer (some ⟨b, o + k * 4, none⟩)) w := by
  have h22 : Try.prog.underlying 22 = some (.slice (Try.prog.elem 22)) := by kernel_rfl
  have h1 : (0 : Int) ≤ (k : Int) := by omega
  simp [go_sem, Instr.indexAt, run_underlying h22, h1, Addr.add_lit]
  intro h
  omega

theorem load_item (b o : Nat) (i : It) (w : World) (h : ItAt w b o i) : (Instr.loadAt 35 (.pointer (some ⟨b, o, none⟩))).run Try.prog w = .ok i.val w := by
  obtain ⟨c0, c1, c2, c3⟩ := h
  simp [go_sem, c0, c1, c2, c3, It.val]

theorem keep_item {w w' : World} {b o : Nat} {i : It} (h : ItAt w b o i) (hb : Below w.heap.size w w') : ItAt w' b o i := by
  obtain ⟨c0, c1, c2, c3⟩ := h
  have hlt := World.block_lt_of_cell? w _ c0
  exact ⟨(hb.cell hlt).trans c0, (hb.cell (p := ⟨b, o + 1, none⟩) hlt).trans c1, (hb.cell (p := ⟨b, o + 2, none⟩) hlt).trans c2, (hb.cell (p := ⟨b, o + 3, none⟩) hlt).trans c3⟩

theorem enters19 : ∀ args w, (callFunc 19 args).run Try.prog w = .ok (.enter 19 args) w := Pl.enters Try.func19 (by kernel_rfl) (by kernel_rfl)

set_option maxHeartbeats 2000000 in
set_option maxRecDepth 100000 in
theorem list6 (w0 w : World) (b0 o0 b1 o1 len c0 c1 k : Nat) (x0 x1 : It) (hk : k < len) (i0 : ItAt w0 b0 (o0 + k * 4) x0) (i1 : ItAt w0 b1 (o1 + k * 4) x1) (hW : Below w0.heap.size w0 w)
    {Q : Exit → Act → World → Prop} {A : Act} (hsz : A.tmps.size = 27) (hdf : A.defers = []) (s0 : A.tmps.getD 0 undef = .slice (some ⟨b0, o0, none⟩) len c0) (s1 : A.tmps.getD 1 undef = .slice (some ⟨b1, o1, none⟩) len c1) (s5 : A.tmps.getD 5 undef = .int .i64 (k : Nat))
    (hend : ∀ (u : Nat → Value) w', Below w0.heap.size w0 w' → Q .normal (((((((((((A).put (some 17) (u 17)).put (some 18) (u 18)).put (some 19) (u 19)).put (some 20) (u 20)).put (some 21) (u 21)).put (some 22) (u 22)).put (some 23) (u 23)).put (some 24) (u 24)).put (some 25) (u 25)).put (some 26) (.bool (!(x0.same x1)))) w') :
    (Code.region 6 (Pl.find 6 ((Try.f16.body).getD .skip)) true).wp Try.prog Q A w := by
  have hS0 : Below w0.heap.size w0 w.drew := hW.drew
  have hA := Pl.At.same (v := .int .i64 (k : Nat)) (d := 5) (Pl.At.same (v := .slice (some ⟨b1, o1, none⟩) len c1) (d := 1) (Pl.At.same (v := .slice (some ⟨b0, o0, none⟩) len c0) (d := 0) (Pl.At.here hsz hdf) s0) s1) s5
  refine Pl.H.start (S := fun w' => Below w0.heap.size w0 w') (by kernel_rfl) hA hS0 ?_
  rw [show (Pl.find 6 ((Try.f16.body).getD .skip)).size = 10 by kernel_rfl]
  refine Pl.H.take 0 17 (.slice (some ⟨b0, o0, none⟩) len c0) (by kernel_rfl) (by kernel_rfl) (by kernel_rfl) (Pl.free 0 (by kernel_rfl)) (Pl.move 0 (.tmp 0) (by kernel_rfl) (by decide)) hS0 ?_
  refine Pl.H.take 1 18 (.int .i64 (k : Nat)) (by kernel_rfl) (by kernel_rfl) (by kernel_rfl) (Pl.free 1 (by kernel_rfl)) (Pl.move 1 (.tmp 5) (by kernel_rfl) (by decide)) hS0 ?_
  refine Pl.H.take 2 19 (.pointer (some ⟨b0, o0 + k * 4, none⟩)) (by kernel_rfl) (by kernel_rfl) (by kernel_rfl) (Pl.free 2 (by kernel_rfl)) (Pl.index 2 22 (.tmp 17) (.tmp 18) _ (by kernel_rfl) (by decide) (by decide) (index_item b0 o0 len c0 k hk)) hS0 ?_
  refine Pl.H.take 3 20 (x0.val) (by kernel_rfl) (by kernel_rfl) (by kernel_rfl) (Pl.free 3 (by kernel_rfl)) (Pl.load 3 35 (.tmp 19) _ (by kernel_rfl) (by decide) (fun w' hS => load_item b0 (o0 + k * 4) x0 w' (keep_item i0 hS))) hS0 ?_
  refine Pl.H.take 4 21 (.slice (some ⟨b1, o1, none⟩) len c1) (by kernel_rfl) (by kernel_rfl) (by kernel_rfl) (Pl.free 4 (by kernel_rfl)) (Pl.move 4 (.tmp 1) (by kernel_rfl) (by decide)) hS0 ?_
  refine Pl.H.take 5 22 (.int .i64 (k : Nat)) (by kernel_rfl) (by kernel_rfl) (by kernel_rfl) (Pl.free 5 (by kernel_rfl)) (Pl.move 5 (.tmp 5) (by kernel_rfl) (by decide)) hS0 ?_
  refine Pl.H.take 6 23 (.pointer (some ⟨b1, o1 + k * 4, none⟩)) (by kernel_rfl) (by kernel_rfl) (by kernel_rfl) (Pl.free 6 (by kernel_rfl)) (Pl.index 6 22 (.tmp 21) (.tmp 22) _ (by kernel_rfl) (by decide) (by decide) (index_item b1 o1 len c1 k hk)) hS0 ?_
  refine Pl.H.take 7 24 (x1.val) (by kernel_rfl) (by kernel_rfl) (by kernel_rfl) (Pl.free 7 (by kernel_rfl)) (Pl.load 7 35 (.tmp 23) _ (by kernel_rfl) (by decide) (fun w' hS => load_item b1 (o1 + k * 4) x1 w' (keep_item i1 hS))) hS0 ?_
  refine Pl.H.call 8 25 19 [(.tmp 20), (.tmp 24)] #[35, 35] (by kernel_rfl) (by kernel_rfl) (by kernel_rfl) (Pl.free 8 (by kernel_rfl)) (by kernel_rfl) (by decide) enters19 (Calls.mono (refItSame_any x0 x1 w.drew) ?_)
  rintro e w' ⟨rfl, hb'⟩
  have hS1 : Below w0.heap.size w0 w' := hS0.trans (hb'.mono hS0.size)
  refine ⟨.bool (x0.same x1), rfl, hS1, ?_⟩
  refine Pl.H.take 9 26 (.bool (!(x0.same x1))) (by kernel_rfl) (by kernel_rfl) (by kernel_rfl) (Pl.free 9 (by kernel_rfl)) (Pl.neg 9 4 (.tmp 25) _ (by kernel_rfl) (by decide) rfl) hS1 ?_
  refine Pl.H.done (by kernel_rfl) (fun A' hA' => ?_)
  rw [Pl.At.ext hA' ((((((((((hA.put 17 _).put 18 _).put 19 _).put 20 _).put 21 _).put 22 _).put 23 _).put 24 _).put 25 _).put 26 _)]
  exact hend (fun d => if d = 17 then .slice (some ⟨b0, o0, none⟩) len c0 else if d = 18 then .int .i64 (k : Nat) else if d = 19 then .pointer (some ⟨b0, o0 + k * 4, none⟩) else if d = 20 then x0.val else if d = 21 then .slice (some ⟨b1, o1, none⟩) len c1 else if d = 22 then .int .i64 (k : Nat) else if d = 23 then .pointer (some ⟨b1, o1 + k * 4, none⟩) else if d = 24 then x1.val else if d = 25 then .bool (x0.same x1) else undef) _ hS1

set_option maxHeartbeats 2000000 in
theorem refList_any (a0 a1 : Option Addr) (len c0 c1 : Nat) (l m : List It) (w : World) (h0 : Is w a0 len l) (h1 : Is w a1 len m) (hm : len ≤ 1000000) (hs : ∀ j, j < len → (l.getD j itD).same (m.getD j itD) = true) :
    Calls Try.prog 16 #[.slice a0 len c0, .slice a1 len c1] w fun e w' => e = .returned (.bool true) ∧ Below w.heap.size w w' := by
  have H0 := hide h0
  have H1 := hide h1
  have HS := hide hs
  clear h0 h1 hs
  go_enter Try.func16, Try.ntmps16
  go_wp2_with fail
  go_loopw [5] (fun i wr => ∃ k : Nat, k ≤ len ∧ i = .int .i64 k ∧ Hid (Below w.heap.size w wr)) (fun i _ => len - (intOf i).toNat)
  case atStart => exact ⟨0, by omega, rfl, Below.refl _ _⟩
  case round =>
    obtain ⟨k, hk, rfl, hWr⟩ := hrel
    rcases Nat.lt_or_ge k len with hlt | hge
    · obtain ⟨b0, o0, rfl, i0⟩ := H0.out.2.2 k hlt
      obtain ⟨b1, o1, rfl, i1⟩ := H1.out.2.2 k hlt
      have I0 := hide i0
      have I1 := hide i1
      clear i0 i1
      go_wp2_with fail
      refine Pl.region_is (ops := Pl.find 6 ((Try.f16.body).getD .skip)) (by kernel_rfl) ?_
      refine list6 w wr b0 o0 b1 o1 len c0 c1 k _ _ hlt I0.out I1.out hWr.out (by rfl) (by rfl) (by rfl) (by rfl) (by rfl) ?_
      intro u w' hb
      have HB := hide hb
      rw [HS.out k hlt]
      clear hb
      simp only [Act.put, List.setIfInBounds_toArray, List.set_cons_zero, List.set_cons_succ, Bool.not_true]
      go_wp2_with fail
      go_roundw
      case rel => exact ⟨k + 1, by omega, by go_num, HB⟩
      case measure => simp only [intOf]; omega
    · go_wp2_with fail
      go_ret
      exact ⟨rfl, hWr.out⟩
end Go.Proofs.Ytkgdnmffponnjaa
