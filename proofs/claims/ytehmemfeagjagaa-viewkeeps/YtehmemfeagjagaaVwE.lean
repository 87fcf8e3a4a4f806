/-
  Numbers that a call makes bit by bit; the drawn statement of the document's Of. (Written by gen_vwe.py.)
-/
import Derived.Test.YtehmemfeagjagaaVwD
import Derived.Test.YtehmemfeagjagaaPlanZ
namespace Go.Proofs.Ytehmemfeagjagaa
open Go.RowKit
set_option maxRecDepth 100000
set_option linter.unusedVariables false

theorem szI (w : World) : (sizeOf 3).run Try.prog w = .ok 1 w := by
  obtain ⟨i0, hi, hz0, hz1, hz2⟩ := info_parts infoIn1
  simp [sizeOf, typeInfo, hi, hz1]
theorem elemI : Try.prog.elem 22 = 3 := by kernel_rfl
theorem slice_fromI (a : Option Addr) (len cap k : Nat) (hk : k ≤ len) (w : World) : (Instr.sliceAt 22 (.slice a len cap) (some (.int .i64 (k : Nat))) none none).run Try.prog w = .ok (.slice (fromA a cap k) (len - k) (cap - k)) w := by
  have h22 : Try.prog.underlying 22 = some (.slice (Try.prog.elem 22)) := by kernel_rfl
  rw [run_sliceAt_slice w 22 _ _ _ _ h22, run_slice_l w 22 a len cap h22 .i64 (k : Nat) (by omega) (by omega), elemI, szI]
  simp [Result.andThen, sliced, fromA]
theorem slice_uptoI (a : Option Addr) (len cap k : Nat) (hk : k ≤ cap) (w : World) : (Instr.sliceAt 22 (.slice a len cap) none (some (.int .i64 (k : Nat))) none).run Try.prog w = .ok (.slice (fromA a cap 0) k cap) w := by
  have h22 : Try.prog.underlying 22 = some (.slice (Try.prog.elem 22)) := by kernel_rfl
  rw [run_sliceAt_slice w 22 _ _ _ _ h22, run_slice_h w 22 a len cap h22 .i64 (k : Nat) (by omega) (by omega), elemI, szI]
  simp [Result.andThen, sliced, fromA]
theorem fromA_none {a : Option Addr} {cap k : Nat} (h : fromA a cap k = none) : a = none := by
  unfold fromA at h
  split at h
  · exact h
  · cases a with
    | none => rfl
    | some q => cases h
theorem Gi.from_ {D : Nat → Prop} {w : World} {v : Sl} {t : List Int} (h : Gi D w v t) {k : Nat} (hk : k ≤ v.len) : Gi (fun _ => True) w ⟨fromA v.a v.cap k, v.len - k, v.cap - k⟩ (t.drop k) := by
  have hl := h.len
  have hle := h.le
  have hb := h.big
  refine ⟨by rw [List.length_drop, hl], fun e => ?_, Nat.sub_le_sub_right hle k, by show v.len - k ≤ _; omega, fun _ _ _ => trivial, fun i hi => ?_⟩
  · have := h.nil (fromA_none e)
    show v.cap - k = 0
    omega
  · have hi' : i < v.len - k := hi
    obtain ⟨b, off, ha, hc⟩ := h.cell (k + i) (by omega)
    refine ⟨b, off + k, ?_, ?_⟩
    · show fromA v.a v.cap k = _
      unfold fromA
      rw [if_neg (by omega), ha]
      simp [Addr.add_lit]
    · rw [show off + k + i = off + (k + i) by omega, hc]
      simp only [List.getD, List.getElem?_drop]
theorem Gi.upto {D : Nat → Prop} {w : World} {v : Sl} {t : List Int} (h : Gi D w v t) {k : Nat} (hk : k ≤ v.len) : Gi (fun _ => True) w ⟨fromA v.a v.cap 0, k, v.cap⟩ (t.take k) := by
  have hl := h.len
  have hle := h.le
  have hb := h.big
  refine ⟨by rw [List.length_take, hl]; show min k v.len = k; omega, fun e => h.nil (fromA_none e), by show k ≤ v.cap; omega, by show k ≤ _; omega, fun _ _ _ => trivial, fun i hi => ?_⟩
  have hi' : i < k := hi
  obtain ⟨b, off, ha, hc⟩ := h.cell i (by omega)
  refine ⟨b, off, ?_, ?_⟩
  · show fromA v.a v.cap 0 = _
    unfold fromA
    rw [if_neg (by omega), ha]
    simp [Addr.add_lit]
  · rw [hc]
    simp only [List.getD, List.getElem?_take, if_pos hi']

/-- Numbers that are made behind w0. -/
structure Nq (w0 w : World) (s : Sl) (t : List Int) : Prop where
  own : OwnN w s t
  home : ∀ k, s.blk = some k → w0.heap.size ≤ k
  below : Below w0.heap.size w0 w
theorem Nq.keep {w0 w w' : World} {s : Sl} {t : List Int} (h : Nq w0 w s t) (hb : Below w.heap.size w w') : Nq w0 w' s t :=
  ⟨Own.frame h.own (fun k hk => hb.block k (Own.lt h.own hk)), h.home, rBelow h.below hb⟩
theorem Nq.gi {w0 w : World} {s : Sl} {t : List Int} (h : Nq w0 w s t) (hm : s.len ≤ 1000000) : Gi (fun k => w0.heap.size ≤ k) w s t := h.own.gi (fun k hk => h.home k hk) hm
theorem Nq.new0 {w0 w : World} (h : Below w0.heap.size w0 w) : Nq w0 (w.alloc (.cells #[] 3)) ⟨some ⟨w.heap.size, 0, none⟩, 0, 0⟩ [] :=
  ⟨OwnN.new w, fun k hk => by have e : some w.heap.size = some k := hk; cases e; exact h.size, rBelow h (below_alloc w _)⟩
theorem Nq.lit1 {w0 w : World} (h : Below w0.heap.size w0 w) (x : Int) : Nq w0 (w.alloc (.cells #[.int .i64 x] 3)) ⟨some ⟨w.heap.size, 0, none⟩, 1, 1⟩ [x] :=
  ⟨⟨rfl, .inr ⟨w.heap.size, 0, _, rfl, heap_alloc_new w _, by simp, Nat.le_refl _, (by show 1 ≤ maxLen; unfold maxLen; omega), rfl⟩⟩, fun k hk => by have e : some w.heap.size = some k := hk; cases e; exact h.size, rBelow h (below_alloc w _)⟩
theorem Nq.app {w0 w : World} {s : Sl} {t : List Int} (h : Nq w0 w s t) {x : Value} {n : Nat} {u : List Int} (hs : Src Try.prog 1 22 x n (cellsN u) w) (hl : s.len + n ≤ 1000000) :
    ∃ s' w', (∀ ty, (Builtin.append_ #[22, 22] ty #[s.val, x]).run Try.prog w = .ok s'.val w') ∧ Nq w0 w' s' (t ++ u) ∧ Frm (fun k => s.blk = some k) w w' ∧ s'.len = s.len + n := by
  obtain ⟨s', w', hrun, ho, hlen, hf, hbk⟩ := own_append Try.underlying22 infoIn1 rfl (by decide) w s (cellsN t) h.own (cellsN_one t) x n (cellsN u) hs hl 0
  refine ⟨s', w', fun ty => hrun, ⟨?_, fun k hk => ?_, h.below.trans (hf.below h.below.size (fun k hk => h.home k hk))⟩, hf, hlen⟩
  · show Own 3 1 w' s' (cellsN (t ++ u))
    rw [show cellsN (t ++ u) = cellsN t ++ cellsN u by simp [cellsN]]
    exact ho
  · rcases hbk with e | ⟨e, _⟩
    · rw [e] at hk; exact h.home k hk
    · rw [e] at hk
      cases hk
      exact h.below.size
/-- A row in another block stays. -/
theorem Nq.other {w0 w w' : World} {s r : Sl} {t : List Int} (h : Nq w0 w s t) (hf : Frm (fun k => r.blk = some k) w w') (hb : Below w0.heap.size w0 w') (hn : ∀ k, s.blk = some k → ¬ r.blk = some k) : Nq w0 w' s t :=
  ⟨Own.frame h.own (fun k hk => hf.block k (Own.lt h.own hk) (hn k hk)), h.home, hb⟩
theorem build0_int (w : World) : (Instr.buildSlice 22 0 #[]).run Try.prog w = .ok (.slice (some ⟨w.heap.size, 0, none⟩) 0 0) (w.alloc (.cells #[] 3)) := by
  have h22 : Try.prog.underlying 22 = some (.slice (Try.prog.elem 22)) := by kernel_rfl
  simp [go_sem, Instr.buildSlice, run_underlying h22]
theorem build1_int (x : Int) (w : World) : (Instr.buildSlice 22 1 #[(0, .int .i64 x)]).run Try.prog w = .ok (.slice (some ⟨w.heap.size, 0, none⟩) 1 1) (w.alloc (.cells #[.int .i64 x] 3)) := by
  have h22 : Try.prog.underlying 22 = some (.slice (Try.prog.elem 22)) := by kernel_rfl
  simp [go_sem, Instr.buildSlice, run_underlying h22]
theorem fdVw (p k : Nat) (hk : k < 3) (w : World) : (Instr.fieldAt 25 (.pointer (some ⟨p, 0, none⟩)) k).run Try.prog w = .ok (.pointer (some ⟨p, k, none⟩)) w := by
  have : k = 0 ∨ k = 1 ∨ k = 2 := by omega
  rcases this with rfl | rfl | rfl <;> simp [go_sem, Instr.fieldAt]
theorem ldVw2 {w : World} {p : Nat} {v : Vw} {s : Sl} (k : VwBlk w p v s) : (Instr.loadAt 22 (.pointer (some ⟨p, 2, none⟩))).run Try.prog w = .ok s.val w := by
  have c2 := k.c2
  unfold Sl.val at c2 ⊢
  simp [go_sem, c2]
/-- A view's numbers are laid anew. -/
theorem stVw2 {w : World} {p : Nat} {v : Vw} {s : Sl} (k : VwBlk w p v s) (s' : Sl) (t : List Int) : ∃ W, (Instr.storeAt 22 (.pointer (some ⟨p, 2, none⟩)) s'.val).run Try.prog w = .ok () W ∧ VwBlk W p ⟨v.self, v.next, t⟩ s' ∧ Frm (fun k => k = p) w W ∧ W.heap.size = w.heap.size := by
  have c2 := k.c2
  have f0 := k.fz
  refine ⟨w.setCell ⟨p, 2, none⟩ s'.val, by simp [go_sem, Instr.storeAt, stored, c2, f0, Sl.val], ?_, (Frm.refl (fun k => k = p) w).setCell (p := ⟨p, 2, none⟩) rfl _, setCell_size w _ _⟩
  unfold VwBlk at k ⊢
  rw [heap_setCell_same w p 2 _ 25 s'.val k]
  rfl

theorem fin12 {w w13 W : World} {g : Nat} {v : Vw} {s13 : Sl} {ay : Nat} {x : Int} (hq : Nq w w13 s13 ([] ++ v.act.take ay ++ [x] ++ v.act.drop ay)) (hk : VwBlk W g ⟨v.self, v.next, v.act.take ay ++ x :: v.act.drop ay⟩ s13) (hf : Frm (fun k => k = g) w13 W) (hg : g < w.heap.size) :
    OwnN W s13 (v.act.take ay ++ x :: v.act.drop ay) ∧ (∀ k, s13.blk = some k → w.heap.size ≤ k) ∧ Frm (fun k => k = g) w W := by
  have e : [] ++ v.act.take ay ++ [x] ++ v.act.drop ay = v.act.take ay ++ x :: v.act.drop ay := by simp
  rw [e] at hq
  exact ⟨Own.frame hq.own (fun k hb => hf.block k (Own.lt hq.own hb) (fun e2 => by have := hq.home k hb; omega)), hq.home, (Frm.ofBelow hq.below).trans hf (fun _ _ e2 => e2)⟩

set_option maxHeartbeats 8000000 in
set_option maxRecDepth 100000 in
theorem rof12 {D : Nat → Prop} (w : World) (g : Nat) (v : Vw) (s : Sl) (hk : VwBlk w g v s) (hs : Gi D w s v.act) (hl : s.len + 1 ≤ 1000000) (ay : Nat) (hat : ay ≤ s.len) (x : Int)
    {Q : Exit → Act → World → Prop} {A : Act} (hsz : A.tmps.size = 78) (hdf : A.defers = []) (t8 : A.tmps.getD 8 undef = .pointer (some ⟨g, 0, none⟩)) (t11 : A.tmps.getD 11 undef = .int .i64 ((ay : Nat) : Int)) (t10 : A.tmps.getD 10 undef = .int .i64 x)
    (hend : ∀ (q : Nat → Value) (s' : Sl) w', VwBlk w' g ⟨v.self, v.next, v.act.take ay ++ x :: v.act.drop ay⟩ s' → OwnN w' s' (v.act.take ay ++ x :: v.act.drop ay) → (∀ k, s'.blk = some k → w.heap.size ≤ k) → s'.len = s.len + 1 → Frm (fun k => k = g) w w' → Q .normal (((((((((((((((A.put (some 59) (q 59)).put (some 60) (q 60)).put (some 61) (q 61)).put (some 62) (q 62)).put (some 64) (q 64)).put (some 67) (q 67)).put (some 68) (q 68)).put (some 69) (q 69)).put (some 70) (q 70)).put (some 58) (q 58)).put (some 63) (q 63)).put (some 65) (q 65)).put (some 66) (q 66)).put (some 71) (q 71)).put (some 72) (q 72)) w') :
    (Code.region 12 (Pl.find 12 ((Try.f9.body).getD .skip)) true).wp Try.prog Q A w := by
  have hA := Pl.At.same (v := .int .i64 x) (d := 10) (Pl.At.same (v := .int .i64 ((ay : Nat) : Int)) (d := 11) (Pl.At.same (v := .pointer (some ⟨g, 0, none⟩)) (d := 8) (Pl.At.here hsz hdf) t8) t11) t10
  have HS : Below w.heap.size w w.drew := below_drew w
  refine Pz.H.start (S := fun w' => Below w.heap.size w w') 15 (by kernel_rfl) hA ?_
  rw [show (Pl.find 12 ((Try.f9.body).getD .skip)).size = 16 by kernel_rfl]
  refine Pz.H.take 1 59 (.pointer (some ⟨g, 2, none⟩)) (by kernel_rfl) (by kernel_rfl) (by kernel_rfl) (by kernel_rfl) (Pl.free 1 (by kernel_rfl)) (Pl.field 1 25 (.tmp 8) 2 _ (by kernel_rfl) (by decide) (fdVw g 2 (by decide))) HS ?_
  refine Pz.H.take 2 60 (s.val) (by kernel_rfl) (by kernel_rfl) (by kernel_rfl) (by kernel_rfl) (Pl.free 2 (by kernel_rfl)) (Pl.load 2 22 (.tmp 59) _ (by kernel_rfl) (by decide) (fun w' hS => ldVw2 (hk.keep hS))) HS ?_
  refine Pz.H.take 3 61 (.int .i64 ((ay : Nat) : Int)) (by kernel_rfl) (by kernel_rfl) (by kernel_rfl) (by kernel_rfl) (Pl.free 3 (by kernel_rfl)) (Pl.move 3 (.tmp 11) (by kernel_rfl) (by decide)) HS ?_
  refine Pz.H.take 4 62 (.slice (fromA s.a s.cap 0) ay s.cap) (by kernel_rfl) (by kernel_rfl) (by kernel_rfl) (by kernel_rfl) (Pl.free 4 (by kernel_rfl)) (Pl.slice 4 22 (.tmp 60) none (some (.tmp 61)) _ (by kernel_rfl) (by decide) (by decide) (by decide) (fun w => slice_uptoI s.a s.len s.cap ay (by have := hs.le; omega) w)) HS ?_
  refine Pz.H.take 6 64 (.int .i64 x) (by kernel_rfl) (by kernel_rfl) (by kernel_rfl) (by kernel_rfl) (Pl.free 6 (by kernel_rfl)) (Pl.move 6 (.tmp 10) (by kernel_rfl) (by decide)) HS ?_
  refine Pz.H.take 9 67 (.pointer (some ⟨g, 2, none⟩)) (by kernel_rfl) (by kernel_rfl) (by kernel_rfl) (by kernel_rfl) (Pl.free 9 (by kernel_rfl)) (Pl.field 9 25 (.tmp 8) 2 _ (by kernel_rfl) (by decide) (fdVw g 2 (by decide))) HS ?_
  refine Pz.H.take 10 68 (s.val) (by kernel_rfl) (by kernel_rfl) (by kernel_rfl) (by kernel_rfl) (Pl.free 10 (by kernel_rfl)) (Pl.load 10 22 (.tmp 67) _ (by kernel_rfl) (by decide) (fun w' hS => ldVw2 (hk.keep hS))) HS ?_
  refine Pz.H.take 11 69 (.int .i64 ((ay : Nat) : Int)) (by kernel_rfl) (by kernel_rfl) (by kernel_rfl) (by kernel_rfl) (Pl.free 11 (by kernel_rfl)) (Pl.move 11 (.tmp 11) (by kernel_rfl) (by decide)) HS ?_
  refine Pz.H.take 12 70 (.slice (fromA s.a s.cap ay) (s.len - ay) (s.cap - ay)) (by kernel_rfl) (by kernel_rfl) (by kernel_rfl) (by kernel_rfl) (Pl.free 12 (by kernel_rfl)) (Pl.slice 12 22 (.tmp 68) (some (.tmp 69)) none _ (by kernel_rfl) (by decide) (by decide) (by decide) (fun w => slice_fromI s.a s.len s.cap ay hat w)) HS ?_
  refine Pz.H.two 0 7 (by kernel_rfl) ?_ ?_
  · have hQ0 : Nq w (w.drew.alloc (.cells #[] 3)) ⟨some ⟨w.drew.heap.size, 0, none⟩, 0, 0⟩ [] := Nq.new0 HS
    refine Pz.HOp.value 0 58 (.slice (some ⟨w.drew.heap.size, 0, none⟩) 0 0) (w.drew.alloc (.cells #[] 3)) (by kernel_rfl) (by kernel_rfl) (by kernel_rfl) (Pl.zero 0 22 _ _ (by kernel_rfl) (build0_int w.drew)) hQ0.below ?_
    refine Pz.H.two 5 7 (by kernel_rfl) ?_ ?_
    · obtain ⟨s5, w5, hap5, hq5, hf5, hl5⟩ := hQ0.app (((hs.below hQ0.below (Nat.le_refl _)).upto hat).src) (by show 0 + ay ≤ _; omega)
      have hl5' : s5.len = ay := by rw [hl5]; exact Nat.zero_add ay
      refine Pz.HOp.value 5 63 (s5.val) (w5) (by kernel_rfl) (by kernel_rfl) (by kernel_rfl) (Pl.appV 5 22 22 (.tmp 58) (.tmp 62) _ _ (by kernel_rfl) (by decide) (by decide) hap5) hq5.below ?_
      refine Pz.H.one 7 (by kernel_rfl) ?_
      have hL0 : Nq w (w5.alloc (.cells #[.int .i64 x] 3)) ⟨some ⟨w5.heap.size, 0, none⟩, 1, 1⟩ [x] := Nq.lit1 hq5.below x
      have hQe := hq5.keep (below_alloc w5 (.cells #[.int .i64 x] 3))
      refine Pz.HOp.value 7 65 (.slice (some ⟨w5.heap.size, 0, none⟩) 1 1) (w5.alloc (.cells #[.int .i64 x] 3)) (by kernel_rfl) (by kernel_rfl) (by kernel_rfl) (Pl.one 7 22 (.tmp 64) _ _ (by kernel_rfl) (by decide) (build1_int x w5)) hL0.below ?_
      refine Pz.H.one 8 (by kernel_rfl) ?_
      obtain ⟨s8, w8, hap8, hq8, hf8, hl8⟩ := hQe.app ((hL0.gi (by show 1 ≤ 1000000; omega)).src) (by rw [hl5']; show ay + 1 ≤ _; omega)
      have hl8' : s8.len = ay + 1 := by rw [hl8, hl5']
      refine Pz.HOp.value 8 66 (s8.val) (w8) (by kernel_rfl) (by kernel_rfl) (by kernel_rfl) (Pl.appV 8 22 22 (.tmp 63) (.tmp 65) _ _ (by kernel_rfl) (by decide) (by decide) hap8) hq8.below ?_
      refine Pz.H.one 13 (by kernel_rfl) ?_
      obtain ⟨s13, w13, hap13, hq13, hf13, hl13⟩ := hq8.app (((hs.below hq8.below (Nat.le_refl _)).from_ hat).src) (by rw [hl8']; show ay + 1 + (s.len - ay) ≤ _; omega)
      refine Pz.HOp.value 13 71 (s13.val) (w13) (by kernel_rfl) (by kernel_rfl) (by kernel_rfl) (Pl.appV 13 22 22 (.tmp 66) (.tmp 70) _ _ (by kernel_rfl) (by decide) (by decide) hap13) hq13.below ?_
      refine Pz.H.take 14 72 (.pointer (some ⟨g, 2, none⟩)) (by kernel_rfl) (by kernel_rfl) (by kernel_rfl) (by kernel_rfl) (Pl.free 14 (by kernel_rfl)) (Pl.field 14 25 (.tmp 8) 2 _ (by kernel_rfl) (by decide) (fdVw g 2 (by decide))) hq13.below ?_
      obtain ⟨W, hst, hkW, hfW, hzW⟩ := stVw2 (hk.keep hq13.below) s13 (v.act.take ay ++ x :: v.act.drop ay)
      refine Pz.H.store W (by kernel_rfl) (by kernel_rfl) (by kernel_rfl) (Pl.free 15 (by kernel_rfl)) (Pl.storeV 15 22 (.tmp 72) (.tmp 71) _ (by kernel_rfl) (by decide) (by decide) hst) ?_
      have hqe := fin12 hq13 hkW hfW hk.lt
      refine Pz.H.done (by kernel_rfl) (fun A' hA' => ?_)
      rw [Pl.At.ext hA' (((((((((((((((hA.put 59 _).put 60 _).put 61 _).put 62 _).put 64 _).put 67 _).put 68 _).put 69 _).put 70 _).put 58 _).put 63 _).put 65 _).put 66 _).put 71 _).put 72 _)]
      exact hend (fun d => if d = 59 then .pointer (some ⟨g, 2, none⟩) else if d = 60 then s.val else if d = 61 then .int .i64 ((ay : Nat) : Int) else if d = 62 then .slice (fromA s.a s.cap 0) ay s.cap else if d = 64 then .int .i64 x else if d = 67 then .pointer (some ⟨g, 2, none⟩) else if d = 68 then s.val else if d = 69 then .int .i64 ((ay : Nat) : Int) else if d = 70 then .slice (fromA s.a s.cap ay) (s.len - ay) (s.cap - ay) else if d = 58 then .slice (some ⟨w.drew.heap.size, 0, none⟩) 0 0 else if d = 63 then s5.val else if d = 65 then .slice (some ⟨w5.heap.size, 0, none⟩) 1 1 else if d = 66 then s8.val else if d = 71 then s13.val else if d = 72 then .pointer (some ⟨g, 2, none⟩) else undef) s13 W hkW hqe.1 hqe.2.1 (by rw [hl13, hl8']; show ay + 1 + (s.len - ay) = _; omega) hqe.2.2
    · have hL0 : Nq w ((w.drew.alloc (.cells #[] 3)).alloc (.cells #[.int .i64 x] 3)) ⟨some ⟨(w.drew.alloc (.cells #[] 3)).heap.size, 0, none⟩, 1, 1⟩ [x] := Nq.lit1 hQ0.below x
      have hQe := hQ0.keep (below_alloc (w.drew.alloc (.cells #[] 3)) (.cells #[.int .i64 x] 3))
      refine Pz.HOp.value 7 65 (.slice (some ⟨(w.drew.alloc (.cells #[] 3)).heap.size, 0, none⟩) 1 1) ((w.drew.alloc (.cells #[] 3)).alloc (.cells #[.int .i64 x] 3)) (by kernel_rfl) (by kernel_rfl) (by kernel_rfl) (Pl.one 7 22 (.tmp 64) _ _ (by kernel_rfl) (by decide) (build1_int x (w.drew.alloc (.cells #[] 3)))) hL0.below ?_
      refine Pz.H.one 5 (by kernel_rfl) ?_
      obtain ⟨s5, w5, hap5, hq5, hf5, hl5⟩ := hQe.app (((hs.below hL0.below (Nat.le_refl _)).upto hat).src) (by show 0 + ay ≤ _; omega)
      have hl5' : s5.len = ay := by rw [hl5]; exact Nat.zero_add ay
      have hL5 := hL0.other hf5 hq5.below (fun k e1 e2 => by simp only [Sl.blk, Option.map_some, Option.some.injEq, alloc_size] at e1 e2; omega)
      refine Pz.HOp.value 5 63 (s5.val) (w5) (by kernel_rfl) (by kernel_rfl) (by kernel_rfl) (Pl.appV 5 22 22 (.tmp 58) (.tmp 62) _ _ (by kernel_rfl) (by decide) (by decide) hap5) hq5.below ?_
      rw [Pl.upd_comm _ 65 63 _ _ (by decide)]
      refine Pz.H.one 8 (by kernel_rfl) ?_
      obtain ⟨s8, w8, hap8, hq8, hf8, hl8⟩ := hq5.app ((hL5.gi (by show 1 ≤ 1000000; omega)).src) (by rw [hl5']; show ay + 1 ≤ _; omega)
      have hl8' : s8.len = ay + 1 := by rw [hl8, hl5']
      refine Pz.HOp.value 8 66 (s8.val) (w8) (by kernel_rfl) (by kernel_rfl) (by kernel_rfl) (Pl.appV 8 22 22 (.tmp 63) (.tmp 65) _ _ (by kernel_rfl) (by decide) (by decide) hap8) hq8.below ?_
      refine Pz.H.one 13 (by kernel_rfl) ?_
      obtain ⟨s13, w13, hap13, hq13, hf13, hl13⟩ := hq8.app (((hs.below hq8.below (Nat.le_refl _)).from_ hat).src) (by rw [hl8']; show ay + 1 + (s.len - ay) ≤ _; omega)
      refine Pz.HOp.value 13 71 (s13.val) (w13) (by kernel_rfl) (by kernel_rfl) (by kernel_rfl) (Pl.appV 13 22 22 (.tmp 66) (.tmp 70) _ _ (by kernel_rfl) (by decide) (by decide) hap13) hq13.below ?_
      refine Pz.H.take 14 72 (.pointer (some ⟨g, 2, none⟩)) (by kernel_rfl) (by kernel_rfl) (by kernel_rfl) (by kernel_rfl) (Pl.free 14 (by kernel_rfl)) (Pl.field 14 25 (.tmp 8) 2 _ (by kernel_rfl) (by decide) (fdVw g 2 (by decide))) hq13.below ?_
      obtain ⟨W, hst, hkW, hfW, hzW⟩ := stVw2 (hk.keep hq13.below) s13 (v.act.take ay ++ x :: v.act.drop ay)
      refine Pz.H.store W (by kernel_rfl) (by kernel_rfl) (by kernel_rfl) (Pl.free 15 (by kernel_rfl)) (Pl.storeV 15 22 (.tmp 72) (.tmp 71) _ (by kernel_rfl) (by decide) (by decide) hst) ?_
      have hqe := fin12 hq13 hkW hfW hk.lt
      refine Pz.H.done (by kernel_rfl) (fun A' hA' => ?_)
      rw [Pl.At.ext hA' (((((((((((((((hA.put 59 _).put 60 _).put 61 _).put 62 _).put 64 _).put 67 _).put 68 _).put 69 _).put 70 _).put 58 _).put 63 _).put 65 _).put 66 _).put 71 _).put 72 _)]
      exact hend (fun d => if d = 59 then .pointer (some ⟨g, 2, none⟩) else if d = 60 then s.val else if d = 61 then .int .i64 ((ay : Nat) : Int) else if d = 62 then .slice (fromA s.a s.cap 0) ay s.cap else if d = 64 then .int .i64 x else if d = 67 then .pointer (some ⟨g, 2, none⟩) else if d = 68 then s.val else if d = 69 then .int .i64 ((ay : Nat) : Int) else if d = 70 then .slice (fromA s.a s.cap ay) (s.len - ay) (s.cap - ay) else if d = 58 then .slice (some ⟨w.drew.heap.size, 0, none⟩) 0 0 else if d = 63 then s5.val else if d = 65 then .slice (some ⟨(w.drew.alloc (.cells #[] 3)).heap.size, 0, none⟩) 1 1 else if d = 66 then s8.val else if d = 71 then s13.val else if d = 72 then .pointer (some ⟨g, 2, none⟩) else undef) s13 W hkW hqe.1 hqe.2.1 (by rw [hl13, hl8']; show ay + 1 + (s.len - ay) = _; omega) hqe.2.2
  · have hL0 : Nq w (w.drew.alloc (.cells #[.int .i64 x] 3)) ⟨some ⟨w.drew.heap.size, 0, none⟩, 1, 1⟩ [x] := Nq.lit1 HS x
    refine Pz.HOp.value 7 65 (.slice (some ⟨w.drew.heap.size, 0, none⟩) 1 1) (w.drew.alloc (.cells #[.int .i64 x] 3)) (by kernel_rfl) (by kernel_rfl) (by kernel_rfl) (Pl.one 7 22 (.tmp 64) _ _ (by kernel_rfl) (by decide) (build1_int x w.drew)) hL0.below ?_
    refine Pz.H.one 0 (by kernel_rfl) ?_
    have hQ0 : Nq w ((w.drew.alloc (.cells #[.int .i64 x] 3)).alloc (.cells #[] 3)) ⟨some ⟨(w.drew.alloc (.cells #[.int .i64 x] 3)).heap.size, 0, none⟩, 0, 0⟩ [] := Nq.new0 hL0.below
    have hLe := hL0.keep (below_alloc (w.drew.alloc (.cells #[.int .i64 x] 3)) (.cells #[] 3))
    refine Pz.HOp.value 0 58 (.slice (some ⟨(w.drew.alloc (.cells #[.int .i64 x] 3)).heap.size, 0, none⟩) 0 0) ((w.drew.alloc (.cells #[.int .i64 x] 3)).alloc (.cells #[] 3)) (by kernel_rfl) (by kernel_rfl) (by kernel_rfl) (Pl.zero 0 22 _ _ (by kernel_rfl) (build0_int (w.drew.alloc (.cells #[.int .i64 x] 3)))) hQ0.below ?_
    rw [Pl.upd_comm _ 65 58 _ _ (by decide)]
    refine Pz.H.one 5 (by kernel_rfl) ?_
    obtain ⟨s5, w5, hap5, hq5, hf5, hl5⟩ := hQ0.app (((hs.below hQ0.below (Nat.le_refl _)).upto hat).src) (by show 0 + ay ≤ _; omega)
    have hl5' : s5.len = ay := by rw [hl5]; exact Nat.zero_add ay
    have hL5 := hLe.other hf5 hq5.below (fun k e1 e2 => by simp only [Sl.blk, Option.map_some, Option.some.injEq, alloc_size] at e1 e2; omega)
    refine Pz.HOp.value 5 63 (s5.val) (w5) (by kernel_rfl) (by kernel_rfl) (by kernel_rfl) (Pl.appV 5 22 22 (.tmp 58) (.tmp 62) _ _ (by kernel_rfl) (by decide) (by decide) hap5) hq5.below ?_
    rw [Pl.upd_comm _ 65 63 _ _ (by decide)]
    refine Pz.H.one 8 (by kernel_rfl) ?_
    obtain ⟨s8, w8, hap8, hq8, hf8, hl8⟩ := hq5.app ((hL5.gi (by show 1 ≤ 1000000; omega)).src) (by rw [hl5']; show ay + 1 ≤ _; omega)
    have hl8' : s8.len = ay + 1 := by rw [hl8, hl5']
    refine Pz.HOp.value 8 66 (s8.val) (w8) (by kernel_rfl) (by kernel_rfl) (by kernel_rfl) (Pl.appV 8 22 22 (.tmp 63) (.tmp 65) _ _ (by kernel_rfl) (by decide) (by decide) hap8) hq8.below ?_
    refine Pz.H.one 13 (by kernel_rfl) ?_
    obtain ⟨s13, w13, hap13, hq13, hf13, hl13⟩ := hq8.app (((hs.below hq8.below (Nat.le_refl _)).from_ hat).src) (by rw [hl8']; show ay + 1 + (s.len - ay) ≤ _; omega)
    refine Pz.HOp.value 13 71 (s13.val) (w13) (by kernel_rfl) (by kernel_rfl) (by kernel_rfl) (Pl.appV 13 22 22 (.tmp 66) (.tmp 70) _ _ (by kernel_rfl) (by decide) (by decide) hap13) hq13.below ?_
    refine Pz.H.take 14 72 (.pointer (some ⟨g, 2, none⟩)) (by kernel_rfl) (by kernel_rfl) (by kernel_rfl) (by kernel_rfl) (Pl.free 14 (by kernel_rfl)) (Pl.field 14 25 (.tmp 8) 2 _ (by kernel_rfl) (by decide) (fdVw g 2 (by decide))) hq13.below ?_
    obtain ⟨W, hst, hkW, hfW, hzW⟩ := stVw2 (hk.keep hq13.below) s13 (v.act.take ay ++ x :: v.act.drop ay)
    refine Pz.H.store W (by kernel_rfl) (by kernel_rfl) (by kernel_rfl) (Pl.free 15 (by kernel_rfl)) (Pl.storeV 15 22 (.tmp 72) (.tmp 71) _ (by kernel_rfl) (by decide) (by decide) hst) ?_
    have hqe := fin12 hq13 hkW hfW hk.lt
    refine Pz.H.done (by kernel_rfl) (fun A' hA' => ?_)
    rw [Pl.At.ext hA' (((((((((((((((hA.put 59 _).put 60 _).put 61 _).put 62 _).put 64 _).put 67 _).put 68 _).put 69 _).put 70 _).put 58 _).put 63 _).put 65 _).put 66 _).put 71 _).put 72 _)]
    exact hend (fun d => if d = 59 then .pointer (some ⟨g, 2, none⟩) else if d = 60 then s.val else if d = 61 then .int .i64 ((ay : Nat) : Int) else if d = 62 then .slice (fromA s.a s.cap 0) ay s.cap else if d = 64 then .int .i64 x else if d = 67 then .pointer (some ⟨g, 2, none⟩) else if d = 68 then s.val else if d = 69 then .int .i64 ((ay : Nat) : Int) else if d = 70 then .slice (fromA s.a s.cap ay) (s.len - ay) (s.cap - ay) else if d = 58 then .slice (some ⟨(w.drew.alloc (.cells #[.int .i64 x] 3)).heap.size, 0, none⟩) 0 0 else if d = 63 then s5.val else if d = 65 then .slice (some ⟨w.drew.heap.size, 0, none⟩) 1 1 else if d = 66 then s8.val else if d = 71 then s13.val else if d = 72 then .pointer (some ⟨g, 2, none⟩) else undef) s13 W hkW hqe.1 hqe.2.1 (by rw [hl13, hl8']; show ay + 1 + (s.len - ay) = _; omega) hqe.2.2

end Go.Proofs.Ytehmemfeagjagaa
