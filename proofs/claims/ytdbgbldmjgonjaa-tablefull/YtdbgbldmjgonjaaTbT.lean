/-
  The law of room, over what the functions say.
-/
import Derived.Test.YtdbgbldmjgonjaaTbS
namespace Go.Proofs.Ytdbgbldmjgonjaa
open Go.RowKit
set_option linter.unusedVariables false

theorem extrT2 (a b : Value) (w : World) : (Instr.extract (.tuple #[a, b]) 0).run Try.prog w = .ok a w ∧ (Instr.extract (.tuple #[a, b]) 1).run Try.prog w = .ok b w := by
  refine ⟨?_, ?_⟩ <;> simp [go_sem, Instr.extract]
theorem extrT3 (a b c : Value) (w : World) : (Instr.extract (.tuple #[a, b, c]) 0).run Try.prog w = .ok a w ∧ (Instr.extract (.tuple #[a, b, c]) 1).run Try.prog w = .ok b w ∧ (Instr.extract (.tuple #[a, b, c]) 2).run Try.prog w = .ok c w := by
  refine ⟨?_, ?_, ?_⟩ <;> simp [go_sem, Instr.extract]
set_option maxRecDepth 100000 in
theorem convT8 (o : Nat) (ho : o < 256) (w : World) : (convert 5 3 (.int .u8 ((o : Nat) : Int))).run Try.prog w = .ok (.int .i64 ((o : Nat) : Int)) w := by
  have h : ∀ o : Fin 256, (convert 5 3 (.int .u8 ((o.val : Nat) : Int))).run Try.prog w = .ok (.int .i64 ((o.val : Nat) : Int)) w := by
    intro o
    have hw : IntKind.i64.wrap ((o.val : Nat) : Int) = ((o.val : Nat) : Int) := by
      revert o
      decide
    simp [go_sem, convert, hw]
  exact h ⟨o, ho⟩
theorem remT12 (o : Nat) (ho : o < 256) (x y : Operand) (w : World) : (do eqGuard .rem 3 x y (.int .i64 ((o : Nat) : Int)) (.int .i64 12); binOp .rem 3 (.int .i64 ((o : Nat) : Int)) (.int .i64 12) : Sem Value).run Try.prog w = .ok (.int .i64 ((o % 12 : Nat) : Int)) w := by
  simp [go_sem, eqGuard]
  exact Int.tmod_eq_emod_of_nonneg (by omega)

theorem enters24 : ∀ args w, (callFunc 24 args).run Try.prog w = .ok (.enter 24 args) w := Pl.enters Try.func24 (by kernel_rfl) (by kernel_rfl)

theorem enters21 : ∀ args w, (callFunc 21 args).run Try.prog w = .ok (.enter 21 args) w := Pl.enters Try.func21 (by kernel_rfl) (by kernel_rfl)


set_option maxHeartbeats 2000000 in
set_option maxRecDepth 100000 in
theorem tfl14 (w : World) (t ta : Tb) (s : Sl) (p b off n c o : Nat) (z : Int) (ho : o < 256) (hn : 12 ≤ n) (hX : Bx w p t s) (hz : w.cell? ⟨b, off + o % 12, none⟩ = some (.int .i64 z)) (hne : ¬ b = p) (HLv : ∀ v w, Es w v t.es → Calls Try.prog 24 #[t.val v, .int .i64 z] w (TbTold ta w (fun x => .tuple #[x, .int .i64 0])))
    {Q : Exit → Act → World → Prop} {A : Act} (hsz : A.tmps.size = 98) (hdf : A.defers = []) (s1 : A.tmps.getD 1 undef = .int .u8 ((o : Nat) : Int)) (s5 : A.tmps.getD 5 undef = .pointer (some ⟨p, 0, none⟩)) (s6 : A.tmps.getD 6 undef = .slice (some ⟨b, off, none⟩) n c)
    (hend : ∀ (u : Nat → Value) w' s1, (Bx w' p ta s1 ∧ Frm (fun k => k = p) w w') → Q .normal (((((((((((((A).put (some 64) (u 64)).put (some 65) (u 65)).put (some 66) (u 66)).put (some 67) (u 67)).put (some 68) (u 68)).put (some 69) (u 69)).put (some 63) (u 63)).put (some 70) (u 70)).put (some 62) (u 62)).put (some 71) (u 71)).put (some 72) (u 72)).put (some 12) (.int .i64 0)) w') :
    (Code.region 14 (Pl.find 14 ((Try.f7.body).getD .skip)) true).wp Try.prog Q A w := by
  have hS0 : Frm (fun k => k = p) w w.drew := Frm.ofBelow (below_drew w)
  have hA := Pl.At.same (v := .slice (some ⟨b, off, none⟩) n c) (d := 6) (Pl.At.same (v := .pointer (some ⟨p, 0, none⟩)) (d := 5) (Pl.At.same (v := .int .u8 ((o : Nat) : Int)) (d := 1) (Pl.At.here hsz hdf) s1) s5) s6
  refine Pl.H.start (S := fun w' => Frm (fun k => k = p) w w') (by kernel_rfl) hA hS0 ?_
  rw [show (Pl.find 14 ((Try.f7.body).getD .skip)).size = 13 by kernel_rfl]
  refine Pl.H.take 1 64 (.slice (some ⟨b, off, none⟩) n c) (by kernel_rfl) (by kernel_rfl) (by kernel_rfl) (Pl.free 1 (by kernel_rfl)) (Pl.move 1 (.tmp 6) (by kernel_rfl) (by decide)) hS0 ?_
  refine Pl.H.take 2 65 (.int .u8 ((o : Nat) : Int)) (by kernel_rfl) (by kernel_rfl) (by kernel_rfl) (Pl.free 2 (by kernel_rfl)) (Pl.move 2 (.tmp 1) (by kernel_rfl) (by decide)) hS0 ?_
  refine Pl.H.take 3 66 (.int .i64 ((o : Nat) : Int)) (by kernel_rfl) (by kernel_rfl) (by kernel_rfl) (Pl.free 3 (by kernel_rfl)) (Pl.convV 3 5 3 (.tmp 65) (.int .u8 ((o : Nat) : Int)) _ (by kernel_rfl) (by decide) rfl (fun w' _ => convT8 o ho w')) hS0 ?_
  refine Pl.H.take 4 67 (.int .i64 ((o % 12 : Nat) : Int)) (by kernel_rfl) (by kernel_rfl) (by kernel_rfl) (Pl.free 4 (by kernel_rfl)) (Pl.binV 4 .rem 3 3 (.tmp 66) (.const (.int .i64 12)) (.int .i64 ((o : Nat) : Int)) (.int .i64 12) _ (by kernel_rfl) (by decide) (by decide) rfl rfl (fun w => remT12 o ho _ _ w)) hS0 ?_
  refine Pl.H.take 5 68 (.pointer (some ⟨b, off + (o % 12), none⟩)) (by kernel_rfl) (by kernel_rfl) (by kernel_rfl) (Pl.free 5 (by kernel_rfl)) (Pl.index 5 32 (.tmp 64) (.tmp 67) _ (by kernel_rfl) (by decide) (by decide) (ixI1 b off n c (o % 12) (by omega))) hS0 ?_
  refine Pl.H.take 6 69 (.int .i64 z) (by kernel_rfl) (by kernel_rfl) (by kernel_rfl) (Pl.free 6 (by kernel_rfl)) (Pl.load 6 3 (.tmp 68) _ (by kernel_rfl) (by decide) (fun w' hS => ldInt b (off + (o % 12)) z w' ((hS.cellT (p := ⟨b, off + o % 12, none⟩) (World.block_lt_of_cell? w _ hz) hne).trans hz))) hS0 ?_
  refine Pl.H.solo 0 63 (t.val s) (by kernel_rfl) (by kernel_rfl) (by kernel_rfl) (Pl.free 0 (by kernel_rfl)) (Pl.load1 0 24 (.tmp 5) _ (by kernel_rfl) (by decide) (load_tb p t s w.drew (hX.keep (below_drew w)).blk)) hS0 ?_
  refine Pl.H.call 7 70 24 [(.tmp 63), (.tmp 69)] #[24, 3] (by kernel_rfl) (by kernel_rfl) (by kernel_rfl) (Pl.free 7 (by kernel_rfl)) (by kernel_rfl) (by decide) enters24 (Calls.mono (HLv s w.drew (hX.keep (below_drew w)).es) ?_)
  rintro e w1 ⟨s1, rfl, he1, hb1⟩
  have hS1 : Frm (fun k => k = p) w w1 := hS0.trans (G := fun _ => False) (Frm.ofBelow hb1) (fun _ _ h => h.elim)
  have hX1 := (hX.keep (below_drew w)).keep hb1
  refine ⟨.tuple #[ta.val s1, .int .i64 0], rfl, hS1, ?_⟩
  refine Pl.H.take 8 62 (.tuple #[ta.val s1, .int .i64 0]) (by kernel_rfl) (by kernel_rfl) (by kernel_rfl) (Pl.free 8 (by kernel_rfl)) (Pl.move 8 (.tmp 70) (by kernel_rfl) (by decide)) hS1 ?_
  refine Pl.H.take 9 71 (ta.val s1) (by kernel_rfl) (by kernel_rfl) (by kernel_rfl) (Pl.free 9 (by kernel_rfl)) (Pl.extr 9 (.tmp 62) 0 _ (by kernel_rfl) (by decide) (fun w => (extrT2 _ _ w).1)) hS1 ?_
  refine Pl.H.take 10 72 (.int .i64 0) (by kernel_rfl) (by kernel_rfl) (by kernel_rfl) (Pl.free 10 (by kernel_rfl)) (Pl.extr 10 (.tmp 62) 1 _ (by kernel_rfl) (by decide) (fun w => (extrT2 _ _ w).2)) hS1 ?_
  obtain ⟨W2, hst2, hbx2, hfr2⟩ := hX1.lay ta s1 he1
  have hS2 : Frm (fun k => k = p) w W2 := hS1.trans hfr2 (fun _ _ h => h)
  refine Pl.H.store 11 W2 (by kernel_rfl) (by kernel_rfl) (by kernel_rfl) (Pl.free 11 (by kernel_rfl)) (Pl.storeV 11 24 (.tmp 5) (.tmp 71) _ (by kernel_rfl) (by decide) (by decide) hst2) hS2 ?_
  refine Pl.H.take 12 12 (.int .i64 0) (by kernel_rfl) (by kernel_rfl) (by kernel_rfl) (Pl.free 12 (by kernel_rfl)) (Pl.assign 12 (.tmp 72) (by kernel_rfl) (by decide)) hS2 ?_
  refine Pl.H.done (by kernel_rfl) (fun A' hA' => ?_)
  rw [Pl.At.ext hA' ((((((((((((hA.put 64 _).put 65 _).put 66 _).put 67 _).put 68 _).put 69 _).put 63 _).put 70 _).put 62 _).put 71 _).put 72 _).put 12 _)]
  exact hend (fun d => if d = 64 then .slice (some ⟨b, off, none⟩) n c else if d = 65 then .int .u8 ((o : Nat) : Int) else if d = 66 then .int .i64 ((o : Nat) : Int) else if d = 67 then .int .i64 ((o % 12 : Nat) : Int) else if d = 68 then .pointer (some ⟨b, off + (o % 12), none⟩) else if d = 69 then .int .i64 z else if d = 63 then t.val s else if d = 70 then .tuple #[ta.val s1, .int .i64 0] else if d = 62 then .tuple #[ta.val s1, .int .i64 0] else if d = 71 then ta.val s1 else if d = 72 then .int .i64 0 else undef) _ s1 ⟨hbx2, hS2⟩

set_option maxHeartbeats 2000000 in
set_option maxRecDepth 100000 in
theorem tfl15 (w : World) (t tb : Tb) (s : Sl) (p b off n c : Nat) (z k : Int) (hn : 12 < n) (hX : Bx w p t s) (hz : w.cell? ⟨b, off + 12, none⟩ = some (.int .i64 z)) (HEn : ∀ v w, Es w v t.es → Calls Try.prog 21 #[t.val v, .int .i64 z] w (TbTold tb w (fun x => .tuple #[x, .int .i64 k, .int .i64 0])))
    {Q : Exit → Act → World → Prop} {A : Act} (hsz : A.tmps.size = 98) (hdf : A.defers = []) (s5 : A.tmps.getD 5 undef = .pointer (some ⟨p, 0, none⟩)) (s6 : A.tmps.getD 6 undef = .slice (some ⟨b, off, none⟩) n c)
    (hend : ∀ (u : Nat → Value) w', Below w.heap.size w w' → Q .normal (((((((((((((A).put (some 74) (u 74)).put (some 75) (u 75)).put (some 76) (u 76)).put (some 77) (u 77)).put (some 78) (u 78)).put (some 73) (u 73)).put (some 79) (u 79)).put (some 80) (u 80)).put (some 81) (u 81)).put (some 13) (u 13)).put (some 14) (.int .i64 k)).put (some 15) (.int .i64 0)) w') :
    (Code.region 15 (Pl.find 15 ((Try.f7.body).getD .skip)) true).wp Try.prog Q A w := by
  have hS0 : Below w.heap.size w w.drew := below_drew w
  have hA := Pl.At.same (v := .slice (some ⟨b, off, none⟩) n c) (d := 6) (Pl.At.same (v := .pointer (some ⟨p, 0, none⟩)) (d := 5) (Pl.At.here hsz hdf) s5) s6
  refine Pl.H.start (S := fun w' => Below w.heap.size w w') (by kernel_rfl) hA hS0 ?_
  rw [show (Pl.find 15 ((Try.f7.body).getD .skip)).size = 13 by kernel_rfl]
  refine Pl.H.take 0 74 (t.val s) (by kernel_rfl) (by kernel_rfl) (by kernel_rfl) (Pl.free 0 (by kernel_rfl)) (Pl.load 0 24 (.tmp 5) _ (by kernel_rfl) (by decide) (fun w' hS => load_tb p t s w' (hX.keep hS).blk)) hS0 ?_
  refine Pl.H.take 1 75 (.slice (some ⟨b, off, none⟩) n c) (by kernel_rfl) (by kernel_rfl) (by kernel_rfl) (Pl.free 1 (by kernel_rfl)) (Pl.move 1 (.tmp 6) (by kernel_rfl) (by decide)) hS0 ?_
  refine Pl.H.take 2 76 (.pointer (some ⟨b, off + 12, none⟩)) (by kernel_rfl) (by kernel_rfl) (by kernel_rfl) (Pl.free 2 (by kernel_rfl)) (Pl.index 2 32 (.tmp 75) (.const (.int .i64 12)) _ (by kernel_rfl) (by decide) (by decide) (ixI1 b off n c 12 hn)) hS0 ?_
  refine Pl.H.take 3 77 (.int .i64 z) (by kernel_rfl) (by kernel_rfl) (by kernel_rfl) (Pl.free 3 (by kernel_rfl)) (Pl.load 3 3 (.tmp 76) _ (by kernel_rfl) (by decide) (fun w' hS => ldInt b (off + 12) z w' ((hS.cell (p := ⟨b, off + 12, none⟩) (World.block_lt_of_cell? w _ hz)).trans hz))) hS0 ?_
  refine Pl.H.two 4 9 (by kernel_rfl) ?_ ?_
  · refine Pl.HOp.call 4 78 21 [(.tmp 74), (.tmp 77)] #[24, 3] (by kernel_rfl) (by kernel_rfl) (by kernel_rfl) (by kernel_rfl) (by decide) enters21 (Calls.mono (HEn s w.drew (hX.keep hS0).es) ?_)
    rintro e w1 ⟨s1, rfl, he1, hb1⟩
    have hS1 : Below w.heap.size w w1 := rBelowT hS0 hb1
    refine ⟨.tuple #[tb.val s1, .int .i64 k, .int .i64 0], rfl, hS1, ?_⟩
    refine Pl.H.take 5 73 (.tuple #[tb.val s1, .int .i64 k, .int .i64 0]) (by kernel_rfl) (by kernel_rfl) (by kernel_rfl) (Pl.free 5 (by kernel_rfl)) (Pl.move 5 (.tmp 78) (by kernel_rfl) (by decide)) hS1 ?_
    refine Pl.H.take 6 79 (tb.val s1) (by kernel_rfl) (by kernel_rfl) (by kernel_rfl) (Pl.free 6 (by kernel_rfl)) (Pl.extr 6 (.tmp 73) 0 _ (by kernel_rfl) (by decide) (fun w => (extrT3 _ _ _ w).1)) hS1 ?_
    refine Pl.H.take 7 80 (.int .i64 k) (by kernel_rfl) (by kernel_rfl) (by kernel_rfl) (Pl.free 7 (by kernel_rfl)) (Pl.extr 7 (.tmp 73) 1 _ (by kernel_rfl) (by decide) (fun w => (extrT3 _ _ _ w).2.1)) hS1 ?_
    refine Pl.H.take 8 81 (.int .i64 0) (by kernel_rfl) (by kernel_rfl) (by kernel_rfl) (Pl.free 8 (by kernel_rfl)) (Pl.extr 8 (.tmp 73) 2 _ (by kernel_rfl) (by decide) (fun w => (extrT3 _ _ _ w).2.2)) hS1 ?_
    have hSa : Below w.heap.size w (w1.alloc (.cells #[.int .i64 0, .int .i64 0, .int .i64 0, .slice none 0 0] 24)) := hS1.alloc hS1.size _
    have hz0 : TbBlk (w1.alloc (.cells #[.int .i64 0, .int .i64 0, .int .i64 0, .slice none 0 0] 24)) w1.heap.size Tb.zero Sl.nil := TbBlk.new w1 Tb.zero Sl.nil
    have hg0 : w.heap.size ≤ w1.heap.size := hS1.size
    refine Pl.H.make 9 13 (.pointer (some ⟨w1.heap.size, 0, none⟩)) (w1.alloc (.cells #[.int .i64 0, .int .i64 0, .int .i64 0, .slice none 0 0] 24)) (by kernel_rfl) (by kernel_rfl) (by kernel_rfl) (Pl.free 9 (by kernel_rfl)) (Pl.allocV 9 24 _ _ (by kernel_rfl) (allocTb w1)) hSa ?_
    obtain ⟨W2, hst2, hbk2, hfr2, hsz2⟩ := hz0.store tb s1
    have hS2 : Below w.heap.size w W2 := hSa.trans (hfr2.below hSa.size (fun k hk => by rw [hk]; exact hg0))
    refine Pl.H.store 10 W2 (by kernel_rfl) (by kernel_rfl) (by kernel_rfl) (Pl.free 10 (by kernel_rfl)) (Pl.storeV 10 24 (.tmp 13) (.tmp 79) _ (by kernel_rfl) (by decide) (by decide) hst2) hS2 ?_
    refine Pl.H.take 11 14 (.int .i64 k) (by kernel_rfl) (by kernel_rfl) (by kernel_rfl) (Pl.free 11 (by kernel_rfl)) (Pl.assign 11 (.tmp 80) (by kernel_rfl) (by decide)) hS2 ?_
    refine Pl.H.take 12 15 (.int .i64 0) (by kernel_rfl) (by kernel_rfl) (by kernel_rfl) (Pl.free 12 (by kernel_rfl)) (Pl.assign 12 (.tmp 81) (by kernel_rfl) (by decide)) hS2 ?_
    refine Pl.H.done (by kernel_rfl) (fun A' hA' => ?_)
    rw [Pl.At.ext hA' ((((((((((((hA.put 74 _).put 75 _).put 76 _).put 77 _).put 78 _).put 73 _).put 79 _).put 80 _).put 81 _).put 13 _).put 14 _).put 15 _)]
    exact hend (fun d => if d = 74 then t.val s else if d = 75 then .slice (some ⟨b, off, none⟩) n c else if d = 76 then .pointer (some ⟨b, off + 12, none⟩) else if d = 77 then .int .i64 z else if d = 78 then .tuple #[tb.val s1, .int .i64 k, .int .i64 0] else if d = 73 then .tuple #[tb.val s1, .int .i64 k, .int .i64 0] else if d = 79 then tb.val s1 else if d = 80 then .int .i64 k else if d = 81 then .int .i64 0 else if d = 13 then .pointer (some ⟨w1.heap.size, 0, none⟩) else undef) _ hS2
  · have hSa : Below w.heap.size w (w.drew.alloc (.cells #[.int .i64 0, .int .i64 0, .int .i64 0, .slice none 0 0] 24)) := hS0.alloc hS0.size _
    have hz0 : TbBlk (w.drew.alloc (.cells #[.int .i64 0, .int .i64 0, .int .i64 0, .slice none 0 0] 24)) w.drew.heap.size Tb.zero Sl.nil := TbBlk.new w.drew Tb.zero Sl.nil
    have hg0 : w.heap.size ≤ w.drew.heap.size := hS0.size
    refine Pl.HOp.value 9 13 (.pointer (some ⟨w.drew.heap.size, 0, none⟩)) (w.drew.alloc (.cells #[.int .i64 0, .int .i64 0, .int .i64 0, .slice none 0 0] 24)) (by kernel_rfl) (by kernel_rfl) (by kernel_rfl) (Pl.allocV 9 24 _ _ (by kernel_rfl) (allocTb w.drew)) hSa ?_
    refine Pl.H.call 4 78 21 [(.tmp 74), (.tmp 77)] #[24, 3] (by kernel_rfl) (by kernel_rfl) (by kernel_rfl) (Pl.free 4 (by kernel_rfl)) (by kernel_rfl) (by decide) enters21 (Calls.mono (HEn s ((w.drew.alloc (.cells #[.int .i64 0, .int .i64 0, .int .i64 0, .slice none 0 0] 24))) (hX.keep hSa).es) ?_)
    rintro e w1 ⟨s1, rfl, he1, hb1⟩
    have hS1 : Below w.heap.size w w1 := rBelowT hSa hb1
    have hz1 := hz0.keep hb1
    refine ⟨.tuple #[tb.val s1, .int .i64 k, .int .i64 0], rfl, hS1, ?_⟩
    rw [Pl.upd_comm _ 13 78 _ _ (by decide)]
    refine Pl.H.take 5 73 (.tuple #[tb.val s1, .int .i64 k, .int .i64 0]) (by kernel_rfl) (by kernel_rfl) (by kernel_rfl) (Pl.free 5 (by kernel_rfl)) (Pl.move 5 (.tmp 78) (by kernel_rfl) (by decide)) hS1 ?_
    rw [Pl.upd_comm _ 13 73 _ _ (by decide)]
    refine Pl.H.take 6 79 (tb.val s1) (by kernel_rfl) (by kernel_rfl) (by kernel_rfl) (Pl.free 6 (by kernel_rfl)) (Pl.extr 6 (.tmp 73) 0 _ (by kernel_rfl) (by decide) (fun w => (extrT3 _ _ _ w).1)) hS1 ?_
    rw [Pl.upd_comm _ 13 79 _ _ (by decide)]
    refine Pl.H.take 7 80 (.int .i64 k) (by kernel_rfl) (by kernel_rfl) (by kernel_rfl) (Pl.free 7 (by kernel_rfl)) (Pl.extr 7 (.tmp 73) 1 _ (by kernel_rfl) (by decide) (fun w => (extrT3 _ _ _ w).2.1)) hS1 ?_
    rw [Pl.upd_comm _ 13 80 _ _ (by decide)]
    refine Pl.H.take 8 81 (.int .i64 0) (by kernel_rfl) (by kernel_rfl) (by kernel_rfl) (Pl.free 8 (by kernel_rfl)) (Pl.extr 8 (.tmp 73) 2 _ (by kernel_rfl) (by decide) (fun w => (extrT3 _ _ _ w).2.2)) hS1 ?_
    rw [Pl.upd_comm _ 13 81 _ _ (by decide)]
    obtain ⟨W2, hst2, hbk2, hfr2, hsz2⟩ := hz1.store tb s1
    have hS2 : Below w.heap.size w W2 := hS1.trans (hfr2.below hS1.size (fun k hk => by rw [hk]; exact hg0))
    refine Pl.H.store 10 W2 (by kernel_rfl) (by kernel_rfl) (by kernel_rfl) (Pl.free 10 (by kernel_rfl)) (Pl.storeV 10 24 (.tmp 13) (.tmp 79) _ (by kernel_rfl) (by decide) (by decide) hst2) hS2 ?_
    refine Pl.H.take 11 14 (.int .i64 k) (by kernel_rfl) (by kernel_rfl) (by kernel_rfl) (Pl.free 11 (by kernel_rfl)) (Pl.assign 11 (.tmp 80) (by kernel_rfl) (by decide)) hS2 ?_
    refine Pl.H.take 12 15 (.int .i64 0) (by kernel_rfl) (by kernel_rfl) (by kernel_rfl) (Pl.free 12 (by kernel_rfl)) (Pl.assign 12 (.tmp 81) (by kernel_rfl) (by decide)) hS2 ?_
    refine Pl.H.done (by kernel_rfl) (fun A' hA' => ?_)
    rw [Pl.At.ext hA' ((((((((((((hA.put 74 _).put 75 _).put 76 _).put 77 _).put 78 _).put 73 _).put 79 _).put 80 _).put 81 _).put 13 _).put 14 _).put 15 _)]
    exact hend (fun d => if d = 74 then t.val s else if d = 75 then .slice (some ⟨b, off, none⟩) n c else if d = 76 then .pointer (some ⟨b, off + 12, none⟩) else if d = 77 then .int .i64 z else if d = 78 then .tuple #[tb.val s1, .int .i64 k, .int .i64 0] else if d = 73 then .tuple #[tb.val s1, .int .i64 k, .int .i64 0] else if d = 79 then tb.val s1 else if d = 80 then .int .i64 k else if d = 81 then .int .i64 0 else if d = 13 then .pointer (some ⟨w.drew.heap.size, 0, none⟩) else undef) _ hS2

theorem rng_notin {xs : List Int} (h : ∀ j, j < xs.length → 20 * (j : Int) + 1 ≤ xs.getD j 0 ∧ xs.getD j 0 ≤ 20 * (j : Int) + 20) {x : Int} (hx : 20 * (xs.length : Int) + 1 ≤ x) : x ∉ xs := by
  intro hm
  obtain ⟨j, hj, e⟩ := List.mem_iff_getElem.1 hm
  have := h j hj
  have e2 : xs.getD j 0 = x := by rw [← e]; simp [List.getD, hj]
  rw [e2] at this
  omega
theorem rng_nodup {xs : List Int} (h : ∀ j, j < xs.length → 20 * (j : Int) + 1 ≤ xs.getD j 0 ∧ xs.getD j 0 ≤ 20 * (j : Int) + 20) : xs.Nodup := by
  refine List.pairwise_iff_getElem.2 (fun i j hi hj hij e => ?_)
  have h1 := h i hi
  have h2 := h j hj
  have e1 : xs.getD i 0 = xs[i] := by simp [List.getD, hi]
  have e2 : xs.getD j 0 = xs[j] := by simp [List.getD, hj]
  rw [e1, e] at h1
  rw [e2] at h2
  omega
/-- What stands between two rounds. -/
structure FlI (w wr : World) (p : Nat) (t : Tb) (s : Sl) (xs : List Int) (sv : Value) : Prop where
  box : Bx wr p t s
  ty : Ty wr s
  fil : Filled t (xs.take 12)
  own : OwnsV 3 wr w.heap.size sv (kVals xs)
  rng : ∀ j, j < xs.length → 20 * (j : Int) + 1 ≤ xs.getD j 0 ∧ xs.getD j 0 ≤ 20 * (j : Int) + 20
  below : Below w.heap.size w wr
theorem rng_more {xs : List Int} {x : Int} (h : ∀ j, j < xs.length → 20 * (j : Int) + 1 ≤ xs.getD j 0 ∧ xs.getD j 0 ≤ 20 * (j : Int) + 20) (h1 : 20 * (xs.length : Int) + 1 ≤ x) (h2 : x ≤ 20 * (xs.length : Int) + 20) : ∀ j, j < (xs ++ [x]).length → 20 * (j : Int) + 1 ≤ (xs ++ [x]).getD j 0 ∧ (xs ++ [x]).getD j 0 ≤ 20 * (j : Int) + 20 := by
  intro j hj
  rcases Nat.lt_or_ge j xs.length with hlt | hge
  · have e : (xs ++ [x]).getD j 0 = xs.getD j 0 := by rw [List.getD_eq_getElem?_getD, List.getElem?_append_left hlt, ← List.getD_eq_getElem?_getD]
    rw [e]
    exact h j hlt
  · have ej : j = xs.length := by simp at hj; omega
    subst ej
    have e : (xs ++ [x]).getD xs.length 0 = x := by simp [List.getD]
    rw [e]
    exact ⟨h1, h2⟩

set_option maxHeartbeats 16000000 in
set_option maxRecDepth 100000 in
theorem fullT_walk (H : TableSS) (a0 : Option Addr) (len0 cap0 : Nat) (bs : List Nat) (o : Nat) (w : World) (hc : Came w a0 len0 cap0 bs) (ho : o < 256) :
    Calls Try.prog 7 #[.slice a0 len0 cap0, .int .u8 ((o : Nat) : Int)] w fun e w' => e = .returned (.bool true) ∧ Below w.heap.size w w' := by
  have HC := hide hc
  have hbig := hc.big
  have HAW := hide H.all.awake
  have HH := hide H
  have HFr := hide (H.first w)
  clear hc H
  go_enter Try.func7, Try.ntmps7
  go_wp2_with fail
  refine HFr.out.mono ?_
  rintro e w1 ⟨s1, rfl, he1, ht1, hb1⟩
  simp only [id]
  obtain ⟨W1, hst1, hbx1, hbb1⟩ := bxT w1 firstT s1 he1
  have HST1 := hide hst1
  have HT1 := hide ((ht1 (Ty.nil _)).keep hbb1)
  have HB1 := hide (rBelow hb1 hbb1)
  have HX1 := hide hbx1
  have HPL : Hid (w.heap.size ≤ w1.heap.size) := hb1.size
  clear hst1 hbx1 hbb1 he1 ht1 hb1 HFr
  go_wp2_with (refine wpList_store _ rfl rfl 24 (.tmp 5) (.tmp 16) rfl (.pointer (some ⟨w1.heap.size, 0, none⟩)) (firstT.val s1) rfl rfl W1 HST1.out ?_)
  have hbd := below_alloc W1 (.cells #[] 3)
  have HI0 : Hid (FlI w (W1.alloc (.cells #[] 3)) w1.heap.size firstT s1 [] (.slice (some ⟨W1.heap.size, 0, none⟩) 0 0)) := ⟨HX1.out.keep hbd, HT1.out.keep hbd, Filled.first, (OwnsV.lit 3 W1 W1.heap.size [] (Nat.le_refl _) (by decide)).lower HB1.out.size, (fun j hj => by cases hj), rBelow HB1.out hbd⟩
  clear hbd HX1 HT1 HB1 HST1
  go_loopw [6, 7] (fun svx iv wr => ∃ (i : Nat) (sv : Value) (t : Tb) (s : Sl) (xs : List Int), sv = svx ∧ i ≤ 13 ∧ xs.length = i ∧ iv = .int .i64 (i : Nat) ∧ Hid (FlI w wr w1.heap.size t s xs sv)) (fun _ iv _ => 13 - (intOf iv).toNat)
  case atStart => exact ⟨0, _, firstT, s1, [], rfl, Nat.zero_le _, rfl, rfl, HI0⟩
  case round =>
    obtain ⟨i, sv, t, s, xs, rfl, hi, hxl, rfl, hI⟩ := hrel
    rename World => wr
    rcases Nat.lt_or_ge i 13 with hlt | hge
    · have i1 : ((i : Nat) : Int) < 13 := by omega
      rcases Nat.lt_or_ge i len0 with hlb | hgb
      · have i2 : ((i : Nat) : Int) < ((len0 : Nat) : Int) := by omega
        rcases Nat.lt_or_ge i 12 with hl12 | hg12
        · have i3 : ((i : Nat) : Int) < 12 := by omega
          have i4 : ¬ ((i : Nat) : Int) = 12 := by omega
          have i5 : (((i : Nat) : Int) == 12) = false := by simp; omega
          obtain ⟨b, off, ha, hcell⟩ := (HC.out.bs.keep hI.out.below (Nat.le_refl _)).2.2 i hlb
          subst ha
          have hy : bs.getD i 0 < 256 := by
            have hl0 := HC.out.bs.1
            have hm : bs.getD i 0 ∈ bs := by simp only [List.getD, List.getElem?_eq_getElem (show i < bs.length by omega)]; exact List.getElem_mem _
            exact HC.out.bs.2.1 _ hm
          generalize bs.getD i 0 = y at *
          obtain ⟨tx, htx⟩ : ∃ tx : Int, tx = 20 * ((i : Nat) : Int) + 1 + ((y : Nat) : Int) % 20 := ⟨_, rfl⟩
          have HTX := hide htx
          have hr1 : 20 * (xs.length : Int) + 1 ≤ tx := by rw [hxl, htx]; omega
          have hr2 : tx ≤ 20 * (xs.length : Int) + 20 := by rw [hxl, htx]; omega
          have hni := rng_notin hI.out.rng hr1
          have htk : xs.take 12 = xs := List.take_of_length_le (by omega)
          have hfil := hI.out.fil
          rw [htk] at hfil
          have HR := hide (rng_more hI.out.rng hr1 hr2)
          have HEn := HH.out.ent t s tx wr hI.out.box.es (hI.out.box.may hfil.may)
          rw [enterL_yes hfil.may] at HEn
          obtain ⟨hm1, hm2⟩ := hfil.more (x := tx) (by omega) (by omega) hni (by omega)
          rw [hm1, hxl] at HEn
          have HFil : Hid (Filled (enterT t tx).1 ((xs ++ [tx]).take 12)) := by
            show Filled _ _
            rw [List.take_of_length_le (by simp; omega)]
            exact hm2
          generalize (enterT t tx).1 = ta at *
          clear hm1 hm2
          simp only at HEn
          have HEn := hide HEn
          have HXp := hide hI.out.box
          have HTs := hide hI.out.ty
          have HO := hide hI.out.own
          have HB := hide hI.out.below
          have c0 := hI.out.box.blk.c0
          have c1 := hI.out.box.blk.c1
          have c2 := hI.out.box.blk.c2
          have c3 := hI.out.box.blk.c3
          clear hI htx hr1 hr2 hni htk hfil
          go_wp2_with fail
          rw [← HTX.out]
          refine HEn.out.mono ?_
          rintro e w3 ⟨s3, rfl, he3, ht3, hb3⟩
          obtain ⟨W4, hst4, hbx4, hbb4⟩ := bxT w3 ta s3 he3
          have hb4 := rBelow hb3 hbb4
          have HX4 := HXp.out.keep hb4
          obtain ⟨W5, hst5, hbx5, hfr5⟩ := HX4.lay ta s3 hbx4.es
          have hb5 : Below w.heap.size w W5 := (rBelow HB.out hb4).trans (hfr5.below (rBelow HB.out hb4).size (fun k hk => by have := HPL.out; omega))
          have hO5 := (HO.out.keep hb4 (Nat.le_refl _)).otherT HX4.blk hfr5
          have hT5 := ((ht3 HTs.out).keep hbb4).other HX4.blk hfr5
          have q0 := hbx4.blk.c0
          have q1 := hbx4.blk.c1
          have q2 := hbx4.blk.c2
          have q3 := hbx4.blk.c3
          have HST4 := hide hst4
          have HST5 := hide hst5
          have hB6 := below_alloc W5 (.cells #[.int .i64 tx] 3)
          have HV := hide (vs_one 3 W5 (.int .i64 tx) rfl)
          have HO6 := hide (hO5.keep hB6 (Nat.le_refl _))
          have HB6 := hide (rBelow hb5 hB6)
          have HX6 := hide (hbx5.keep hB6)
          have HT6 := hide (hT5.keep hB6)
          have HLEN : Hid ((kVals xs).length + 1 ≤ 1000000) := by
            show _ ≤ _
            simp only [kVals, List.length_map]
            omega
          clear hst4 hst5 hbx4 hbb4 hb4 HX4 hbx5 hfr5 hb5 hO5 hT5 hB6 he3 ht3 hb3 c0 c1 c2 c3 HXp HTs HO HB HEn
          go_wp2_with (first | refine wpList_store _ rfl rfl 24 (.tmp 9) (.tmp 41) rfl (.pointer (some ⟨w3.heap.size, 0, none⟩)) (ta.val s3) rfl rfl W4 HST4.out ?_ | refine wpList_store _ rfl rfl 24 (.tmp 5) (.tmp 57) rfl (.pointer (some ⟨w1.heap.size, 0, none⟩)) (ta.val s3) rfl rfl W5 HST5.out ?_ | (at_builtin; refine wpList_append_vals oneIntT _ rfl (.tmp 58) (.tmp 60) rfl w.heap.size _ _ rfl HO6.out _ 1 1 [.int .i64 tx] rfl HV.out (fun h => by cases h) HLEN.out HB6.out.size ?_))
          intro v7 w7 ho7 hb7 hs7
          have eo : kVals (xs ++ [tx]) = kVals xs ++ [.int .i64 tx] := by simp [kVals]
          have HN : Hid (FlI w w7 w1.heap.size ta s3 (xs ++ [tx]) v7) := ⟨HX6.out.stay HT6.out hs7, HT6.out.stay hs7, HFil.out, by rw [eo]; exact ho7, HR.out, HB6.out.trans hb7⟩
          have hxn : (xs ++ [tx]).length = i + 1 := by simp; omega
          clear ho7 hb7 hs7 eo q0 q1 q2 q3
          go_wp2_with fail
          go_roundw
          case rel => exact ⟨i + 1, v7, ta, s3, xs ++ [tx], rfl, by omega, hxn, by go_num, HN⟩
          case measure => simp only [intOf]; omega
        · have e12 : i = 12 := by omega
          subst e12
          obtain ⟨b, off, ha, hcell⟩ := (HC.out.bs.keep hI.out.below (Nat.le_refl _)).2.2 12 hlb
          subst ha
          have hy : bs.getD 12 0 < 256 := by
            have hl0 := HC.out.bs.1
            have hm : bs.getD 12 0 ∈ bs := by simp only [List.getD, List.getElem?_eq_getElem (show 12 < bs.length by omega)]; exact List.getElem_mem _
            exact HC.out.bs.2.1 _ hm
          generalize bs.getD 12 0 = y at *
          obtain ⟨tx, htx⟩ : ∃ tx : Int, tx = 241 + ((y : Nat) : Int) % 20 := ⟨_, rfl⟩
          have HTX := hide htx
          have hr1 : 20 * (xs.length : Int) + 1 ≤ tx := by rw [hxl, htx]; omega
          have hr2 : tx ≤ 20 * (xs.length : Int) + 20 := by rw [hxl, htx]; omega
          have hni := rng_notin hI.out.rng hr1
          have htk : xs.take 12 = xs := List.take_of_length_le (by omega)
          have hfil := hI.out.fil
          rw [htk] at hfil
          have HR := hide (rng_more hI.out.rng hr1 hr2)
          have HEn := HH.out.ent t s tx wr hI.out.box.es (hI.out.box.may hfil.may)
          rw [enterL_yes hfil.may] at HEn
          rw [hfil.full (x := tx) (by omega) (by omega) hni (by omega)] at HEn
          have HFil : Hid (Filled t ((xs ++ [tx]).take 12)) := by
            show Filled _ _
            rw [List.take_append_of_le_length (by omega), htk]
            exact hfil
          obtain ⟨ta, hta⟩ : ∃ ta, ta = t := ⟨_, rfl⟩
          rw [← hta] at HFil
          simp only at HEn
          rw [show TbSays t s = TbSays ta s by rw [hta]] at HEn
          clear hta
          have HEn := hide HEn
          have HXp := hide hI.out.box
          have HTs := hide hI.out.ty
          have HO := hide hI.out.own
          have HB := hide hI.out.below
          have c0 := hI.out.box.blk.c0
          have c1 := hI.out.box.blk.c1
          have c2 := hI.out.box.blk.c2
          have c3 := hI.out.box.blk.c3
          clear hI htx hr1 hr2 hni htk hfil
          go_wp2_with fail
          rw [← HTX.out]
          refine HEn.out.mono ?_
          rintro e w3 ⟨s3, rfl, he3, ht3, hb3⟩
          obtain ⟨W4, hst4, hbx4, hbb4⟩ := bxT w3 ta s3 he3
          have hb4 := rBelow hb3 hbb4
          have HX4 := HXp.out.keep hb4
          obtain ⟨W5, hst5, hbx5, hfr5⟩ := HX4.lay ta s3 hbx4.es
          have hb5 : Below w.heap.size w W5 := (rBelow HB.out hb4).trans (hfr5.below (rBelow HB.out hb4).size (fun k hk => by have := HPL.out; omega))
          have hO5 := (HO.out.keep hb4 (Nat.le_refl _)).otherT HX4.blk hfr5
          have hT5 := ((ht3 HTs.out).keep hbb4).other HX4.blk hfr5
          have q0 := hbx4.blk.c0
          have q1 := hbx4.blk.c1
          have q2 := hbx4.blk.c2
          have q3 := hbx4.blk.c3
          have HST4 := hide hst4
          have HST5 := hide hst5
          have hB6 := below_alloc W5 (.cells #[.int .i64 tx] 3)
          have HV := hide (vs_one 3 W5 (.int .i64 tx) rfl)
          have HO6 := hide (hO5.keep hB6 (Nat.le_refl _))
          have HB6 := hide (rBelow hb5 hB6)
          have HX6 := hide (hbx5.keep hB6)
          have HT6 := hide (hT5.keep hB6)
          have HLEN : Hid ((kVals xs).length + 1 ≤ 1000000) := by
            show _ ≤ _
            simp only [kVals, List.length_map]
            omega
          clear hst4 hst5 hbx4 hbb4 hb4 HX4 hbx5 hfr5 hb5 hO5 hT5 hB6 he3 ht3 hb3 c0 c1 c2 c3 HXp HTs HO HB HEn
          go_wp2_with (first | refine wpList_store _ rfl rfl 24 (.tmp 9) (.tmp 41) rfl (.pointer (some ⟨w3.heap.size, 0, none⟩)) (ta.val s3) rfl rfl W4 HST4.out ?_ | refine wpList_store _ rfl rfl 24 (.tmp 5) (.tmp 57) rfl (.pointer (some ⟨w1.heap.size, 0, none⟩)) (ta.val s3) rfl rfl W5 HST5.out ?_ | (at_builtin; refine wpList_append_vals oneIntT _ rfl (.tmp 58) (.tmp 60) rfl w.heap.size _ _ rfl HO6.out _ 1 1 [.int .i64 tx] rfl HV.out (fun h => by cases h) HLEN.out HB6.out.size ?_))
          intro v7 w7 ho7 hb7 hs7
          have eo : kVals (xs ++ [tx]) = kVals xs ++ [.int .i64 tx] := by simp [kVals]
          have HN : Hid (FlI w w7 w1.heap.size ta s3 (xs ++ [tx]) v7) := ⟨HX6.out.stay HT6.out hs7, HT6.out.stay hs7, HFil.out, by rw [eo]; exact ho7, HR.out, HB6.out.trans hb7⟩
          have hxn : (xs ++ [tx]).length = 12 + 1 := by simp; omega
          clear ho7 hb7 hs7 eo q0 q1 q2 q3
          go_wp2_with fail
          go_roundw
          case rel => exact ⟨12 + 1, v7, ta, s3, xs ++ [tx], rfl, by omega, hxn, by go_num, HN⟩
          case measure => simp only [intOf]; omega
      · have i2 : ¬ ((i : Nat) : Int) < ((len0 : Nat) : Int) := by omega
        rcases Nat.lt_or_ge i 12 with hl12 | hg12
        · have i3 : ((i : Nat) : Int) < 12 := by omega
          have i4 : ¬ ((i : Nat) : Int) = 12 := by omega
          have i5 : (((i : Nat) : Int) == 12) = false := by simp; omega
          obtain ⟨tx, htx⟩ : ∃ tx : Int, tx = 20 * ((i : Nat) : Int) + 1 := ⟨_, rfl⟩
          have HTX := hide htx
          have hr1 : 20 * (xs.length : Int) + 1 ≤ tx := by rw [hxl, htx]; omega
          have hr2 : tx ≤ 20 * (xs.length : Int) + 20 := by rw [hxl, htx]; omega
          have hni := rng_notin hI.out.rng hr1
          have htk : xs.take 12 = xs := List.take_of_length_le (by omega)
          have hfil := hI.out.fil
          rw [htk] at hfil
          have HR := hide (rng_more hI.out.rng hr1 hr2)
          have HEn := HH.out.ent t s tx wr hI.out.box.es (hI.out.box.may hfil.may)
          rw [enterL_yes hfil.may] at HEn
          obtain ⟨hm1, hm2⟩ := hfil.more (x := tx) (by omega) (by omega) hni (by omega)
          rw [hm1, hxl] at HEn
          have HFil : Hid (Filled (enterT t tx).1 ((xs ++ [tx]).take 12)) := by
            show Filled _ _
            rw [List.take_of_length_le (by simp; omega)]
            exact hm2
          generalize (enterT t tx).1 = ta at *
          clear hm1 hm2
          simp only at HEn
          have HEn := hide HEn
          have HXp := hide hI.out.box
          have HTs := hide hI.out.ty
          have HO := hide hI.out.own
          have HB := hide hI.out.below
          have c0 := hI.out.box.blk.c0
          have c1 := hI.out.box.blk.c1
          have c2 := hI.out.box.blk.c2
          have c3 := hI.out.box.blk.c3
          clear hI htx hr1 hr2 hni htk hfil
          go_wp2_with fail
          rw [← HTX.out]
          refine HEn.out.mono ?_
          rintro e w3 ⟨s3, rfl, he3, ht3, hb3⟩
          obtain ⟨W4, hst4, hbx4, hbb4⟩ := bxT w3 ta s3 he3
          have hb4 := rBelow hb3 hbb4
          have HX4 := HXp.out.keep hb4
          obtain ⟨W5, hst5, hbx5, hfr5⟩ := HX4.lay ta s3 hbx4.es
          have hb5 : Below w.heap.size w W5 := (rBelow HB.out hb4).trans (hfr5.below (rBelow HB.out hb4).size (fun k hk => by have := HPL.out; omega))
          have hO5 := (HO.out.keep hb4 (Nat.le_refl _)).otherT HX4.blk hfr5
          have hT5 := ((ht3 HTs.out).keep hbb4).other HX4.blk hfr5
          have q0 := hbx4.blk.c0
          have q1 := hbx4.blk.c1
          have q2 := hbx4.blk.c2
          have q3 := hbx4.blk.c3
          have HST4 := hide hst4
          have HST5 := hide hst5
          have hB6 := below_alloc W5 (.cells #[.int .i64 tx] 3)
          have HV := hide (vs_one 3 W5 (.int .i64 tx) rfl)
          have HO6 := hide (hO5.keep hB6 (Nat.le_refl _))
          have HB6 := hide (rBelow hb5 hB6)
          have HX6 := hide (hbx5.keep hB6)
          have HT6 := hide (hT5.keep hB6)
          have HLEN : Hid ((kVals xs).length + 1 ≤ 1000000) := by
            show _ ≤ _
            simp only [kVals, List.length_map]
            omega
          clear hst4 hst5 hbx4 hbb4 hb4 HX4 hbx5 hfr5 hb5 hO5 hT5 hB6 he3 ht3 hb3 c0 c1 c2 c3 HXp HTs HO HB HEn
          go_wp2_with (first | refine wpList_store _ rfl rfl 24 (.tmp 9) (.tmp 41) rfl (.pointer (some ⟨w3.heap.size, 0, none⟩)) (ta.val s3) rfl rfl W4 HST4.out ?_ | refine wpList_store _ rfl rfl 24 (.tmp 5) (.tmp 57) rfl (.pointer (some ⟨w1.heap.size, 0, none⟩)) (ta.val s3) rfl rfl W5 HST5.out ?_ | (at_builtin; refine wpList_append_vals oneIntT _ rfl (.tmp 58) (.tmp 60) rfl w.heap.size _ _ rfl HO6.out _ 1 1 [.int .i64 tx] rfl HV.out (fun h => by cases h) HLEN.out HB6.out.size ?_))
          intro v7 w7 ho7 hb7 hs7
          have eo : kVals (xs ++ [tx]) = kVals xs ++ [.int .i64 tx] := by simp [kVals]
          have HN : Hid (FlI w w7 w1.heap.size ta s3 (xs ++ [tx]) v7) := ⟨HX6.out.stay HT6.out hs7, HT6.out.stay hs7, HFil.out, by rw [eo]; exact ho7, HR.out, HB6.out.trans hb7⟩
          have hxn : (xs ++ [tx]).length = i + 1 := by simp; omega
          clear ho7 hb7 hs7 eo q0 q1 q2 q3
          go_wp2_with fail
          go_roundw
          case rel => exact ⟨i + 1, v7, ta, s3, xs ++ [tx], rfl, by omega, hxn, by go_num, HN⟩
          case measure => simp only [intOf]; omega
        · have e12 : i = 12 := by omega
          subst e12
          obtain ⟨tx, htx⟩ : ∃ tx : Int, tx = 241 := ⟨_, rfl⟩
          have HTX := hide htx
          have hr1 : 20 * (xs.length : Int) + 1 ≤ tx := by rw [hxl, htx]; omega
          have hr2 : tx ≤ 20 * (xs.length : Int) + 20 := by rw [hxl, htx]; omega
          have hni := rng_notin hI.out.rng hr1
          have htk : xs.take 12 = xs := List.take_of_length_le (by omega)
          have hfil := hI.out.fil
          rw [htk] at hfil
          have HR := hide (rng_more hI.out.rng hr1 hr2)
          have HEn := HH.out.ent t s tx wr hI.out.box.es (hI.out.box.may hfil.may)
          rw [enterL_yes hfil.may] at HEn
          rw [hfil.full (x := tx) (by omega) (by omega) hni (by omega)] at HEn
          have HFil : Hid (Filled t ((xs ++ [tx]).take 12)) := by
            show Filled _ _
            rw [List.take_append_of_le_length (by omega), htk]
            exact hfil
          obtain ⟨ta, hta⟩ : ∃ ta, ta = t := ⟨_, rfl⟩
          rw [← hta] at HFil
          simp only at HEn
          rw [show TbSays t s = TbSays ta s by rw [hta]] at HEn
          clear hta
          have HEn := hide HEn
          have HXp := hide hI.out.box
          have HTs := hide hI.out.ty
          have HO := hide hI.out.own
          have HB := hide hI.out.below
          have c0 := hI.out.box.blk.c0
          have c1 := hI.out.box.blk.c1
          have c2 := hI.out.box.blk.c2
          have c3 := hI.out.box.blk.c3
          clear hI htx hr1 hr2 hni htk hfil
          go_wp2_with fail
          rw [← HTX.out]
          refine HEn.out.mono ?_
          rintro e w3 ⟨s3, rfl, he3, ht3, hb3⟩
          obtain ⟨W4, hst4, hbx4, hbb4⟩ := bxT w3 ta s3 he3
          have hb4 := rBelow hb3 hbb4
          have HX4 := HXp.out.keep hb4
          obtain ⟨W5, hst5, hbx5, hfr5⟩ := HX4.lay ta s3 hbx4.es
          have hb5 : Below w.heap.size w W5 := (rBelow HB.out hb4).trans (hfr5.below (rBelow HB.out hb4).size (fun k hk => by have := HPL.out; omega))
          have hO5 := (HO.out.keep hb4 (Nat.le_refl _)).otherT HX4.blk hfr5
          have hT5 := ((ht3 HTs.out).keep hbb4).other HX4.blk hfr5
          have q0 := hbx4.blk.c0
          have q1 := hbx4.blk.c1
          have q2 := hbx4.blk.c2
          have q3 := hbx4.blk.c3
          have HST4 := hide hst4
          have HST5 := hide hst5
          have hB6 := below_alloc W5 (.cells #[.int .i64 tx] 3)
          have HV := hide (vs_one 3 W5 (.int .i64 tx) rfl)
          have HO6 := hide (hO5.keep hB6 (Nat.le_refl _))
          have HB6 := hide (rBelow hb5 hB6)
          have HX6 := hide (hbx5.keep hB6)
          have HT6 := hide (hT5.keep hB6)
          have HLEN : Hid ((kVals xs).length + 1 ≤ 1000000) := by
            show _ ≤ _
            simp only [kVals, List.length_map]
            omega
          clear hst4 hst5 hbx4 hbb4 hb4 HX4 hbx5 hfr5 hb5 hO5 hT5 hB6 he3 ht3 hb3 c0 c1 c2 c3 HXp HTs HO HB HEn
          go_wp2_with (first | refine wpList_store _ rfl rfl 24 (.tmp 9) (.tmp 41) rfl (.pointer (some ⟨w3.heap.size, 0, none⟩)) (ta.val s3) rfl rfl W4 HST4.out ?_ | refine wpList_store _ rfl rfl 24 (.tmp 5) (.tmp 57) rfl (.pointer (some ⟨w1.heap.size, 0, none⟩)) (ta.val s3) rfl rfl W5 HST5.out ?_ | (at_builtin; refine wpList_append_vals oneIntT _ rfl (.tmp 58) (.tmp 60) rfl w.heap.size _ _ rfl HO6.out _ 1 1 [.int .i64 tx] rfl HV.out (fun h => by cases h) HLEN.out HB6.out.size ?_))
          intro v7 w7 ho7 hb7 hs7
          have eo : kVals (xs ++ [tx]) = kVals xs ++ [.int .i64 tx] := by simp [kVals]
          have HN : Hid (FlI w w7 w1.heap.size ta s3 (xs ++ [tx]) v7) := ⟨HX6.out.stay HT6.out hs7, HT6.out.stay hs7, HFil.out, by rw [eo]; exact ho7, HR.out, HB6.out.trans hb7⟩
          have hxn : (xs ++ [tx]).length = 12 + 1 := by simp; omega
          clear ho7 hb7 hs7 eo q0 q1 q2 q3
          go_wp2_with fail
          go_roundw
          case rel => exact ⟨12 + 1, v7, ta, s3, xs ++ [tx], rfl, by omega, hxn, by go_num, HN⟩
          case measure => simp only [intOf]; omega
    · have i1 : ¬ ((i : Nat) : Int) < 13 := by omega
      have e13 : i = 13 := by omega
      subst e13
      have hkl : (kVals xs).length = 13 := by simp only [kVals, List.length_map]; exact hxl
      have hne0 := hI.out.own.ne (show wr.heap[w1.heap.size]? = some _ from hI.out.box.blk) (by decide)
      obtain ⟨va2, vc2, hv2, hvs2, _, _⟩ := hI.out.own.vs (kVals_oneT _)
      rw [hkl] at hv2 hvs2
      have hks := ks_of_vsT hvs2
      subst hv2
      obtain ⟨b, off, hva, hk12⟩ := hks.2 12 (by decide)
      obtain ⟨b', off', hva', hkk⟩ := hks.2 (o % 12) (by omega)
      subst hva
      simp only [Option.some.injEq, Addr.mk.injEq, and_true] at hva'
      obtain ⟨rfl, rfl⟩ := hva'
      have hnb : ¬ b = w1.heap.size := fun e => hne0 (by rw [e]; rfl)
      have hnd := rng_nodup hI.out.rng
      have hg12 := hI.out.rng 12 (by omega)
      have hl12 : (xs.take 12).length = 12 := by rw [List.length_take, hxl]; rfl
      have hx12 : xs.getD 12 0 ∉ xs.take 12 := by
        refine rng_notin (xs := xs.take 12) (fun j hj => ?_) (by rw [hl12]; omega)
        rw [hl12] at hj
        have e : (xs.take 12).getD j 0 = xs.getD j 0 := by simp only [List.getD, List.getElem?_take, if_pos hj]
        rw [e]
        exact hI.out.rng j (by omega)
      have ek : (xs.take 12).getD (o % 12) 0 = xs.getD (o % 12) 0 := by simp only [List.getD, List.getElem?_take, if_pos (show o % 12 < 12 by omega)]
      obtain ⟨hs1, hs2⟩ := hI.out.fil.swap (hnd.sublist (List.take_sublist _ _)) hl12 (k := o % 12) (by omega) (x := xs.getD 12 0) (by omega) (by omega) hx12
      rw [ek] at hs1 hs2
      have hmay := hI.out.fil.may
      generalize xs.getD (o % 12) 0 = z at *
      generalize xs.getD 12 0 = z2 at *
      have hlm := leave_may hmay z
      have HLv : Hid (∀ v w, Es w v t.es → Calls Try.prog 24 #[t.val v, .int .i64 z] w (TbTold (leaveT t z).1 w (fun x => .tuple #[x, .int .i64 0]))) := fun v w h => by
        have := (HH.out.all.lea t v z w h (es_few h hmay.len))
        rw [leaveL_yes hmay, hs1] at this
        exact this
      have HEv : Hid (∀ v w, Es w v (leaveT t z).1.es → Calls Try.prog 21 #[(leaveT t z).1.val v, .int .i64 z2] w (TbTold (enterT (leaveT t z).1 z2).1 w (fun x => .tuple #[x, .int .i64 ((o % 12 : Nat) : Int), .int .i64 0]))) := fun v w h => by
        have := (HH.out.all.ent (leaveT t z).1 v z2 w h (es_few h hlm.len))
        rw [enterL_yes hlm, hs2] at this
        exact this
      generalize (enterT (leaveT t z).1 z2).1 = tb at *
      generalize (leaveT t z).1 = ta at *
      have HXp := hide hI.out.box
      have HB := hide hI.out.below
      have HZ := hide hkk
      have HZ2 := hide hk12
      have HNB := hide hnb
      clear hI hkl hne0 hvs2 hks hnd hg12 hl12 hx12 ek hs1 hs2 hmay hlm hkk hk12 hnb
      go_wp2_with fail
      refine Pl.region_is (ops := Pl.find 14 ((Try.f7.body).getD .skip)) (by kernel_rfl) ?_
      refine tfl14 wr t ta s w1.heap.size b off 13 vc2 o z ho (by decide) HXp.out HZ.out HNB.out HLv.out (by rfl) (by rfl) (by rfl) (by rfl) (by rfl) ?_
      rintro u3 w3 s3 ⟨hx3, hf3⟩
      simp only [Act.put, List.setIfInBounds_toArray, List.set_cons_zero, List.set_cons_succ]
      have HX3 := hide hx3
      have HB3 : Hid (Below w.heap.size w w3) := HB.out.trans (hf3.below HB.out.size (fun k hk => by have := HPL.out; omega))
      have HZ3 : Hid (w3.cell? ⟨b, off + 12, none⟩ = some (.int .i64 z2)) := (hf3.cellT (p := ⟨b, off + 12, none⟩) (World.block_lt_of_cell? wr _ HZ2.out) HNB.out).trans HZ2.out
      clear hx3 hf3 HXp HB HZ HZ2
      go_wp2_with fail
      refine Pl.region_is (ops := Pl.find 15 ((Try.f7.body).getD .skip)) (by kernel_rfl) ?_
      refine tfl15 w3 ta tb s3 w1.heap.size b off 13 vc2 z2 _ (by decide) HX3.out HZ3.out HEv.out (by rfl) (by rfl) (by rfl) (by rfl) ?_
      intro u4 w4 hb4
      simp only [Act.put, List.setIfInBounds_toArray, List.set_cons_zero, List.set_cons_succ]
      have HB4 := hide (rBelow HB3.out hb4)
      have e1 : ((o % 12 : Nat) : Int) = ((o : Nat) : Int) % 12 := by omega
      clear hb4
      go_wp2_with fail
      refine (HAW.out _).mono ?_
      rintro e w5 ⟨rfl, hb5⟩
      have HB5 := hide (rBelow HB4.out hb5)
      clear hb5
      go_wp2_with fail
      go_ret
      exact ⟨by simp, HB5.out⟩

end Go.Proofs.Ytdbgbldmjgonjaa
