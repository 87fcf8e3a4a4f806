/-
  Layer 11, the landed table: tableOf.
  Layer 11, the landed table: tableOf of items that are a page's; Decode.
-/
import Derived.Test.YtdbgbldmjgonjaaTcK
import Derived.Test.YtdbgbldmjgonjaaTcB
import Derived.Test.YtdbgbldmjgonjaaTbS
import Derived.Test.YtdbgbldmjgonjaaTcC
namespace Go.Proofs.Ytdbgbldmjgonjaa
open Go.RowKit
set_option linter.unusedVariables false

set_option maxHeartbeats 2000000 in
set_option maxRecDepth 100000 in
theorem tof4 (w0 w : World) (b off c2 : Nat) (y1 y2 y3 : It) (hx1 : ItAt w0 b (off + (1) * 4) y1) (hx2 : ItAt w0 b (off + (2) * 4) y2) (hx3 : ItAt w0 b (off + (3) * 4) y3) (hW : Below w0.heap.size w0 w)
    {Q : Exit → Act → World → Prop} {A : Act} (hsz : A.tmps.size = 77) (hdf : A.defers = []) (s4 : A.tmps.getD 4 undef = .slice (some ⟨b, off, none⟩) 52 c2)
    (hend : ∀ (u : Nat → Value) w' g, (Below w0.heap.size w0 w' ∧ TbBlk w' g (Tb.mk y1.n y2.n y3.n []) Sl.nil ∧ w0.heap.size ≤ g) → Q .normal (((((((((((((((A).put (some 33) (u 33)).put (some 34) (u 34)).put (some 35) (u 35)).put (some 36) (u 36)).put (some 37) (u 37)).put (some 38) (u 38)).put (some 39) (u 39)).put (some 40) (u 40)).put (some 41) (u 41)).put (some 42) (u 42)).put (some 43) (u 43)).put (some 44) (u 44)).put (some 45) (u 45)).put (some 7) (.pointer (some ⟨g, 0, none⟩))) w') :
    (Code.region 4 (Pl.find 4 ((Try.f46.body).getD .skip)) true).wp Try.prog Q A w := by
  have hS0 : Below w0.heap.size w0 w.drew := hW.drew
  have hA := Pl.At.same (v := .slice (some ⟨b, off, none⟩) 52 c2) (d := 4) (Pl.At.here hsz hdf) s4
  refine Pl.H.start (S := fun w' => Below w0.heap.size w0 w') (by kernel_rfl) hA hS0 ?_
  rw [show (Pl.find 4 ((Try.f46.body).getD .skip)).size = 15 by kernel_rfl]
  refine Pl.H.take 0 33 (.slice (some ⟨b, off, none⟩) 52 c2) (by kernel_rfl) (by kernel_rfl) (by kernel_rfl) (Pl.free 0 (by kernel_rfl)) (Pl.move 0 (.tmp 4) (by kernel_rfl) (by decide)) hS0 ?_
  refine Pl.H.take 1 34 (.pointer (some ⟨b, off + (1) * 4, none⟩)) (by kernel_rfl) (by kernel_rfl) (by kernel_rfl) (Pl.free 1 (by kernel_rfl)) (Pl.index 1 54 (.tmp 33) (.const (.int .i64 1)) _ (by kernel_rfl) (by decide) (by decide) (index_item b off 52 c2 (1) (by omega))) hS0 ?_
  refine Pl.H.take 2 35 (.pointer (some ⟨b, off + (1) * 4 + 1, none⟩)) (by kernel_rfl) (by kernel_rfl) (by kernel_rfl) (Pl.free 2 (by kernel_rfl)) (Pl.field 2 67 (.tmp 34) 1 _ (by kernel_rfl) (by decide) (fdIt1 b (off + (1) * 4))) hS0 ?_
  refine Pl.H.take 3 36 (.int .i64 y1.n) (by kernel_rfl) (by kernel_rfl) (by kernel_rfl) (Pl.free 3 (by kernel_rfl)) (Pl.load 3 3 (.tmp 35) _ (by kernel_rfl) (by decide) (fun w' hS => ldInt b (off + (1) * 4 + 1) y1.n w' ((hS.cell (p := ⟨b, off + (1) * 4 + 1, none⟩) (World.block_lt_of_cell? w0 _ hx1.2.1)).trans hx1.2.1))) hS0 ?_
  refine Pl.H.take 4 37 (.slice (some ⟨b, off, none⟩) 52 c2) (by kernel_rfl) (by kernel_rfl) (by kernel_rfl) (Pl.free 4 (by kernel_rfl)) (Pl.move 4 (.tmp 4) (by kernel_rfl) (by decide)) hS0 ?_
  refine Pl.H.take 5 38 (.pointer (some ⟨b, off + (2) * 4, none⟩)) (by kernel_rfl) (by kernel_rfl) (by kernel_rfl) (Pl.free 5 (by kernel_rfl)) (Pl.index 5 54 (.tmp 37) (.const (.int .i64 2)) _ (by kernel_rfl) (by decide) (by decide) (index_item b off 52 c2 (2) (by omega))) hS0 ?_
  refine Pl.H.take 6 39 (.pointer (some ⟨b, off + (2) * 4 + 1, none⟩)) (by kernel_rfl) (by kernel_rfl) (by kernel_rfl) (Pl.free 6 (by kernel_rfl)) (Pl.field 6 67 (.tmp 38) 1 _ (by kernel_rfl) (by decide) (fdIt1 b (off + (2) * 4))) hS0 ?_
  refine Pl.H.take 7 40 (.int .i64 y2.n) (by kernel_rfl) (by kernel_rfl) (by kernel_rfl) (Pl.free 7 (by kernel_rfl)) (Pl.load 7 3 (.tmp 39) _ (by kernel_rfl) (by decide) (fun w' hS => ldInt b (off + (2) * 4 + 1) y2.n w' ((hS.cell (p := ⟨b, off + (2) * 4 + 1, none⟩) (World.block_lt_of_cell? w0 _ hx2.2.1)).trans hx2.2.1))) hS0 ?_
  refine Pl.H.take 8 41 (.slice (some ⟨b, off, none⟩) 52 c2) (by kernel_rfl) (by kernel_rfl) (by kernel_rfl) (Pl.free 8 (by kernel_rfl)) (Pl.move 8 (.tmp 4) (by kernel_rfl) (by decide)) hS0 ?_
  refine Pl.H.take 9 42 (.pointer (some ⟨b, off + (3) * 4, none⟩)) (by kernel_rfl) (by kernel_rfl) (by kernel_rfl) (Pl.free 9 (by kernel_rfl)) (Pl.index 9 54 (.tmp 41) (.const (.int .i64 3)) _ (by kernel_rfl) (by decide) (by decide) (index_item b off 52 c2 (3) (by omega))) hS0 ?_
  refine Pl.H.take 10 43 (.pointer (some ⟨b, off + (3) * 4 + 1, none⟩)) (by kernel_rfl) (by kernel_rfl) (by kernel_rfl) (Pl.free 10 (by kernel_rfl)) (Pl.field 10 67 (.tmp 42) 1 _ (by kernel_rfl) (by decide) (fdIt1 b (off + (3) * 4))) hS0 ?_
  refine Pl.H.take 11 44 (.int .i64 y3.n) (by kernel_rfl) (by kernel_rfl) (by kernel_rfl) (Pl.free 11 (by kernel_rfl)) (Pl.load 11 3 (.tmp 43) _ (by kernel_rfl) (by decide) (fun w' hS => ldInt b (off + (3) * 4 + 1) y3.n w' ((hS.cell (p := ⟨b, off + (3) * 4 + 1, none⟩) (World.block_lt_of_cell? w0 _ hx3.2.1)).trans hx3.2.1))) hS0 ?_
  refine Pl.H.take 12 45 ((Tb.mk y1.n y2.n y3.n []).val Sl.nil) (by kernel_rfl) (by kernel_rfl) (by kernel_rfl) (Pl.free 12 (by kernel_rfl)) (Pl.buildV 12 24 [(0, .tmp 36), (1, .tmp 40), (2, .tmp 44)] _ (by kernel_rfl) (by decide) (fun w => buildTb y1.n y2.n y3.n w)) hS0 ?_
  have hSa : Below w0.heap.size w0 (w.drew.alloc (.cells #[.int .i64 0, .int .i64 0, .int .i64 0, .slice none 0 0] 24)) := hS0.alloc hS0.size _
  have hz0 : TbBlk (w.drew.alloc (.cells #[.int .i64 0, .int .i64 0, .int .i64 0, .slice none 0 0] 24)) w.drew.heap.size Tb.zero Sl.nil := TbBlk.new w.drew Tb.zero Sl.nil
  refine Pl.H.make 13 7 (.pointer (some ⟨w.drew.heap.size, 0, none⟩)) (w.drew.alloc (.cells #[.int .i64 0, .int .i64 0, .int .i64 0, .slice none 0 0] 24)) (by kernel_rfl) (by kernel_rfl) (by kernel_rfl) (Pl.free 13 (by kernel_rfl)) (Pl.allocV 13 24 _ _ (by kernel_rfl) (allocTb w.drew)) hSa ?_
  obtain ⟨W2, hst2, hbk2, hfr2, hsz2⟩ := hz0.store (Tb.mk y1.n y2.n y3.n []) Sl.nil
  have hS2 : Below w0.heap.size w0 W2 := hSa.trans (hfr2.below hSa.size (fun k hk => by rw [hk]; exact hS0.size))
  refine Pl.H.store 14 W2 (by kernel_rfl) (by kernel_rfl) (by kernel_rfl) (Pl.free 14 (by kernel_rfl)) (Pl.storeV 14 24 (.tmp 7) (.tmp 45) _ (by kernel_rfl) (by decide) (by decide) hst2) hS2 ?_
  refine Pl.H.done (by kernel_rfl) (fun A' hA' => ?_)
  rw [Pl.At.ext hA' ((((((((((((((hA.put 33 _).put 34 _).put 35 _).put 36 _).put 37 _).put 38 _).put 39 _).put 40 _).put 41 _).put 42 _).put 43 _).put 44 _).put 45 _).put 7 _)]
  exact hend (fun d => if d = 33 then .slice (some ⟨b, off, none⟩) 52 c2 else if d = 34 then .pointer (some ⟨b, off + (1) * 4, none⟩) else if d = 35 then .pointer (some ⟨b, off + (1) * 4 + 1, none⟩) else if d = 36 then .int .i64 y1.n else if d = 37 then .slice (some ⟨b, off, none⟩) 52 c2 else if d = 38 then .pointer (some ⟨b, off + (2) * 4, none⟩) else if d = 39 then .pointer (some ⟨b, off + (2) * 4 + 1, none⟩) else if d = 40 then .int .i64 y2.n else if d = 41 then .slice (some ⟨b, off, none⟩) 52 c2 else if d = 42 then .pointer (some ⟨b, off + (3) * 4, none⟩) else if d = 43 then .pointer (some ⟨b, off + (3) * 4 + 1, none⟩) else if d = 44 then .int .i64 y3.n else if d = 45 then (Tb.mk y1.n y2.n y3.n []).val Sl.nil else undef) _ w.drew.heap.size ⟨hS2, hbk2, hS0.size⟩

set_option maxHeartbeats 2000000 in
set_option maxRecDepth 100000 in
theorem tof7 (lp mm : Nat) (w : World) (b off g : Nat) (t : Tb) (v : Sl) (y0 y1 y2 y3 : It) (hy0 : ItAt w b (off + (0) * 4) y0) (hy1 : ItAt w b (off + (1) * 4) y1) (hy2 : ItAt w b (off + (2) * 4) y2) (hy3 : ItAt w b (off + (3) * 4) y3) (hT : TbBlk w g t v) (hO : OwnE w v t.es) (hng : ¬ v.blk = some g) (hnb : ¬ (b = g ∨ v.blk = some b)) (hroom : v.len + 1 ≤ 1000000)
    {Q : Exit → Act → World → Prop} {A : Act} (hsz : A.tmps.size = 77) (hdf : A.defers = []) (s7 : A.tmps.getD 7 undef = .pointer (some ⟨g, 0, none⟩)) (s8 : A.tmps.getD 8 undef = .slice (some ⟨b, off, none⟩) 4 4)
    (hq : ∀ a w, ¬ Q .outgrown a w)
    (hend : ∀ (u : Nat → Value) w' v', (TbBlk w' g { t with es := t.es ++ [(En.mk y1.n y0.n y2.n y3.n)] } v' ∧ OwnE w' v' (t.es ++ [(En.mk y1.n y0.n y2.n y3.n)]) ∧ Frm (fun k => k = g ∨ v.blk = some k) w w' ∧ (v'.blk = v.blk ∨ ∃ k, v'.blk = some k ∧ w.heap.size ≤ k)) → Q .normal (((((((((((((((((((((((A).put (some 50) (u 50)).put (some 52) (u 52)).put (some 53) (u 53)).put (some 54) (u 54)).put (some 55) (u 55)).put (some 56) (u 56)).put (some 57) (u 57)).put (some 58) (u 58)).put (some 59) (u 59)).put (some 60) (u 60)).put (some 61) (u 61)).put (some 62) (u 62)).put (some 63) (u 63)).put (some 64) (u 64)).put (some 65) (u 65)).put (some 66) (u 66)).put (some 67) (u 67)).put (some 68) (u 68)).put (some 51) (u 51)).put (some 69) (u 69)).put (some 70) (u 70)).put (some 71) (u 71)) w') :
    (Code.region 7 (Pl.findR 7 ((Try.f46.body).getD .skip)) true).wpIn (Fence.wide.inRound lp) mm Try.prog Q A w := by
  have hS0 : Frm (fun k => k = g ∨ v.blk = some k) w w.drew := Frm.ofBelow (below_drew w)
  have hT0 : TbBlk w.drew g t v := hT.keep (below_drew w)
  have hO0 : OwnE w.drew v t.es := hO.keep (below_drew w)
  have hA := Pl.At.same (v := .slice (some ⟨b, off, none⟩) 4 4) (d := 8) (Pl.At.same (v := .pointer (some ⟨g, 0, none⟩)) (d := 7) (Pl.At.here hsz hdf) s7) s8
  refine Pl.H.startR (S := fun w' => Frm (fun k => k = g ∨ v.blk = some k) w w') (by kernel_rfl) (by kernel_rfl) hq hA ?_
  rw [show (Pl.findR 7 ((Try.f46.body).getD .skip)).size = 23 by kernel_rfl]
  refine Pl.H.take 0 50 (.pointer (some ⟨g, 3, none⟩)) (by kernel_rfl) (by kernel_rfl) (by kernel_rfl) (Pl.free 0 (by kernel_rfl)) (Pl.field 0 24 (.tmp 7) 3 _ (by kernel_rfl) (by decide) (fdTb3 g)) hS0 ?_
  refine Pl.H.take 2 52 (.slice (some ⟨b, off, none⟩) 4 4) (by kernel_rfl) (by kernel_rfl) (by kernel_rfl) (Pl.free 2 (by kernel_rfl)) (Pl.move 2 (.tmp 8) (by kernel_rfl) (by decide)) hS0 ?_
  refine Pl.H.take 3 53 (.pointer (some ⟨b, off + (0) * 4, none⟩)) (by kernel_rfl) (by kernel_rfl) (by kernel_rfl) (Pl.free 3 (by kernel_rfl)) (Pl.index 3 54 (.tmp 52) (.const (.int .i64 0)) _ (by kernel_rfl) (by decide) (by decide) (index_item b off 4 4 (0) (by omega))) hS0 ?_
  refine Pl.H.take 4 54 (.pointer (some ⟨b, off + (0) * 4 + 1, none⟩)) (by kernel_rfl) (by kernel_rfl) (by kernel_rfl) (Pl.free 4 (by kernel_rfl)) (Pl.field 4 67 (.tmp 53) 1 _ (by kernel_rfl) (by decide) (fdIt1 b (off + (0) * 4))) hS0 ?_
  refine Pl.H.take 5 55 (.int .i64 y0.n) (by kernel_rfl) (by kernel_rfl) (by kernel_rfl) (Pl.free 5 (by kernel_rfl)) (Pl.load 5 3 (.tmp 54) _ (by kernel_rfl) (by decide) (fun w' hS => ldInt b (off + (0) * 4 + 1) y0.n w' ((hS.cellT (p := ⟨b, off + (0) * 4 + 1, none⟩) (World.block_lt_of_cell? w _ hy0.2.1) hnb).trans hy0.2.1))) hS0 ?_
  refine Pl.H.take 6 56 (.slice (some ⟨b, off, none⟩) 4 4) (by kernel_rfl) (by kernel_rfl) (by kernel_rfl) (Pl.free 6 (by kernel_rfl)) (Pl.move 6 (.tmp 8) (by kernel_rfl) (by decide)) hS0 ?_
  refine Pl.H.take 7 57 (.pointer (some ⟨b, off + (1) * 4, none⟩)) (by kernel_rfl) (by kernel_rfl) (by kernel_rfl) (Pl.free 7 (by kernel_rfl)) (Pl.index 7 54 (.tmp 56) (.const (.int .i64 1)) _ (by kernel_rfl) (by decide) (by decide) (index_item b off 4 4 (1) (by omega))) hS0 ?_
  refine Pl.H.take 8 58 (.pointer (some ⟨b, off + (1) * 4 + 1, none⟩)) (by kernel_rfl) (by kernel_rfl) (by kernel_rfl) (Pl.free 8 (by kernel_rfl)) (Pl.field 8 67 (.tmp 57) 1 _ (by kernel_rfl) (by decide) (fdIt1 b (off + (1) * 4))) hS0 ?_
  refine Pl.H.take 9 59 (.int .i64 y1.n) (by kernel_rfl) (by kernel_rfl) (by kernel_rfl) (Pl.free 9 (by kernel_rfl)) (Pl.load 9 3 (.tmp 58) _ (by kernel_rfl) (by decide) (fun w' hS => ldInt b (off + (1) * 4 + 1) y1.n w' ((hS.cellT (p := ⟨b, off + (1) * 4 + 1, none⟩) (World.block_lt_of_cell? w _ hy1.2.1) hnb).trans hy1.2.1))) hS0 ?_
  refine Pl.H.take 10 60 (.slice (some ⟨b, off, none⟩) 4 4) (by kernel_rfl) (by kernel_rfl) (by kernel_rfl) (Pl.free 10 (by kernel_rfl)) (Pl.move 10 (.tmp 8) (by kernel_rfl) (by decide)) hS0 ?_
  refine Pl.H.take 11 61 (.pointer (some ⟨b, off + (2) * 4, none⟩)) (by kernel_rfl) (by kernel_rfl) (by kernel_rfl) (Pl.free 11 (by kernel_rfl)) (Pl.index 11 54 (.tmp 60) (.const (.int .i64 2)) _ (by kernel_rfl) (by decide) (by decide) (index_item b off 4 4 (2) (by omega))) hS0 ?_
  refine Pl.H.take 12 62 (.pointer (some ⟨b, off + (2) * 4 + 1, none⟩)) (by kernel_rfl) (by kernel_rfl) (by kernel_rfl) (Pl.free 12 (by kernel_rfl)) (Pl.field 12 67 (.tmp 61) 1 _ (by kernel_rfl) (by decide) (fdIt1 b (off + (2) * 4))) hS0 ?_
  refine Pl.H.take 13 63 (.int .i64 y2.n) (by kernel_rfl) (by kernel_rfl) (by kernel_rfl) (Pl.free 13 (by kernel_rfl)) (Pl.load 13 3 (.tmp 62) _ (by kernel_rfl) (by decide) (fun w' hS => ldInt b (off + (2) * 4 + 1) y2.n w' ((hS.cellT (p := ⟨b, off + (2) * 4 + 1, none⟩) (World.block_lt_of_cell? w _ hy2.2.1) hnb).trans hy2.2.1))) hS0 ?_
  refine Pl.H.take 14 64 (.slice (some ⟨b, off, none⟩) 4 4) (by kernel_rfl) (by kernel_rfl) (by kernel_rfl) (Pl.free 14 (by kernel_rfl)) (Pl.move 14 (.tmp 8) (by kernel_rfl) (by decide)) hS0 ?_
  refine Pl.H.take 15 65 (.pointer (some ⟨b, off + (3) * 4, none⟩)) (by kernel_rfl) (by kernel_rfl) (by kernel_rfl) (Pl.free 15 (by kernel_rfl)) (Pl.index 15 54 (.tmp 64) (.const (.int .i64 3)) _ (by kernel_rfl) (by decide) (by decide) (index_item b off 4 4 (3) (by omega))) hS0 ?_
  refine Pl.H.take 16 66 (.pointer (some ⟨b, off + (3) * 4 + 1, none⟩)) (by kernel_rfl) (by kernel_rfl) (by kernel_rfl) (Pl.free 16 (by kernel_rfl)) (Pl.field 16 67 (.tmp 65) 1 _ (by kernel_rfl) (by decide) (fdIt1 b (off + (3) * 4))) hS0 ?_
  refine Pl.H.take 17 67 (.int .i64 y3.n) (by kernel_rfl) (by kernel_rfl) (by kernel_rfl) (Pl.free 17 (by kernel_rfl)) (Pl.load 17 3 (.tmp 66) _ (by kernel_rfl) (by decide) (fun w' hS => ldInt b (off + (3) * 4 + 1) y3.n w' ((hS.cellT (p := ⟨b, off + (3) * 4 + 1, none⟩) (World.block_lt_of_cell? w _ hy3.2.1) hnb).trans hy3.2.1))) hS0 ?_
  refine Pl.H.take 18 68 ((En.mk y1.n y0.n y2.n y3.n).val) (by kernel_rfl) (by kernel_rfl) (by kernel_rfl) (Pl.free 18 (by kernel_rfl)) (Pl.buildV 18 58 [(1, .tmp 55), (0, .tmp 59), (2, .tmp 63), (3, .tmp 67)] _ (by kernel_rfl) (by decide) (fun w => buildEn y0.n y1.n y2.n y3.n w)) hS0 ?_
  refine Pl.H.two 1 19 (by kernel_rfl) ?_ ?_
  · refine Pl.HOp.value 1 51 (.slice v.a v.len v.cap) w.drew (by kernel_rfl) (by kernel_rfl) (by kernel_rfl) (Pl.load1 1 22 (.tmp 50) _ (by kernel_rfl) (by decide) (ldEs g 3 _ _ _ w.drew hT0.c3)) hS0 ?_
    have hba : Below w.drew.heap.size w.drew (w.drew.alloc (.cells #[.int .i64 y1.n, .int .i64 y0.n, .int .i64 y2.n, .int .i64 y3.n] 58)) := below_alloc w.drew _
    have hS1 : Frm (fun k => k = g ∨ v.blk = some k) w (w.drew.alloc (.cells #[.int .i64 y1.n, .int .i64 y0.n, .int .i64 y2.n, .int .i64 y3.n] 58)) := hS0.trans (G := fun _ => False) (Frm.ofBelow hba) (fun _ _ h => h.elim)
    have hT1 : TbBlk (w.drew.alloc (.cells #[.int .i64 y1.n, .int .i64 y0.n, .int .i64 y2.n, .int .i64 y3.n] 58)) g t v := hT0.keep hba
    have hO1 : OwnE (w.drew.alloc (.cells #[.int .i64 y1.n, .int .i64 y0.n, .int .i64 y2.n, .int .i64 y3.n] 58)) v t.es := hO0.keep hba
    have hU1 : OwnE (w.drew.alloc (.cells #[.int .i64 y1.n, .int .i64 y0.n, .int .i64 y2.n, .int .i64 y3.n] 58)) ⟨some ⟨w.drew.heap.size, 0, none⟩, 1, 1⟩ [(En.mk y1.n y0.n y2.n y3.n)] := own_oneE w.drew (En.mk y1.n y0.n y2.n y3.n)
    refine Pl.H.make 19 69 (.slice (some ⟨w.drew.heap.size, 0, none⟩) 1 1) (w.drew.alloc (.cells #[.int .i64 y1.n, .int .i64 y0.n, .int .i64 y2.n, .int .i64 y3.n] 58)) (by kernel_rfl) (by kernel_rfl) (by kernel_rfl) (Pl.free 19 (by kernel_rfl)) (Pl.bsV 19 22 1 [(0, .tmp 68)] _ _ (by kernel_rfl) (by decide) (bsEn (En.mk y1.n y0.n y2.n y3.n) w.drew)) hS1 ?_
    obtain ⟨v2, W2, hrun2, hO2, hl2, hfr2, hbk2⟩ := hO1.app hU1.es hroom
    have hS2 : Frm (fun k => k = g ∨ v.blk = some k) w W2 := hS1.trans hfr2 (fun k _ hk => .inr hk)
    have hT2 : TbBlk W2 g t v := hT1.other hfr2 hng
    refine Pl.H.make 20 70 (.slice v2.a v2.len v2.cap) W2 (by kernel_rfl) (by kernel_rfl) (by kernel_rfl) (Pl.free 20 (by kernel_rfl)) (Pl.appV 20 22 22 (.tmp 51) (.tmp 69) _ _ (by kernel_rfl) (by decide) (by decide) hrun2) hS2 ?_
    refine Pl.H.take 21 71 (.pointer (some ⟨g, 3, none⟩)) (by kernel_rfl) (by kernel_rfl) (by kernel_rfl) (Pl.free 21 (by kernel_rfl)) (Pl.field 21 24 (.tmp 7) 3 _ (by kernel_rfl) (by decide) (fdTb3 g)) hS2 ?_
    obtain ⟨W3, hst3, hT3, hfr3, hsz3⟩ := hT2.st3 v2 (t.es ++ [(En.mk y1.n y0.n y2.n y3.n)])
    have hS3 : Frm (fun k => k = g ∨ v.blk = some k) w W3 := hS2.trans hfr3 (fun k _ hk => .inl hk)
    have hnew : v2.blk = v.blk ∨ ∃ k, v2.blk = some k ∧ w.heap.size ≤ k := hbk2.elim (fun h => .inl h) (fun h => .inr ⟨_, h.1, hS1.size⟩)
    have hO3 : OwnE W3 v2 (t.es ++ [(En.mk y1.n y0.n y2.n y3.n)]) := hO2.other hfr3 (fun k hk e => by
    rcases hnew with h | ⟨j, h, hj⟩
    · exact hng (by rw [← h, hk, e])
    · rw [h] at hk
      have hjk := Option.some.inj hk
      have := hT.lt
      omega)
    refine Pl.H.store 22 W3 (by kernel_rfl) (by kernel_rfl) (by kernel_rfl) (Pl.free 22 (by kernel_rfl)) (Pl.storeV 22 22 (.tmp 71) (.tmp 70) _ (by kernel_rfl) (by decide) (by decide) hst3) hS3 ?_
    refine Pl.H.done (by kernel_rfl) (fun A' hA' => ?_)
    rw [Pl.At.ext hA' ((((((((((((((((((((((hA.put 50 _).put 52 _).put 53 _).put 54 _).put 55 _).put 56 _).put 57 _).put 58 _).put 59 _).put 60 _).put 61 _).put 62 _).put 63 _).put 64 _).put 65 _).put 66 _).put 67 _).put 68 _).put 51 _).put 69 _).put 70 _).put 71 _)]
    exact hend (fun d => if d = 50 then .pointer (some ⟨g, 3, none⟩) else if d = 52 then .slice (some ⟨b, off, none⟩) 4 4 else if d = 53 then .pointer (some ⟨b, off + (0) * 4, none⟩) else if d = 54 then .pointer (some ⟨b, off + (0) * 4 + 1, none⟩) else if d = 55 then .int .i64 y0.n else if d = 56 then .slice (some ⟨b, off, none⟩) 4 4 else if d = 57 then .pointer (some ⟨b, off + (1) * 4, none⟩) else if d = 58 then .pointer (some ⟨b, off + (1) * 4 + 1, none⟩) else if d = 59 then .int .i64 y1.n else if d = 60 then .slice (some ⟨b, off, none⟩) 4 4 else if d = 61 then .pointer (some ⟨b, off + (2) * 4, none⟩) else if d = 62 then .pointer (some ⟨b, off + (2) * 4 + 1, none⟩) else if d = 63 then .int .i64 y2.n else if d = 64 then .slice (some ⟨b, off, none⟩) 4 4 else if d = 65 then .pointer (some ⟨b, off + (3) * 4, none⟩) else if d = 66 then .pointer (some ⟨b, off + (3) * 4 + 1, none⟩) else if d = 67 then .int .i64 y3.n else if d = 68 then (En.mk y1.n y0.n y2.n y3.n).val else if d = 51 then .slice v.a v.len v.cap else if d = 69 then .slice (some ⟨w.drew.heap.size, 0, none⟩) 1 1 else if d = 70 then .slice v2.a v2.len v2.cap else if d = 71 then .pointer (some ⟨g, 3, none⟩) else undef) _ v2 ⟨hT3, hO3, hS3, hnew⟩
  · have hba : Below w.drew.heap.size w.drew (w.drew.alloc (.cells #[.int .i64 y1.n, .int .i64 y0.n, .int .i64 y2.n, .int .i64 y3.n] 58)) := below_alloc w.drew _
    have hS1 : Frm (fun k => k = g ∨ v.blk = some k) w (w.drew.alloc (.cells #[.int .i64 y1.n, .int .i64 y0.n, .int .i64 y2.n, .int .i64 y3.n] 58)) := hS0.trans (G := fun _ => False) (Frm.ofBelow hba) (fun _ _ h => h.elim)
    have hT1 : TbBlk (w.drew.alloc (.cells #[.int .i64 y1.n, .int .i64 y0.n, .int .i64 y2.n, .int .i64 y3.n] 58)) g t v := hT0.keep hba
    have hO1 : OwnE (w.drew.alloc (.cells #[.int .i64 y1.n, .int .i64 y0.n, .int .i64 y2.n, .int .i64 y3.n] 58)) v t.es := hO0.keep hba
    have hU1 : OwnE (w.drew.alloc (.cells #[.int .i64 y1.n, .int .i64 y0.n, .int .i64 y2.n, .int .i64 y3.n] 58)) ⟨some ⟨w.drew.heap.size, 0, none⟩, 1, 1⟩ [(En.mk y1.n y0.n y2.n y3.n)] := own_oneE w.drew (En.mk y1.n y0.n y2.n y3.n)
    refine Pl.HOp.value 19 69 (.slice (some ⟨w.drew.heap.size, 0, none⟩) 1 1) (w.drew.alloc (.cells #[.int .i64 y1.n, .int .i64 y0.n, .int .i64 y2.n, .int .i64 y3.n] 58)) (by kernel_rfl) (by kernel_rfl) (by kernel_rfl) (Pl.bsV 19 22 1 [(0, .tmp 68)] _ _ (by kernel_rfl) (by decide) (bsEn (En.mk y1.n y0.n y2.n y3.n) w.drew)) hS1 ?_
    refine Pl.H.solo 1 51 (.slice v.a v.len v.cap) (by kernel_rfl) (by kernel_rfl) (by kernel_rfl) (Pl.free 1 (by kernel_rfl)) (Pl.load1 1 22 (.tmp 50) _ (by kernel_rfl) (by decide) (ldEs g 3 _ _ _ ((w.drew.alloc (.cells #[.int .i64 y1.n, .int .i64 y0.n, .int .i64 y2.n, .int .i64 y3.n] 58))) hT1.c3)) hS1 ?_
    rw [Pl.upd_comm _ 69 51 _ _ (by decide)]
    obtain ⟨v2, W2, hrun2, hO2, hl2, hfr2, hbk2⟩ := hO1.app hU1.es hroom
    have hS2 : Frm (fun k => k = g ∨ v.blk = some k) w W2 := hS1.trans hfr2 (fun k _ hk => .inr hk)
    have hT2 : TbBlk W2 g t v := hT1.other hfr2 hng
    refine Pl.H.make 20 70 (.slice v2.a v2.len v2.cap) W2 (by kernel_rfl) (by kernel_rfl) (by kernel_rfl) (Pl.free 20 (by kernel_rfl)) (Pl.appV 20 22 22 (.tmp 51) (.tmp 69) _ _ (by kernel_rfl) (by decide) (by decide) hrun2) hS2 ?_
    refine Pl.H.take 21 71 (.pointer (some ⟨g, 3, none⟩)) (by kernel_rfl) (by kernel_rfl) (by kernel_rfl) (Pl.free 21 (by kernel_rfl)) (Pl.field 21 24 (.tmp 7) 3 _ (by kernel_rfl) (by decide) (fdTb3 g)) hS2 ?_
    obtain ⟨W3, hst3, hT3, hfr3, hsz3⟩ := hT2.st3 v2 (t.es ++ [(En.mk y1.n y0.n y2.n y3.n)])
    have hS3 : Frm (fun k => k = g ∨ v.blk = some k) w W3 := hS2.trans hfr3 (fun k _ hk => .inl hk)
    have hnew : v2.blk = v.blk ∨ ∃ k, v2.blk = some k ∧ w.heap.size ≤ k := hbk2.elim (fun h => .inl h) (fun h => .inr ⟨_, h.1, hS1.size⟩)
    have hO3 : OwnE W3 v2 (t.es ++ [(En.mk y1.n y0.n y2.n y3.n)]) := hO2.other hfr3 (fun k hk e => by
    rcases hnew with h | ⟨j, h, hj⟩
    · exact hng (by rw [← h, hk, e])
    · rw [h] at hk
      have hjk := Option.some.inj hk
      have := hT.lt
      omega)
    refine Pl.H.store 22 W3 (by kernel_rfl) (by kernel_rfl) (by kernel_rfl) (Pl.free 22 (by kernel_rfl)) (Pl.storeV 22 22 (.tmp 71) (.tmp 70) _ (by kernel_rfl) (by decide) (by decide) hst3) hS3 ?_
    refine Pl.H.done (by kernel_rfl) (fun A' hA' => ?_)
    rw [Pl.At.ext hA' ((((((((((((((((((((((hA.put 50 _).put 52 _).put 53 _).put 54 _).put 55 _).put 56 _).put 57 _).put 58 _).put 59 _).put 60 _).put 61 _).put 62 _).put 63 _).put 64 _).put 65 _).put 66 _).put 67 _).put 68 _).put 51 _).put 69 _).put 70 _).put 71 _)]
    exact hend (fun d => if d = 50 then .pointer (some ⟨g, 3, none⟩) else if d = 52 then .slice (some ⟨b, off, none⟩) 4 4 else if d = 53 then .pointer (some ⟨b, off + (0) * 4, none⟩) else if d = 54 then .pointer (some ⟨b, off + (0) * 4 + 1, none⟩) else if d = 55 then .int .i64 y0.n else if d = 56 then .slice (some ⟨b, off, none⟩) 4 4 else if d = 57 then .pointer (some ⟨b, off + (1) * 4, none⟩) else if d = 58 then .pointer (some ⟨b, off + (1) * 4 + 1, none⟩) else if d = 59 then .int .i64 y1.n else if d = 60 then .slice (some ⟨b, off, none⟩) 4 4 else if d = 61 then .pointer (some ⟨b, off + (2) * 4, none⟩) else if d = 62 then .pointer (some ⟨b, off + (2) * 4 + 1, none⟩) else if d = 63 then .int .i64 y2.n else if d = 64 then .slice (some ⟨b, off, none⟩) 4 4 else if d = 65 then .pointer (some ⟨b, off + (3) * 4, none⟩) else if d = 66 then .pointer (some ⟨b, off + (3) * 4 + 1, none⟩) else if d = 67 then .int .i64 y3.n else if d = 68 then (En.mk y1.n y0.n y2.n y3.n).val else if d = 51 then .slice v.a v.len v.cap else if d = 69 then .slice (some ⟨w.drew.heap.size, 0, none⟩) 1 1 else if d = 70 then .slice v2.a v2.len v2.cap else if d = 71 then .pointer (some ⟨g, 3, none⟩) else undef) _ v2 ⟨hT3, hO3, hS3, hnew⟩

/-! ### What tableOf tells -/
noncomputable def tofT (ys : List Nat) : Tb × Int :=
  open Classical in
  match tks ys tbK [] 0 with
  | none => (Tb.zero, 4)
  | some (l, q) => if (l.getD 0 itD).n = 84 ∧ zerosT (ys.drop q) = true ∧ (tbOf l).May then (tbOf l, 0) else (Tb.zero, 4)
theorem tofT_none {ys : List Nat} (h : tks ys tbK [] 0 = none) : tofT ys = (Tb.zero, 4) := by unfold tofT; rw [h]
theorem tofT_no {ys : List Nat} {l : List It} {q : Nat} (h : tks ys tbK [] 0 = some (l, q)) (hn : ¬ ((l.getD 0 itD).n = 84 ∧ zerosT (ys.drop q) = true ∧ (tbOf l).May)) : tofT ys = (Tb.zero, 4) := by unfold tofT; rw [h]; exact if_neg hn
theorem tofT_yes {ys : List Nat} {l : List It} {q : Nat} (h : tks ys tbK [] 0 = some (l, q)) (hn : (l.getD 0 itD).n = 84 ∧ zerosT (ys.drop q) = true ∧ (tbOf l).May) : tofT ys = (tbOf l, 0) := by unfold tofT; rw [h]; exact if_pos hn
theorem decT_tof {xs : List Nat} (hx : Bytes xs) (hl : xs.length = 512) (hz : xs ≠ List.replicate 512 0) (hs : sealT (xs.drop 4) = xs) : decT xs = tofT (xs.drop 4) := by
  cases hk : tks (xs.drop 4) tbK [] 0 with
  | none => rw [decT_none hl hz hs hk, tofT_none hk]
  | some r =>
    obtain ⟨l, q⟩ := r
    have hi := page_iff hx hl hs hk
    by_cases h : (tbOf l).May ∧ pageT (tbOf l) = xs
    · rw [decT_good hl hz hs hk h, tofT_yes hk (hi.1 h)]
    · rw [decT_bad hl hz hs hk h, tofT_no hk (fun k => h (hi.2 k))]

/-- What tableOf tells of bytes. -/
def TofSay (ys : List Nat) (w : World) (e : Ending) (w' : World) : Prop := TbTold (tofT ys).1 w (fun x => .tuple #[x, .int .i64 (tofT ys).2]) e w'
theorem TofSay.bad {ys : List Nat} (h : tofT ys = (Tb.zero, 4)) {w w' : World} (hb : Below w.heap.size w w') : TofSay ys w (.returned (.tuple #[Tb.zero.val Sl.nil, .int .i64 4])) w' := by
  unfold TofSay
  rw [h]
  exact ⟨Sl.nil, rfl, Es.none _, hb⟩

set_option maxHeartbeats 8000000 in
set_option maxRecDepth 100000 in
theorem tofT_a (ta : Option Addr) (tc : Nat) (ys : List Nat) (w : World) (hc : Came w ta 508 tc ys) (hk : tks ys tbK [] 0 = none) :
    Calls Try.prog 46 #[.slice ta 508 tc] w (TofSay ys w) := by
  have HR := hide (tofT_none hk)
  have HB0 := hide (below_alloc w (.cells #[.int .i64 0, .int .i64 0, .int .i64 0, .slice none 0 0] 24))
  have HZ0 : Hid (TbBlk (w.alloc (.cells #[.int .i64 0, .int .i64 0, .int .i64 0, .slice none 0 0] 24)) w.heap.size Tb.zero Sl.nil) := TbBlk.new w Tb.zero Sl.nil
  have HC := hide hc
  have HK := hide (kindsT_any (w.alloc (.cells #[.int .i64 0, .int .i64 0, .int .i64 0, .slice none 0 0] 24)))
  have HTO := hide (takeOut_none hk)
  clear hc hk
  go_enter Try.func46, Try.ntmps46
  go_wp2_with fail
  refine HK.out.mono ?_
  rintro e w2 ⟨ka, kc, rfl, ho2, hb2⟩
  have hks : Ks w2 ka 52 tbK := by
    obtain ⟨a', c', hv, hvs, _, _⟩ := ho2.vs (kVals_oneT _)
    have hl52 : (kVals tbK).length = 52 := by rw [kVals, List.length_map]; exact tbK_len
    rw [hl52] at hv hvs
    simp only [Value.slice.injEq, true_and] at hv
    obtain ⟨rfl, rfl⟩ := hv
    exact ks_of_vsT hvs
  have HB2 := hide (rBelow HB0.out hb2)
  have HZ2 := hide (HZ0.out.keep hb2)
  have HTK := take_any ta 508 tc ys ka 52 kc tbK w2 (cameT_keep HC.out HB2.out (Nat.le_refl _)) hks (by decide) (by decide)
  unfold TookIs at HTK
  rw [HTO.out] at HTK
  replace HTK := hide HTK
  clear ho2 hb2 hks HK HZ0 HB0
  go_wp2_with fail
  refine HTK.out.mono ?_
  rintro e w3 ⟨v3, rfl, hb3, ho3, hf3⟩
  have HB3 := hide (rBelow HB2.out hb3)
  have HZ3 := hide (HZ2.out.keep hb3)
  clear HTK HB2 HZ2
  clear ho3 hf3 hb3
  obtain ⟨W9, hst9, hbk9, hfr9⟩ := HZ3.out.zeroed
  have HST9 := hide hst9
  have HBK9 := hide hbk9
  have HB9 : Hid (Below w.heap.size w W9) := HB3.out.trans (hfr9.below HB3.out.size (fun k hk => by omega))
  clear hst9 hbk9 hfr9
  go_wp2_with (refine wpList_store _ rfl rfl 24 (.tmp 2) (.tmp 32) rfl (.pointer (some ⟨w.heap.size, 0, none⟩)) (.agg #[.int .i64 0, .int .i64 0, .int .i64 0, .slice none 0 0]) rfl rfl W9 HST9.out ?_)
  refine bodyPost_ret (tb_results2 rfl HBK9.out _ _ rfl rfl) rfl ?_
  exact TofSay.bad HR.out HB9.out

set_option maxHeartbeats 8000000 in
set_option maxRecDepth 100000 in
theorem tofT_b (ta : Option Addr) (tc : Nat) (ys : List Nat) (w : World) (hc : Came w ta 508 tc ys) {l : List It} {q : Nat} (hk : tks ys tbK [] 0 = some (l, q)) (h84 : (l.getD 0 itD).n ≠ 84) :
    Calls Try.prog 46 #[.slice ta 508 tc] w (TofSay ys w) := by
  have HR := hide (tofT_no hk (fun k => h84 k.1))
  have HTT := hide (tookT hc.bs.2.1 hk)
  have HB0 := hide (below_alloc w (.cells #[.int .i64 0, .int .i64 0, .int .i64 0, .slice none 0 0] 24))
  have HZ0 : Hid (TbBlk (w.alloc (.cells #[.int .i64 0, .int .i64 0, .int .i64 0, .slice none 0 0] 24)) w.heap.size Tb.zero Sl.nil) := TbBlk.new w Tb.zero Sl.nil
  have HC := hide hc
  have HK := hide (kindsT_any (w.alloc (.cells #[.int .i64 0, .int .i64 0, .int .i64 0, .slice none 0 0] 24)))
  have HTO := hide (takeOut_some hk)
  obtain ⟨n0, hn0⟩ : ∃ n0, n0 = (l.getD 0 itD).n := ⟨_, rfl⟩
  have q84 : (n0 != 84) = true := by rw [hn0]; exact bne_iff_ne.2 h84
  have q85 : ¬ n0 = 84 := by rw [hn0]; exact h84
  have HN0 := hide hn0
  clear hc hk h84 hn0
  go_enter Try.func46, Try.ntmps46
  go_wp2_with fail
  refine HK.out.mono ?_
  rintro e w2 ⟨ka, kc, rfl, ho2, hb2⟩
  have hks : Ks w2 ka 52 tbK := by
    obtain ⟨a', c', hv, hvs, _, _⟩ := ho2.vs (kVals_oneT _)
    have hl52 : (kVals tbK).length = 52 := by rw [kVals, List.length_map]; exact tbK_len
    rw [hl52] at hv hvs
    simp only [Value.slice.injEq, true_and] at hv
    obtain ⟨rfl, rfl⟩ := hv
    exact ks_of_vsT hvs
  have HB2 := hide (rBelow HB0.out hb2)
  have HZ2 := hide (HZ0.out.keep hb2)
  have HTK := take_any ta 508 tc ys ka 52 kc tbK w2 (cameT_keep HC.out HB2.out (Nat.le_refl _)) hks (by decide) (by decide)
  unfold TookIs at HTK
  rw [HTO.out] at HTK
  replace HTK := hide HTK
  clear ho2 hb2 hks HK HZ0 HB0
  go_wp2_with fail
  refine HTK.out.mono ?_
  rintro e w3 ⟨v3, rfl, hb3, ho3, hf3⟩
  have HB3 := hide (rBelow HB2.out hb3)
  have HZ3 := hide (HZ2.out.keep hb3)
  clear HTK HB2 HZ2
  obtain ⟨ia, ic, hv3, his, hin, hil⟩ := ho3.is hf3
  have hl52 := HTT.out.len
  rw [hl52] at hv3 his hil
  subst hv3
  obtain ⟨g, off, ha, hat0⟩ := his.2.2 0 (by decide)
  subst ha
  have c1 : w3.cell? ⟨g, off + 1, none⟩ = some (.int .i64 n0) := by have := hat0.2.1; rw [← HN0.out] at this; simpa using this
  clear ho3 hf3 hb3 his hin hil hat0 hl52
  obtain ⟨W9, hst9, hbk9, hfr9⟩ := HZ3.out.zeroed
  have HST9 := hide hst9
  have HBK9 := hide hbk9
  have HB9 : Hid (Below w.heap.size w W9) := HB3.out.trans (hfr9.below HB3.out.size (fun k hk => by omega))
  clear hst9 hbk9 hfr9
  go_wp2_with (refine wpList_store _ rfl rfl 24 (.tmp 2) (.tmp 32) rfl (.pointer (some ⟨w.heap.size, 0, none⟩)) (.agg #[.int .i64 0, .int .i64 0, .int .i64 0, .slice none 0 0]) rfl rfl W9 HST9.out ?_)
  refine bodyPost_ret (tb_results2 rfl HBK9.out _ _ rfl rfl) rfl ?_
  exact TofSay.bad HR.out HB9.out

set_option maxHeartbeats 8000000 in
set_option maxRecDepth 100000 in
theorem tofT_c (ta : Option Addr) (tc : Nat) (ys : List Nat) (w : World) (hc : Came w ta 508 tc ys) {l : List It} {q : Nat} (hk : tks ys tbK [] 0 = some (l, q)) (h84 : (l.getD 0 itD).n = 84) (hz : zerosT (ys.drop q) = false) :
    Calls Try.prog 46 #[.slice ta 508 tc] w (TofSay ys w) := by
  have HR := hide (tofT_no hk (fun k => by have := k.2.1; rw [hz] at this; cases this))
  have HTT := hide (tookT hc.bs.2.1 hk)
  have HB0 := hide (below_alloc w (.cells #[.int .i64 0, .int .i64 0, .int .i64 0, .slice none 0 0] 24))
  have HZ0 : Hid (TbBlk (w.alloc (.cells #[.int .i64 0, .int .i64 0, .int .i64 0, .slice none 0 0] 24)) w.heap.size Tb.zero Sl.nil) := TbBlk.new w Tb.zero Sl.nil
  have HC := hide hc
  have HK := hide (kindsT_any (w.alloc (.cells #[.int .i64 0, .int .i64 0, .int .i64 0, .slice none 0 0] 24)))
  have HTO := hide (takeOut_some hk)
  have hq := HTT.out.le
  have hyl := hc.bs.1
  have HQ : Hid (q ≤ 508) := by show _ ≤ _; omega
  have H84 := hide h84
  have HZT := hide hz
  clear hc hk h84 hz hq hyl
  go_enter Try.func46, Try.ntmps46
  go_wp2_with fail
  refine HK.out.mono ?_
  rintro e w2 ⟨ka, kc, rfl, ho2, hb2⟩
  have hks : Ks w2 ka 52 tbK := by
    obtain ⟨a', c', hv, hvs, _, _⟩ := ho2.vs (kVals_oneT _)
    have hl52 : (kVals tbK).length = 52 := by rw [kVals, List.length_map]; exact tbK_len
    rw [hl52] at hv hvs
    simp only [Value.slice.injEq, true_and] at hv
    obtain ⟨rfl, rfl⟩ := hv
    exact ks_of_vsT hvs
  have HB2 := hide (rBelow HB0.out hb2)
  have HZ2 := hide (HZ0.out.keep hb2)
  have HTK := take_any ta 508 tc ys ka 52 kc tbK w2 (cameT_keep HC.out HB2.out (Nat.le_refl _)) hks (by decide) (by decide)
  unfold TookIs at HTK
  rw [HTO.out] at HTK
  replace HTK := hide HTK
  clear ho2 hb2 hks HK HZ0 HB0
  go_wp2_with fail
  refine HTK.out.mono ?_
  rintro e w3 ⟨v3, rfl, hb3, ho3, hf3⟩
  have HB3 := hide (rBelow HB2.out hb3)
  have HZ3 := hide (HZ2.out.keep hb3)
  clear HTK HB2 HZ2
  obtain ⟨ia, ic, hv3, his, hin, hil⟩ := ho3.is hf3
  have hl52 := HTT.out.len
  rw [hl52] at hv3 his hil
  subst hv3
  obtain ⟨g, off, ha, hat0⟩ := his.2.2 0 (by decide)
  subst ha
  have c1 : w3.cell? ⟨g, off + 1, none⟩ = some (.int .i64 84) := by have := hat0.2.1; rw [H84.out] at this; simpa using this
  have hsl := slice_from ta 508 tc q HQ.out
  have HNO := noughtsT_any w3 (fromA ta tc q) (508 - q) (tc - q) (ys.drop q) (cameT_from (cameT_keep HC.out HB3.out (Nat.le_refl _)) HQ.out).bs (by omega)
  rw [HZT.out] at HNO
  replace HNO := hide HNO
  have hq508 : ((q : Nat) : Int) ≤ 508 := by have := HQ.out; omega
  clear ho3 hf3 hb3 his hin hil hat0 hl52
  go_wp2_with fail
  refine HNO.out.mono ?_
  rintro e w4 ⟨rfl, hw⟩
  obtain rfl := hw.symm
  obtain ⟨W9, hst9, hbk9, hfr9⟩ := HZ3.out.zeroed
  have HST9 := hide hst9
  have HBK9 := hide hbk9
  have HB9 : Hid (Below w.heap.size w W9) := HB3.out.trans (hfr9.below HB3.out.size (fun k hk => by omega))
  clear hst9 hbk9 hfr9
  go_wp2_with (refine wpList_store _ rfl rfl 24 (.tmp 2) (.tmp 32) rfl (.pointer (some ⟨w.heap.size, 0, none⟩)) (.agg #[.int .i64 0, .int .i64 0, .int .i64 0, .slice none 0 0]) rfl rfl W9 HST9.out ?_)
  refine bodyPost_ret (tb_results2 rfl HBK9.out _ _ rfl rfl) rfl ?_
  exact TofSay.bad HR.out HB9.out

end Go.Proofs.Ytdbgbldmjgonjaa

namespace Go.Proofs.Ytdbgbldmjgonjaa
open Go.RowKit
set_option linter.unusedVariables false

theorem items_slice (g off ic : Nat) (hc : 52 ≤ ic) (w : World) : (Instr.sliceAt 54 (.slice (some ⟨g, off, none⟩) 52 ic) (some (.int .i64 4)) none none).run Try.prog w = .ok (.slice (some ⟨g, off + 16, none⟩) 48 (ic - 4)) w := slice_fromIt g off 52 ic 4 (by decide) (by omega) w
theorem put_otherT (W : World) (D : Nat) (o : Obj) (k : Nat) (h : k ≠ D) : (W.putObj D o).heap[k]? = W.heap[k]? := World.putObj_heap_other h

/-- The table that is read, with the entries of some rounds. -/
def tbP (l : List It) (pre : List Twe) : Tb := ⟨(l.getD 1 itD).n, (l.getD 2 itD).n, (l.getD 3 itD).n, pre.map (fun x => enOf l x.1)⟩
theorem tbP_all (l : List It) : tbP l (uptoT 12 (Nat.le_refl 12)) = tbOf l := by
  have e : (uptoT 12 (Nat.le_refl 12)).map (fun x => enOf l x.1) = esOf l 12 := by
    have h := uptoT_vals 12 (Nat.le_refl 12)
    unfold esOf
    rw [← h, List.map_map]
    rfl
  unfold tbP tbOf
  rw [e]

/-- Between two rounds: n: where the table's box lies; s: the items' block, as it stood. -/
structure TfI (w : World) (n m g : Nat) (sl : Value) (ob : Option Obj) (l : List It) (pre : List Twe) (W : World) : Prop where
  below : Below w.heap.size w W
  br : TbBlk W w.heap.size Tb.zero Sl.nil
  tb : ∃ v, TbBlk W n (tbP l pre) v ∧ OwnE W v (tbP l pre).es ∧ ∀ k, v.blk = some k → m + 1 < k
  b1 : BoxT W m 54 sl
  b2 : BoxT W (m + 1) 3 (.int .i64 4)
  ib : W.heap[g]? = ob
theorem TfI.own {w : World} {n m g : Nat} {sl : Value} {C : Array Value} {t : TypeId} {fr : Nat × Nat} {l : List It} {B : Nat} (hB : w.heap.size ≤ B) : OwnFrom B (TfI w n m g sl (some (Obj.cells C t fr)) l) := by
  intro pre W W' row h hg hr
  have hr' : ∀ r, row = some r → ∃ o : Obj, W.heap[r]? = some o ∧ o.isCells = false := fun r e => (hr r e).2
  obtain ⟨v, h1, h2, h3⟩ := h.tb
  refine ⟨Below.grownB h.below hg (fun r e => Nat.le_trans hB (hr r e).1) h.below.size, (grown_cells hg hr' h.br).trans h.br, ⟨v, (grown_cells hg hr' h1).trans h1, Own.frame h2 (fun k hk => ?_), h3⟩, (grown_cells hg hr' h.b1).trans h.b1, (grown_cells hg hr' h.b2).trans h.b2, (grown_cells hg hr' h.ib).trans h.ib⟩
  obtain ⟨cur, hc⟩ := Own.kind h2 hk
  exact grown_cells hg hr' hc
theorem noX {B : Nat} (c : Code) : OwnFrom B (fun (_ : List Twe) (_ : World) => False) := fun _ _ _ _ h _ _ => h

set_option maxHeartbeats 8000000 in
set_option maxRecDepth 100000 in
theorem tofT_d (ta : Option Addr) (tc : Nat) (ys : List Nat) (w : World) (hc : Came w ta 508 tc ys) {l : List It} {q : Nat} (hk : tks ys tbK [] 0 = some (l, q)) (h84 : (l.getD 0 itD).n = 84) (hz : zerosT (ys.drop q) = true) :
    Calls Try.prog 46 #[.slice ta 508 tc] w (TofSay ys w) := by
  have HTT := hide (tookT hc.bs.2.1 hk)
  have HB0 := hide (below_alloc w (.cells #[.int .i64 0, .int .i64 0, .int .i64 0, .slice none 0 0] 24))
  have HZ0 : Hid (TbBlk (w.alloc (.cells #[.int .i64 0, .int .i64 0, .int .i64 0, .slice none 0 0] 24)) w.heap.size Tb.zero Sl.nil) := TbBlk.new w Tb.zero Sl.nil
  have HC := hide hc
  have HK := hide (kindsT_any (w.alloc (.cells #[.int .i64 0, .int .i64 0, .int .i64 0, .slice none 0 0] 24)))
  have HTO := hide (takeOut_some hk)
  have hq := HTT.out.le
  have hyl := hc.bs.1
  have HQ : Hid (q ≤ 508) := by show _ ≤ _; omega
  have H84 := hide h84
  have HZT := hide hz
  have HKS := hide hk
  clear hc hk h84 hz hq hyl
  refine (callsIn_wide (n := 3)).1 (callsIn_of_wp_marks Try.func46 rfl trivial (wpIn_wide.2 ?_) rfl)
  simp only [Try.ntmps46, List.size_toArray, List.length_cons, List.length_nil, Nat.reduceAdd, Nat.reduceSub, Array.replicate_succ, Array.replicate_zero, List.push_toArray, List.append_toArray, List.nil_append, List.cons_append]
  go_wp2_with fail
  refine HK.out.mono ?_
  rintro e w2 ⟨ka, kc, rfl, ho2, hb2⟩
  have hks : Ks w2 ka 52 tbK := by
    obtain ⟨a', c', hv, hvs, _, _⟩ := ho2.vs (kVals_oneT _)
    have hl52 : (kVals tbK).length = 52 := by rw [kVals, List.length_map]; exact tbK_len
    rw [hl52] at hv hvs
    simp only [Value.slice.injEq, true_and] at hv
    obtain ⟨rfl, rfl⟩ := hv
    exact ks_of_vsT hvs
  have HB2 := hide (rBelow HB0.out hb2)
  have HZ2 := hide (HZ0.out.keep hb2)
  have HTK := take_any ta 508 tc ys ka 52 kc tbK w2 (cameT_keep HC.out HB2.out (Nat.le_refl _)) hks (by decide) (by decide)
  unfold TookIs at HTK
  rw [HTO.out] at HTK
  replace HTK := hide HTK
  clear ho2 hb2 hks HK HZ0 HB0
  go_wp2_with fail
  refine HTK.out.mono ?_
  rintro e w3 ⟨v3, rfl, hb3, ho3, hf3⟩
  have HB3 := hide (rBelow HB2.out hb3)
  have HZ3 := hide (HZ2.out.keep hb3)
  clear HTK HB2 HZ2
  have hgo := ho3
  obtain ⟨ia, ic, hv3, his, hin, hil⟩ := ho3.is hf3
  have hl52 := HTT.out.len
  rw [hl52] at hv3 his hil
  subst hv3
  obtain ⟨g, off, ha, hat0⟩ := his.2.2 0 (by decide)
  subst ha
  have c1 : w3.cell? ⟨g, off + 1, none⟩ = some (.int .i64 84) := by have := hat0.2.1; rw [H84.out] at this; simpa using this
  have hsl := slice_from ta 508 tc q HQ.out
  have HNO := noughtsT_any w3 (fromA ta tc q) (508 - q) (tc - q) (ys.drop q) (cameT_from (cameT_keep HC.out HB3.out (Nat.le_refl _)) HQ.out).bs (by omega)
  rw [HZT.out] at HNO
  replace HNO := hide HNO
  have hq508 : ((q : Nat) : Int) ≤ 508 := by have := HQ.out; omega
  have HIS := hide his
  have HIL := hide hil
  obtain ⟨C, hgC⟩ : ∃ C, w3.heap[g]? = some (Obj.cells C 67 (0, 0)) := by
    rcases hgo.2 with ⟨hv, _⟩ | ⟨g', cap', cur, hv, _, hg', _⟩
    · cases hv
    · simp only [Value.slice.injEq, Option.some.injEq, Addr.mk.injEq, and_true] at hv
      obtain ⟨⟨rfl, _⟩, _⟩ := hv
      exact ⟨cur, hg'⟩
  have HGC := hide hgC
  clear ho3 hf3 hb3 his hin hil hat0 hl52 hgo hgC
  go_wp2_with fail
  refine HNO.out.mono ?_
  rintro e w4 ⟨rfl, hw⟩
  obtain rfl := hw.symm
  clear HNO
  go_wp2_with fail
  refine Pl.region_is (ops := Pl.find 4 ((Try.f46.body).getD .skip)) (by kernel_rfl) ?_
  have hit : ∀ i, i < 52 → ItAt w3 g (off + i * 4) (l.getD i itD) := fun i hi => by
    obtain ⟨b', o', e, h⟩ := HIS.out.2.2 i hi
    simp only [Option.some.injEq, Addr.mk.injEq, and_true] at e
    obtain ⟨rfl, rfl⟩ := e
    exact h
  refine tof4 w3 w3 g off ic (l.getD 1 itD) (l.getD 2 itD) (l.getD 3 itD) (hit 1 (by decide)) (hit 2 (by decide)) (hit 3 (by decide)) (Below.refl _ _) (by rfl) rfl (by rfl) ?_
  rintro u5 w5 tb ⟨hb5, htb5, htbn⟩
  simp only [Act.put, List.setIfInBounds_toArray, List.set_cons_zero, List.set_cons_succ]
  have HIT := hide hit
  have HCH := hide (chunk_any (some ⟨g, off + 16, none⟩) 48 (ic - 4) w5)
  have HSI := hide (items_slice g off ic HIL.out)
  have HTB5 := hide htb5
  have HTBN := hide htbn
  have HB5 := hide hb5
  clear hit htb5 htbn hb5 c1 hsl
  go_wp2_with (refine wpList_sliceT _ rfl 54 (.tmp 46) (some (.const (.int .i64 4))) none rfl (.slice (some ⟨g, off + 16, none⟩) 48 (ic - 4)) (HSI.out _) ?_)
  refine HCH.out.mono ?_
  rintro e w6 ⟨rfl, hw6⟩
  have hbA := below_alloc w5 (.cells #[.slice (some ⟨g, off + 16, none⟩) 48 (ic - 4)] 54)
  have hbB := below_alloc (w5.alloc (.cells #[.slice (some ⟨g, off + 16, none⟩) 48 (ic - 4)] 54)) (.cells #[.int .i64 4] 3)
  have sA : (w5.alloc (.cells #[.slice (some ⟨g, off + 16, none⟩) 48 (ic - 4)] 54)).heap.size = w5.heap.size + 1 := by simp
  have hx1 : BoxT (w5.alloc (.cells #[.slice (some ⟨g, off + 16, none⟩) 48 (ic - 4)] 54)) w5.heap.size 54 (.slice (some ⟨g, off + 16, none⟩) 48 (ic - 4)) := heap_alloc_new w5 _
  have hx2 : BoxT w6 (w5.heap.size + 1) 3 (.int .i64 4) := by
    have := heap_alloc_new (w5.alloc (.cells #[.slice (some ⟨g, off + 16, none⟩) 48 (ic - 4)] 54)) (.cells #[.int .i64 4] 3)
    rw [sA, ← hw6] at this
    exact this
  have s6 : w6.heap.size = w5.heap.size + 2 := by rw [hw6]; simp
  have hb6 : Below w5.heap.size w5 w6 := by rw [hw6]; exact rBelow hbA hbB
  have hx1' : BoxT w6 w5.heap.size 54 (.slice (some ⟨g, off + 16, none⟩) 48 (ic - 4)) := by rw [hw6]; exact hx1.keep hbB
  have hglt : g < w3.heap.size := (Array.getElem?_eq_some_iff.1 HGC.out).1
  have hs3 : w.heap.size < w3.heap.size := HZ3.out.lt
  have htlt : tb < w5.heap.size := HTB5.out.lt
  have hs35 : w3.heap.size ≤ w5.heap.size := HB5.out.size
  have hB6 : Below w.heap.size w w6 := rBelow (rBelow HB3.out HB5.out) hb6
  have HI0 : Hid (TfI w tb w5.heap.size g (.slice (some ⟨g, off + 16, none⟩) 48 (ic - 4)) (some (Obj.cells C 67 (0, 0))) l [] w6) := by
    refine ⟨hB6, (HZ3.out.keep HB5.out).keep hb6, ⟨Sl.nil, HTB5.out.keep hb6, Own.nil _ _ _, fun k hk => by cases hk⟩, hx1', hx2, ?_⟩
    rw [hb6.block g (by omega), HB5.out.block g hglt]
    exact HGC.out
  have HS6 := hide s6
  have HNUM : Hid (g < w3.heap.size ∧ w.heap.size < w3.heap.size ∧ w3.heap.size ≤ tb ∧ tb < w5.heap.size ∧ w3.heap.size ≤ w5.heap.size) := ⟨hglt, hs3, HTBN.out, htlt, hs35⟩
  clear hw6 hbA hbB sA hx1 hx2 s6 hb6 hx1' hglt hs3 htlt hs35 hB6 HCH HSI HTB5 HTBN HB5 HZ3 HB3
  go_wp2_with fail
  refine (wpIn_wide (n := 3)).1 ?_
  refine' wpIn_rangeFunc_ownG (Kp := KeptTwo w5.heap.size (w5.heap.size + 1)) rfl (by decide) (gf := 82) (lb := #[.pointer (some ⟨w5.heap.size, 0, none⟩), .pointer (some ⟨w5.heap.size + 1, 0, none⟩)]) rfl trivial (enters_of Try.func82 (by kernel_rfl) rfl)
    (chunk_stops (3 - 1) w5.heap.size (w5.heap.size + 1) g (off + 16) (ic - 4) (by have := HIL.out; omega) w6 HI0.out.b1 HI0.out.b2) keptTwo_t (keptTwo_b (by rw [HS6.out]; omega) (by rw [HS6.out]; omega)) (Below.refl _ _) (fun _ => rfl)
    (TfI w tb w5.heap.size g (.slice (some ⟨g, off + 16, none⟩) 48 (ic - 4)) (some (Obj.cells C 67 (0, 0))) l) (fun _ _ _ => False) (TfI.own (by have := HNUM.out; rw [HS6.out]; omega)) noX HI0.out
    _ ?assign ?body ?done ?stop
  case assign =>
    intro lp x W K hK
    unfold chunkV
    refine lit_round (by kernel_rfl) (fun _ _ h => h) ?_
    go_wp2_with fail
    exact hK
  case body =>
    intro lp pre x W hI hpre
    have hx12 := x.2
    obtain ⟨v, hT, hO, hvk⟩ := hI.tb
    have hnum := HNUM.out
    have hit : ∀ k, k < 4 → ItAt W g (off + 16 + 16 * x.1 + (k) * 4) (l.getD (4 + 4 * x.1 + k) itD) := fun k hk => by
      have h := HIT.out (4 + 4 * x.1 + k) (by omega)
      rw [show off + (4 + 4 * x.1 + k) * 4 = off + 16 + 16 * x.1 + k * 4 by omega] at h
      have he : W.heap[g]? = w3.heap[g]? := hI.ib.trans HGC.out.symm
      have kk : ∀ {o : Nat} {y : Value}, w3.cell? ⟨g, o, Option.none⟩ = some y → W.cell? ⟨g, o, Option.none⟩ = some y := fun {o y} hc => (World.cell?_of_block (w := w3) (a := ⟨g, o, Option.none⟩) he).trans hc
      exact ⟨kk h.1, kk h.2.1, kk h.2.2.1, kk h.2.2.2⟩
    have hlen : v.len = pre.length := by
      have := hO.len
      rw [← this]
      show (pre.map _).length = _
      rw [List.length_map]
    refine wpIn_block ?_
    refine Pl.region_isR (ops := Pl.findR 7 ((Try.f46.body).getD .skip)) (by kernel_rfl) ?_
    refine tof7 lp _ W g (off + 16 + 16 * x.1) tb (tbP l pre) v (l.getD (4 + 4 * x.1 + 0) itD) (l.getD (4 + 4 * x.1 + 1) itD) (l.getD (4 + 4 * x.1 + 2) itD) (l.getD (4 + 4 * x.1 + 3) itD) (hit 0 (by decide)) (hit 1 (by decide)) (hit 2 (by decide)) (hit 3 (by decide)) hT hO
      (fun e => by have := hvk _ e; omega) (fun e => e.elim (fun e => by omega) (fun e => by have := hvk _ e; omega)) (by rw [hlen]; omega) (by rfl) rfl (by rfl) (by rfl) (fun _ _ h => h) ?_
    rintro u7 w7 v7 ⟨hT7, hO7, hf7, hb7⟩
    have een : En.mk (l.getD (4 + 4 * x.1 + 1) itD).n (l.getD (4 + 4 * x.1 + 0) itD).n (l.getD (4 + 4 * x.1 + 2) itD).n (l.getD (4 + 4 * x.1 + 3) itD).n = enOf l x.1 := by
      unfold enOf
      rw [show 4 + 4 * x.1 + 1 = 5 + 4 * x.1 by omega, show 4 + 4 * x.1 + 0 = 4 + 4 * x.1 by omega, show 4 + 4 * x.1 + 2 = 6 + 4 * x.1 by omega, show 4 + 4 * x.1 + 3 = 7 + 4 * x.1 by omega]
    rw [een] at hT7 hO7
    have etb : ({ tbP l pre with es := (tbP l pre).es ++ [enOf l x.1] } : Tb) = tbP l (pre ++ [x]) := by
      unfold tbP
      simp
    have ees : (tbP l pre).es ++ [enOf l x.1] = (tbP l (pre ++ [x])).es := by rw [← etb]
    rw [etb] at hT7
    rw [ees] at hO7
    have hne : ∀ k, k = w.heap.size ∨ k = w5.heap.size ∨ k = w5.heap.size + 1 ∨ k = g → ¬ (k = tb ∨ v.blk = some k) := fun k hk e => e.elim (fun e => by omega) (fun e => by have := hvk _ e; omega)
    have hlt1 := hI.b1.lt
    have hlt2 := hI.b2.lt
    have hltg : g < W.heap.size := by have := hI.below.size; omega
    refine ⟨(hf7.keeps (fun k _ hk => ?_)).from _, ⟨hf7.block _ hlt1 (hne _ (.inr (.inl rfl))), hf7.block _ hlt2 (hne _ (.inr (.inr (.inl rfl))))⟩, hI.below.trans (hf7.below hI.below.size (fun k hk => ?_)), hI.br.other hf7 (hne _ (.inl rfl)), ⟨v7, hT7, hO7, fun k hk => ?_⟩, (hf7.block _ hlt1 (hne _ (.inr (.inl rfl)))).trans hI.b1, (hf7.block _ hlt2 (hne _ (.inr (.inr (.inl rfl))))).trans hI.b2, (hf7.block _ hltg (hne _ (.inr (.inr (.inr rfl))))).trans hI.ib⟩
    · rcases hk with rfl | hk
      · exact ⟨_, _, _, hT⟩
      · obtain ⟨cur, hcur⟩ := Own.kind hO hk
        exact ⟨_, _, _, hcur⟩
    · rcases hk with rfl | hk
      · omega
      · have := hvk _ hk; omega
    · rcases hb7 with e | ⟨j, e, hj⟩
      · rw [e] at hk; exact hvk k hk
      · rw [e] at hk; cases hk; omega
  case done =>
    intro D ys' W hD hys hI hK
    subst hys
    obtain ⟨v, hT, hO, hvk⟩ := hI.tb
    rw [tbP_all] at hT hO
    have hnum := HNUM.out
    have hDD : w5.heap.size + 2 ≤ D := by rw [← HS6.out]; exact hD
    have HLD := hide (load_tb tb (tbOf l) v W hT)
    have HI := hide hI
    have HK := hide hK
    have HT := hide hT
    have HO := hide hO
    have HVK := hide hvk
    have HD := hide hDD
    clear hI hK hT hO hvk hD hDD hnum
    cases hm : mayB (tbOf l) with
    | false =>
      have HR : Hid (tofT ys = (Tb.zero, 4)) := tofT_no HKS.out (fun k => by have := mayB_yes k.2.2; rw [hm] at this; cases this)
      have HC1 := hide (checkT_no hm v W HO.out.es)
      clear hm
      go_wp2_with (refine wpList_load _ rfl 24 (.tmp 7) rfl (.pointer (some ⟨tb, 0, none⟩)) ((tbOf l).val v) rfl HLD.out ?_)
      refine HC1.out.mono ?_
      rintro e w7 ⟨rfl, hb7⟩
      have hKl := (Array.getElem?_eq_some_iff.1 HK.out).1
      have hK7 : w7.heap[D]? = some (.deferred (some [])) := (hb7.block D hKl).trans HK.out
      obtain ⟨W9, hst9, hbk9, hfr9⟩ := (HI.out.br.keep hb7).zeroed
      have hb0 := rBelow HI.out.below hb7
      have hB9 : Below w.heap.size w W9 := hb0.trans (hfr9.below hb0.size (fun k hk => by omega))
      have hnum := HNUM.out
      have hDD := HD.out
      have hK9 : W9.heap[D]? = some (.deferred (some [])) := (hfr9.block D (Array.getElem?_eq_some_iff.1 hK7).1 (by omega)).trans hK7
      have HB : Hid (Below w.heap.size w (W9.putObj D (.deferred none))) := hB9.trans (belowK_b (w := w) (Nat.le_refl _) W9 D _ _ (by omega) hK9 rfl rfl)
      have HBK : Hid (TbBlk (W9.putObj D (.deferred none)) w.heap.size Tb.zero Sl.nil) := (put_otherT _ _ _ _ (by omega)).trans hbk9
      have HST9 := hide hst9
      have HK9 := hide hK9
      clear hKl hK7 hst9 hbk9 hfr9 hb0 hB9 hnum hDD hK9 hb7 HC1 HLD HI HK HT HO
      go_wp2_with (refine wpList_store _ rfl rfl 24 (.tmp 2) (.tmp 75) rfl (.pointer (some ⟨w.heap.size, 0, none⟩)) (.agg #[.int .i64 0, .int .i64 0, .int .i64 0, .slice none 0 0]) rfl rfl W9 HST9.out ?_)
      refine ⟨by simp, .inl ⟨_, _, rfl, run_takeDeferred HK9.out, ?_⟩⟩
      exact ⟨.tuple #[Tb.zero.val Sl.nil, .int .i64 4], tb_results2 (x := 2) (y := 3) rfl HBK.out _ (.int .i64 4) rfl rfl, TofSay.bad HR.out HB.out⟩
    | true =>
      have hM := mayB_iff.1 hm
      have HR : Hid (tofT ys = (tbOf l, 0)) := tofT_yes HKS.out ⟨H84.out, HZT.out, hM⟩
      have HC1 := hide (checkT_yes hM v W HO.out.es)
      clear hm hM
      go_wp2_with (refine wpList_load _ rfl 24 (.tmp 7) rfl (.pointer (some ⟨tb, 0, none⟩)) ((tbOf l).val v) rfl HLD.out ?_)
      refine HC1.out.mono ?_
      rintro e w7 ⟨rfl, hb7⟩
      have hKl := (Array.getElem?_eq_some_iff.1 HK.out).1
      have hK7 : w7.heap[D]? = some (.deferred (some [])) := (hb7.block D hKl).trans HK.out
      have HLD7 := hide (load_tb tb (tbOf l) v w7 (HT.out.keep hb7))
      obtain ⟨W9, hst9, hbk9, hfr9, hsz9⟩ := (HI.out.br.keep hb7).store (tbOf l) v
      have hb0 := rBelow HI.out.below hb7
      have hB9 : Below w.heap.size w W9 := hb0.trans (hfr9.below hb0.size (fun k hk => by omega))
      have hnum := HNUM.out
      have hDD := HD.out
      have hvk := HVK.out
      have hK9 : W9.heap[D]? = some (.deferred (some [])) := (hfr9.block D (Array.getElem?_eq_some_iff.1 hK7).1 (by omega)).trans hK7
      have ho9 : OwnE W9 v (tbOf l).es := (HO.out.keep hb7).other hfr9 (fun k hk => by have := hvk k hk; omega)
      have HES : Hid (Es (W9.putObj D (.deferred none)) v (tbOf l).es) := by
        have h10 : OwnE (W9.putObj D (.deferred none)) v (tbOf l).es := Own.frame ho9 (fun k hk => by
          refine put_otherT _ _ _ _ (fun e => ?_)
          obtain ⟨cur, hcur⟩ := Own.kind ho9 hk
          rw [e, hK9] at hcur
          cases hcur)
        exact h10.es
      have HB : Hid (Below w.heap.size w (W9.putObj D (.deferred none))) := hB9.trans (belowK_b (w := w) (Nat.le_refl _) W9 D _ _ (by omega) hK9 rfl rfl)
      have HBK : Hid (TbBlk (W9.putObj D (.deferred none)) w.heap.size (tbOf l) v) := (put_otherT _ _ _ _ (by omega)).trans hbk9
      have HST9 := hide hst9
      have HK9 := hide hK9
      clear hKl hK7 hst9 hbk9 hfr9 hsz9 hb0 hB9 hnum hDD hvk hK9 ho9 hb7 HC1 HLD HI HK HT HO
      go_wp2_with (first | refine wpList_load _ rfl 24 (.tmp 7) rfl (.pointer (some ⟨tb, 0, none⟩)) ((tbOf l).val v) rfl HLD7.out ?_ | refine wpList_store _ rfl rfl 24 (.tmp 2) (.tmp 76) rfl (.pointer (some ⟨w.heap.size, 0, none⟩)) ((tbOf l).val v) rfl rfl W9 HST9.out ?_)
      refine ⟨by simp, .inl ⟨_, _, rfl, run_takeDeferred HK9.out, ?_⟩⟩
      refine ⟨.tuple #[(tbOf l).val v, .int .i64 0], tb_results2 (x := 2) (y := 3) rfl HBK.out _ (.int .i64 0) rfl rfl, ?_⟩
      unfold TofSay
      rw [HR.out]
      exact ⟨v, rfl, HES.out, HB.out⟩
  case stop =>
    intro D c pre W hD _ hX hK
    exact hX.elim

theorem tofT_any (ta : Option Addr) (tc : Nat) (ys : List Nat) (w : World) (hc : Came w ta 508 tc ys) : Calls Try.prog 46 #[.slice ta 508 tc] w (TofSay ys w) := by
  cases hk : tks ys tbK [] 0 with
  | none => exact tofT_a ta tc ys w hc hk
  | some r =>
    obtain ⟨l, q⟩ := r
    by_cases h84 : (l.getD 0 itD).n = 84
    · cases hz : zerosT (ys.drop q) with
      | false => exact tofT_c ta tc ys w hc hk h84 hz
      | true => exact tofT_d ta tc ys w hc hk h84 hz
    · exact tofT_b ta tc ys w hc hk h84

/-! ### Decode -/

set_option maxHeartbeats 8000000 in
set_option maxRecDepth 100000 in
theorem ldecT_arg (pa : Option Addr) (pl pc : Nat) (xs : List Nat) (w : World) (hc : Came w pa pl pc xs) (hn : pl ≠ 512) :
    Calls Try.prog 15 #[.slice pa pl pc] w (TbTold (decT xs).1 w (fun x => .tuple #[x, .int .i64 (decT xs).2])) := by
  have HD : Hid (decT xs = (Tb.zero, 1)) := decT_len (by rw [hc.bs.1]; exact hn)
  have HB0 := hide (below_alloc w (.cells #[.int .i64 0, .int .i64 0, .int .i64 0, .slice none 0 0] 24))
  have HZ0 : Hid (TbBlk (w.alloc (.cells #[.int .i64 0, .int .i64 0, .int .i64 0, .slice none 0 0] 24)) w.heap.size Tb.zero Sl.nil) := TbBlk.new w Tb.zero Sl.nil
  have i1 : (((pl : Nat) : Int) != 512) = true := by simp; omega
  have i2 : ¬ ((pl : Nat) : Int) = 512 := by omega
  clear hc hn
  go_enter Try.func15, Try.ntmps15
  obtain ⟨W9, hst9, hbk9, hfr9⟩ := HZ0.out.zeroed
  have HST9 := hide hst9
  have HBK9 := hide hbk9
  have HB9 : Hid (Below w.heap.size w W9) := HB0.out.trans (hfr9.below HB0.out.size (fun k hk => by omega))
  clear hst9 hbk9 hfr9
  go_wp2_with (refine wpList_store _ rfl rfl 24 (.tmp 2) (.tmp 9) rfl (.pointer (some ⟨w.heap.size, 0, none⟩)) (.agg #[.int .i64 0, .int .i64 0, .int .i64 0, .slice none 0 0]) rfl rfl W9 HST9.out ?_)
  refine bodyPost_ret (tb_results2 (x := 2) (y := 3) rfl HBK9.out _ (.int .i64 1) rfl rfl) rfl ?_
  rw [HD.out]
  exact ⟨Sl.nil, rfl, Es.none _, HB9.out⟩

set_option maxHeartbeats 8000000 in
set_option maxRecDepth 100000 in
theorem ldecT_nul (pa : Option Addr) (pc : Nat) (xs : List Nat) (w : World) (hc : Came w pa 512 pc xs) (hz : xs = List.replicate 512 0) :
    Calls Try.prog 15 #[.slice pa 512 pc] w (TbTold (decT xs).1 w (fun x => .tuple #[x, .int .i64 (decT xs).2])) := by
  have HD : Hid (decT xs = (firstT, 0)) := decT_nul hz
  have HB0 := hide (below_alloc w (.cells #[.int .i64 0, .int .i64 0, .int .i64 0, .slice none 0 0] 24))
  have HZ0 : Hid (TbBlk (w.alloc (.cells #[.int .i64 0, .int .i64 0, .int .i64 0, .slice none 0 0] 24)) w.heap.size Tb.zero Sl.nil) := TbBlk.new w Tb.zero Sl.nil
  have HNO := noughtsT_any (w.alloc (.cells #[.int .i64 0, .int .i64 0, .int .i64 0, .slice none 0 0] 24)) pa 512 pc xs (hc.bs.keep HB0.out (Nat.le_refl _)) (by decide)
  rw [(zerosT_nul hc.bs.1).2 hz] at HNO
  replace HNO := hide HNO
  have HF := hide (firstT_any (w.alloc (.cells #[.int .i64 0, .int .i64 0, .int .i64 0, .slice none 0 0] 24)))
  clear hc hz
  go_enter Try.func15, Try.ntmps15
  go_wp2_with fail
  refine HNO.out.mono ?_
  rintro e w1 ⟨rfl, rfl⟩
  go_wp2_with fail
  refine HF.out.mono ?_
  rintro e w2 ⟨s2, rfl, ho2, hn2, hb2⟩
  simp only [id]
  have hlt := HZ0.out.lt
  obtain ⟨W9, hst9, hbk9, hfr9, hsz9⟩ := (HZ0.out.keep hb2).store firstT s2
  have HST9 := hide hst9
  have HBK9 := hide hbk9
  have HE9 : Hid (Es W9 s2 firstT.es) := (ho2.other hfr9 (fun k hk e => by have := hn2 k hk; omega)).es
  have hb0 := rBelow HB0.out hb2
  have HB9 : Hid (Below w.heap.size w W9) := hb0.trans (hfr9.below hb0.size (fun k hk => by omega))
  clear hst9 hbk9 hfr9 hsz9 ho2 hn2 hb2 hlt hb0
  go_wp2_with (refine wpList_store _ rfl rfl 24 (.tmp 2) (.tmp 12) rfl (.pointer (some ⟨w.heap.size, 0, none⟩)) (firstT.val s2) rfl rfl W9 HST9.out ?_)
  refine bodyPost_ret (tb_results2 (x := 2) (y := 3) rfl HBK9.out _ (.int .i64 0) rfl rfl) rfl ?_
  rw [HD.out]
  exact ⟨s2, rfl, HE9.out, HB9.out⟩

set_option maxHeartbeats 8000000 in
set_option maxRecDepth 100000 in
theorem ldecT_sum (pa : Option Addr) (pc : Nat) (xs : List Nat) (w : World) (hc : Came w pa 512 pc xs) (hz : xs ≠ List.replicate 512 0) (hs : ¬ Sealed xs) :
    Calls Try.prog 15 #[.slice pa 512 pc] w (TbTold (decT xs).1 w (fun x => .tuple #[x, .int .i64 (decT xs).2])) := by
  have HD : Hid (decT xs = (Tb.zero, 5)) := decT_sum hc.bs.1 hz hs
  have HB0 := hide (below_alloc w (.cells #[.int .i64 0, .int .i64 0, .int .i64 0, .slice none 0 0] 24))
  have HZ0 : Hid (TbBlk (w.alloc (.cells #[.int .i64 0, .int .i64 0, .int .i64 0, .slice none 0 0] 24)) w.heap.size Tb.zero Sl.nil) := TbBlk.new w Tb.zero Sl.nil
  have HNO := noughtsT_any (w.alloc (.cells #[.int .i64 0, .int .i64 0, .int .i64 0, .slice none 0 0] 24)) pa 512 pc xs (hc.bs.keep HB0.out (Nat.le_refl _)) (by decide)
  have hnz : zerosT xs = false := by
    cases h : zerosT xs with
    | false => rfl
    | true => exact absurd ((zerosT_nul hc.bs.1).1 h) hz
  rw [hnz] at HNO
  replace HNO := hide HNO
  obtain ⟨b, off, hpa, _⟩ := hc.bs.2.2 0 (by decide)
  subst hpa
  have HO := hide (open_no b off 512 pc xs _ (hc.bs.keep HB0.out (Nat.le_refl _)) (by decide) hc.le (by decide) hs)
  clear hc hz hs hnz
  go_enter Try.func15, Try.ntmps15
  go_wp2_with fail
  refine HNO.out.mono ?_
  rintro e w1 ⟨rfl, rfl⟩
  go_wp2_with fail
  refine HO.out.mono ?_
  rintro e w2 ⟨rfl, hb2⟩
  have HB2 := hide (rBelow HB0.out hb2)
  have HZ2 := hide (HZ0.out.keep hb2)
  clear hb2
  obtain ⟨W9, hst9, hbk9, hfr9⟩ := HZ2.out.zeroed
  have HST9 := hide hst9
  have HBK9 := hide hbk9
  have HB9 : Hid (Below w.heap.size w W9) := HB2.out.trans (hfr9.below HB2.out.size (fun k hk => by omega))
  clear hst9 hbk9 hfr9
  go_wp2_with (refine wpList_store _ rfl rfl 24 (.tmp 2) (.tmp 20) rfl (.pointer (some ⟨w.heap.size, 0, none⟩)) (.agg #[.int .i64 0, .int .i64 0, .int .i64 0, .slice none 0 0]) rfl rfl W9 HST9.out ?_)
  refine bodyPost_ret (tb_results2 (x := 2) (y := 3) rfl HBK9.out _ (.int .i64 5) rfl rfl) rfl ?_
  rw [HD.out]
  exact ⟨Sl.nil, rfl, Es.none _, HB9.out⟩

set_option maxHeartbeats 8000000 in
set_option maxRecDepth 100000 in
theorem ldecT_sealed (pa : Option Addr) (pc : Nat) (xs : List Nat) (w : World) (hc : Came w pa 512 pc xs) (hz : xs ≠ List.replicate 512 0) (hs : Sealed xs) :
    Calls Try.prog 15 #[.slice pa 512 pc] w (TbTold (decT xs).1 w (fun x => .tuple #[x, .int .i64 (decT xs).2])) := by
  have hdt := decT_tof hc.bs.2.1 hc.bs.1 hz hs
  rw [hdt]
  obtain ⟨⟨tt, kk⟩, hr⟩ : ∃ r, r = tofT (xs.drop 4) := ⟨_, rfl⟩
  rw [← hr]
  have HRR := hide hr
  have HB0 := hide (below_alloc w (.cells #[.int .i64 0, .int .i64 0, .int .i64 0, .slice none 0 0] 24))
  have HZ0 : Hid (TbBlk (w.alloc (.cells #[.int .i64 0, .int .i64 0, .int .i64 0, .slice none 0 0] 24)) w.heap.size Tb.zero Sl.nil) := TbBlk.new w Tb.zero Sl.nil
  have HNO := noughtsT_any (w.alloc (.cells #[.int .i64 0, .int .i64 0, .int .i64 0, .slice none 0 0] 24)) pa 512 pc xs (hc.bs.keep HB0.out (Nat.le_refl _)) (by decide)
  have hnz : zerosT xs = false := by
    cases h : zerosT xs with
    | false => rfl
    | true => exact absurd ((zerosT_nul hc.bs.1).1 h) hz
  rw [hnz] at HNO
  replace HNO := hide HNO
  obtain ⟨b, off, hpa, _⟩ := hc.bs.2.2 0 (by decide)
  subst hpa
  have HO := hide (open_yes b off 512 pc xs _ (hc.bs.keep HB0.out (Nat.le_refl _)) (by decide) hc.le (by decide) hs)
  have HXB : Hid (Bytes (xs.drop 4)) := fun x hx => hc.bs.2.1 x (List.mem_of_mem_drop hx)
  have HXL : Hid ((xs.drop 4).length = 508) := by show _ = _; rw [List.length_drop, hc.bs.1]
  clear hc hz hs hnz hdt hr
  go_enter Try.func15, Try.ntmps15
  go_wp2_with fail
  refine HNO.out.mono ?_
  rintro e w1 ⟨rfl, rfl⟩
  go_wp2_with fail
  refine HO.out.mono ?_
  rintro e w2 ⟨v2, rfl, ho2, hb2⟩
  obtain ⟨g2, c2, hv2, p1, p2, p3⟩ := ho2.pos (by rw [HXL.out]; decide)
  have hle : 508 ≤ c2 := by rw [← HXL.out]; first | exact p1 | exact p2 | exact p3 | exact p2.1 | exact p3.1
  obtain ⟨ba, be, hv3, hbs, hnil⟩ := ho2.bs HXB.out
  rw [HXL.out] at hv2 hv3 hbs
  subst hv2
  simp only [Value.slice.injEq, true_and] at hv3
  obtain ⟨rfl, rfl⟩ := hv3
  have hcm : Came w2 (some ⟨g2, 0, none⟩) 508 c2 (xs.drop 4) := ⟨hbs, (fun e => by cases e), hle, by decide⟩
  have HT := hide (tofT_any (some ⟨g2, 0, none⟩) c2 (xs.drop 4) w2 hcm)
  have HB2 := hide (rBelow HB0.out hb2)
  have HZ2 := hide (HZ0.out.keep hb2)
  clear ho2 hb2 hbs hnil hle hcm p1 p2 p3
  unfold TofSay at HT
  rw [← HRR.out] at HT
  go_wp2_with fail
  refine HT.out.mono ?_
  rintro e w3 ⟨s3, rfl, he3, hb3⟩
  obtain ⟨W9, hst9, hbk9, hfr9, hsz9⟩ := (HZ2.out.keep hb3).store tt s3
  have hb0 := rBelow HB2.out hb3
  have HB9 : Hid (Below w.heap.size w W9) := hb0.trans (hfr9.below hb0.size (fun k hk => by omega))
  have HE9 : Hid (Es W9 s3 tt.es) := he3.otherT (HZ2.out.keep hb3) hfr9
  have HST9 := hide hst9
  have HBK9 := hide hbk9
  clear hst9 hbk9 hfr9 hsz9 hb0 hb3 he3
  go_wp2_with (refine wpList_store _ rfl rfl 24 (.tmp 2) (.tmp 24) rfl (.pointer (some ⟨w.heap.size, 0, none⟩)) (tt.val s3) rfl rfl W9 HST9.out ?_)
  refine bodyPost_ret (tb_results2 (x := 2) (y := 3) rfl HBK9.out _ (.int .i64 kk) rfl rfl) rfl ?_
  exact ⟨s3, rfl, HE9.out, HB9.out⟩

theorem ldecT_any (pa : Option Addr) (pl pc : Nat) (xs : List Nat) (w : World) (hc : Came w pa pl pc xs) : Calls Try.prog 15 #[.slice pa pl pc] w (TbTold (decT xs).1 w (fun x => .tuple #[x, .int .i64 (decT xs).2])) := by
  by_cases h : pl = 512
  · subst h
    by_cases hz : xs = List.replicate 512 0
    · exact ldecT_nul pa pc xs w hc hz
    · by_cases hs : Sealed xs
      · exact ldecT_sealed pa pc xs w hc hz hs
      · exact ldecT_sum pa pc xs w hc hz hs
  · exact ldecT_arg pa pl pc xs w hc h

end Go.Proofs.Ytdbgbldmjgonjaa
