/-
  Drawn statements of undorec's Decode, and of the document's.
-/
import Derived.Test.YtnhhapipadiffaaUrD
import Derived.Test.YtnhhapipadiffaaRowR
namespace Go.Proofs.Ytnhhapipadiffaa
open Go.RowKit
set_option linter.unusedVariables false

theorem st_rw (w : World) (g : Nat) (r0 : Rw) (c0 : Value) (h : RwBlk w g r0 c0) (r : Rw) (a : Option Addr) (len cap : Nat) :
    (Instr.storeAt 28 (.pointer (some ⟨g, 0, none⟩)) (r.val (.slice a len cap))).run Try.prog w = .ok () (setRw w g r (.slice a len cap)) := by
  have hsf : ∀ (w : World) (a : Addr) (m : Mode) (x : Nat), (store a (.float .f64 x) m).run Try.prog w = stored Try.prog w a (.float .f64 x) m := fun w a m x => run_store Try.prog w a _ m rfl
  have z0 := h.c0
  have z1 := h.c1
  have z2 := h.c2
  have z3 := h.c3
  have z4 := h.c4
  have z5 := h.c5
  have f0 := h.fz
  simp [go_sem, Instr.storeAt, hsf, stored, z0, z1, z2, z3, z4, z5, f0, Rw.val, setRw]

theorem extr2 (a b : Value) (w : World) : (Instr.extract (.tuple #[a, b]) 0).run Try.prog w = .ok a w ∧ (Instr.extract (.tuple #[a, b]) 1).run Try.prog w = .ok b w := by
  refine ⟨?_, ?_⟩ <;> simp [go_sem, Instr.extract]

theorem enters56 : ∀ args w, (callFunc 56 args).run Try.prog w = .ok (.enter 56 args) w := Pl.enters Try.func56 (by kernel_rfl) (by kernel_rfl)

theorem enters16 : ∀ args w, (callFunc 16 args).run Try.prog w = .ok (.enter 16 args) w := Pl.enters Try.func16 (by kernel_rfl) (by kernel_rfl)

theorem enters24 : ∀ args w, (callFunc 24 args).run Try.prog w = .ok (.enter 24 args) w := Pl.enters Try.func24 (by kernel_rfl) (by kernel_rfl)

/-- A row in a box that is new, its columns in a block of their own. -/
structure RowIn (w0 w : World) (g : Nat) (r : Rw) (a : Option Addr) (len cap : Nat) : Prop where
  below : Below w0.heap.size w0 w
  base : w0.heap.size ≤ g
  blk : RwBlk w g r (.slice a len cap)
  own : OwnsV 23 w w0.heap.size (.slice a len cap) (fVals r.xs)

theorem OwnsV.fsO {w : World} {b : Nat} {a : Option Addr} {len cap : Nat} {xs : List Nat} (h : OwnsV 23 w b (.slice a len cap) (fVals xs)) (hx : ∀ x ∈ xs, x < 18446744073709551616) : Fs w a len cap xs := by
  have hl := ownsV_len h
  obtain ⟨a', cap', hv, hvs, hnil, hle⟩ := h.vs (fVals_one _)
  simp only [Value.slice.injEq] at hv
  obtain ⟨rfl, e2, rfl⟩ := hv
  rw [← e2] at hvs hle
  exact ⟨hvs, hx, hnil, hle, by have := hl.1; have h2 := hl.2; unfold maxLen at h2; omega⟩

theorem alloc_un (w : World) : (Instr.alloc 30 true (.tuple #[])).run Try.prog w = .ok (.pointer (some ⟨w.heap.size, 0, none⟩)) (w.alloc (.cells #[.int .i64 0, .int .i64 0, .int .i64 0, .int .i64 0, .int .i64 0, .int .i64 0, .float .f64 0, .bool false, .slice none 0 0, .int .i64 0, .int .i64 0, .int .i64 0] 30)) := by
  simp [go_sem, Instr.alloc]

theorem st_un (w : World) (g : Nat) (u0 : Un) (c0 : Value) (h : UnBlk w g u0 c0) (u : Un) (a : Option Addr) (len cap : Nat) :
    (Instr.storeAt 30 (.pointer (some ⟨g, 0, none⟩)) (u.val (.slice a len cap))).run Try.prog w = .ok () (setUn w g u (.slice a len cap)) := by
  have hsf : ∀ (w : World) (a : Addr) (m : Mode) (x : Nat), (store a (.float .f64 x) m).run Try.prog w = stored Try.prog w a (.float .f64 x) m := fun w a m x => run_store Try.prog w a _ m rfl
  have z0 := h.c0
  have z1 := h.c1
  have z2 := h.c2
  have z3 := h.c3
  have z4 := h.c4
  have z5 := h.c5
  have z6 := h.c6
  have z7 := h.c7
  have z8 := h.c8
  have z9 := h.c9
  have z10 := h.c10
  have z11 := h.c11
  have f0 := h.fz
  simp [go_sem, Instr.storeAt, hsf, stored, z0, z1, z2, z3, z4, z5, z6, z7, z8, z9, z10, z11, f0, Un.val, setUn]

theorem build_un (t n p k g s : Int) (r : Rw) (a : Option Addr) (len cap : Nat) (w : World) : (Instr.build 30 #[(0, .int .i64 t), (1, .int .i64 n), (2, .int .i64 p), (3, .int .i64 k), (4, .int .i64 g), (5, .int .i64 s), (6, r.val (.slice a len cap))]).run Try.prog w = .ok ((Un.mk t n p k g s r).val (.slice a len cap)) w := by
  simp [go_sem, Instr.build, Rw.val, Un.val]

theorem build_unR (t n p k g s : Int) (w : World) : (Instr.build 30 #[(3, .int .i64 k), (0, .int .i64 t), (1, .int .i64 n), (2, .int .i64 p), (4, .int .i64 g), (5, .int .i64 s)]).run Try.prog w = .ok ((Un.mk t n p k g s zeroR).val (.slice none 0 0)) w := by
  simp [go_sem, Instr.build, Un.val, zeroR]

theorem rBelow' {a b c : World} (h : Below a.heap.size a b) (k : Below b.heap.size b c) : Below a.heap.size a c := h.trans (k.mono h.size)

set_option maxHeartbeats 2000000 in
set_option maxRecDepth 100000 in
theorem ud4a (w0 w : World) (b off c2 : Nat) (y0 y6 : It) (hx0 : ItAt w0 b (off + 0 * 4) y0) (hx6 : ItAt w0 b (off + 6 * 4) y6) (hs6 : y6.s.size ≤ 100000) (hT : rowT y0.n y6.s = none) (hW : Below w0.heap.size w0 w)
    {Q : Exit → Act → World → Prop} {A : Act} (hsz : A.tmps.size = 73) (hdf : A.defers = []) (s4 : A.tmps.getD 4 undef = .slice (some ⟨b, off, none⟩) 7 c2)
    (hend : ∀ (u : Nat → Value) w' g, Below w0.heap.size w0 w' → Q .normal (((((((((((((((A).put (some 21) (u 21)).put (some 22) (u 22)).put (some 23) (u 23)).put (some 24) (u 24)).put (some 25) (u 25)).put (some 26) (u 26)).put (some 27) (u 27)).put (some 28) (u 28)).put (some 29) (u 29)).put (some 20) (u 20)).put (some 30) (u 30)).put (some 31) (u 31)).put (some 7) (.pointer (some ⟨g, 0, none⟩))).put (some 6) (.int .i64 4)) w') :
    (Code.region 4 (Pl.find 4 ((Try.f36.body).getD .skip)) true).wp Try.prog Q A w := by
  have hS0 : Below w0.heap.size w0 w.drew := hW.drew
  have hA := Pl.At.same (v := .slice (some ⟨b, off, none⟩) 7 c2) (d := 4) (Pl.At.here hsz hdf) s4
  refine Pl.H.start (S := fun w' => Below w0.heap.size w0 w') (by kernel_rfl) hA hS0 ?_
  rw [show (Pl.find 4 ((Try.f36.body).getD .skip)).size = 15 by kernel_rfl]
  refine Pl.H.take 0 21 (.slice (some ⟨b, off, none⟩) 7 c2) (by kernel_rfl) (by kernel_rfl) (by kernel_rfl) (Pl.free 0 (by kernel_rfl)) (Pl.move 0 (.tmp 4) (by kernel_rfl) (by decide)) hS0 ?_
  refine Pl.H.take 1 22 (.pointer (some ⟨b, off + 0 * 4, none⟩)) (by kernel_rfl) (by kernel_rfl) (by kernel_rfl) (Pl.free 1 (by kernel_rfl)) (Pl.index 1 74 (.tmp 21) (.const (.int .i64 0)) _ (by kernel_rfl) (by decide) (by decide) (index_item b off 7 c2 0 (by decide))) hS0 ?_
  refine Pl.H.take 2 23 (.pointer (some ⟨b, off + 0 * 4 + 1, none⟩)) (by kernel_rfl) (by kernel_rfl) (by kernel_rfl) (Pl.free 2 (by kernel_rfl)) (Pl.field 2 73 (.tmp 22) 1 _ (by kernel_rfl) (by decide) (field_itG b (off + 0 * 4) 1 (by decide))) hS0 ?_
  refine Pl.H.take 3 24 (.int .i64 y0.n) (by kernel_rfl) (by kernel_rfl) (by kernel_rfl) (Pl.free 3 (by kernel_rfl)) (Pl.load 3 3 (.tmp 23) _ (by kernel_rfl) (by decide) (fun w' hS => load_int b (off + 0 * 4 + 1) _ w' (keep_item hx0 hS).2.1)) hS0 ?_
  refine Pl.H.take 4 25 (.slice (some ⟨b, off, none⟩) 7 c2) (by kernel_rfl) (by kernel_rfl) (by kernel_rfl) (Pl.free 4 (by kernel_rfl)) (Pl.move 4 (.tmp 4) (by kernel_rfl) (by decide)) hS0 ?_
  refine Pl.H.take 5 26 (.pointer (some ⟨b, off + 6 * 4, none⟩)) (by kernel_rfl) (by kernel_rfl) (by kernel_rfl) (Pl.free 5 (by kernel_rfl)) (Pl.index 5 74 (.tmp 25) (.const (.int .i64 6)) _ (by kernel_rfl) (by decide) (by decide) (index_item b off 7 c2 6 (by decide))) hS0 ?_
  refine Pl.H.take 6 27 (.pointer (some ⟨b, off + 6 * 4 + 3, none⟩)) (by kernel_rfl) (by kernel_rfl) (by kernel_rfl) (Pl.free 6 (by kernel_rfl)) (Pl.field 6 73 (.tmp 26) 3 _ (by kernel_rfl) (by decide) (field_itG b (off + 6 * 4) 3 (by decide))) hS0 ?_
  refine Pl.H.take 7 28 (.string y6.s) (by kernel_rfl) (by kernel_rfl) (by kernel_rfl) (Pl.free 7 (by kernel_rfl)) (Pl.load 7 9 (.tmp 27) _ (by kernel_rfl) (by decide) (fun w' hS => load_str b (off + 6 * 4 + 3) _ w' (keep_item hx6 hS).2.2.2)) hS0 ?_
  refine Pl.H.two 8 12 (by kernel_rfl) ?_ ?_
  · refine Pl.HOp.call 8 29 56 [(.tmp 24), (.tmp 28)] #[3, 9] (by kernel_rfl) (by kernel_rfl) (by kernel_rfl) (by kernel_rfl) (by decide) enters56 (Calls.mono (rowOfU_any y0.n y6.s hs6 w.drew) ?_)
    rintro e w1 ⟨hb1, h1, _⟩
    obtain rfl := h1 hT
    have hS1 : Below w0.heap.size w0 w1 := rBelow' hS0 hb1
    refine ⟨.tuple #[zeroV, .int .i64 4], rfl, hS1, ?_⟩
    refine Pl.H.take 9 20 (.tuple #[zeroV, .int .i64 4]) (by kernel_rfl) (by kernel_rfl) (by kernel_rfl) (Pl.free 9 (by kernel_rfl)) (Pl.move 9 (.tmp 29) (by kernel_rfl) (by decide)) hS1 ?_
    refine Pl.H.take 10 30 (zeroV) (by kernel_rfl) (by kernel_rfl) (by kernel_rfl) (Pl.free 10 (by kernel_rfl)) (Pl.extr 10 (.tmp 20) 0 _ (by kernel_rfl) (by decide) (fun w => (extr2 _ _ w).1)) hS1 ?_
    refine Pl.H.take 11 31 (.int .i64 4) (by kernel_rfl) (by kernel_rfl) (by kernel_rfl) (Pl.free 11 (by kernel_rfl)) (Pl.extr 11 (.tmp 20) 1 _ (by kernel_rfl) (by decide) (fun w => (extr2 _ _ w).2)) hS1 ?_
    have hSa : Below w0.heap.size w0 (w1.alloc (.cells #[.float .f64 0, .bool false, .slice none 0 0, .int .i64 0, .int .i64 0, .int .i64 0] 28)) := hS1.alloc hS1.size _
    have hz0 : RwBlk (w1.alloc (.cells #[.float .f64 0, .bool false, .slice none 0 0, .int .i64 0, .int .i64 0, .int .i64 0] 28)) w1.heap.size zeroR (.slice none 0 0) := rwBlk_new w1 zeroR (.slice none 0 0)
    have hg0 : w0.heap.size ≤ w1.heap.size := hS1.size
    refine Pl.H.make 12 7 (.pointer (some ⟨w1.heap.size, 0, none⟩)) (w1.alloc (.cells #[.float .f64 0, .bool false, .slice none 0 0, .int .i64 0, .int .i64 0, .int .i64 0] 28)) (by kernel_rfl) (by kernel_rfl) (by kernel_rfl) (Pl.free 12 (by kernel_rfl)) (Pl.allocV 12 28 _ _ (by kernel_rfl) (alloc_row w1)) hSa ?_
    have hSs : Below w0.heap.size w0 (setRw (w1.alloc (.cells #[.float .f64 0, .bool false, .slice none 0 0, .int .i64 0, .int .i64 0, .int .i64 0] 28)) w1.heap.size zeroR (.slice none 0 0)) := setRw_below hSa hg0 _ _
    have hzs : RwBlk (setRw (w1.alloc (.cells #[.float .f64 0, .bool false, .slice none 0 0, .int .i64 0, .int .i64 0, .int .i64 0] 28)) w1.heap.size zeroR (.slice none 0 0)) w1.heap.size zeroR (.slice none 0 0) := setRw_blk hz0 _ _
    refine Pl.H.store 13 (setRw (w1.alloc (.cells #[.float .f64 0, .bool false, .slice none 0 0, .int .i64 0, .int .i64 0, .int .i64 0] 28)) w1.heap.size zeroR (.slice none 0 0)) (by kernel_rfl) (by kernel_rfl) (by kernel_rfl) (Pl.free 13 (by kernel_rfl)) (Pl.storeV 13 28 (.tmp 7) (.tmp 30) _ (by kernel_rfl) (by decide) (by decide) (st_rw ((w1.alloc (.cells #[.float .f64 0, .bool false, .slice none 0 0, .int .i64 0, .int .i64 0, .int .i64 0] 28))) w1.heap.size zeroR (.slice none 0 0) hz0 zeroR none 0 0)) hSs ?_
    refine Pl.H.take 14 6 (.int .i64 4) (by kernel_rfl) (by kernel_rfl) (by kernel_rfl) (Pl.free 14 (by kernel_rfl)) (Pl.assign 14 (.tmp 31) (by kernel_rfl) (by decide)) hSs ?_
    refine Pl.H.done (by kernel_rfl) (fun A' hA' => ?_)
    rw [Pl.At.ext hA' ((((((((((((((hA.put 21 _).put 22 _).put 23 _).put 24 _).put 25 _).put 26 _).put 27 _).put 28 _).put 29 _).put 20 _).put 30 _).put 31 _).put 7 _).put 6 _)]
    exact hend (fun d => if d = 21 then .slice (some ⟨b, off, none⟩) 7 c2 else if d = 22 then .pointer (some ⟨b, off + 0 * 4, none⟩) else if d = 23 then .pointer (some ⟨b, off + 0 * 4 + 1, none⟩) else if d = 24 then .int .i64 y0.n else if d = 25 then .slice (some ⟨b, off, none⟩) 7 c2 else if d = 26 then .pointer (some ⟨b, off + 6 * 4, none⟩) else if d = 27 then .pointer (some ⟨b, off + 6 * 4 + 3, none⟩) else if d = 28 then .string y6.s else if d = 29 then .tuple #[zeroV, .int .i64 4] else if d = 20 then .tuple #[zeroV, .int .i64 4] else if d = 30 then zeroV else if d = 31 then .int .i64 4 else undef) _ w1.heap.size hSs
  · have hSa : Below w0.heap.size w0 (w.drew.alloc (.cells #[.float .f64 0, .bool false, .slice none 0 0, .int .i64 0, .int .i64 0, .int .i64 0] 28)) := hS0.alloc hS0.size _
    have hz0 : RwBlk (w.drew.alloc (.cells #[.float .f64 0, .bool false, .slice none 0 0, .int .i64 0, .int .i64 0, .int .i64 0] 28)) w.drew.heap.size zeroR (.slice none 0 0) := rwBlk_new w.drew zeroR (.slice none 0 0)
    have hg0 : w0.heap.size ≤ w.drew.heap.size := hS0.size
    refine Pl.HOp.value 12 7 (.pointer (some ⟨w.drew.heap.size, 0, none⟩)) (w.drew.alloc (.cells #[.float .f64 0, .bool false, .slice none 0 0, .int .i64 0, .int .i64 0, .int .i64 0] 28)) (by kernel_rfl) (by kernel_rfl) (by kernel_rfl) (Pl.allocV 12 28 _ _ (by kernel_rfl) (alloc_row w.drew)) hSa ?_
    refine Pl.H.call 8 29 56 [(.tmp 24), (.tmp 28)] #[3, 9] (by kernel_rfl) (by kernel_rfl) (by kernel_rfl) (Pl.free 8 (by kernel_rfl)) (by kernel_rfl) (by decide) enters56 (Calls.mono (rowOfU_any y0.n y6.s hs6 ((w.drew.alloc (.cells #[.float .f64 0, .bool false, .slice none 0 0, .int .i64 0, .int .i64 0, .int .i64 0] 28)))) ?_)
    rintro e w1 ⟨hb1, h1, _⟩
    obtain rfl := h1 hT
    have hS1 : Below w0.heap.size w0 w1 := rBelow' hSa hb1
    have hz1 := hz0.keep hb1
    refine ⟨.tuple #[zeroV, .int .i64 4], rfl, hS1, ?_⟩
    rw [Pl.upd_comm _ 7 29 _ _ (by decide)]
    refine Pl.H.take 9 20 (.tuple #[zeroV, .int .i64 4]) (by kernel_rfl) (by kernel_rfl) (by kernel_rfl) (Pl.free 9 (by kernel_rfl)) (Pl.move 9 (.tmp 29) (by kernel_rfl) (by decide)) hS1 ?_
    rw [Pl.upd_comm _ 7 20 _ _ (by decide)]
    refine Pl.H.take 10 30 (zeroV) (by kernel_rfl) (by kernel_rfl) (by kernel_rfl) (Pl.free 10 (by kernel_rfl)) (Pl.extr 10 (.tmp 20) 0 _ (by kernel_rfl) (by decide) (fun w => (extr2 _ _ w).1)) hS1 ?_
    rw [Pl.upd_comm _ 7 30 _ _ (by decide)]
    refine Pl.H.take 11 31 (.int .i64 4) (by kernel_rfl) (by kernel_rfl) (by kernel_rfl) (Pl.free 11 (by kernel_rfl)) (Pl.extr 11 (.tmp 20) 1 _ (by kernel_rfl) (by decide) (fun w => (extr2 _ _ w).2)) hS1 ?_
    rw [Pl.upd_comm _ 7 31 _ _ (by decide)]
    have hSs : Below w0.heap.size w0 (setRw w1 w.drew.heap.size zeroR (.slice none 0 0)) := setRw_below hS1 hg0 _ _
    have hzs : RwBlk (setRw w1 w.drew.heap.size zeroR (.slice none 0 0)) w.drew.heap.size zeroR (.slice none 0 0) := setRw_blk hz1 _ _
    refine Pl.H.store 13 (setRw w1 w.drew.heap.size zeroR (.slice none 0 0)) (by kernel_rfl) (by kernel_rfl) (by kernel_rfl) (Pl.free 13 (by kernel_rfl)) (Pl.storeV 13 28 (.tmp 7) (.tmp 30) _ (by kernel_rfl) (by decide) (by decide) (st_rw w1 w.drew.heap.size zeroR (.slice none 0 0) hz1 zeroR none 0 0)) hSs ?_
    refine Pl.H.take 14 6 (.int .i64 4) (by kernel_rfl) (by kernel_rfl) (by kernel_rfl) (Pl.free 14 (by kernel_rfl)) (Pl.assign 14 (.tmp 31) (by kernel_rfl) (by decide)) hSs ?_
    refine Pl.H.done (by kernel_rfl) (fun A' hA' => ?_)
    rw [Pl.At.ext hA' ((((((((((((((hA.put 21 _).put 22 _).put 23 _).put 24 _).put 25 _).put 26 _).put 27 _).put 28 _).put 29 _).put 20 _).put 30 _).put 31 _).put 7 _).put 6 _)]
    exact hend (fun d => if d = 21 then .slice (some ⟨b, off, none⟩) 7 c2 else if d = 22 then .pointer (some ⟨b, off + 0 * 4, none⟩) else if d = 23 then .pointer (some ⟨b, off + 0 * 4 + 1, none⟩) else if d = 24 then .int .i64 y0.n else if d = 25 then .slice (some ⟨b, off, none⟩) 7 c2 else if d = 26 then .pointer (some ⟨b, off + 6 * 4, none⟩) else if d = 27 then .pointer (some ⟨b, off + 6 * 4 + 3, none⟩) else if d = 28 then .string y6.s else if d = 29 then .tuple #[zeroV, .int .i64 4] else if d = 20 then .tuple #[zeroV, .int .i64 4] else if d = 30 then zeroV else if d = 31 then .int .i64 4 else undef) _ w.drew.heap.size hSs

set_option maxHeartbeats 2000000 in
set_option maxRecDepth 100000 in
theorem ud4b (w0 w : World) (b off c2 : Nat) (y0 y6 : It) (hx0 : ItAt w0 b (off + 0 * 4) y0) (hx6 : ItAt w0 b (off + 6 * 4) y6) (hs6 : y6.s.size ≤ 100000) (r : Rw) (hT : rowT y0.n y6.s = some r) (hW : Below w0.heap.size w0 w)
    {Q : Exit → Act → World → Prop} {A : Act} (hsz : A.tmps.size = 73) (hdf : A.defers = []) (s4 : A.tmps.getD 4 undef = .slice (some ⟨b, off, none⟩) 7 c2)
    (hend : ∀ (u : Nat → Value) w' g ca cl cc, (RowIn w0 w' g r ca cl cc ∧ r.fits) → Q .normal (((((((((((((((A).put (some 21) (u 21)).put (some 22) (u 22)).put (some 23) (u 23)).put (some 24) (u 24)).put (some 25) (u 25)).put (some 26) (u 26)).put (some 27) (u 27)).put (some 28) (u 28)).put (some 29) (u 29)).put (some 20) (u 20)).put (some 30) (u 30)).put (some 31) (u 31)).put (some 7) (.pointer (some ⟨g, 0, none⟩))).put (some 6) (.int .i64 0)) w') :
    (Code.region 4 (Pl.find 4 ((Try.f36.body).getD .skip)) true).wp Try.prog Q A w := by
  have hS0 : Below w0.heap.size w0 w.drew := hW.drew
  have hA := Pl.At.same (v := .slice (some ⟨b, off, none⟩) 7 c2) (d := 4) (Pl.At.here hsz hdf) s4
  refine Pl.H.start (S := fun w' => Below w0.heap.size w0 w') (by kernel_rfl) hA hS0 ?_
  rw [show (Pl.find 4 ((Try.f36.body).getD .skip)).size = 15 by kernel_rfl]
  refine Pl.H.take 0 21 (.slice (some ⟨b, off, none⟩) 7 c2) (by kernel_rfl) (by kernel_rfl) (by kernel_rfl) (Pl.free 0 (by kernel_rfl)) (Pl.move 0 (.tmp 4) (by kernel_rfl) (by decide)) hS0 ?_
  refine Pl.H.take 1 22 (.pointer (some ⟨b, off + 0 * 4, none⟩)) (by kernel_rfl) (by kernel_rfl) (by kernel_rfl) (Pl.free 1 (by kernel_rfl)) (Pl.index 1 74 (.tmp 21) (.const (.int .i64 0)) _ (by kernel_rfl) (by decide) (by decide) (index_item b off 7 c2 0 (by decide))) hS0 ?_
  refine Pl.H.take 2 23 (.pointer (some ⟨b, off + 0 * 4 + 1, none⟩)) (by kernel_rfl) (by kernel_rfl) (by kernel_rfl) (Pl.free 2 (by kernel_rfl)) (Pl.field 2 73 (.tmp 22) 1 _ (by kernel_rfl) (by decide) (field_itG b (off + 0 * 4) 1 (by decide))) hS0 ?_
  refine Pl.H.take 3 24 (.int .i64 y0.n) (by kernel_rfl) (by kernel_rfl) (by kernel_rfl) (Pl.free 3 (by kernel_rfl)) (Pl.load 3 3 (.tmp 23) _ (by kernel_rfl) (by decide) (fun w' hS => load_int b (off + 0 * 4 + 1) _ w' (keep_item hx0 hS).2.1)) hS0 ?_
  refine Pl.H.take 4 25 (.slice (some ⟨b, off, none⟩) 7 c2) (by kernel_rfl) (by kernel_rfl) (by kernel_rfl) (Pl.free 4 (by kernel_rfl)) (Pl.move 4 (.tmp 4) (by kernel_rfl) (by decide)) hS0 ?_
  refine Pl.H.take 5 26 (.pointer (some ⟨b, off + 6 * 4, none⟩)) (by kernel_rfl) (by kernel_rfl) (by kernel_rfl) (Pl.free 5 (by kernel_rfl)) (Pl.index 5 74 (.tmp 25) (.const (.int .i64 6)) _ (by kernel_rfl) (by decide) (by decide) (index_item b off 7 c2 6 (by decide))) hS0 ?_
  refine Pl.H.take 6 27 (.pointer (some ⟨b, off + 6 * 4 + 3, none⟩)) (by kernel_rfl) (by kernel_rfl) (by kernel_rfl) (Pl.free 6 (by kernel_rfl)) (Pl.field 6 73 (.tmp 26) 3 _ (by kernel_rfl) (by decide) (field_itG b (off + 6 * 4) 3 (by decide))) hS0 ?_
  refine Pl.H.take 7 28 (.string y6.s) (by kernel_rfl) (by kernel_rfl) (by kernel_rfl) (Pl.free 7 (by kernel_rfl)) (Pl.load 7 9 (.tmp 27) _ (by kernel_rfl) (by decide) (fun w' hS => load_str b (off + 6 * 4 + 3) _ w' (keep_item hx6 hS).2.2.2)) hS0 ?_
  refine Pl.H.two 8 12 (by kernel_rfl) ?_ ?_
  · refine Pl.HOp.call 8 29 56 [(.tmp 24), (.tmp 28)] #[3, 9] (by kernel_rfl) (by kernel_rfl) (by kernel_rfl) (by kernel_rfl) (by decide) enters56 (Calls.mono (rowOfU_any y0.n y6.s hs6 w.drew) ?_)
    rintro e w1 ⟨hb1, _, h1⟩
    obtain ⟨hf1, ca, cl, cc, rfl, hfs1, ho1⟩ := h1 r hT
    have hS1 : Below w0.heap.size w0 w1 := rBelow' hS0 hb1
    have ho2 := ho1.lower (b' := w0.heap.size) hS0.size
    refine ⟨.tuple #[r.val (.slice ca cl cc), .int .i64 0], rfl, hS1, ?_⟩
    refine Pl.H.take 9 20 (.tuple #[r.val (.slice ca cl cc), .int .i64 0]) (by kernel_rfl) (by kernel_rfl) (by kernel_rfl) (Pl.free 9 (by kernel_rfl)) (Pl.move 9 (.tmp 29) (by kernel_rfl) (by decide)) hS1 ?_
    refine Pl.H.take 10 30 (r.val (.slice ca cl cc)) (by kernel_rfl) (by kernel_rfl) (by kernel_rfl) (Pl.free 10 (by kernel_rfl)) (Pl.extr 10 (.tmp 20) 0 _ (by kernel_rfl) (by decide) (fun w => (extr2 _ _ w).1)) hS1 ?_
    refine Pl.H.take 11 31 (.int .i64 0) (by kernel_rfl) (by kernel_rfl) (by kernel_rfl) (Pl.free 11 (by kernel_rfl)) (Pl.extr 11 (.tmp 20) 1 _ (by kernel_rfl) (by decide) (fun w => (extr2 _ _ w).2)) hS1 ?_
    have hSa : Below w0.heap.size w0 (w1.alloc (.cells #[.float .f64 0, .bool false, .slice none 0 0, .int .i64 0, .int .i64 0, .int .i64 0] 28)) := hS1.alloc hS1.size _
    have hz0 : RwBlk (w1.alloc (.cells #[.float .f64 0, .bool false, .slice none 0 0, .int .i64 0, .int .i64 0, .int .i64 0] 28)) w1.heap.size zeroR (.slice none 0 0) := rwBlk_new w1 zeroR (.slice none 0 0)
    have hg0 : w0.heap.size ≤ w1.heap.size := hS1.size
    have ho2 := ho2.keep (below_alloc w1 (.cells #[.float .f64 0, .bool false, .slice none 0 0, .int .i64 0, .int .i64 0, .int .i64 0] 28)) (Nat.le_refl _)
    refine Pl.H.make 12 7 (.pointer (some ⟨w1.heap.size, 0, none⟩)) (w1.alloc (.cells #[.float .f64 0, .bool false, .slice none 0 0, .int .i64 0, .int .i64 0, .int .i64 0] 28)) (by kernel_rfl) (by kernel_rfl) (by kernel_rfl) (Pl.free 12 (by kernel_rfl)) (Pl.allocV 12 28 _ _ (by kernel_rfl) (alloc_row w1)) hSa ?_
    have hSs : Below w0.heap.size w0 (setRw (w1.alloc (.cells #[.float .f64 0, .bool false, .slice none 0 0, .int .i64 0, .int .i64 0, .int .i64 0] 28)) w1.heap.size r (.slice ca cl cc)) := setRw_below hSa hg0 _ _
    have hzs : RwBlk (setRw (w1.alloc (.cells #[.float .f64 0, .bool false, .slice none 0 0, .int .i64 0, .int .i64 0, .int .i64 0] 28)) w1.heap.size r (.slice ca cl cc)) w1.heap.size r (.slice ca cl cc) := setRw_blk hz0 _ _
    have hos := ho2.setRw hz0 r (.slice ca cl cc)
    refine Pl.H.store 13 (setRw (w1.alloc (.cells #[.float .f64 0, .bool false, .slice none 0 0, .int .i64 0, .int .i64 0, .int .i64 0] 28)) w1.heap.size r (.slice ca cl cc)) (by kernel_rfl) (by kernel_rfl) (by kernel_rfl) (Pl.free 13 (by kernel_rfl)) (Pl.storeV 13 28 (.tmp 7) (.tmp 30) _ (by kernel_rfl) (by decide) (by decide) (st_rw ((w1.alloc (.cells #[.float .f64 0, .bool false, .slice none 0 0, .int .i64 0, .int .i64 0, .int .i64 0] 28))) w1.heap.size zeroR (.slice none 0 0) hz0 r ca cl cc)) hSs ?_
    refine Pl.H.take 14 6 (.int .i64 0) (by kernel_rfl) (by kernel_rfl) (by kernel_rfl) (Pl.free 14 (by kernel_rfl)) (Pl.assign 14 (.tmp 31) (by kernel_rfl) (by decide)) hSs ?_
    refine Pl.H.done (by kernel_rfl) (fun A' hA' => ?_)
    rw [Pl.At.ext hA' ((((((((((((((hA.put 21 _).put 22 _).put 23 _).put 24 _).put 25 _).put 26 _).put 27 _).put 28 _).put 29 _).put 20 _).put 30 _).put 31 _).put 7 _).put 6 _)]
    exact hend (fun d => if d = 21 then .slice (some ⟨b, off, none⟩) 7 c2 else if d = 22 then .pointer (some ⟨b, off + 0 * 4, none⟩) else if d = 23 then .pointer (some ⟨b, off + 0 * 4 + 1, none⟩) else if d = 24 then .int .i64 y0.n else if d = 25 then .slice (some ⟨b, off, none⟩) 7 c2 else if d = 26 then .pointer (some ⟨b, off + 6 * 4, none⟩) else if d = 27 then .pointer (some ⟨b, off + 6 * 4 + 3, none⟩) else if d = 28 then .string y6.s else if d = 29 then .tuple #[r.val (.slice ca cl cc), .int .i64 0] else if d = 20 then .tuple #[r.val (.slice ca cl cc), .int .i64 0] else if d = 30 then r.val (.slice ca cl cc) else if d = 31 then .int .i64 0 else undef) _ w1.heap.size ca cl cc ⟨⟨hSs, hg0, hzs, hos⟩, hf1⟩
  · have hSa : Below w0.heap.size w0 (w.drew.alloc (.cells #[.float .f64 0, .bool false, .slice none 0 0, .int .i64 0, .int .i64 0, .int .i64 0] 28)) := hS0.alloc hS0.size _
    have hz0 : RwBlk (w.drew.alloc (.cells #[.float .f64 0, .bool false, .slice none 0 0, .int .i64 0, .int .i64 0, .int .i64 0] 28)) w.drew.heap.size zeroR (.slice none 0 0) := rwBlk_new w.drew zeroR (.slice none 0 0)
    have hg0 : w0.heap.size ≤ w.drew.heap.size := hS0.size
    refine Pl.HOp.value 12 7 (.pointer (some ⟨w.drew.heap.size, 0, none⟩)) (w.drew.alloc (.cells #[.float .f64 0, .bool false, .slice none 0 0, .int .i64 0, .int .i64 0, .int .i64 0] 28)) (by kernel_rfl) (by kernel_rfl) (by kernel_rfl) (Pl.allocV 12 28 _ _ (by kernel_rfl) (alloc_row w.drew)) hSa ?_
    refine Pl.H.call 8 29 56 [(.tmp 24), (.tmp 28)] #[3, 9] (by kernel_rfl) (by kernel_rfl) (by kernel_rfl) (Pl.free 8 (by kernel_rfl)) (by kernel_rfl) (by decide) enters56 (Calls.mono (rowOfU_any y0.n y6.s hs6 ((w.drew.alloc (.cells #[.float .f64 0, .bool false, .slice none 0 0, .int .i64 0, .int .i64 0, .int .i64 0] 28)))) ?_)
    rintro e w1 ⟨hb1, _, h1⟩
    obtain ⟨hf1, ca, cl, cc, rfl, hfs1, ho1⟩ := h1 r hT
    have hS1 : Below w0.heap.size w0 w1 := rBelow' hSa hb1
    have hz1 := hz0.keep hb1
    have ho2 := ho1.lower (b' := w0.heap.size) hSa.size
    refine ⟨.tuple #[r.val (.slice ca cl cc), .int .i64 0], rfl, hS1, ?_⟩
    rw [Pl.upd_comm _ 7 29 _ _ (by decide)]
    refine Pl.H.take 9 20 (.tuple #[r.val (.slice ca cl cc), .int .i64 0]) (by kernel_rfl) (by kernel_rfl) (by kernel_rfl) (Pl.free 9 (by kernel_rfl)) (Pl.move 9 (.tmp 29) (by kernel_rfl) (by decide)) hS1 ?_
    rw [Pl.upd_comm _ 7 20 _ _ (by decide)]
    refine Pl.H.take 10 30 (r.val (.slice ca cl cc)) (by kernel_rfl) (by kernel_rfl) (by kernel_rfl) (Pl.free 10 (by kernel_rfl)) (Pl.extr 10 (.tmp 20) 0 _ (by kernel_rfl) (by decide) (fun w => (extr2 _ _ w).1)) hS1 ?_
    rw [Pl.upd_comm _ 7 30 _ _ (by decide)]
    refine Pl.H.take 11 31 (.int .i64 0) (by kernel_rfl) (by kernel_rfl) (by kernel_rfl) (Pl.free 11 (by kernel_rfl)) (Pl.extr 11 (.tmp 20) 1 _ (by kernel_rfl) (by decide) (fun w => (extr2 _ _ w).2)) hS1 ?_
    rw [Pl.upd_comm _ 7 31 _ _ (by decide)]
    have hSs : Below w0.heap.size w0 (setRw w1 w.drew.heap.size r (.slice ca cl cc)) := setRw_below hS1 hg0 _ _
    have hzs : RwBlk (setRw w1 w.drew.heap.size r (.slice ca cl cc)) w.drew.heap.size r (.slice ca cl cc) := setRw_blk hz1 _ _
    have hos := ho2.setRw hz1 r (.slice ca cl cc)
    refine Pl.H.store 13 (setRw w1 w.drew.heap.size r (.slice ca cl cc)) (by kernel_rfl) (by kernel_rfl) (by kernel_rfl) (Pl.free 13 (by kernel_rfl)) (Pl.storeV 13 28 (.tmp 7) (.tmp 30) _ (by kernel_rfl) (by decide) (by decide) (st_rw w1 w.drew.heap.size zeroR (.slice none 0 0) hz1 r ca cl cc)) hSs ?_
    refine Pl.H.take 14 6 (.int .i64 0) (by kernel_rfl) (by kernel_rfl) (by kernel_rfl) (Pl.free 14 (by kernel_rfl)) (Pl.assign 14 (.tmp 31) (by kernel_rfl) (by decide)) hSs ?_
    refine Pl.H.done (by kernel_rfl) (fun A' hA' => ?_)
    rw [Pl.At.ext hA' ((((((((((((((hA.put 21 _).put 22 _).put 23 _).put 24 _).put 25 _).put 26 _).put 27 _).put 28 _).put 29 _).put 20 _).put 30 _).put 31 _).put 7 _).put 6 _)]
    exact hend (fun d => if d = 21 then .slice (some ⟨b, off, none⟩) 7 c2 else if d = 22 then .pointer (some ⟨b, off + 0 * 4, none⟩) else if d = 23 then .pointer (some ⟨b, off + 0 * 4 + 1, none⟩) else if d = 24 then .int .i64 y0.n else if d = 25 then .slice (some ⟨b, off, none⟩) 7 c2 else if d = 26 then .pointer (some ⟨b, off + 6 * 4, none⟩) else if d = 27 then .pointer (some ⟨b, off + 6 * 4 + 3, none⟩) else if d = 28 then .string y6.s else if d = 29 then .tuple #[r.val (.slice ca cl cc), .int .i64 0] else if d = 20 then .tuple #[r.val (.slice ca cl cc), .int .i64 0] else if d = 30 then r.val (.slice ca cl cc) else if d = 31 then .int .i64 0 else undef) _ w.drew.heap.size ca cl cc ⟨⟨hSs, hg0, hzs, hos⟩, hf1⟩

set_option maxHeartbeats 2000000 in
set_option maxRecDepth 100000 in
theorem ud7 (w0 w : World) (b off c2 p : Nat) (y0 y1 y2 y3 y4 y5 : It) (hx0 : ItAt w0 b (off + 0 * 4) y0) (hx1 : ItAt w0 b (off + 1 * 4) y1) (hx2 : ItAt w0 b (off + 2 * 4) y2) (hx3 : ItAt w0 b (off + 3 * 4) y3) (hx4 : ItAt w0 b (off + 4 * 4) y4) (hx5 : ItAt w0 b (off + 5 * 4) y5) (r : Rw) (ca : Option Addr) (cl cc : Nat) (hr : RwBlk w0 p r (.slice ca cl cc)) (hW : Below w0.heap.size w0 w)
    {Q : Exit → Act → World → Prop} {A : Act} (hsz : A.tmps.size = 73) (hdf : A.defers = []) (s4 : A.tmps.getD 4 undef = .slice (some ⟨b, off, none⟩) 7 c2) (s7 : A.tmps.getD 7 undef = .pointer (some ⟨p, 0, none⟩))
    (hend : ∀ (u : Nat → Value) w' g, (Below w0.heap.size w0 w' ∧ UnBlk w' g (Un.mk y1.n y2.n y3.n y0.n y4.n y5.n r) (.slice ca cl cc) ∧ w0.heap.size ≤ g) → Q .normal ((((((((((((((((((((((((((((A).put (some 36) (u 36)).put (some 37) (u 37)).put (some 38) (u 38)).put (some 39) (u 39)).put (some 40) (u 40)).put (some 41) (u 41)).put (some 42) (u 42)).put (some 43) (u 43)).put (some 44) (u 44)).put (some 45) (u 45)).put (some 46) (u 46)).put (some 47) (u 47)).put (some 48) (u 48)).put (some 49) (u 49)).put (some 50) (u 50)).put (some 51) (u 51)).put (some 52) (u 52)).put (some 53) (u 53)).put (some 54) (u 54)).put (some 55) (u 55)).put (some 56) (u 56)).put (some 57) (u 57)).put (some 58) (u 58)).put (some 59) (u 59)).put (some 60) (u 60)).put (some 61) (u 61)).put (some 8) (.pointer (some ⟨g, 0, none⟩))) w') :
    (Code.region 7 (Pl.find 7 ((Try.f36.body).getD .skip)) true).wp Try.prog Q A w := by
  have hS0 : Below w0.heap.size w0 w.drew := hW.drew
  have hA := Pl.At.same (v := .pointer (some ⟨p, 0, none⟩)) (d := 7) (Pl.At.same (v := .slice (some ⟨b, off, none⟩) 7 c2) (d := 4) (Pl.At.here hsz hdf) s4) s7
  refine Pl.H.start (S := fun w' => Below w0.heap.size w0 w') (by kernel_rfl) hA hS0 ?_
  rw [show (Pl.find 7 ((Try.f36.body).getD .skip)).size = 28 by kernel_rfl]
  refine Pl.H.take 0 36 (.slice (some ⟨b, off, none⟩) 7 c2) (by kernel_rfl) (by kernel_rfl) (by kernel_rfl) (Pl.free 0 (by kernel_rfl)) (Pl.move 0 (.tmp 4) (by kernel_rfl) (by decide)) hS0 ?_
  refine Pl.H.take 1 37 (.pointer (some ⟨b, off + 1 * 4, none⟩)) (by kernel_rfl) (by kernel_rfl) (by kernel_rfl) (Pl.free 1 (by kernel_rfl)) (Pl.index 1 74 (.tmp 36) (.const (.int .i64 1)) _ (by kernel_rfl) (by decide) (by decide) (index_item b off 7 c2 1 (by decide))) hS0 ?_
  refine Pl.H.take 2 38 (.pointer (some ⟨b, off + 1 * 4 + 1, none⟩)) (by kernel_rfl) (by kernel_rfl) (by kernel_rfl) (Pl.free 2 (by kernel_rfl)) (Pl.field 2 73 (.tmp 37) 1 _ (by kernel_rfl) (by decide) (field_itG b (off + 1 * 4) 1 (by decide))) hS0 ?_
  refine Pl.H.take 3 39 (.int .i64 y1.n) (by kernel_rfl) (by kernel_rfl) (by kernel_rfl) (Pl.free 3 (by kernel_rfl)) (Pl.load 3 3 (.tmp 38) _ (by kernel_rfl) (by decide) (fun w' hS => load_int b (off + 1 * 4 + 1) _ w' (keep_item hx1 hS).2.1)) hS0 ?_
  refine Pl.H.take 4 40 (.slice (some ⟨b, off, none⟩) 7 c2) (by kernel_rfl) (by kernel_rfl) (by kernel_rfl) (Pl.free 4 (by kernel_rfl)) (Pl.move 4 (.tmp 4) (by kernel_rfl) (by decide)) hS0 ?_
  refine Pl.H.take 5 41 (.pointer (some ⟨b, off + 2 * 4, none⟩)) (by kernel_rfl) (by kernel_rfl) (by kernel_rfl) (Pl.free 5 (by kernel_rfl)) (Pl.index 5 74 (.tmp 40) (.const (.int .i64 2)) _ (by kernel_rfl) (by decide) (by decide) (index_item b off 7 c2 2 (by decide))) hS0 ?_
  refine Pl.H.take 6 42 (.pointer (some ⟨b, off + 2 * 4 + 1, none⟩)) (by kernel_rfl) (by kernel_rfl) (by kernel_rfl) (Pl.free 6 (by kernel_rfl)) (Pl.field 6 73 (.tmp 41) 1 _ (by kernel_rfl) (by decide) (field_itG b (off + 2 * 4) 1 (by decide))) hS0 ?_
  refine Pl.H.take 7 43 (.int .i64 y2.n) (by kernel_rfl) (by kernel_rfl) (by kernel_rfl) (Pl.free 7 (by kernel_rfl)) (Pl.load 7 3 (.tmp 42) _ (by kernel_rfl) (by decide) (fun w' hS => load_int b (off + 2 * 4 + 1) _ w' (keep_item hx2 hS).2.1)) hS0 ?_
  refine Pl.H.take 8 44 (.slice (some ⟨b, off, none⟩) 7 c2) (by kernel_rfl) (by kernel_rfl) (by kernel_rfl) (Pl.free 8 (by kernel_rfl)) (Pl.move 8 (.tmp 4) (by kernel_rfl) (by decide)) hS0 ?_
  refine Pl.H.take 9 45 (.pointer (some ⟨b, off + 3 * 4, none⟩)) (by kernel_rfl) (by kernel_rfl) (by kernel_rfl) (Pl.free 9 (by kernel_rfl)) (Pl.index 9 74 (.tmp 44) (.const (.int .i64 3)) _ (by kernel_rfl) (by decide) (by decide) (index_item b off 7 c2 3 (by decide))) hS0 ?_
  refine Pl.H.take 10 46 (.pointer (some ⟨b, off + 3 * 4 + 1, none⟩)) (by kernel_rfl) (by kernel_rfl) (by kernel_rfl) (Pl.free 10 (by kernel_rfl)) (Pl.field 10 73 (.tmp 45) 1 _ (by kernel_rfl) (by decide) (field_itG b (off + 3 * 4) 1 (by decide))) hS0 ?_
  refine Pl.H.take 11 47 (.int .i64 y3.n) (by kernel_rfl) (by kernel_rfl) (by kernel_rfl) (Pl.free 11 (by kernel_rfl)) (Pl.load 11 3 (.tmp 46) _ (by kernel_rfl) (by decide) (fun w' hS => load_int b (off + 3 * 4 + 1) _ w' (keep_item hx3 hS).2.1)) hS0 ?_
  refine Pl.H.take 12 48 (.slice (some ⟨b, off, none⟩) 7 c2) (by kernel_rfl) (by kernel_rfl) (by kernel_rfl) (Pl.free 12 (by kernel_rfl)) (Pl.move 12 (.tmp 4) (by kernel_rfl) (by decide)) hS0 ?_
  refine Pl.H.take 13 49 (.pointer (some ⟨b, off + 0 * 4, none⟩)) (by kernel_rfl) (by kernel_rfl) (by kernel_rfl) (Pl.free 13 (by kernel_rfl)) (Pl.index 13 74 (.tmp 48) (.const (.int .i64 0)) _ (by kernel_rfl) (by decide) (by decide) (index_item b off 7 c2 0 (by decide))) hS0 ?_
  refine Pl.H.take 14 50 (.pointer (some ⟨b, off + 0 * 4 + 1, none⟩)) (by kernel_rfl) (by kernel_rfl) (by kernel_rfl) (Pl.free 14 (by kernel_rfl)) (Pl.field 14 73 (.tmp 49) 1 _ (by kernel_rfl) (by decide) (field_itG b (off + 0 * 4) 1 (by decide))) hS0 ?_
  refine Pl.H.take 15 51 (.int .i64 y0.n) (by kernel_rfl) (by kernel_rfl) (by kernel_rfl) (Pl.free 15 (by kernel_rfl)) (Pl.load 15 3 (.tmp 50) _ (by kernel_rfl) (by decide) (fun w' hS => load_int b (off + 0 * 4 + 1) _ w' (keep_item hx0 hS).2.1)) hS0 ?_
  refine Pl.H.take 16 52 (.slice (some ⟨b, off, none⟩) 7 c2) (by kernel_rfl) (by kernel_rfl) (by kernel_rfl) (Pl.free 16 (by kernel_rfl)) (Pl.move 16 (.tmp 4) (by kernel_rfl) (by decide)) hS0 ?_
  refine Pl.H.take 17 53 (.pointer (some ⟨b, off + 4 * 4, none⟩)) (by kernel_rfl) (by kernel_rfl) (by kernel_rfl) (Pl.free 17 (by kernel_rfl)) (Pl.index 17 74 (.tmp 52) (.const (.int .i64 4)) _ (by kernel_rfl) (by decide) (by decide) (index_item b off 7 c2 4 (by decide))) hS0 ?_
  refine Pl.H.take 18 54 (.pointer (some ⟨b, off + 4 * 4 + 1, none⟩)) (by kernel_rfl) (by kernel_rfl) (by kernel_rfl) (Pl.free 18 (by kernel_rfl)) (Pl.field 18 73 (.tmp 53) 1 _ (by kernel_rfl) (by decide) (field_itG b (off + 4 * 4) 1 (by decide))) hS0 ?_
  refine Pl.H.take 19 55 (.int .i64 y4.n) (by kernel_rfl) (by kernel_rfl) (by kernel_rfl) (Pl.free 19 (by kernel_rfl)) (Pl.load 19 3 (.tmp 54) _ (by kernel_rfl) (by decide) (fun w' hS => load_int b (off + 4 * 4 + 1) _ w' (keep_item hx4 hS).2.1)) hS0 ?_
  refine Pl.H.take 20 56 (.slice (some ⟨b, off, none⟩) 7 c2) (by kernel_rfl) (by kernel_rfl) (by kernel_rfl) (Pl.free 20 (by kernel_rfl)) (Pl.move 20 (.tmp 4) (by kernel_rfl) (by decide)) hS0 ?_
  refine Pl.H.take 21 57 (.pointer (some ⟨b, off + 5 * 4, none⟩)) (by kernel_rfl) (by kernel_rfl) (by kernel_rfl) (Pl.free 21 (by kernel_rfl)) (Pl.index 21 74 (.tmp 56) (.const (.int .i64 5)) _ (by kernel_rfl) (by decide) (by decide) (index_item b off 7 c2 5 (by decide))) hS0 ?_
  refine Pl.H.take 22 58 (.pointer (some ⟨b, off + 5 * 4 + 1, none⟩)) (by kernel_rfl) (by kernel_rfl) (by kernel_rfl) (Pl.free 22 (by kernel_rfl)) (Pl.field 22 73 (.tmp 57) 1 _ (by kernel_rfl) (by decide) (field_itG b (off + 5 * 4) 1 (by decide))) hS0 ?_
  refine Pl.H.take 23 59 (.int .i64 y5.n) (by kernel_rfl) (by kernel_rfl) (by kernel_rfl) (Pl.free 23 (by kernel_rfl)) (Pl.load 23 3 (.tmp 58) _ (by kernel_rfl) (by decide) (fun w' hS => load_int b (off + 5 * 4 + 1) _ w' (keep_item hx5 hS).2.1)) hS0 ?_
  refine Pl.H.take 24 60 (r.val (.slice ca cl cc)) (by kernel_rfl) (by kernel_rfl) (by kernel_rfl) (Pl.free 24 (by kernel_rfl)) (Pl.load 24 28 (.tmp 7) _ (by kernel_rfl) (by decide) (fun w' hS => load_rw p r (.slice ca cl cc) ⟨_, _, _, rfl⟩ w' (hr.keep hS))) hS0 ?_
  refine Pl.H.take 25 61 ((Un.mk y1.n y2.n y3.n y0.n y4.n y5.n r).val (.slice ca cl cc)) (by kernel_rfl) (by kernel_rfl) (by kernel_rfl) (Pl.free 25 (by kernel_rfl)) (Pl.buildV 25 30 [(0, (.tmp 39)), (1, (.tmp 43)), (2, (.tmp 47)), (3, (.tmp 51)), (4, (.tmp 55)), (5, (.tmp 59)), (6, (.tmp 60))] _ (by kernel_rfl) (by decide) (fun w => build_un y1.n y2.n y3.n y0.n y4.n y5.n r ca cl cc w)) hS0 ?_
  have hSa : Below w0.heap.size w0 (w.drew.alloc (.cells #[.int .i64 0, .int .i64 0, .int .i64 0, .int .i64 0, .int .i64 0, .int .i64 0, .float .f64 0, .bool false, .slice none 0 0, .int .i64 0, .int .i64 0, .int .i64 0] 30)) := hS0.alloc hS0.size _
  have hz0 : UnBlk (w.drew.alloc (.cells #[.int .i64 0, .int .i64 0, .int .i64 0, .int .i64 0, .int .i64 0, .int .i64 0, .float .f64 0, .bool false, .slice none 0 0, .int .i64 0, .int .i64 0, .int .i64 0] 30)) w.drew.heap.size zeroU (.slice none 0 0) := unBlk_new w.drew zeroU (.slice none 0 0)
  refine Pl.H.make 26 8 (.pointer (some ⟨w.drew.heap.size, 0, none⟩)) (w.drew.alloc (.cells #[.int .i64 0, .int .i64 0, .int .i64 0, .int .i64 0, .int .i64 0, .int .i64 0, .float .f64 0, .bool false, .slice none 0 0, .int .i64 0, .int .i64 0, .int .i64 0] 30)) (by kernel_rfl) (by kernel_rfl) (by kernel_rfl) (Pl.free 26 (by kernel_rfl)) (Pl.allocV 26 30 _ _ (by kernel_rfl) (alloc_un w.drew)) hSa ?_
  have hSs : Below w0.heap.size w0 (setUn (w.drew.alloc (.cells #[.int .i64 0, .int .i64 0, .int .i64 0, .int .i64 0, .int .i64 0, .int .i64 0, .float .f64 0, .bool false, .slice none 0 0, .int .i64 0, .int .i64 0, .int .i64 0] 30)) w.drew.heap.size (Un.mk y1.n y2.n y3.n y0.n y4.n y5.n r) (.slice ca cl cc)) := setUn_below hSa hS0.size _ _
  have hzs : UnBlk (setUn (w.drew.alloc (.cells #[.int .i64 0, .int .i64 0, .int .i64 0, .int .i64 0, .int .i64 0, .int .i64 0, .float .f64 0, .bool false, .slice none 0 0, .int .i64 0, .int .i64 0, .int .i64 0] 30)) w.drew.heap.size (Un.mk y1.n y2.n y3.n y0.n y4.n y5.n r) (.slice ca cl cc)) w.drew.heap.size (Un.mk y1.n y2.n y3.n y0.n y4.n y5.n r) (.slice ca cl cc) := setUn_blk hz0 _ _
  have hbs : Below w0.heap.size w0 (setUn (w.drew.alloc (.cells #[.int .i64 0, .int .i64 0, .int .i64 0, .int .i64 0, .int .i64 0, .int .i64 0, .float .f64 0, .bool false, .slice none 0 0, .int .i64 0, .int .i64 0, .int .i64 0] 30)) w.drew.heap.size (Un.mk y1.n y2.n y3.n y0.n y4.n y5.n r) (.slice ca cl cc)) := hSs
  refine Pl.H.store 27 (setUn (w.drew.alloc (.cells #[.int .i64 0, .int .i64 0, .int .i64 0, .int .i64 0, .int .i64 0, .int .i64 0, .float .f64 0, .bool false, .slice none 0 0, .int .i64 0, .int .i64 0, .int .i64 0] 30)) w.drew.heap.size (Un.mk y1.n y2.n y3.n y0.n y4.n y5.n r) (.slice ca cl cc)) (by kernel_rfl) (by kernel_rfl) (by kernel_rfl) (Pl.free 27 (by kernel_rfl)) (Pl.storeV 27 30 (.tmp 8) (.tmp 61) _ (by kernel_rfl) (by decide) (by decide) (st_un ((w.drew.alloc (.cells #[.int .i64 0, .int .i64 0, .int .i64 0, .int .i64 0, .int .i64 0, .int .i64 0, .float .f64 0, .bool false, .slice none 0 0, .int .i64 0, .int .i64 0, .int .i64 0] 30))) w.drew.heap.size zeroU (.slice none 0 0) hz0 (Un.mk y1.n y2.n y3.n y0.n y4.n y5.n r) ca cl cc)) hSs ?_
  refine Pl.H.done (by kernel_rfl) (fun A' hA' => ?_)
  rw [Pl.At.ext hA' (((((((((((((((((((((((((((hA.put 36 _).put 37 _).put 38 _).put 39 _).put 40 _).put 41 _).put 42 _).put 43 _).put 44 _).put 45 _).put 46 _).put 47 _).put 48 _).put 49 _).put 50 _).put 51 _).put 52 _).put 53 _).put 54 _).put 55 _).put 56 _).put 57 _).put 58 _).put 59 _).put 60 _).put 61 _).put 8 _)]
  exact hend (fun d => if d = 36 then .slice (some ⟨b, off, none⟩) 7 c2 else if d = 37 then .pointer (some ⟨b, off + 1 * 4, none⟩) else if d = 38 then .pointer (some ⟨b, off + 1 * 4 + 1, none⟩) else if d = 39 then .int .i64 y1.n else if d = 40 then .slice (some ⟨b, off, none⟩) 7 c2 else if d = 41 then .pointer (some ⟨b, off + 2 * 4, none⟩) else if d = 42 then .pointer (some ⟨b, off + 2 * 4 + 1, none⟩) else if d = 43 then .int .i64 y2.n else if d = 44 then .slice (some ⟨b, off, none⟩) 7 c2 else if d = 45 then .pointer (some ⟨b, off + 3 * 4, none⟩) else if d = 46 then .pointer (some ⟨b, off + 3 * 4 + 1, none⟩) else if d = 47 then .int .i64 y3.n else if d = 48 then .slice (some ⟨b, off, none⟩) 7 c2 else if d = 49 then .pointer (some ⟨b, off + 0 * 4, none⟩) else if d = 50 then .pointer (some ⟨b, off + 0 * 4 + 1, none⟩) else if d = 51 then .int .i64 y0.n else if d = 52 then .slice (some ⟨b, off, none⟩) 7 c2 else if d = 53 then .pointer (some ⟨b, off + 4 * 4, none⟩) else if d = 54 then .pointer (some ⟨b, off + 4 * 4 + 1, none⟩) else if d = 55 then .int .i64 y4.n else if d = 56 then .slice (some ⟨b, off, none⟩) 7 c2 else if d = 57 then .pointer (some ⟨b, off + 5 * 4, none⟩) else if d = 58 then .pointer (some ⟨b, off + 5 * 4 + 1, none⟩) else if d = 59 then .int .i64 y5.n else if d = 60 then r.val (.slice ca cl cc) else if d = 61 then (Un.mk y1.n y2.n y3.n y0.n y4.n y5.n r).val (.slice ca cl cc) else undef) _ w.drew.heap.size ⟨hSs, hzs, hS0.size⟩

set_option maxHeartbeats 2000000 in
set_option maxRecDepth 100000 in
theorem rud4 (w0 w : World) (b off c2 : Nat) (y0 y1 y2 y3 y4 y5 : It) (hx0 : ItAt w0 b (off + 0 * 4) y0) (hx1 : ItAt w0 b (off + 1 * 4) y1) (hx2 : ItAt w0 b (off + 2 * 4) y2) (hx3 : ItAt w0 b (off + 3 * 4) y3) (hx4 : ItAt w0 b (off + 4 * 4) y4) (hx5 : ItAt w0 b (off + 5 * 4) y5) (hW : Below w0.heap.size w0 w)
    {Q : Exit → Act → World → Prop} {A : Act} (hsz : A.tmps.size = 66) (hdf : A.defers = []) (s4 : A.tmps.getD 4 undef = .slice (some ⟨b, off, none⟩) 7 c2)
    (hend : ∀ (u : Nat → Value) w' g, (Below w0.heap.size w0 w' ∧ UnBlk w' g (Un.mk y1.n y2.n y3.n y0.n y4.n y5.n zeroR) (.slice none 0 0) ∧ w0.heap.size ≤ g) → Q .normal (((((((((((((((((((((((((((A).put (some 18) (u 18)).put (some 19) (u 19)).put (some 20) (u 20)).put (some 21) (u 21)).put (some 22) (u 22)).put (some 23) (u 23)).put (some 24) (u 24)).put (some 25) (u 25)).put (some 26) (u 26)).put (some 27) (u 27)).put (some 28) (u 28)).put (some 29) (u 29)).put (some 30) (u 30)).put (some 31) (u 31)).put (some 32) (u 32)).put (some 33) (u 33)).put (some 34) (u 34)).put (some 35) (u 35)).put (some 36) (u 36)).put (some 37) (u 37)).put (some 38) (u 38)).put (some 39) (u 39)).put (some 40) (u 40)).put (some 41) (u 41)).put (some 42) (u 42)).put (some 7) (.pointer (some ⟨g, 0, none⟩))) w') :
    (Code.region 4 (Pl.find 4 ((Try.f27.body).getD .skip)) true).wp Try.prog Q A w := by
  have hS0 : Below w0.heap.size w0 w.drew := hW.drew
  have hA := Pl.At.same (v := .slice (some ⟨b, off, none⟩) 7 c2) (d := 4) (Pl.At.here hsz hdf) s4
  refine Pl.H.start (S := fun w' => Below w0.heap.size w0 w') (by kernel_rfl) hA hS0 ?_
  rw [show (Pl.find 4 ((Try.f27.body).getD .skip)).size = 27 by kernel_rfl]
  refine Pl.H.take 0 18 (.slice (some ⟨b, off, none⟩) 7 c2) (by kernel_rfl) (by kernel_rfl) (by kernel_rfl) (Pl.free 0 (by kernel_rfl)) (Pl.move 0 (.tmp 4) (by kernel_rfl) (by decide)) hS0 ?_
  refine Pl.H.take 1 19 (.pointer (some ⟨b, off + 0 * 4, none⟩)) (by kernel_rfl) (by kernel_rfl) (by kernel_rfl) (Pl.free 1 (by kernel_rfl)) (Pl.index 1 74 (.tmp 18) (.const (.int .i64 0)) _ (by kernel_rfl) (by decide) (by decide) (index_item b off 7 c2 0 (by decide))) hS0 ?_
  refine Pl.H.take 2 20 (.pointer (some ⟨b, off + 0 * 4 + 1, none⟩)) (by kernel_rfl) (by kernel_rfl) (by kernel_rfl) (Pl.free 2 (by kernel_rfl)) (Pl.field 2 73 (.tmp 19) 1 _ (by kernel_rfl) (by decide) (field_itG b (off + 0 * 4) 1 (by decide))) hS0 ?_
  refine Pl.H.take 3 21 (.int .i64 y0.n) (by kernel_rfl) (by kernel_rfl) (by kernel_rfl) (Pl.free 3 (by kernel_rfl)) (Pl.load 3 3 (.tmp 20) _ (by kernel_rfl) (by decide) (fun w' hS => load_int b (off + 0 * 4 + 1) _ w' (keep_item hx0 hS).2.1)) hS0 ?_
  refine Pl.H.take 4 22 (.slice (some ⟨b, off, none⟩) 7 c2) (by kernel_rfl) (by kernel_rfl) (by kernel_rfl) (Pl.free 4 (by kernel_rfl)) (Pl.move 4 (.tmp 4) (by kernel_rfl) (by decide)) hS0 ?_
  refine Pl.H.take 5 23 (.pointer (some ⟨b, off + 1 * 4, none⟩)) (by kernel_rfl) (by kernel_rfl) (by kernel_rfl) (Pl.free 5 (by kernel_rfl)) (Pl.index 5 74 (.tmp 22) (.const (.int .i64 1)) _ (by kernel_rfl) (by decide) (by decide) (index_item b off 7 c2 1 (by decide))) hS0 ?_
  refine Pl.H.take 6 24 (.pointer (some ⟨b, off + 1 * 4 + 1, none⟩)) (by kernel_rfl) (by kernel_rfl) (by kernel_rfl) (Pl.free 6 (by kernel_rfl)) (Pl.field 6 73 (.tmp 23) 1 _ (by kernel_rfl) (by decide) (field_itG b (off + 1 * 4) 1 (by decide))) hS0 ?_
  refine Pl.H.take 7 25 (.int .i64 y1.n) (by kernel_rfl) (by kernel_rfl) (by kernel_rfl) (Pl.free 7 (by kernel_rfl)) (Pl.load 7 3 (.tmp 24) _ (by kernel_rfl) (by decide) (fun w' hS => load_int b (off + 1 * 4 + 1) _ w' (keep_item hx1 hS).2.1)) hS0 ?_
  refine Pl.H.take 8 26 (.slice (some ⟨b, off, none⟩) 7 c2) (by kernel_rfl) (by kernel_rfl) (by kernel_rfl) (Pl.free 8 (by kernel_rfl)) (Pl.move 8 (.tmp 4) (by kernel_rfl) (by decide)) hS0 ?_
  refine Pl.H.take 9 27 (.pointer (some ⟨b, off + 2 * 4, none⟩)) (by kernel_rfl) (by kernel_rfl) (by kernel_rfl) (Pl.free 9 (by kernel_rfl)) (Pl.index 9 74 (.tmp 26) (.const (.int .i64 2)) _ (by kernel_rfl) (by decide) (by decide) (index_item b off 7 c2 2 (by decide))) hS0 ?_
  refine Pl.H.take 10 28 (.pointer (some ⟨b, off + 2 * 4 + 1, none⟩)) (by kernel_rfl) (by kernel_rfl) (by kernel_rfl) (Pl.free 10 (by kernel_rfl)) (Pl.field 10 73 (.tmp 27) 1 _ (by kernel_rfl) (by decide) (field_itG b (off + 2 * 4) 1 (by decide))) hS0 ?_
  refine Pl.H.take 11 29 (.int .i64 y2.n) (by kernel_rfl) (by kernel_rfl) (by kernel_rfl) (Pl.free 11 (by kernel_rfl)) (Pl.load 11 3 (.tmp 28) _ (by kernel_rfl) (by decide) (fun w' hS => load_int b (off + 2 * 4 + 1) _ w' (keep_item hx2 hS).2.1)) hS0 ?_
  refine Pl.H.take 12 30 (.slice (some ⟨b, off, none⟩) 7 c2) (by kernel_rfl) (by kernel_rfl) (by kernel_rfl) (Pl.free 12 (by kernel_rfl)) (Pl.move 12 (.tmp 4) (by kernel_rfl) (by decide)) hS0 ?_
  refine Pl.H.take 13 31 (.pointer (some ⟨b, off + 3 * 4, none⟩)) (by kernel_rfl) (by kernel_rfl) (by kernel_rfl) (Pl.free 13 (by kernel_rfl)) (Pl.index 13 74 (.tmp 30) (.const (.int .i64 3)) _ (by kernel_rfl) (by decide) (by decide) (index_item b off 7 c2 3 (by decide))) hS0 ?_
  refine Pl.H.take 14 32 (.pointer (some ⟨b, off + 3 * 4 + 1, none⟩)) (by kernel_rfl) (by kernel_rfl) (by kernel_rfl) (Pl.free 14 (by kernel_rfl)) (Pl.field 14 73 (.tmp 31) 1 _ (by kernel_rfl) (by decide) (field_itG b (off + 3 * 4) 1 (by decide))) hS0 ?_
  refine Pl.H.take 15 33 (.int .i64 y3.n) (by kernel_rfl) (by kernel_rfl) (by kernel_rfl) (Pl.free 15 (by kernel_rfl)) (Pl.load 15 3 (.tmp 32) _ (by kernel_rfl) (by decide) (fun w' hS => load_int b (off + 3 * 4 + 1) _ w' (keep_item hx3 hS).2.1)) hS0 ?_
  refine Pl.H.take 16 34 (.slice (some ⟨b, off, none⟩) 7 c2) (by kernel_rfl) (by kernel_rfl) (by kernel_rfl) (Pl.free 16 (by kernel_rfl)) (Pl.move 16 (.tmp 4) (by kernel_rfl) (by decide)) hS0 ?_
  refine Pl.H.take 17 35 (.pointer (some ⟨b, off + 4 * 4, none⟩)) (by kernel_rfl) (by kernel_rfl) (by kernel_rfl) (Pl.free 17 (by kernel_rfl)) (Pl.index 17 74 (.tmp 34) (.const (.int .i64 4)) _ (by kernel_rfl) (by decide) (by decide) (index_item b off 7 c2 4 (by decide))) hS0 ?_
  refine Pl.H.take 18 36 (.pointer (some ⟨b, off + 4 * 4 + 1, none⟩)) (by kernel_rfl) (by kernel_rfl) (by kernel_rfl) (Pl.free 18 (by kernel_rfl)) (Pl.field 18 73 (.tmp 35) 1 _ (by kernel_rfl) (by decide) (field_itG b (off + 4 * 4) 1 (by decide))) hS0 ?_
  refine Pl.H.take 19 37 (.int .i64 y4.n) (by kernel_rfl) (by kernel_rfl) (by kernel_rfl) (Pl.free 19 (by kernel_rfl)) (Pl.load 19 3 (.tmp 36) _ (by kernel_rfl) (by decide) (fun w' hS => load_int b (off + 4 * 4 + 1) _ w' (keep_item hx4 hS).2.1)) hS0 ?_
  refine Pl.H.take 20 38 (.slice (some ⟨b, off, none⟩) 7 c2) (by kernel_rfl) (by kernel_rfl) (by kernel_rfl) (Pl.free 20 (by kernel_rfl)) (Pl.move 20 (.tmp 4) (by kernel_rfl) (by decide)) hS0 ?_
  refine Pl.H.take 21 39 (.pointer (some ⟨b, off + 5 * 4, none⟩)) (by kernel_rfl) (by kernel_rfl) (by kernel_rfl) (Pl.free 21 (by kernel_rfl)) (Pl.index 21 74 (.tmp 38) (.const (.int .i64 5)) _ (by kernel_rfl) (by decide) (by decide) (index_item b off 7 c2 5 (by decide))) hS0 ?_
  refine Pl.H.take 22 40 (.pointer (some ⟨b, off + 5 * 4 + 1, none⟩)) (by kernel_rfl) (by kernel_rfl) (by kernel_rfl) (Pl.free 22 (by kernel_rfl)) (Pl.field 22 73 (.tmp 39) 1 _ (by kernel_rfl) (by decide) (field_itG b (off + 5 * 4) 1 (by decide))) hS0 ?_
  refine Pl.H.take 23 41 (.int .i64 y5.n) (by kernel_rfl) (by kernel_rfl) (by kernel_rfl) (Pl.free 23 (by kernel_rfl)) (Pl.load 23 3 (.tmp 40) _ (by kernel_rfl) (by decide) (fun w' hS => load_int b (off + 5 * 4 + 1) _ w' (keep_item hx5 hS).2.1)) hS0 ?_
  refine Pl.H.take 24 42 ((Un.mk y1.n y2.n y3.n y0.n y4.n y5.n zeroR).val (.slice none 0 0)) (by kernel_rfl) (by kernel_rfl) (by kernel_rfl) (Pl.free 24 (by kernel_rfl)) (Pl.buildV 24 30 [(3, (.tmp 21)), (0, (.tmp 25)), (1, (.tmp 29)), (2, (.tmp 33)), (4, (.tmp 37)), (5, (.tmp 41))] _ (by kernel_rfl) (by decide) (fun w => build_unR y1.n y2.n y3.n y0.n y4.n y5.n w)) hS0 ?_
  have hSa : Below w0.heap.size w0 (w.drew.alloc (.cells #[.int .i64 0, .int .i64 0, .int .i64 0, .int .i64 0, .int .i64 0, .int .i64 0, .float .f64 0, .bool false, .slice none 0 0, .int .i64 0, .int .i64 0, .int .i64 0] 30)) := hS0.alloc hS0.size _
  have hz0 : UnBlk (w.drew.alloc (.cells #[.int .i64 0, .int .i64 0, .int .i64 0, .int .i64 0, .int .i64 0, .int .i64 0, .float .f64 0, .bool false, .slice none 0 0, .int .i64 0, .int .i64 0, .int .i64 0] 30)) w.drew.heap.size zeroU (.slice none 0 0) := unBlk_new w.drew zeroU (.slice none 0 0)
  refine Pl.H.make 25 7 (.pointer (some ⟨w.drew.heap.size, 0, none⟩)) (w.drew.alloc (.cells #[.int .i64 0, .int .i64 0, .int .i64 0, .int .i64 0, .int .i64 0, .int .i64 0, .float .f64 0, .bool false, .slice none 0 0, .int .i64 0, .int .i64 0, .int .i64 0] 30)) (by kernel_rfl) (by kernel_rfl) (by kernel_rfl) (Pl.free 25 (by kernel_rfl)) (Pl.allocV 25 30 _ _ (by kernel_rfl) (alloc_un w.drew)) hSa ?_
  have hSs : Below w0.heap.size w0 (setUn (w.drew.alloc (.cells #[.int .i64 0, .int .i64 0, .int .i64 0, .int .i64 0, .int .i64 0, .int .i64 0, .float .f64 0, .bool false, .slice none 0 0, .int .i64 0, .int .i64 0, .int .i64 0] 30)) w.drew.heap.size (Un.mk y1.n y2.n y3.n y0.n y4.n y5.n zeroR) (.slice none 0 0)) := setUn_below hSa hS0.size _ _
  have hzs : UnBlk (setUn (w.drew.alloc (.cells #[.int .i64 0, .int .i64 0, .int .i64 0, .int .i64 0, .int .i64 0, .int .i64 0, .float .f64 0, .bool false, .slice none 0 0, .int .i64 0, .int .i64 0, .int .i64 0] 30)) w.drew.heap.size (Un.mk y1.n y2.n y3.n y0.n y4.n y5.n zeroR) (.slice none 0 0)) w.drew.heap.size (Un.mk y1.n y2.n y3.n y0.n y4.n y5.n zeroR) (.slice none 0 0) := setUn_blk hz0 _ _
  have hbs : Below w0.heap.size w0 (setUn (w.drew.alloc (.cells #[.int .i64 0, .int .i64 0, .int .i64 0, .int .i64 0, .int .i64 0, .int .i64 0, .float .f64 0, .bool false, .slice none 0 0, .int .i64 0, .int .i64 0, .int .i64 0] 30)) w.drew.heap.size (Un.mk y1.n y2.n y3.n y0.n y4.n y5.n zeroR) (.slice none 0 0)) := hSs
  refine Pl.H.store 26 (setUn (w.drew.alloc (.cells #[.int .i64 0, .int .i64 0, .int .i64 0, .int .i64 0, .int .i64 0, .int .i64 0, .float .f64 0, .bool false, .slice none 0 0, .int .i64 0, .int .i64 0, .int .i64 0] 30)) w.drew.heap.size (Un.mk y1.n y2.n y3.n y0.n y4.n y5.n zeroR) (.slice none 0 0)) (by kernel_rfl) (by kernel_rfl) (by kernel_rfl) (Pl.free 26 (by kernel_rfl)) (Pl.storeV 26 30 (.tmp 7) (.tmp 42) _ (by kernel_rfl) (by decide) (by decide) (st_un ((w.drew.alloc (.cells #[.int .i64 0, .int .i64 0, .int .i64 0, .int .i64 0, .int .i64 0, .int .i64 0, .float .f64 0, .bool false, .slice none 0 0, .int .i64 0, .int .i64 0, .int .i64 0] 30))) w.drew.heap.size zeroU (.slice none 0 0) hz0 (Un.mk y1.n y2.n y3.n y0.n y4.n y5.n zeroR) none 0 0)) hSs ?_
  refine Pl.H.done (by kernel_rfl) (fun A' hA' => ?_)
  rw [Pl.At.ext hA' ((((((((((((((((((((((((((hA.put 18 _).put 19 _).put 20 _).put 21 _).put 22 _).put 23 _).put 24 _).put 25 _).put 26 _).put 27 _).put 28 _).put 29 _).put 30 _).put 31 _).put 32 _).put 33 _).put 34 _).put 35 _).put 36 _).put 37 _).put 38 _).put 39 _).put 40 _).put 41 _).put 42 _).put 7 _)]
  exact hend (fun d => if d = 18 then .slice (some ⟨b, off, none⟩) 7 c2 else if d = 19 then .pointer (some ⟨b, off + 0 * 4, none⟩) else if d = 20 then .pointer (some ⟨b, off + 0 * 4 + 1, none⟩) else if d = 21 then .int .i64 y0.n else if d = 22 then .slice (some ⟨b, off, none⟩) 7 c2 else if d = 23 then .pointer (some ⟨b, off + 1 * 4, none⟩) else if d = 24 then .pointer (some ⟨b, off + 1 * 4 + 1, none⟩) else if d = 25 then .int .i64 y1.n else if d = 26 then .slice (some ⟨b, off, none⟩) 7 c2 else if d = 27 then .pointer (some ⟨b, off + 2 * 4, none⟩) else if d = 28 then .pointer (some ⟨b, off + 2 * 4 + 1, none⟩) else if d = 29 then .int .i64 y2.n else if d = 30 then .slice (some ⟨b, off, none⟩) 7 c2 else if d = 31 then .pointer (some ⟨b, off + 3 * 4, none⟩) else if d = 32 then .pointer (some ⟨b, off + 3 * 4 + 1, none⟩) else if d = 33 then .int .i64 y3.n else if d = 34 then .slice (some ⟨b, off, none⟩) 7 c2 else if d = 35 then .pointer (some ⟨b, off + 4 * 4, none⟩) else if d = 36 then .pointer (some ⟨b, off + 4 * 4 + 1, none⟩) else if d = 37 then .int .i64 y4.n else if d = 38 then .slice (some ⟨b, off, none⟩) 7 c2 else if d = 39 then .pointer (some ⟨b, off + 5 * 4, none⟩) else if d = 40 then .pointer (some ⟨b, off + 5 * 4 + 1, none⟩) else if d = 41 then .int .i64 y5.n else if d = 42 then (Un.mk y1.n y2.n y3.n y0.n y4.n y5.n zeroR).val (.slice none 0 0) else undef) _ w.drew.heap.size ⟨hSs, hzs, hS0.size⟩

theorem mayIsU (u : Un) (m : Bool) (hm : u.may = m) (a : Option Addr) (len cap : Nat) (w : World) (h : Fs w a len cap u.row.xs) (hf : u.row.fits) :
    Calls Try.prog 16 #[u.val (.slice a len cap)] w fun e w' => e = .returned (.bool m) ∧ Below w.heap.size w w' := by
  have := refMayU_any u a len cap w h hf
  rw [hm] at this
  exact this

set_option maxHeartbeats 2000000 in
set_option maxRecDepth 100000 in
theorem rud6a (w0 w : World) (p : Nat) (X : Un) (ca : Option Addr) (cl cc : Nat) (hx : UnBlk w0 p X (.slice ca cl cc)) (hfa : Fs w0 ca cl cc X.row.xs) (hf : X.fits) (pa : Option Addr) (pl pc : Nat) (xs : List Nat) (hc : Came w0 pa pl pc xs) (hm : X.may = false) (hW : Below w0.heap.size w0 w)
    {Q : Exit → Act → World → Prop} {A : Act} (hsz : A.tmps.size = 66) (hdf : A.defers = []) (s0 : A.tmps.getD 0 undef = .slice pa pl pc) (s7 : A.tmps.getD 7 undef = .pointer (some ⟨p, 0, none⟩))
    (hend : ∀ (u : Nat → Value) w', Below w0.heap.size w0 w' → Q .normal ((((((((((((A).put (some 53) (u 53)).put (some 54) (u 54)).put (some 55) (u 55)).put (some 56) (u 56)).put (some 57) (u 57)).put (some 58) (u 58)).put (some 59) (u 59)).put (some 60) (u 60)).put (some 61) (u 61)).put (some 62) (u 62)).put (some 63) (.bool true)) w') :
    (Code.region 6 (Pl.find 6 ((Try.f27.body).getD .skip)) true).wp Try.prog Q A w := by
  have hS0 : Below w0.heap.size w0 w.drew := hW.drew
  have hA := Pl.At.same (v := .pointer (some ⟨p, 0, none⟩)) (d := 7) (Pl.At.same (v := .slice pa pl pc) (d := 0) (Pl.At.here hsz hdf) s0) s7
  refine Pl.H.start (S := fun w' => Below w0.heap.size w0 w') (by kernel_rfl) hA hS0 ?_
  rw [show (Pl.find 6 ((Try.f27.body).getD .skip)).size = 11 by kernel_rfl]
  refine Pl.H.take 0 53 (X.val (.slice ca cl cc)) (by kernel_rfl) (by kernel_rfl) (by kernel_rfl) (Pl.free 0 (by kernel_rfl)) (Pl.load 0 30 (.tmp 7) _ (by kernel_rfl) (by decide) (fun w' hS => load_un p X (.slice ca cl cc) ⟨_, _, _, rfl⟩ w' (hx.keep hS))) hS0 ?_
  refine Pl.H.call 1 54 16 [(.tmp 53)] #[30] (by kernel_rfl) (by kernel_rfl) (by kernel_rfl) (Pl.free 1 (by kernel_rfl)) (by kernel_rfl) (by decide) enters16 (Calls.mono (mayIsU X false hm ca cl cc w.drew (hfa.keep hS0 (Nat.le_refl _)) hf.row) ?_)
  rintro e w1 ⟨rfl, hb1⟩
  have hS1 : Below w0.heap.size w0 w1 := rBelow' hS0 hb1
  refine ⟨.bool false, rfl, hS1, ?_⟩
  refine Pl.H.take 2 55 (.bool true) (by kernel_rfl) (by kernel_rfl) (by kernel_rfl) (Pl.free 2 (by kernel_rfl)) (Pl.neg 2 4 (.tmp 54) false (by kernel_rfl) (by decide) rfl) hS1 ?_
  refine Pl.H.take 3 56 (.bool true) (by kernel_rfl) (by kernel_rfl) (by kernel_rfl) (Pl.free 3 (by kernel_rfl)) (Pl.move 3 (.tmp 55) (by kernel_rfl) (by decide)) hS1 ?_
  refine Pl.H.skip 4 57 (by kernel_rfl) (by kernel_rfl) (by kernel_rfl) (Pl.unwanted 4 3 56 false (by kernel_rfl) (by kernel_rfl) (by decide) rfl) hS1 ?_
  refine Pl.H.skip 5 58 (by kernel_rfl) (by kernel_rfl) (by kernel_rfl) (Pl.unwanted 5 3 56 false (by kernel_rfl) (by kernel_rfl) (by decide) rfl) hS1 ?_
  refine Pl.H.skip 6 59 (by kernel_rfl) (by kernel_rfl) (by kernel_rfl) (Pl.unwanted 6 3 56 false (by kernel_rfl) (by kernel_rfl) (by decide) rfl) hS1 ?_
  refine Pl.H.skip 7 60 (by kernel_rfl) (by kernel_rfl) (by kernel_rfl) (Pl.unwanted 7 3 56 false (by kernel_rfl) (by kernel_rfl) (by decide) rfl) hS1 ?_
  refine Pl.H.skip 8 61 (by kernel_rfl) (by kernel_rfl) (by kernel_rfl) (Pl.unwanted 8 3 56 false (by kernel_rfl) (by kernel_rfl) (by decide) rfl) hS1 ?_
  refine Pl.H.skip 9 62 (by kernel_rfl) (by kernel_rfl) (by kernel_rfl) (Pl.unwanted 9 3 56 false (by kernel_rfl) (by kernel_rfl) (by decide) rfl) hS1 ?_
  refine Pl.H.take 10 63 (.bool true) (by kernel_rfl) (by kernel_rfl) (by kernel_rfl) (Pl.free 10 (by kernel_rfl)) (Pl.pick 10 (.tmp 56) (.const (.bool true)) (.tmp 62) (by kernel_rfl) (by decide) (by decide) rfl) hS1 ?_
  refine Pl.H.done (by kernel_rfl) (fun A' hA' => ?_)
  rw [Pl.At.ext hA' (((((((((((hA.put 53 _).put 54 _).put 55 _).put 56 _).put 57 _).put 58 _).put 59 _).put 60 _).put 61 _).put 62 _).put 63 _)]
  exact hend (fun d => if d = 53 then X.val (.slice ca cl cc) else if d = 54 then .bool false else if d = 55 then .bool true else if d = 56 then .bool true else if d = 57 then undef else if d = 58 then undef else if d = 59 then undef else if d = 60 then undef else if d = 61 then undef else if d = 62 then undef else undef) _ hS1

set_option maxHeartbeats 2000000 in
set_option maxRecDepth 100000 in
theorem rud6b (w0 w : World) (p : Nat) (X : Un) (ca : Option Addr) (cl cc : Nat) (hx : UnBlk w0 p X (.slice ca cl cc)) (hfa : Fs w0 ca cl cc X.row.xs) (hf : X.fits) (pa : Option Addr) (pl pc : Nat) (xs : List Nat) (hc : Came w0 pa pl pc xs) (hm : X.may = true) (hne : ¬ (bstr X.bytes).toList = (bstr xs).toList) (hW : Below w0.heap.size w0 w)
    {Q : Exit → Act → World → Prop} {A : Act} (hsz : A.tmps.size = 66) (hdf : A.defers = []) (s0 : A.tmps.getD 0 undef = .slice pa pl pc) (s7 : A.tmps.getD 7 undef = .pointer (some ⟨p, 0, none⟩))
    (hend : ∀ (u : Nat → Value) w', Below w0.heap.size w0 w' → Q .normal ((((((((((((A).put (some 53) (u 53)).put (some 54) (u 54)).put (some 55) (u 55)).put (some 56) (u 56)).put (some 57) (u 57)).put (some 60) (u 60)).put (some 61) (u 61)).put (some 58) (u 58)).put (some 59) (u 59)).put (some 62) (u 62)).put (some 63) (.bool true)) w') :
    (Code.region 6 (Pl.find 6 ((Try.f27.body).getD .skip)) true).wp Try.prog Q A w := by
  have hS0 : Below w0.heap.size w0 w.drew := hW.drew
  have hA := Pl.At.same (v := .pointer (some ⟨p, 0, none⟩)) (d := 7) (Pl.At.same (v := .slice pa pl pc) (d := 0) (Pl.At.here hsz hdf) s0) s7
  refine Pl.H.start (S := fun w' => Below w0.heap.size w0 w') (by kernel_rfl) hA hS0 ?_
  rw [show (Pl.find 6 ((Try.f27.body).getD .skip)).size = 11 by kernel_rfl]
  refine Pl.H.take 0 53 (X.val (.slice ca cl cc)) (by kernel_rfl) (by kernel_rfl) (by kernel_rfl) (Pl.free 0 (by kernel_rfl)) (Pl.load 0 30 (.tmp 7) _ (by kernel_rfl) (by decide) (fun w' hS => load_un p X (.slice ca cl cc) ⟨_, _, _, rfl⟩ w' (hx.keep hS))) hS0 ?_
  refine Pl.H.call 1 54 16 [(.tmp 53)] #[30] (by kernel_rfl) (by kernel_rfl) (by kernel_rfl) (Pl.free 1 (by kernel_rfl)) (by kernel_rfl) (by decide) enters16 (Calls.mono (mayIsU X true hm ca cl cc w.drew (hfa.keep hS0 (Nat.le_refl _)) hf.row) ?_)
  rintro e w1 ⟨rfl, hb1⟩
  have hS1 : Below w0.heap.size w0 w1 := rBelow' hS0 hb1
  refine ⟨.bool true, rfl, hS1, ?_⟩
  refine Pl.H.take 2 55 (.bool false) (by kernel_rfl) (by kernel_rfl) (by kernel_rfl) (Pl.free 2 (by kernel_rfl)) (Pl.neg 2 4 (.tmp 54) true (by kernel_rfl) (by decide) rfl) hS1 ?_
  refine Pl.H.take 3 56 (.bool false) (by kernel_rfl) (by kernel_rfl) (by kernel_rfl) (Pl.free 3 (by kernel_rfl)) (Pl.move 3 (.tmp 55) (by kernel_rfl) (by decide)) hS1 ?_
  refine Pl.H.take 4 57 (X.val (.slice ca cl cc)) (by kernel_rfl) (by kernel_rfl) (by kernel_rfl) (Pl.guarded 4 3 56 false (by kernel_rfl) (by kernel_rfl) (by decide) rfl) (Pl.load 4 30 (.tmp 7) _ (by kernel_rfl) (by decide) (fun w' hS => load_un p X (.slice ca cl cc) ⟨_, _, _, rfl⟩ w' (hx.keep hS))) hS1 ?_
  refine Pl.H.take 7 60 (.slice pa pl pc) (by kernel_rfl) (by kernel_rfl) (by kernel_rfl) (Pl.guarded 7 3 56 false (by kernel_rfl) (by kernel_rfl) (by decide) rfl) (Pl.move 7 (.tmp 0) (by kernel_rfl) (by decide)) hS1 ?_
  refine Pl.H.take 8 61 (.string (bstr xs)) (by kernel_rfl) (by kernel_rfl) (by kernel_rfl) (Pl.guarded 8 3 56 false (by kernel_rfl) (by kernel_rfl) (by decide) rfl) (Pl.convV 8 32 9 (.tmp 60) (.slice pa pl pc) _ (by kernel_rfl) (by decide) rfl (fun w' hS => run_string_of pc (hc.bs.keep hS (Nat.le_refl _)))) hS1 ?_
  refine Pl.H.call 5 58 24 [(.tmp 57)] #[30] (by kernel_rfl) (by kernel_rfl) (by kernel_rfl) (Pl.guarded 5 3 56 false (by kernel_rfl) (by kernel_rfl) (by decide) rfl) (by kernel_rfl) (by decide) enters24 (Calls.mono (refBytesU_any X ca cl cc w1 (hfa.keep hS1 (Nat.le_refl _)) hf hm) ?_)
  rintro e w2 ⟨v2, rfl, ho2, hb2⟩
  have hS2 : Below w0.heap.size w0 w2 := rBelow' hS1 hb2
  obtain ⟨ba, bc, rfl, hbs1, _⟩ := ho2.bs (Un.bytes_bytes hm)
  refine ⟨.slice ba X.bytes.length bc, rfl, hS2, ?_⟩
  refine Pl.H.make 6 59 (.string (bstr X.bytes)) w2 (by kernel_rfl) (by kernel_rfl) (by kernel_rfl) (Pl.guarded 6 3 56 false (by kernel_rfl) (by kernel_rfl) (by decide) rfl) (Pl.conv1 6 32 9 (.tmp 58) _ (by kernel_rfl) (by decide) (run_string_of bc hbs1)) hS2 ?_
  refine Pl.H.take 9 62 (.bool true) (by kernel_rfl) (by kernel_rfl) (by kernel_rfl) (Pl.guarded 9 3 56 false (by kernel_rfl) (by kernel_rfl) (by decide) rfl) (Pl.binV 9 .neq 9 9 (.tmp 59) (.tmp 61) (.string (bstr X.bytes)) (.string (bstr xs)) _ (by kernel_rfl) (by decide) (by decide) rfl rfl (fun w => by simp [go_sem, eqGuard, hne])) hS2 ?_
  refine Pl.H.take 10 63 (.bool true) (by kernel_rfl) (by kernel_rfl) (by kernel_rfl) (Pl.free 10 (by kernel_rfl)) (Pl.pickF 10 (.tmp 56) (.const (.bool true)) (.tmp 62) (by kernel_rfl) (by decide) (by decide) rfl) hS2 ?_
  refine Pl.H.done (by kernel_rfl) (fun A' hA' => ?_)
  rw [Pl.At.ext hA' (((((((((((hA.put 53 _).put 54 _).put 55 _).put 56 _).put 57 _).put 60 _).put 61 _).put 58 _).put 59 _).put 62 _).put 63 _)]
  exact hend (fun d => if d = 53 then X.val (.slice ca cl cc) else if d = 54 then .bool true else if d = 55 then .bool false else if d = 56 then .bool false else if d = 57 then X.val (.slice ca cl cc) else if d = 60 then .slice pa pl pc else if d = 61 then .string (bstr xs) else if d = 58 then .slice ba X.bytes.length bc else if d = 59 then .string (bstr X.bytes) else if d = 62 then .bool true else undef) _ hS2

set_option maxHeartbeats 2000000 in
set_option maxRecDepth 100000 in
theorem rud6c (w0 w : World) (p : Nat) (X : Un) (ca : Option Addr) (cl cc : Nat) (hx : UnBlk w0 p X (.slice ca cl cc)) (hfa : Fs w0 ca cl cc X.row.xs) (hf : X.fits) (pa : Option Addr) (pl pc : Nat) (xs : List Nat) (hc : Came w0 pa pl pc xs) (hm : X.may = true) (hbx : X.bytes = xs) (hW : Below w0.heap.size w0 w)
    {Q : Exit → Act → World → Prop} {A : Act} (hsz : A.tmps.size = 66) (hdf : A.defers = []) (s0 : A.tmps.getD 0 undef = .slice pa pl pc) (s7 : A.tmps.getD 7 undef = .pointer (some ⟨p, 0, none⟩))
    (hend : ∀ (u : Nat → Value) w', Below w0.heap.size w0 w' → Q .normal ((((((((((((A).put (some 53) (u 53)).put (some 54) (u 54)).put (some 55) (u 55)).put (some 56) (u 56)).put (some 57) (u 57)).put (some 60) (u 60)).put (some 61) (u 61)).put (some 58) (u 58)).put (some 59) (u 59)).put (some 62) (u 62)).put (some 63) (.bool false)) w') :
    (Code.region 6 (Pl.find 6 ((Try.f27.body).getD .skip)) true).wp Try.prog Q A w := by
  have hS0 : Below w0.heap.size w0 w.drew := hW.drew
  have hA := Pl.At.same (v := .pointer (some ⟨p, 0, none⟩)) (d := 7) (Pl.At.same (v := .slice pa pl pc) (d := 0) (Pl.At.here hsz hdf) s0) s7
  refine Pl.H.start (S := fun w' => Below w0.heap.size w0 w') (by kernel_rfl) hA hS0 ?_
  rw [show (Pl.find 6 ((Try.f27.body).getD .skip)).size = 11 by kernel_rfl]
  refine Pl.H.take 0 53 (X.val (.slice ca cl cc)) (by kernel_rfl) (by kernel_rfl) (by kernel_rfl) (Pl.free 0 (by kernel_rfl)) (Pl.load 0 30 (.tmp 7) _ (by kernel_rfl) (by decide) (fun w' hS => load_un p X (.slice ca cl cc) ⟨_, _, _, rfl⟩ w' (hx.keep hS))) hS0 ?_
  refine Pl.H.call 1 54 16 [(.tmp 53)] #[30] (by kernel_rfl) (by kernel_rfl) (by kernel_rfl) (Pl.free 1 (by kernel_rfl)) (by kernel_rfl) (by decide) enters16 (Calls.mono (mayIsU X true hm ca cl cc w.drew (hfa.keep hS0 (Nat.le_refl _)) hf.row) ?_)
  rintro e w1 ⟨rfl, hb1⟩
  have hS1 : Below w0.heap.size w0 w1 := rBelow' hS0 hb1
  refine ⟨.bool true, rfl, hS1, ?_⟩
  refine Pl.H.take 2 55 (.bool false) (by kernel_rfl) (by kernel_rfl) (by kernel_rfl) (Pl.free 2 (by kernel_rfl)) (Pl.neg 2 4 (.tmp 54) true (by kernel_rfl) (by decide) rfl) hS1 ?_
  refine Pl.H.take 3 56 (.bool false) (by kernel_rfl) (by kernel_rfl) (by kernel_rfl) (Pl.free 3 (by kernel_rfl)) (Pl.move 3 (.tmp 55) (by kernel_rfl) (by decide)) hS1 ?_
  refine Pl.H.take 4 57 (X.val (.slice ca cl cc)) (by kernel_rfl) (by kernel_rfl) (by kernel_rfl) (Pl.guarded 4 3 56 false (by kernel_rfl) (by kernel_rfl) (by decide) rfl) (Pl.load 4 30 (.tmp 7) _ (by kernel_rfl) (by decide) (fun w' hS => load_un p X (.slice ca cl cc) ⟨_, _, _, rfl⟩ w' (hx.keep hS))) hS1 ?_
  refine Pl.H.take 7 60 (.slice pa pl pc) (by kernel_rfl) (by kernel_rfl) (by kernel_rfl) (Pl.guarded 7 3 56 false (by kernel_rfl) (by kernel_rfl) (by decide) rfl) (Pl.move 7 (.tmp 0) (by kernel_rfl) (by decide)) hS1 ?_
  refine Pl.H.take 8 61 (.string (bstr xs)) (by kernel_rfl) (by kernel_rfl) (by kernel_rfl) (Pl.guarded 8 3 56 false (by kernel_rfl) (by kernel_rfl) (by decide) rfl) (Pl.convV 8 32 9 (.tmp 60) (.slice pa pl pc) _ (by kernel_rfl) (by decide) rfl (fun w' hS => run_string_of pc (hc.bs.keep hS (Nat.le_refl _)))) hS1 ?_
  refine Pl.H.call 5 58 24 [(.tmp 57)] #[30] (by kernel_rfl) (by kernel_rfl) (by kernel_rfl) (Pl.guarded 5 3 56 false (by kernel_rfl) (by kernel_rfl) (by decide) rfl) (by kernel_rfl) (by decide) enters24 (Calls.mono (refBytesU_any X ca cl cc w1 (hfa.keep hS1 (Nat.le_refl _)) hf hm) ?_)
  rintro e w2 ⟨v2, rfl, ho2, hb2⟩
  have hS2 : Below w0.heap.size w0 w2 := rBelow' hS1 hb2
  obtain ⟨ba, bc, rfl, hbs1, _⟩ := ho2.bs (Un.bytes_bytes hm)
  refine ⟨.slice ba X.bytes.length bc, rfl, hS2, ?_⟩
  refine Pl.H.make 6 59 (.string (bstr xs)) w2 (by kernel_rfl) (by kernel_rfl) (by kernel_rfl) (Pl.guarded 6 3 56 false (by kernel_rfl) (by kernel_rfl) (by decide) rfl) (Pl.conv1 6 32 9 (.tmp 58) _ (by kernel_rfl) (by decide) (by rw [← hbx]; exact run_string_of bc hbs1)) hS2 ?_
  refine Pl.H.take 9 62 (.bool false) (by kernel_rfl) (by kernel_rfl) (by kernel_rfl) (Pl.guarded 9 3 56 false (by kernel_rfl) (by kernel_rfl) (by decide) rfl) (Pl.binV 9 .neq 9 9 (.tmp 59) (.tmp 61) (.string (bstr xs)) (.string (bstr xs)) _ (by kernel_rfl) (by decide) (by decide) rfl rfl (fun w => by simp [go_sem, eqGuard])) hS2 ?_
  refine Pl.H.take 10 63 (.bool false) (by kernel_rfl) (by kernel_rfl) (by kernel_rfl) (Pl.free 10 (by kernel_rfl)) (Pl.pickF 10 (.tmp 56) (.const (.bool true)) (.tmp 62) (by kernel_rfl) (by decide) (by decide) rfl) hS2 ?_
  refine Pl.H.done (by kernel_rfl) (fun A' hA' => ?_)
  rw [Pl.At.ext hA' (((((((((((hA.put 53 _).put 54 _).put 55 _).put 56 _).put 57 _).put 60 _).put 61 _).put 58 _).put 59 _).put 62 _).put 63 _)]
  exact hend (fun d => if d = 53 then X.val (.slice ca cl cc) else if d = 54 then .bool true else if d = 55 then .bool false else if d = 56 then .bool false else if d = 57 then X.val (.slice ca cl cc) else if d = 60 then .slice pa pl pc else if d = 61 then .string (bstr xs) else if d = 58 then .slice ba X.bytes.length bc else if d = 59 then .string (bstr xs) else if d = 62 then .bool false else undef) _ hS2

end Go.Proofs.Ytnhhapipadiffaa
