/-
  Layer 8: drawn statements of LeafFour; how five small numbers that came in are told.
-/
import Derived.Test.YtgieigpbbkeonaaLgL
namespace Go.Proofs.Ytgieigpbbkeonaa
open Go.ChangeShapes Go.WideShapes Go.ChangeAt Go.RowKit

theorem ldLf (p : Nat) (u v : Sl) (w : World) (k : LfBlk w p u.val v.val) : (Instr.loadAt 25 (.pointer (some ⟨p, 0, none⟩))).run Try.prog w = .ok (lfV u v) w := by
  have c0 := k.c0
  have c1 := k.c1
  obtain ⟨a, len, cap⟩ := u
  obtain ⟨a2, len2, cap2⟩ := v
  unfold lfV Sl.val at *
  simp [go_sem, Instr.loadAt, c0, c1]
theorem entJoin : ∀ args w, (callFunc 19 args).run Try.prog w = .ok (.enter 19 args) w := Pl.enters Try.func19 (by kernel_rfl) (by kernel_rfl)
theorem Gi.tight {D : Nat → Prop} {w : World} {v : Sl} {t : List Int} (gi : Gi D w v t) : Gi (fun k => k < w.heap.size) w v t := ⟨gi.len, gi.nil, gi.le, gi.big, fun ad ha hl => by
  obtain ⟨b, off, ha', hc⟩ := gi.cell 0 hl
  have hlt := World.block_lt_of_cell? w _ hc
  rw [ha'] at ha
  cases ha
  exact hlt, gi.cell⟩
theorem Gb.tight {D : Nat → Prop} {w : World} {v : Sl} {l : List Sb} (gb : Gb D w v l) : Gb (fun k => k < w.heap.size) w v l := ⟨gb.len, gb.nil, gb.le, gb.big, fun ad ha hl => by
  obtain ⟨b, off, ha', hc⟩ := gb.cell 0 hl
  have hlt := World.block_lt_of_cell? w _ hc
  rw [ha'] at ha
  cases ha
  exact hlt, gb.cell, fun x hx => ⟨(gb.bs x hx).1.mono (fun k _ hl => hl), (gb.bs x hx).2⟩⟩
/-- What is told is laid into a box that was there. -/
theorem lay_box {w W w2 : World} {g : Nat} {x y : Value} {t' : List Int} {s' : List (List Nat)} {mk : Value → Value} {en : Ending} (k : LfBlk W g x y) (e : Below w.heap.size w W) (le : w.heap.size ≤ g) (td : Told W t' s' mk en w2) :
    ∃ (a2 : Option Addr) (n2 c2 : Nat) (a5 : Option Addr) (n5 c5 : Nat) (l' : List Sb) (W3 : World), en = .returned (mk (lfV ⟨a2, n2, c2⟩ ⟨a5, n5, c5⟩)) ∧ (Instr.storeAt 25 (.pointer (some ⟨g, 0, none⟩)) (lfV ⟨a2, n2, c2⟩ ⟨a5, n5, c5⟩)).run Try.prog w2 = .ok () W3 ∧ Bx w W3 g ⟨a2, n2, c2⟩ ⟨a5, n5, c5⟩ t' l' ∧ bss l' = s' ∧ Gi (fun k => W.heap.size ≤ k) W3 ⟨a2, n2, c2⟩ t' ∧ Gb (fun k => W.heap.size ≤ k) W3 ⟨a5, n5, c5⟩ l' := by
  obtain ⟨hb2, ⟨a2, n2, c2⟩, ⟨a5, n5, c5⟩, l', he, gi, gb, hbs⟩ := td
  have hg := k.lt
  obtain ⟨W3, hst, k3, f⟩ := st_lf w2 _ _ _ (k.below hb2) ⟨a2, n2, c2⟩ ⟨a5, n5, c5⟩
  have hk : Kept (fun k => W.heap.size ≤ k) w2 W3 := Kept.frm f (fun k hk e => by omega)
  have e2 := rBelow e hb2
  exact ⟨a2, n2, c2, a5, n5, c5, l', W3, he, hst, ⟨k3, (gi.keep hk).wide (fun k hk => by omega), (gb.keep hk).wide (fun k hk => by omega), e2.trans (f.below e2.size (fun k hk => by omega)), le⟩, hbs, gi.keep hk, gb.keep hk⟩
theorem start_box {w0 w w2 : World} {t' : List Int} {s' : List (List Nat)} {mk : Value → Value} {en : Ending} (e : Below w0.heap.size w0 w) (td : Told w t' s' mk en w2) :
    ∃ (a2 : Option Addr) (n2 c2 : Nat) (a5 : Option Addr) (n5 c5 : Nat) (l' : List Sb) (W3 : World), en = .returned (mk (lfV ⟨a2, n2, c2⟩ ⟨a5, n5, c5⟩)) ∧ (Instr.storeAt 25 (.pointer (some ⟨w2.heap.size, 0, none⟩)) (lfV ⟨a2, n2, c2⟩ ⟨a5, n5, c5⟩)).run Try.prog (w2.alloc (.cells #[.slice none 0 0, .slice none 0 0] 25)) = .ok () W3 ∧ Bx w0 W3 w2.heap.size ⟨a2, n2, c2⟩ ⟨a5, n5, c5⟩ t' l' ∧ bss l' = s' ∧ Gi (fun k => w.heap.size ≤ k) W3 ⟨a2, n2, c2⟩ t' ∧ Gb (fun k => w.heap.size ≤ k) W3 ⟨a5, n5, c5⟩ l' := by
  obtain ⟨hb2, ⟨a2, n2, c2⟩, ⟨a5, n5, c5⟩, l', he, gi, gb, hbs⟩ := td
  obtain ⟨W3, hst, k3, hB⟩ := box_new w2 ⟨a2, n2, c2⟩ ⟨a5, n5, c5⟩
  exact ⟨a2, n2, c2, a5, n5, c5, l', W3, he, hst, ⟨k3, (gi.tight.below hB (Nat.le_refl _)).wide (fun k hk => Nat.ne_of_lt hk), (gb.tight.below hB (Nat.le_refl _)).wide (fun k hk => Nat.ne_of_lt hk), rBelow e (rBelow hb2 hB), (rBelow e hb2).size⟩, hbs, gi.below hB (Nat.le_refl _), gb.below hB (Nat.le_refl _)⟩
theorem slice_fromN (b o len cap k : Nat) (hk : k ≤ len) (hc : k < cap) (w : World) : (Instr.sliceAt 22 (.slice (some ⟨b, o, none⟩) len cap) (some (.int .i64 ((k : Nat) : Int))) none none).run Try.prog w = .ok (.slice (some ⟨b, o + k, none⟩) (len - k) (cap - k)) w := by
  have h22 : Try.prog.underlying 22 = some (.slice (Try.prog.elem 22)) := by kernel_rfl
  have he : Try.prog.elem 22 = 3 := by kernel_rfl
  rw [run_sliceAt_slice w 22 _ _ _ _ h22, run_slice_l w 22 _ len cap h22 .i64 ((k : Nat) : Int) (by omega) (by omega), he, sz_of infoIn1]
  have hne : ¬ cap = k := by omega
  simp [Result.andThen, sliced, hne, Addr.add_lit]

/-- Five small numbers. -/
def arr5 (x : Nat → Nat) : Value := .agg #[.int .u8 ((x 0 : Nat) : Int), .int .u8 ((x 1 : Nat) : Int), .int .u8 ((x 2 : Nat) : Int), .int .u8 ((x 3 : Nat) : Int), .int .u8 ((x 4 : Nat) : Int)]
section
variable {H : Type} {enc : TypeId × Value → H} {w : World} {base : Nat} {spare : Nat → Bool} {held : Bool}
set_option maxRecDepth 100000 in
theorem open_arr5 {r : Reach} {b0 : Nat} {v : Value} {d : DataW H} {p : List MemPlace} (hv : Value.okWide Try.prog w r b0 47 v) (h : DataW.Trod enc Try.prog w base spare held 47 v d p) :
    ∃ x : Nat → Nat, v = arr5 x ∧ (∀ i, x i < 256) ∧ True := by
  have hu : Try.prog.underlying 47 = some (.array 5 5) := by kernel_rfl
  have hC : Try.prog.cellsOf 47 = 5 := by kernel_rfl
  have h1 : Try.prog.cellsOf 5 = 1 := by kernel_rfl
  simp only [Value.okWide, hu] at hv
  obtain ⟨cs, rfl, hsz, _⟩ := hv
  rw [hC] at hsz
  obtain ⟨l⟩ := cs
  match l, hsz with
  | [c0, c1, c2, c3, c4], _ =>
    obtain ⟨fuel, hf⟩ := h
    obtain ⟨xs, m, _, _, _, hlen, hfd⟩ := DataW.trod_array hu hf
    match xs, hlen with
    | [y0, y1, y2, y3, y4], _ =>
      have t0 : DataW.trod enc Try.prog w base spare held m 5 [c0] = some y0 := by simpa [Value.cells, h1] using hfd 0 (by omega)
      obtain ⟨k0, e0, _, w0⟩ := DataW.trod_int Try.underlying5 t0
      have t1 : DataW.trod enc Try.prog w base spare held m 5 [c1] = some y1 := by simpa [Value.cells, h1] using hfd 1 (by omega)
      obtain ⟨k1, e1, _, w1⟩ := DataW.trod_int Try.underlying5 t1
      have t2 : DataW.trod enc Try.prog w base spare held m 5 [c2] = some y2 := by simpa [Value.cells, h1] using hfd 2 (by omega)
      obtain ⟨k2, e2, _, w2⟩ := DataW.trod_int Try.underlying5 t2
      have t3 : DataW.trod enc Try.prog w base spare held m 5 [c3] = some y3 := by simpa [Value.cells, h1] using hfd 3 (by omega)
      obtain ⟨k3, e3, _, w3⟩ := DataW.trod_int Try.underlying5 t3
      have t4 : DataW.trod enc Try.prog w base spare held m 5 [c4] = some y4 := by simpa [Value.cells, h1] using hfd 4 (by omega)
      obtain ⟨k4, e4, _, w4⟩ := DataW.trod_int Try.underlying5 t4
      simp only [List.cons.injEq, and_true] at e0 e1 e2 e3 e4
      subst e0 e1 e2 e3 e4
      have b0 := bounds_u8 w0
      have b1 := bounds_u8 w1
      have b2 := bounds_u8 w2
      have b3 := bounds_u8 w3
      have b4 := bounds_u8 w4
      refine ⟨fun i => if i = 0 then k0.toNat else if i = 1 then k1.toNat else if i = 2 then k2.toNat else if i = 3 then k3.toNat else k4.toNat, ?_, fun i => ?_, trivial⟩
      · unfold arr5
        simp only [if_true, if_false, Nat.one_ne_zero, show ¬ (2 : Nat) = 0 by decide, show ¬ (2 : Nat) = 1 by decide, show ¬ (3 : Nat) = 0 by decide, show ¬ (3 : Nat) = 1 by decide, show ¬ (3 : Nat) = 2 by decide, show ¬ (4 : Nat) = 0 by decide, show ¬ (4 : Nat) = 1 by decide, show ¬ (4 : Nat) = 2 by decide, show ¬ (4 : Nat) = 3 by decide]
        rw [Int.toNat_of_nonneg b0.1, Int.toNat_of_nonneg b1.1, Int.toNat_of_nonneg b2.1, Int.toNat_of_nonneg b3.1, Int.toNat_of_nonneg b4.1]
      · show (if i = 0 then k0.toNat else if i = 1 then k1.toNat else if i = 2 then k2.toNat else if i = 3 then k3.toNat else k4.toNat) < 256
        split
        · omega
        · split
          · omega
          · split
            · omega
            · split <;> omega
end

set_option maxHeartbeats 2000000 in
set_option maxRecDepth 100000 in
theorem four15A (w : World) (g b o cap b2 o2 cap2 i k : Nat) (q : Value) (x y : Int) (hi : i < 5) (hk : k < 4) (hg : LfBlk w g (.slice (some ⟨b, o, none⟩) 4 cap) q) (hx : w.cell? ⟨b, o + k, none⟩ = some (.int .i64 x)) (hy : w.cell? ⟨b2, o2 + i, none⟩ = some (.int .i64 y)) (h0 : x = y)
    {Q : Exit → Act → World → Prop} {A : Act} (hsz : A.tmps.size = 113) (hdf : A.defers = []) (s2 : A.tmps.getD 2 undef = .pointer (some ⟨g, 0, none⟩)) (s5 : A.tmps.getD 5 undef = .slice (some ⟨b2, o2, none⟩) 5 cap2) (s8 : A.tmps.getD 8 undef = .int .i64 ((i : Nat) : Int)) (s9 : A.tmps.getD 9 undef = .int .i64 ((k : Nat) : Int))
    (hend : ∀ (u : Nat → Value) w', Below w.heap.size w w' → Q .normal ((((((((((((((((((((((A).put (some 50) (u 50)).put (some 51) (u 51)).put (some 52) (u 52)).put (some 53) (u 53)).put (some 54) (u 54)).put (some 55) (u 55)).put (some 56) (u 56)).put (some 57) (u 57)).put (some 58) (u 58)).put (some 59) (u 59)).put (some 60) (u 60)).put (some 61) (u 61)).put (some 62) (u 62)).put (some 63) (u 63)).put (some 64) (u 64)).put (some 65) (u 65)).put (some 66) (u 66)).put (some 67) (u 67)).put (some 68) (u 68)).put (some 69) (u 69)).put (some 70) (.bool true)) w') :
    (Code.region 15 (Pl.find 15 ((Try.f7.body).getD .skip)) true).wp Try.prog Q A w := by
  have hA := Pl.At.same (v := .int .i64 ((k : Nat) : Int)) (d := 9) (Pl.At.same (v := .int .i64 ((i : Nat) : Int)) (d := 8) (Pl.At.same (v := .slice (some ⟨b2, o2, none⟩) 5 cap2) (d := 5) (Pl.At.same (v := .pointer (some ⟨g, 0, none⟩)) (d := 2) (Pl.At.here hsz hdf) s2) s5) s8) s9
  refine Pl.H.start (S := (fun w' => Below w.heap.size w w')) (by kernel_rfl) hA (below_drew w) ?_
  rw [show (Pl.find 15 ((Try.f7.body).getD .skip)).size = 21 by kernel_rfl]
  refine Pl.H.take 0 50 (.pointer (some ⟨g, 0, none⟩)) (by kernel_rfl) (by kernel_rfl) (by kernel_rfl) (Pl.free 0 (by kernel_rfl)) (Pl.field 0 25 (.tmp 2) 0 _ (by kernel_rfl) (by decide) (fdLf0 g)) (below_drew w) ?_
  refine Pl.H.take 1 51 (.slice (some ⟨b, o, none⟩) 4 cap) (by kernel_rfl) (by kernel_rfl) (by kernel_rfl) (Pl.free 1 (by kernel_rfl)) (Pl.load 1 22 (.tmp 50) _ (by kernel_rfl) (by decide) (fun w' hS => ldLf0 g ⟨some ⟨b, o, none⟩, 4, cap⟩ q w' (hg.below hS))) (below_drew w) ?_
  refine Pl.H.take 2 52 (.int .i64 ((k : Nat) : Int)) (by kernel_rfl) (by kernel_rfl) (by kernel_rfl) (Pl.free 2 (by kernel_rfl)) (Pl.move 2 (.tmp 9) (by kernel_rfl) (by decide)) (below_drew w) ?_
  refine Pl.H.take 3 53 (.pointer (some ⟨b, o + k, none⟩)) (by kernel_rfl) (by kernel_rfl) (by kernel_rfl) (Pl.free 3 (by kernel_rfl)) (Pl.index 3 22 (.tmp 51) (.tmp 52) _ (by kernel_rfl) (by decide) (by decide) (ixI1 b o 4 cap k hk)) (below_drew w) ?_
  refine Pl.H.take 4 54 (.int .i64 x) (by kernel_rfl) (by kernel_rfl) (by kernel_rfl) (Pl.free 4 (by kernel_rfl)) (Pl.load 4 3 (.tmp 53) _ (by kernel_rfl) (by decide) (fun w' hS => ldI1 b (o + k) x w' (cell_below hx hS))) (below_drew w) ?_
  refine Pl.H.take 5 55 (.slice (some ⟨b2, o2, none⟩) 5 cap2) (by kernel_rfl) (by kernel_rfl) (by kernel_rfl) (Pl.free 5 (by kernel_rfl)) (Pl.move 5 (.tmp 5) (by kernel_rfl) (by decide)) (below_drew w) ?_
  refine Pl.H.take 6 56 (.int .i64 ((i : Nat) : Int)) (by kernel_rfl) (by kernel_rfl) (by kernel_rfl) (Pl.free 6 (by kernel_rfl)) (Pl.move 6 (.tmp 8) (by kernel_rfl) (by decide)) (below_drew w) ?_
  refine Pl.H.take 7 57 (.pointer (some ⟨b2, o2 + i, none⟩)) (by kernel_rfl) (by kernel_rfl) (by kernel_rfl) (Pl.free 7 (by kernel_rfl)) (Pl.index 7 22 (.tmp 55) (.tmp 56) _ (by kernel_rfl) (by decide) (by decide) (ixI1 b2 o2 5 cap2 i hi)) (below_drew w) ?_
  refine Pl.H.take 8 58 (.int .i64 y) (by kernel_rfl) (by kernel_rfl) (by kernel_rfl) (Pl.free 8 (by kernel_rfl)) (Pl.load 8 3 (.tmp 57) _ (by kernel_rfl) (by decide) (fun w' hS => ldI1 b2 (o2 + i) y w' (cell_below hy hS))) (below_drew w) ?_
  refine Pl.H.take 9 59 (.bool true) (by kernel_rfl) (by kernel_rfl) (by kernel_rfl) (Pl.free 9 (by kernel_rfl)) (Pl.binV 9 .eql 3 3 (.tmp 54) (.tmp 58) (.int .i64 x) (.int .i64 y) _ (by kernel_rfl) (by decide) (by decide) rfl rfl (eqlT x y _ _ h0)) (below_drew w) ?_
  refine Pl.H.take 10 60 (.bool true) (by kernel_rfl) (by kernel_rfl) (by kernel_rfl) (Pl.free 10 (by kernel_rfl)) (Pl.move 10 (.tmp 59) (by kernel_rfl) (by decide)) (below_drew w) ?_
  refine Pl.H.skip 11 61 (by kernel_rfl) (by kernel_rfl) (by kernel_rfl) (Pl.unwanted 11 10 60 false (by kernel_rfl) (by kernel_rfl) (by decide) rfl) (below_drew w) ?_
  refine Pl.H.skip 12 62 (by kernel_rfl) (by kernel_rfl) (by kernel_rfl) (Pl.unwanted 12 10 60 false (by kernel_rfl) (by kernel_rfl) (by decide) rfl) (below_drew w) ?_
  refine Pl.H.skip 13 63 (by kernel_rfl) (by kernel_rfl) (by kernel_rfl) (Pl.unwanted 13 10 60 false (by kernel_rfl) (by kernel_rfl) (by decide) rfl) (below_drew w) ?_
  refine Pl.H.skip 14 64 (by kernel_rfl) (by kernel_rfl) (by kernel_rfl) (Pl.unwanted 14 10 60 false (by kernel_rfl) (by kernel_rfl) (by decide) rfl) (below_drew w) ?_
  refine Pl.H.skip 15 65 (by kernel_rfl) (by kernel_rfl) (by kernel_rfl) (Pl.unwanted 15 10 60 false (by kernel_rfl) (by kernel_rfl) (by decide) rfl) (below_drew w) ?_
  refine Pl.H.skip 16 66 (by kernel_rfl) (by kernel_rfl) (by kernel_rfl) (Pl.unwanted 16 10 60 false (by kernel_rfl) (by kernel_rfl) (by decide) rfl) (below_drew w) ?_
  refine Pl.H.skip 17 67 (by kernel_rfl) (by kernel_rfl) (by kernel_rfl) (Pl.unwanted 17 10 60 false (by kernel_rfl) (by kernel_rfl) (by decide) rfl) (below_drew w) ?_
  refine Pl.H.skip 18 68 (by kernel_rfl) (by kernel_rfl) (by kernel_rfl) (Pl.unwanted 18 10 60 false (by kernel_rfl) (by kernel_rfl) (by decide) rfl) (below_drew w) ?_
  refine Pl.H.skip 19 69 (by kernel_rfl) (by kernel_rfl) (by kernel_rfl) (Pl.unwanted 19 10 60 false (by kernel_rfl) (by kernel_rfl) (by decide) rfl) (below_drew w) ?_
  refine Pl.H.take 20 70 (.bool true) (by kernel_rfl) (by kernel_rfl) (by kernel_rfl) (Pl.free 20 (by kernel_rfl)) (Pl.pick 20 (.tmp 60) (.const (.bool true)) (.tmp 69) (by kernel_rfl) (by decide) (by decide) rfl) (below_drew w) ?_
  refine Pl.H.done (by kernel_rfl) (fun A' hA' => ?_)
  rw [Pl.At.ext hA' (((((((((((((((((((((hA.put 50 _).put 51 _).put 52 _).put 53 _).put 54 _).put 55 _).put 56 _).put 57 _).put 58 _).put 59 _).put 60 _).put 61 _).put 62 _).put 63 _).put 64 _).put 65 _).put 66 _).put 67 _).put 68 _).put 69 _).put 70 _)]
  exact hend (fun d => if d = 50 then .pointer (some ⟨g, 0, none⟩) else if d = 51 then .slice (some ⟨b, o, none⟩) 4 cap else if d = 52 then .int .i64 ((k : Nat) : Int) else if d = 53 then .pointer (some ⟨b, o + k, none⟩) else if d = 54 then .int .i64 x else if d = 55 then .slice (some ⟨b2, o2, none⟩) 5 cap2 else if d = 56 then .int .i64 ((i : Nat) : Int) else if d = 57 then .pointer (some ⟨b2, o2 + i, none⟩) else if d = 58 then .int .i64 y else if d = 59 then .bool true else if d = 60 then .bool true else if d = 61 then undef else if d = 62 then undef else if d = 63 then undef else if d = 64 then undef else if d = 65 then undef else if d = 66 then undef else if d = 67 then undef else if d = 68 then undef else if d = 69 then undef else undef) _ (below_drew w)

set_option maxHeartbeats 2000000 in
set_option maxRecDepth 100000 in
theorem four15B (w : World) (g b o cap b2 o2 cap2 i k : Nat) (q : Value) (x y z : Int) (hi : i < 5) (hk : k < 4) (hg : LfBlk w g (.slice (some ⟨b, o, none⟩) 4 cap) q) (hx : w.cell? ⟨b, o + k, none⟩ = some (.int .i64 x)) (hy : w.cell? ⟨b2, o2 + i, none⟩ = some (.int .i64 y)) (hz : w.cell? ⟨b2, o2 + 4, none⟩ = some (.int .i64 z)) (h0 : ¬ (x = y)) (h1 : x = z)
    {Q : Exit → Act → World → Prop} {A : Act} (hsz : A.tmps.size = 113) (hdf : A.defers = []) (s2 : A.tmps.getD 2 undef = .pointer (some ⟨g, 0, none⟩)) (s5 : A.tmps.getD 5 undef = .slice (some ⟨b2, o2, none⟩) 5 cap2) (s8 : A.tmps.getD 8 undef = .int .i64 ((i : Nat) : Int)) (s9 : A.tmps.getD 9 undef = .int .i64 ((k : Nat) : Int))
    (hend : ∀ (u : Nat → Value) w', Below w.heap.size w w' → Q .normal ((((((((((((((((((((((A).put (some 50) (u 50)).put (some 51) (u 51)).put (some 52) (u 52)).put (some 53) (u 53)).put (some 54) (u 54)).put (some 55) (u 55)).put (some 56) (u 56)).put (some 57) (u 57)).put (some 58) (u 58)).put (some 59) (u 59)).put (some 60) (u 60)).put (some 61) (u 61)).put (some 62) (u 62)).put (some 63) (u 63)).put (some 64) (u 64)).put (some 65) (u 65)).put (some 66) (u 66)).put (some 67) (u 67)).put (some 68) (u 68)).put (some 69) (u 69)).put (some 70) (.bool true)) w') :
    (Code.region 15 (Pl.find 15 ((Try.f7.body).getD .skip)) true).wp Try.prog Q A w := by
  have hA := Pl.At.same (v := .int .i64 ((k : Nat) : Int)) (d := 9) (Pl.At.same (v := .int .i64 ((i : Nat) : Int)) (d := 8) (Pl.At.same (v := .slice (some ⟨b2, o2, none⟩) 5 cap2) (d := 5) (Pl.At.same (v := .pointer (some ⟨g, 0, none⟩)) (d := 2) (Pl.At.here hsz hdf) s2) s5) s8) s9
  refine Pl.H.start (S := (fun w' => Below w.heap.size w w')) (by kernel_rfl) hA (below_drew w) ?_
  rw [show (Pl.find 15 ((Try.f7.body).getD .skip)).size = 21 by kernel_rfl]
  refine Pl.H.take 0 50 (.pointer (some ⟨g, 0, none⟩)) (by kernel_rfl) (by kernel_rfl) (by kernel_rfl) (Pl.free 0 (by kernel_rfl)) (Pl.field 0 25 (.tmp 2) 0 _ (by kernel_rfl) (by decide) (fdLf0 g)) (below_drew w) ?_
  refine Pl.H.take 1 51 (.slice (some ⟨b, o, none⟩) 4 cap) (by kernel_rfl) (by kernel_rfl) (by kernel_rfl) (Pl.free 1 (by kernel_rfl)) (Pl.load 1 22 (.tmp 50) _ (by kernel_rfl) (by decide) (fun w' hS => ldLf0 g ⟨some ⟨b, o, none⟩, 4, cap⟩ q w' (hg.below hS))) (below_drew w) ?_
  refine Pl.H.take 2 52 (.int .i64 ((k : Nat) : Int)) (by kernel_rfl) (by kernel_rfl) (by kernel_rfl) (Pl.free 2 (by kernel_rfl)) (Pl.move 2 (.tmp 9) (by kernel_rfl) (by decide)) (below_drew w) ?_
  refine Pl.H.take 3 53 (.pointer (some ⟨b, o + k, none⟩)) (by kernel_rfl) (by kernel_rfl) (by kernel_rfl) (Pl.free 3 (by kernel_rfl)) (Pl.index 3 22 (.tmp 51) (.tmp 52) _ (by kernel_rfl) (by decide) (by decide) (ixI1 b o 4 cap k hk)) (below_drew w) ?_
  refine Pl.H.take 4 54 (.int .i64 x) (by kernel_rfl) (by kernel_rfl) (by kernel_rfl) (Pl.free 4 (by kernel_rfl)) (Pl.load 4 3 (.tmp 53) _ (by kernel_rfl) (by decide) (fun w' hS => ldI1 b (o + k) x w' (cell_below hx hS))) (below_drew w) ?_
  refine Pl.H.take 5 55 (.slice (some ⟨b2, o2, none⟩) 5 cap2) (by kernel_rfl) (by kernel_rfl) (by kernel_rfl) (Pl.free 5 (by kernel_rfl)) (Pl.move 5 (.tmp 5) (by kernel_rfl) (by decide)) (below_drew w) ?_
  refine Pl.H.take 6 56 (.int .i64 ((i : Nat) : Int)) (by kernel_rfl) (by kernel_rfl) (by kernel_rfl) (Pl.free 6 (by kernel_rfl)) (Pl.move 6 (.tmp 8) (by kernel_rfl) (by decide)) (below_drew w) ?_
  refine Pl.H.take 7 57 (.pointer (some ⟨b2, o2 + i, none⟩)) (by kernel_rfl) (by kernel_rfl) (by kernel_rfl) (Pl.free 7 (by kernel_rfl)) (Pl.index 7 22 (.tmp 55) (.tmp 56) _ (by kernel_rfl) (by decide) (by decide) (ixI1 b2 o2 5 cap2 i hi)) (below_drew w) ?_
  refine Pl.H.take 8 58 (.int .i64 y) (by kernel_rfl) (by kernel_rfl) (by kernel_rfl) (Pl.free 8 (by kernel_rfl)) (Pl.load 8 3 (.tmp 57) _ (by kernel_rfl) (by decide) (fun w' hS => ldI1 b2 (o2 + i) y w' (cell_below hy hS))) (below_drew w) ?_
  refine Pl.H.take 9 59 (.bool false) (by kernel_rfl) (by kernel_rfl) (by kernel_rfl) (Pl.free 9 (by kernel_rfl)) (Pl.binV 9 .eql 3 3 (.tmp 54) (.tmp 58) (.int .i64 x) (.int .i64 y) _ (by kernel_rfl) (by decide) (by decide) rfl rfl (eqlF x y _ _ h0)) (below_drew w) ?_
  refine Pl.H.take 10 60 (.bool false) (by kernel_rfl) (by kernel_rfl) (by kernel_rfl) (Pl.free 10 (by kernel_rfl)) (Pl.move 10 (.tmp 59) (by kernel_rfl) (by decide)) (below_drew w) ?_
  refine Pl.H.take 11 61 (.pointer (some ⟨g, 0, none⟩)) (by kernel_rfl) (by kernel_rfl) (by kernel_rfl) (Pl.guarded 11 10 60 false (by kernel_rfl) (by kernel_rfl) (by decide) rfl) (Pl.field 11 25 (.tmp 2) 0 _ (by kernel_rfl) (by decide) (fdLf0 g)) (below_drew w) ?_
  refine Pl.H.take 12 62 (.slice (some ⟨b, o, none⟩) 4 cap) (by kernel_rfl) (by kernel_rfl) (by kernel_rfl) (Pl.guarded 12 10 60 false (by kernel_rfl) (by kernel_rfl) (by decide) rfl) (Pl.load 12 22 (.tmp 61) _ (by kernel_rfl) (by decide) (fun w' hS => ldLf0 g ⟨some ⟨b, o, none⟩, 4, cap⟩ q w' (hg.below hS))) (below_drew w) ?_
  refine Pl.H.take 13 63 (.int .i64 ((k : Nat) : Int)) (by kernel_rfl) (by kernel_rfl) (by kernel_rfl) (Pl.guarded 13 10 60 false (by kernel_rfl) (by kernel_rfl) (by decide) rfl) (Pl.move 13 (.tmp 9) (by kernel_rfl) (by decide)) (below_drew w) ?_
  refine Pl.H.take 14 64 (.pointer (some ⟨b, o + k, none⟩)) (by kernel_rfl) (by kernel_rfl) (by kernel_rfl) (Pl.guarded 14 10 60 false (by kernel_rfl) (by kernel_rfl) (by decide) rfl) (Pl.index 14 22 (.tmp 62) (.tmp 63) _ (by kernel_rfl) (by decide) (by decide) (ixI1 b o 4 cap k hk)) (below_drew w) ?_
  refine Pl.H.take 15 65 (.int .i64 x) (by kernel_rfl) (by kernel_rfl) (by kernel_rfl) (Pl.guarded 15 10 60 false (by kernel_rfl) (by kernel_rfl) (by decide) rfl) (Pl.load 15 3 (.tmp 64) _ (by kernel_rfl) (by decide) (fun w' hS => ldI1 b (o + k) x w' (cell_below hx hS))) (below_drew w) ?_
  refine Pl.H.take 16 66 (.slice (some ⟨b2, o2, none⟩) 5 cap2) (by kernel_rfl) (by kernel_rfl) (by kernel_rfl) (Pl.guarded 16 10 60 false (by kernel_rfl) (by kernel_rfl) (by decide) rfl) (Pl.move 16 (.tmp 5) (by kernel_rfl) (by decide)) (below_drew w) ?_
  refine Pl.H.take 17 67 (.pointer (some ⟨b2, o2 + 4, none⟩)) (by kernel_rfl) (by kernel_rfl) (by kernel_rfl) (Pl.guarded 17 10 60 false (by kernel_rfl) (by kernel_rfl) (by decide) rfl) (Pl.index 17 22 (.tmp 66) (.const (.int .i64 4)) _ (by kernel_rfl) (by decide) (by decide) (ixI1 b2 o2 5 cap2 4 (by decide))) (below_drew w) ?_
  refine Pl.H.take 18 68 (.int .i64 z) (by kernel_rfl) (by kernel_rfl) (by kernel_rfl) (Pl.guarded 18 10 60 false (by kernel_rfl) (by kernel_rfl) (by decide) rfl) (Pl.load 18 3 (.tmp 67) _ (by kernel_rfl) (by decide) (fun w' hS => ldI1 b2 (o2 + 4) z w' (cell_below hz hS))) (below_drew w) ?_
  refine Pl.H.take 19 69 (.bool true) (by kernel_rfl) (by kernel_rfl) (by kernel_rfl) (Pl.guarded 19 10 60 false (by kernel_rfl) (by kernel_rfl) (by decide) rfl) (Pl.binV 19 .eql 3 3 (.tmp 65) (.tmp 68) (.int .i64 x) (.int .i64 z) _ (by kernel_rfl) (by decide) (by decide) rfl rfl (eqlT x z _ _ h1)) (below_drew w) ?_
  refine Pl.H.take 20 70 (.bool true) (by kernel_rfl) (by kernel_rfl) (by kernel_rfl) (Pl.free 20 (by kernel_rfl)) (Pl.pickF 20 (.tmp 60) (.const (.bool true)) (.tmp 69) (by kernel_rfl) (by decide) (by decide) rfl) (below_drew w) ?_
  refine Pl.H.done (by kernel_rfl) (fun A' hA' => ?_)
  rw [Pl.At.ext hA' (((((((((((((((((((((hA.put 50 _).put 51 _).put 52 _).put 53 _).put 54 _).put 55 _).put 56 _).put 57 _).put 58 _).put 59 _).put 60 _).put 61 _).put 62 _).put 63 _).put 64 _).put 65 _).put 66 _).put 67 _).put 68 _).put 69 _).put 70 _)]
  exact hend (fun d => if d = 50 then .pointer (some ⟨g, 0, none⟩) else if d = 51 then .slice (some ⟨b, o, none⟩) 4 cap else if d = 52 then .int .i64 ((k : Nat) : Int) else if d = 53 then .pointer (some ⟨b, o + k, none⟩) else if d = 54 then .int .i64 x else if d = 55 then .slice (some ⟨b2, o2, none⟩) 5 cap2 else if d = 56 then .int .i64 ((i : Nat) : Int) else if d = 57 then .pointer (some ⟨b2, o2 + i, none⟩) else if d = 58 then .int .i64 y else if d = 59 then .bool false else if d = 60 then .bool false else if d = 61 then .pointer (some ⟨g, 0, none⟩) else if d = 62 then .slice (some ⟨b, o, none⟩) 4 cap else if d = 63 then .int .i64 ((k : Nat) : Int) else if d = 64 then .pointer (some ⟨b, o + k, none⟩) else if d = 65 then .int .i64 x else if d = 66 then .slice (some ⟨b2, o2, none⟩) 5 cap2 else if d = 67 then .pointer (some ⟨b2, o2 + 4, none⟩) else if d = 68 then .int .i64 z else if d = 69 then .bool true else undef) _ (below_drew w)

set_option maxHeartbeats 2000000 in
set_option maxRecDepth 100000 in
theorem four15C (w : World) (g b o cap b2 o2 cap2 i k : Nat) (q : Value) (x y z : Int) (hi : i < 5) (hk : k < 4) (hg : LfBlk w g (.slice (some ⟨b, o, none⟩) 4 cap) q) (hx : w.cell? ⟨b, o + k, none⟩ = some (.int .i64 x)) (hy : w.cell? ⟨b2, o2 + i, none⟩ = some (.int .i64 y)) (hz : w.cell? ⟨b2, o2 + 4, none⟩ = some (.int .i64 z)) (h0 : ¬ (x = y)) (h1 : ¬ (x = z))
    {Q : Exit → Act → World → Prop} {A : Act} (hsz : A.tmps.size = 113) (hdf : A.defers = []) (s2 : A.tmps.getD 2 undef = .pointer (some ⟨g, 0, none⟩)) (s5 : A.tmps.getD 5 undef = .slice (some ⟨b2, o2, none⟩) 5 cap2) (s8 : A.tmps.getD 8 undef = .int .i64 ((i : Nat) : Int)) (s9 : A.tmps.getD 9 undef = .int .i64 ((k : Nat) : Int))
    (hend : ∀ (u : Nat → Value) w', Below w.heap.size w w' → Q .normal ((((((((((((((((((((((A).put (some 50) (u 50)).put (some 51) (u 51)).put (some 52) (u 52)).put (some 53) (u 53)).put (some 54) (u 54)).put (some 55) (u 55)).put (some 56) (u 56)).put (some 57) (u 57)).put (some 58) (u 58)).put (some 59) (u 59)).put (some 60) (u 60)).put (some 61) (u 61)).put (some 62) (u 62)).put (some 63) (u 63)).put (some 64) (u 64)).put (some 65) (u 65)).put (some 66) (u 66)).put (some 67) (u 67)).put (some 68) (u 68)).put (some 69) (u 69)).put (some 70) (.bool false)) w') :
    (Code.region 15 (Pl.find 15 ((Try.f7.body).getD .skip)) true).wp Try.prog Q A w := by
  have hA := Pl.At.same (v := .int .i64 ((k : Nat) : Int)) (d := 9) (Pl.At.same (v := .int .i64 ((i : Nat) : Int)) (d := 8) (Pl.At.same (v := .slice (some ⟨b2, o2, none⟩) 5 cap2) (d := 5) (Pl.At.same (v := .pointer (some ⟨g, 0, none⟩)) (d := 2) (Pl.At.here hsz hdf) s2) s5) s8) s9
  refine Pl.H.start (S := (fun w' => Below w.heap.size w w')) (by kernel_rfl) hA (below_drew w) ?_
  rw [show (Pl.find 15 ((Try.f7.body).getD .skip)).size = 21 by kernel_rfl]
  refine Pl.H.take 0 50 (.pointer (some ⟨g, 0, none⟩)) (by kernel_rfl) (by kernel_rfl) (by kernel_rfl) (Pl.free 0 (by kernel_rfl)) (Pl.field 0 25 (.tmp 2) 0 _ (by kernel_rfl) (by decide) (fdLf0 g)) (below_drew w) ?_
  refine Pl.H.take 1 51 (.slice (some ⟨b, o, none⟩) 4 cap) (by kernel_rfl) (by kernel_rfl) (by kernel_rfl) (Pl.free 1 (by kernel_rfl)) (Pl.load 1 22 (.tmp 50) _ (by kernel_rfl) (by decide) (fun w' hS => ldLf0 g ⟨some ⟨b, o, none⟩, 4, cap⟩ q w' (hg.below hS))) (below_drew w) ?_
  refine Pl.H.take 2 52 (.int .i64 ((k : Nat) : Int)) (by kernel_rfl) (by kernel_rfl) (by kernel_rfl) (Pl.free 2 (by kernel_rfl)) (Pl.move 2 (.tmp 9) (by kernel_rfl) (by decide)) (below_drew w) ?_
  refine Pl.H.take 3 53 (.pointer (some ⟨b, o + k, none⟩)) (by kernel_rfl) (by kernel_rfl) (by kernel_rfl) (Pl.free 3 (by kernel_rfl)) (Pl.index 3 22 (.tmp 51) (.tmp 52) _ (by kernel_rfl) (by decide) (by decide) (ixI1 b o 4 cap k hk)) (below_drew w) ?_
  refine Pl.H.take 4 54 (.int .i64 x) (by kernel_rfl) (by kernel_rfl) (by kernel_rfl) (Pl.free 4 (by kernel_rfl)) (Pl.load 4 3 (.tmp 53) _ (by kernel_rfl) (by decide) (fun w' hS => ldI1 b (o + k) x w' (cell_below hx hS))) (below_drew w) ?_
  refine Pl.H.take 5 55 (.slice (some ⟨b2, o2, none⟩) 5 cap2) (by kernel_rfl) (by kernel_rfl) (by kernel_rfl) (Pl.free 5 (by kernel_rfl)) (Pl.move 5 (.tmp 5) (by kernel_rfl) (by decide)) (below_drew w) ?_
  refine Pl.H.take 6 56 (.int .i64 ((i : Nat) : Int)) (by kernel_rfl) (by kernel_rfl) (by kernel_rfl) (Pl.free 6 (by kernel_rfl)) (Pl.move 6 (.tmp 8) (by kernel_rfl) (by decide)) (below_drew w) ?_
  refine Pl.H.take 7 57 (.pointer (some ⟨b2, o2 + i, none⟩)) (by kernel_rfl) (by kernel_rfl) (by kernel_rfl) (Pl.free 7 (by kernel_rfl)) (Pl.index 7 22 (.tmp 55) (.tmp 56) _ (by kernel_rfl) (by decide) (by decide) (ixI1 b2 o2 5 cap2 i hi)) (below_drew w) ?_
  refine Pl.H.take 8 58 (.int .i64 y) (by kernel_rfl) (by kernel_rfl) (by kernel_rfl) (Pl.free 8 (by kernel_rfl)) (Pl.load 8 3 (.tmp 57) _ (by kernel_rfl) (by decide) (fun w' hS => ldI1 b2 (o2 + i) y w' (cell_below hy hS))) (below_drew w) ?_
  refine Pl.H.take 9 59 (.bool false) (by kernel_rfl) (by kernel_rfl) (by kernel_rfl) (Pl.free 9 (by kernel_rfl)) (Pl.binV 9 .eql 3 3 (.tmp 54) (.tmp 58) (.int .i64 x) (.int .i64 y) _ (by kernel_rfl) (by decide) (by decide) rfl rfl (eqlF x y _ _ h0)) (below_drew w) ?_
  refine Pl.H.take 10 60 (.bool false) (by kernel_rfl) (by kernel_rfl) (by kernel_rfl) (Pl.free 10 (by kernel_rfl)) (Pl.move 10 (.tmp 59) (by kernel_rfl) (by decide)) (below_drew w) ?_
  refine Pl.H.take 11 61 (.pointer (some ⟨g, 0, none⟩)) (by kernel_rfl) (by kernel_rfl) (by kernel_rfl) (Pl.guarded 11 10 60 false (by kernel_rfl) (by kernel_rfl) (by decide) rfl) (Pl.field 11 25 (.tmp 2) 0 _ (by kernel_rfl) (by decide) (fdLf0 g)) (below_drew w) ?_
  refine Pl.H.take 12 62 (.slice (some ⟨b, o, none⟩) 4 cap) (by kernel_rfl) (by kernel_rfl) (by kernel_rfl) (Pl.guarded 12 10 60 false (by kernel_rfl) (by kernel_rfl) (by decide) rfl) (Pl.load 12 22 (.tmp 61) _ (by kernel_rfl) (by decide) (fun w' hS => ldLf0 g ⟨some ⟨b, o, none⟩, 4, cap⟩ q w' (hg.below hS))) (below_drew w) ?_
  refine Pl.H.take 13 63 (.int .i64 ((k : Nat) : Int)) (by kernel_rfl) (by kernel_rfl) (by kernel_rfl) (Pl.guarded 13 10 60 false (by kernel_rfl) (by kernel_rfl) (by decide) rfl) (Pl.move 13 (.tmp 9) (by kernel_rfl) (by decide)) (below_drew w) ?_
  refine Pl.H.take 14 64 (.pointer (some ⟨b, o + k, none⟩)) (by kernel_rfl) (by kernel_rfl) (by kernel_rfl) (Pl.guarded 14 10 60 false (by kernel_rfl) (by kernel_rfl) (by decide) rfl) (Pl.index 14 22 (.tmp 62) (.tmp 63) _ (by kernel_rfl) (by decide) (by decide) (ixI1 b o 4 cap k hk)) (below_drew w) ?_
  refine Pl.H.take 15 65 (.int .i64 x) (by kernel_rfl) (by kernel_rfl) (by kernel_rfl) (Pl.guarded 15 10 60 false (by kernel_rfl) (by kernel_rfl) (by decide) rfl) (Pl.load 15 3 (.tmp 64) _ (by kernel_rfl) (by decide) (fun w' hS => ldI1 b (o + k) x w' (cell_below hx hS))) (below_drew w) ?_
  refine Pl.H.take 16 66 (.slice (some ⟨b2, o2, none⟩) 5 cap2) (by kernel_rfl) (by kernel_rfl) (by kernel_rfl) (Pl.guarded 16 10 60 false (by kernel_rfl) (by kernel_rfl) (by decide) rfl) (Pl.move 16 (.tmp 5) (by kernel_rfl) (by decide)) (below_drew w) ?_
  refine Pl.H.take 17 67 (.pointer (some ⟨b2, o2 + 4, none⟩)) (by kernel_rfl) (by kernel_rfl) (by kernel_rfl) (Pl.guarded 17 10 60 false (by kernel_rfl) (by kernel_rfl) (by decide) rfl) (Pl.index 17 22 (.tmp 66) (.const (.int .i64 4)) _ (by kernel_rfl) (by decide) (by decide) (ixI1 b2 o2 5 cap2 4 (by decide))) (below_drew w) ?_
  refine Pl.H.take 18 68 (.int .i64 z) (by kernel_rfl) (by kernel_rfl) (by kernel_rfl) (Pl.guarded 18 10 60 false (by kernel_rfl) (by kernel_rfl) (by decide) rfl) (Pl.load 18 3 (.tmp 67) _ (by kernel_rfl) (by decide) (fun w' hS => ldI1 b2 (o2 + 4) z w' (cell_below hz hS))) (below_drew w) ?_
  refine Pl.H.take 19 69 (.bool false) (by kernel_rfl) (by kernel_rfl) (by kernel_rfl) (Pl.guarded 19 10 60 false (by kernel_rfl) (by kernel_rfl) (by decide) rfl) (Pl.binV 19 .eql 3 3 (.tmp 65) (.tmp 68) (.int .i64 x) (.int .i64 z) _ (by kernel_rfl) (by decide) (by decide) rfl rfl (eqlF x z _ _ h1)) (below_drew w) ?_
  refine Pl.H.take 20 70 (.bool false) (by kernel_rfl) (by kernel_rfl) (by kernel_rfl) (Pl.free 20 (by kernel_rfl)) (Pl.pickF 20 (.tmp 60) (.const (.bool true)) (.tmp 69) (by kernel_rfl) (by decide) (by decide) rfl) (below_drew w) ?_
  refine Pl.H.done (by kernel_rfl) (fun A' hA' => ?_)
  rw [Pl.At.ext hA' (((((((((((((((((((((hA.put 50 _).put 51 _).put 52 _).put 53 _).put 54 _).put 55 _).put 56 _).put 57 _).put 58 _).put 59 _).put 60 _).put 61 _).put 62 _).put 63 _).put 64 _).put 65 _).put 66 _).put 67 _).put 68 _).put 69 _).put 70 _)]
  exact hend (fun d => if d = 50 then .pointer (some ⟨g, 0, none⟩) else if d = 51 then .slice (some ⟨b, o, none⟩) 4 cap else if d = 52 then .int .i64 ((k : Nat) : Int) else if d = 53 then .pointer (some ⟨b, o + k, none⟩) else if d = 54 then .int .i64 x else if d = 55 then .slice (some ⟨b2, o2, none⟩) 5 cap2 else if d = 56 then .int .i64 ((i : Nat) : Int) else if d = 57 then .pointer (some ⟨b2, o2 + i, none⟩) else if d = 58 then .int .i64 y else if d = 59 then .bool false else if d = 60 then .bool false else if d = 61 then .pointer (some ⟨g, 0, none⟩) else if d = 62 then .slice (some ⟨b, o, none⟩) 4 cap else if d = 63 then .int .i64 ((k : Nat) : Int) else if d = 64 then .pointer (some ⟨b, o + k, none⟩) else if d = 65 then .int .i64 x else if d = 66 then .slice (some ⟨b2, o2, none⟩) 5 cap2 else if d = 67 then .pointer (some ⟨b2, o2 + 4, none⟩) else if d = 68 then .int .i64 z else if d = 69 then .bool false else undef) _ (below_drew w)

set_option maxHeartbeats 2000000 in
set_option maxRecDepth 100000 in
theorem four17 (w : World) (g b2 o2 cap2 i : Nat) (u v : Sl) (y c : Int) (t' : List Int) (s' : List (List Nat)) (hi : i < 5) (hg : LfBlk w g u.val v.val) (hy : w.cell? ⟨b2, o2 + i, none⟩ = some (.int .i64 y)) (hJ : ∀ W, Below w.heap.size w W → Calls Try.prog 19 #[lfV u v, .int .i64 y, .slice (some ⟨b2, o2, none⟩) 5 cap2] W fun e w' => Told W t' s' (mk2 c) e w')
    {Q : Exit → Act → World → Prop} {A : Act} (hsz : A.tmps.size = 113) (hdf : A.defers = []) (s5 : A.tmps.getD 5 undef = .slice (some ⟨b2, o2, none⟩) 5 cap2) (s7 : A.tmps.getD 7 undef = .pointer (some ⟨g, 0, none⟩)) (s8 : A.tmps.getD 8 undef = .int .i64 ((i : Nat) : Int))
    (hend : ∀ (u : Nat → Value) w' (g1 : Nat) (a2 : Option Addr) (n2 d2 : Nat) (a5 : Option Addr) (n5 d5 : Nat) (l2 : List Sb), Bx w w' g1 ⟨a2, n2, d2⟩ ⟨a5, n5, d5⟩ t' l2 ∧ bss l2 = s' ∧ Gi (fun k => w.heap.size ≤ k) w' ⟨a2, n2, d2⟩ t' ∧ Gb (fun k => w.heap.size ≤ k) w' ⟨a5, n5, d5⟩ l2 → Q .normal (((((((((((((A).put (some 73) (u 73)).put (some 74) (u 74)).put (some 75) (u 75)).put (some 76) (u 76)).put (some 77) (u 77)).put (some 78) (u 78)).put (some 79) (u 79)).put (some 72) (u 72)).put (some 80) (u 80)).put (some 81) (u 81)).put (some 10) (.pointer (some ⟨g1, 0, none⟩))).put (some 11) (.int .i64 c)) w') :
    (Code.region 17 (Pl.find 17 ((Try.f7.body).getD .skip)) true).wp Try.prog Q A w := by
  have hA := Pl.At.same (v := .int .i64 ((i : Nat) : Int)) (d := 8) (Pl.At.same (v := .pointer (some ⟨g, 0, none⟩)) (d := 7) (Pl.At.same (v := .slice (some ⟨b2, o2, none⟩) 5 cap2) (d := 5) (Pl.At.here hsz hdf) s5) s7) s8
  refine Pl.H.start (S := (fun w' => Below w.heap.size w w')) (by kernel_rfl) hA (below_drew w) ?_
  rw [show (Pl.find 17 ((Try.f7.body).getD .skip)).size = 13 by kernel_rfl]
  refine Pl.H.take 0 73 (lfV u v) (by kernel_rfl) (by kernel_rfl) (by kernel_rfl) (Pl.free 0 (by kernel_rfl)) (Pl.load 0 25 (.tmp 7) _ (by kernel_rfl) (by decide) (fun w' hS => ldLf g u v w' (hg.below hS))) (below_drew w) ?_
  refine Pl.H.take 1 74 (.slice (some ⟨b2, o2, none⟩) 5 cap2) (by kernel_rfl) (by kernel_rfl) (by kernel_rfl) (Pl.free 1 (by kernel_rfl)) (Pl.move 1 (.tmp 5) (by kernel_rfl) (by decide)) (below_drew w) ?_
  refine Pl.H.take 2 75 (.int .i64 ((i : Nat) : Int)) (by kernel_rfl) (by kernel_rfl) (by kernel_rfl) (Pl.free 2 (by kernel_rfl)) (Pl.move 2 (.tmp 8) (by kernel_rfl) (by decide)) (below_drew w) ?_
  refine Pl.H.take 3 76 (.pointer (some ⟨b2, o2 + i, none⟩)) (by kernel_rfl) (by kernel_rfl) (by kernel_rfl) (Pl.free 3 (by kernel_rfl)) (Pl.index 3 22 (.tmp 74) (.tmp 75) _ (by kernel_rfl) (by decide) (by decide) (ixI1 b2 o2 5 cap2 i hi)) (below_drew w) ?_
  refine Pl.H.take 4 77 (.int .i64 y) (by kernel_rfl) (by kernel_rfl) (by kernel_rfl) (Pl.free 4 (by kernel_rfl)) (Pl.load 4 3 (.tmp 76) _ (by kernel_rfl) (by decide) (fun w' hS => ldI1 b2 (o2 + i) y w' (cell_below hy hS))) (below_drew w) ?_
  refine Pl.H.take 5 78 (.slice (some ⟨b2, o2, none⟩) 5 cap2) (by kernel_rfl) (by kernel_rfl) (by kernel_rfl) (Pl.free 5 (by kernel_rfl)) (Pl.move 5 (.tmp 5) (by kernel_rfl) (by decide)) (below_drew w) ?_
  refine Pl.H.two 6 10 (by kernel_rfl) ?_ ?_
  · refine Pl.HOp.call 6 79 19 [(.tmp 73), (.tmp 77), (.tmp 78)] #[25, 3, 22] (by kernel_rfl) (by kernel_rfl) (by kernel_rfl) (by kernel_rfl) (by decide) entJoin (Calls.mono (hJ w.drew (below_drew w)) ?_)
    rintro e w1 td
    have hb1 := td.1
    obtain ⟨a2, n2, d2, a5, n5, d5, l2, W3, rfl, hst3, bx3, hbs3, gi3, gb3⟩ := start_box (below_drew w) td
    have e1 := rBelow (below_drew w) hb1
    refine ⟨.tuple #[lfV ⟨a2, n2, d2⟩ ⟨a5, n5, d5⟩, .int .i64 c], rfl, e1, ?_⟩
    refine Pl.H.take 7 72 (.tuple #[lfV ⟨a2, n2, d2⟩ ⟨a5, n5, d5⟩, .int .i64 c]) (by kernel_rfl) (by kernel_rfl) (by kernel_rfl) (Pl.free 7 (by kernel_rfl)) (Pl.move 7 (.tmp 79) (by kernel_rfl) (by decide)) e1 ?_
    refine Pl.H.take 8 80 (lfV ⟨a2, n2, d2⟩ ⟨a5, n5, d5⟩) (by kernel_rfl) (by kernel_rfl) (by kernel_rfl) (Pl.free 8 (by kernel_rfl)) (Pl.extr 8 (.tmp 72) 0 _ (by kernel_rfl) (by decide) (fun _ => rfl)) e1 ?_
    refine Pl.H.take 9 81 (.int .i64 c) (by kernel_rfl) (by kernel_rfl) (by kernel_rfl) (Pl.free 9 (by kernel_rfl)) (Pl.extr 9 (.tmp 72) 1 _ (by kernel_rfl) (by decide) (fun _ => rfl)) e1 ?_
    have ea := rBelow e1 (below_alloc w1 (.cells #[.slice none 0 0, .slice none 0 0] 25))
    refine Pl.H.make 10 10 (.pointer (some ⟨w1.heap.size, 0, none⟩)) (w1.alloc (.cells #[.slice none 0 0, .slice none 0 0] 25)) (by kernel_rfl) (by kernel_rfl) (by kernel_rfl) (Pl.free 10 (by kernel_rfl)) (Pl.allocV 10 25 _ _ (by kernel_rfl) (alloc_lf w1)) ea ?_
    have sz3 : w.heap.size ≤ w.drew.heap.size := Nat.le_refl _
    refine Pl.H.store 11 W3 (by kernel_rfl) (by kernel_rfl) (by kernel_rfl) (Pl.free 11 (by kernel_rfl)) (Pl.storeV 11 25 (.tmp 10) (.tmp 80) _ (by kernel_rfl) (by decide) (by decide) hst3) bx3.e ?_
    refine Pl.H.take 12 11 (.int .i64 c) (by kernel_rfl) (by kernel_rfl) (by kernel_rfl) (Pl.free 12 (by kernel_rfl)) (Pl.assign 12 (.tmp 81) (by kernel_rfl) (by decide)) bx3.e ?_
    refine Pl.H.done (by kernel_rfl) (fun A' hA' => ?_)
    rw [Pl.At.ext hA' ((((((((((((hA.put 73 _).put 74 _).put 75 _).put 76 _).put 77 _).put 78 _).put 79 _).put 72 _).put 80 _).put 81 _).put 10 _).put 11 _)]
    exact hend (fun d => if d = 73 then lfV u v else if d = 74 then .slice (some ⟨b2, o2, none⟩) 5 cap2 else if d = 75 then .int .i64 ((i : Nat) : Int) else if d = 76 then .pointer (some ⟨b2, o2 + i, none⟩) else if d = 77 then .int .i64 y else if d = 78 then .slice (some ⟨b2, o2, none⟩) 5 cap2 else if d = 79 then .tuple #[lfV ⟨a2, n2, d2⟩ ⟨a5, n5, d5⟩, .int .i64 c] else if d = 72 then .tuple #[lfV ⟨a2, n2, d2⟩ ⟨a5, n5, d5⟩, .int .i64 c] else if d = 80 then lfV ⟨a2, n2, d2⟩ ⟨a5, n5, d5⟩ else if d = 81 then .int .i64 c else undef) _ _ a2 n2 d2 a5 n5 d5 l2 ⟨bx3, hbs3, gi3.wide (fun k hk => Nat.le_trans sz3 hk), gb3.wide (fun k hk => Nat.le_trans sz3 hk)⟩
  · have ea := rBelow (below_drew w) (below_alloc w.drew (.cells #[.slice none 0 0, .slice none 0 0] 25))
    have ka := lfBlk_new w.drew (.slice none 0 0) (.slice none 0 0)
    refine Pl.HOp.value 10 10 (.pointer (some ⟨w.drew.heap.size, 0, none⟩)) (w.drew.alloc (.cells #[.slice none 0 0, .slice none 0 0] 25)) (by kernel_rfl) (by kernel_rfl) (by kernel_rfl) (Pl.allocV 10 25 _ _ (by kernel_rfl) (alloc_lf w.drew)) ea ?_
    refine Pl.H.call 6 79 19 [(.tmp 73), (.tmp 77), (.tmp 78)] #[25, 3, 22] (by kernel_rfl) (by kernel_rfl) (by kernel_rfl) (Pl.free 6 (by kernel_rfl)) (by kernel_rfl) (by decide) entJoin (Calls.mono (hJ (w.drew.alloc (.cells #[.slice none 0 0, .slice none 0 0] 25)) ea) ?_)
    rintro e w1 td
    have hb1 := td.1
    obtain ⟨a2, n2, d2, a5, n5, d5, l2, W3, rfl, hst3, bx3, hbs3, gi3, gb3⟩ := lay_box ka ea (below_drew w).size td
    have e1 := rBelow ea hb1
    refine ⟨.tuple #[lfV ⟨a2, n2, d2⟩ ⟨a5, n5, d5⟩, .int .i64 c], rfl, e1, ?_⟩
    rw [Pl.upd_comm _ 10 79 _ _ (by decide)]
    refine Pl.H.take 7 72 (.tuple #[lfV ⟨a2, n2, d2⟩ ⟨a5, n5, d5⟩, .int .i64 c]) (by kernel_rfl) (by kernel_rfl) (by kernel_rfl) (Pl.free 7 (by kernel_rfl)) (Pl.move 7 (.tmp 79) (by kernel_rfl) (by decide)) e1 ?_
    rw [Pl.upd_comm _ 10 72 _ _ (by decide)]
    refine Pl.H.take 8 80 (lfV ⟨a2, n2, d2⟩ ⟨a5, n5, d5⟩) (by kernel_rfl) (by kernel_rfl) (by kernel_rfl) (Pl.free 8 (by kernel_rfl)) (Pl.extr 8 (.tmp 72) 0 _ (by kernel_rfl) (by decide) (fun _ => rfl)) e1 ?_
    rw [Pl.upd_comm _ 10 80 _ _ (by decide)]
    refine Pl.H.take 9 81 (.int .i64 c) (by kernel_rfl) (by kernel_rfl) (by kernel_rfl) (Pl.free 9 (by kernel_rfl)) (Pl.extr 9 (.tmp 72) 1 _ (by kernel_rfl) (by decide) (fun _ => rfl)) e1 ?_
    rw [Pl.upd_comm _ 10 81 _ _ (by decide)]
    have sz3 := ea.size
    refine Pl.H.store 11 W3 (by kernel_rfl) (by kernel_rfl) (by kernel_rfl) (Pl.free 11 (by kernel_rfl)) (Pl.storeV 11 25 (.tmp 10) (.tmp 80) _ (by kernel_rfl) (by decide) (by decide) hst3) bx3.e ?_
    refine Pl.H.take 12 11 (.int .i64 c) (by kernel_rfl) (by kernel_rfl) (by kernel_rfl) (Pl.free 12 (by kernel_rfl)) (Pl.assign 12 (.tmp 81) (by kernel_rfl) (by decide)) bx3.e ?_
    refine Pl.H.done (by kernel_rfl) (fun A' hA' => ?_)
    rw [Pl.At.ext hA' ((((((((((((hA.put 73 _).put 74 _).put 75 _).put 76 _).put 77 _).put 78 _).put 79 _).put 72 _).put 80 _).put 81 _).put 10 _).put 11 _)]
    exact hend (fun d => if d = 73 then lfV u v else if d = 74 then .slice (some ⟨b2, o2, none⟩) 5 cap2 else if d = 75 then .int .i64 ((i : Nat) : Int) else if d = 76 then .pointer (some ⟨b2, o2 + i, none⟩) else if d = 77 then .int .i64 y else if d = 78 then .slice (some ⟨b2, o2, none⟩) 5 cap2 else if d = 79 then .tuple #[lfV ⟨a2, n2, d2⟩ ⟨a5, n5, d5⟩, .int .i64 c] else if d = 72 then .tuple #[lfV ⟨a2, n2, d2⟩ ⟨a5, n5, d5⟩, .int .i64 c] else if d = 80 then lfV ⟨a2, n2, d2⟩ ⟨a5, n5, d5⟩ else if d = 81 then .int .i64 c else undef) _ _ a2 n2 d2 a5 n5 d5 l2 ⟨bx3, hbs3, gi3.wide (fun k hk => Nat.le_trans sz3 hk), gb3.wide (fun k hk => Nat.le_trans sz3 hk)⟩

set_option maxHeartbeats 2000000 in
set_option maxRecDepth 100000 in
theorem four21 (w : World) (g b2 o2 cap2 : Nat) (u v : Sl) (y c : Int) (t' : List Int) (s' : List (List Nat)) (hg : LfBlk w g u.val v.val) (hy : w.cell? ⟨b2, o2 + 4, none⟩ = some (.int .i64 y)) (hJ : ∀ W, Below w.heap.size w W → Calls Try.prog 19 #[lfV u v, .int .i64 y, .slice (some ⟨b2, o2, none⟩) 5 cap2] W fun e w' => Told W t' s' (mk2 c) e w')
    {Q : Exit → Act → World → Prop} {A : Act} (hsz : A.tmps.size = 113) (hdf : A.defers = []) (s5 : A.tmps.getD 5 undef = .slice (some ⟨b2, o2, none⟩) 5 cap2) (s7 : A.tmps.getD 7 undef = .pointer (some ⟨g, 0, none⟩))
    (hend : ∀ (u : Nat → Value) w' (g1 : Nat) (a2 : Option Addr) (n2 d2 : Nat) (a5 : Option Addr) (n5 d5 : Nat) (l2 : List Sb), Bx w w' g1 ⟨a2, n2, d2⟩ ⟨a5, n5, d5⟩ t' l2 ∧ bss l2 = s' ∧ Gi (fun k => w.heap.size ≤ k) w' ⟨a2, n2, d2⟩ t' ∧ Gb (fun k => w.heap.size ≤ k) w' ⟨a5, n5, d5⟩ l2 → Q .normal ((((((((((((A).put (some 86) (u 86)).put (some 87) (u 87)).put (some 88) (u 88)).put (some 89) (u 89)).put (some 90) (u 90)).put (some 91) (u 91)).put (some 85) (u 85)).put (some 92) (u 92)).put (some 93) (u 93)).put (some 12) (.pointer (some ⟨g1, 0, none⟩))).put (some 13) (.int .i64 c)) w') :
    (Code.region 21 (Pl.find 21 ((Try.f7.body).getD .skip)) true).wp Try.prog Q A w := by
  have hA := Pl.At.same (v := .pointer (some ⟨g, 0, none⟩)) (d := 7) (Pl.At.same (v := .slice (some ⟨b2, o2, none⟩) 5 cap2) (d := 5) (Pl.At.here hsz hdf) s5) s7
  refine Pl.H.start (S := (fun w' => Below w.heap.size w w')) (by kernel_rfl) hA (below_drew w) ?_
  rw [show (Pl.find 21 ((Try.f7.body).getD .skip)).size = 12 by kernel_rfl]
  refine Pl.H.take 0 86 (lfV u v) (by kernel_rfl) (by kernel_rfl) (by kernel_rfl) (Pl.free 0 (by kernel_rfl)) (Pl.load 0 25 (.tmp 7) _ (by kernel_rfl) (by decide) (fun w' hS => ldLf g u v w' (hg.below hS))) (below_drew w) ?_
  refine Pl.H.take 1 87 (.slice (some ⟨b2, o2, none⟩) 5 cap2) (by kernel_rfl) (by kernel_rfl) (by kernel_rfl) (Pl.free 1 (by kernel_rfl)) (Pl.move 1 (.tmp 5) (by kernel_rfl) (by decide)) (below_drew w) ?_
  refine Pl.H.take 2 88 (.pointer (some ⟨b2, o2 + 4, none⟩)) (by kernel_rfl) (by kernel_rfl) (by kernel_rfl) (Pl.free 2 (by kernel_rfl)) (Pl.index 2 22 (.tmp 87) (.const (.int .i64 4)) _ (by kernel_rfl) (by decide) (by decide) (ixI1 b2 o2 5 cap2 4 (by decide))) (below_drew w) ?_
  refine Pl.H.take 3 89 (.int .i64 y) (by kernel_rfl) (by kernel_rfl) (by kernel_rfl) (Pl.free 3 (by kernel_rfl)) (Pl.load 3 3 (.tmp 88) _ (by kernel_rfl) (by decide) (fun w' hS => ldI1 b2 (o2 + 4) y w' (cell_below hy hS))) (below_drew w) ?_
  refine Pl.H.take 4 90 (.slice (some ⟨b2, o2, none⟩) 5 cap2) (by kernel_rfl) (by kernel_rfl) (by kernel_rfl) (Pl.free 4 (by kernel_rfl)) (Pl.move 4 (.tmp 5) (by kernel_rfl) (by decide)) (below_drew w) ?_
  refine Pl.H.two 5 9 (by kernel_rfl) ?_ ?_
  · refine Pl.HOp.call 5 91 19 [(.tmp 86), (.tmp 89), (.tmp 90)] #[25, 3, 22] (by kernel_rfl) (by kernel_rfl) (by kernel_rfl) (by kernel_rfl) (by decide) entJoin (Calls.mono (hJ w.drew (below_drew w)) ?_)
    rintro e w1 td
    have hb1 := td.1
    obtain ⟨a2, n2, d2, a5, n5, d5, l2, W3, rfl, hst3, bx3, hbs3, gi3, gb3⟩ := start_box (below_drew w) td
    have e1 := rBelow (below_drew w) hb1
    refine ⟨.tuple #[lfV ⟨a2, n2, d2⟩ ⟨a5, n5, d5⟩, .int .i64 c], rfl, e1, ?_⟩
    refine Pl.H.take 6 85 (.tuple #[lfV ⟨a2, n2, d2⟩ ⟨a5, n5, d5⟩, .int .i64 c]) (by kernel_rfl) (by kernel_rfl) (by kernel_rfl) (Pl.free 6 (by kernel_rfl)) (Pl.move 6 (.tmp 91) (by kernel_rfl) (by decide)) e1 ?_
    refine Pl.H.take 7 92 (lfV ⟨a2, n2, d2⟩ ⟨a5, n5, d5⟩) (by kernel_rfl) (by kernel_rfl) (by kernel_rfl) (Pl.free 7 (by kernel_rfl)) (Pl.extr 7 (.tmp 85) 0 _ (by kernel_rfl) (by decide) (fun _ => rfl)) e1 ?_
    refine Pl.H.take 8 93 (.int .i64 c) (by kernel_rfl) (by kernel_rfl) (by kernel_rfl) (Pl.free 8 (by kernel_rfl)) (Pl.extr 8 (.tmp 85) 1 _ (by kernel_rfl) (by decide) (fun _ => rfl)) e1 ?_
    have ea := rBelow e1 (below_alloc w1 (.cells #[.slice none 0 0, .slice none 0 0] 25))
    refine Pl.H.make 9 12 (.pointer (some ⟨w1.heap.size, 0, none⟩)) (w1.alloc (.cells #[.slice none 0 0, .slice none 0 0] 25)) (by kernel_rfl) (by kernel_rfl) (by kernel_rfl) (Pl.free 9 (by kernel_rfl)) (Pl.allocV 9 25 _ _ (by kernel_rfl) (alloc_lf w1)) ea ?_
    have sz3 : w.heap.size ≤ w.drew.heap.size := Nat.le_refl _
    refine Pl.H.store 10 W3 (by kernel_rfl) (by kernel_rfl) (by kernel_rfl) (Pl.free 10 (by kernel_rfl)) (Pl.storeV 10 25 (.tmp 12) (.tmp 92) _ (by kernel_rfl) (by decide) (by decide) hst3) bx3.e ?_
    refine Pl.H.take 11 13 (.int .i64 c) (by kernel_rfl) (by kernel_rfl) (by kernel_rfl) (Pl.free 11 (by kernel_rfl)) (Pl.assign 11 (.tmp 93) (by kernel_rfl) (by decide)) bx3.e ?_
    refine Pl.H.done (by kernel_rfl) (fun A' hA' => ?_)
    rw [Pl.At.ext hA' (((((((((((hA.put 86 _).put 87 _).put 88 _).put 89 _).put 90 _).put 91 _).put 85 _).put 92 _).put 93 _).put 12 _).put 13 _)]
    exact hend (fun d => if d = 86 then lfV u v else if d = 87 then .slice (some ⟨b2, o2, none⟩) 5 cap2 else if d = 88 then .pointer (some ⟨b2, o2 + 4, none⟩) else if d = 89 then .int .i64 y else if d = 90 then .slice (some ⟨b2, o2, none⟩) 5 cap2 else if d = 91 then .tuple #[lfV ⟨a2, n2, d2⟩ ⟨a5, n5, d5⟩, .int .i64 c] else if d = 85 then .tuple #[lfV ⟨a2, n2, d2⟩ ⟨a5, n5, d5⟩, .int .i64 c] else if d = 92 then lfV ⟨a2, n2, d2⟩ ⟨a5, n5, d5⟩ else if d = 93 then .int .i64 c else undef) _ _ a2 n2 d2 a5 n5 d5 l2 ⟨bx3, hbs3, gi3.wide (fun k hk => Nat.le_trans sz3 hk), gb3.wide (fun k hk => Nat.le_trans sz3 hk)⟩
  · have ea := rBelow (below_drew w) (below_alloc w.drew (.cells #[.slice none 0 0, .slice none 0 0] 25))
    have ka := lfBlk_new w.drew (.slice none 0 0) (.slice none 0 0)
    refine Pl.HOp.value 9 12 (.pointer (some ⟨w.drew.heap.size, 0, none⟩)) (w.drew.alloc (.cells #[.slice none 0 0, .slice none 0 0] 25)) (by kernel_rfl) (by kernel_rfl) (by kernel_rfl) (Pl.allocV 9 25 _ _ (by kernel_rfl) (alloc_lf w.drew)) ea ?_
    refine Pl.H.call 5 91 19 [(.tmp 86), (.tmp 89), (.tmp 90)] #[25, 3, 22] (by kernel_rfl) (by kernel_rfl) (by kernel_rfl) (Pl.free 5 (by kernel_rfl)) (by kernel_rfl) (by decide) entJoin (Calls.mono (hJ (w.drew.alloc (.cells #[.slice none 0 0, .slice none 0 0] 25)) ea) ?_)
    rintro e w1 td
    have hb1 := td.1
    obtain ⟨a2, n2, d2, a5, n5, d5, l2, W3, rfl, hst3, bx3, hbs3, gi3, gb3⟩ := lay_box ka ea (below_drew w).size td
    have e1 := rBelow ea hb1
    refine ⟨.tuple #[lfV ⟨a2, n2, d2⟩ ⟨a5, n5, d5⟩, .int .i64 c], rfl, e1, ?_⟩
    rw [Pl.upd_comm _ 12 91 _ _ (by decide)]
    refine Pl.H.take 6 85 (.tuple #[lfV ⟨a2, n2, d2⟩ ⟨a5, n5, d5⟩, .int .i64 c]) (by kernel_rfl) (by kernel_rfl) (by kernel_rfl) (Pl.free 6 (by kernel_rfl)) (Pl.move 6 (.tmp 91) (by kernel_rfl) (by decide)) e1 ?_
    rw [Pl.upd_comm _ 12 85 _ _ (by decide)]
    refine Pl.H.take 7 92 (lfV ⟨a2, n2, d2⟩ ⟨a5, n5, d5⟩) (by kernel_rfl) (by kernel_rfl) (by kernel_rfl) (Pl.free 7 (by kernel_rfl)) (Pl.extr 7 (.tmp 85) 0 _ (by kernel_rfl) (by decide) (fun _ => rfl)) e1 ?_
    rw [Pl.upd_comm _ 12 92 _ _ (by decide)]
    refine Pl.H.take 8 93 (.int .i64 c) (by kernel_rfl) (by kernel_rfl) (by kernel_rfl) (Pl.free 8 (by kernel_rfl)) (Pl.extr 8 (.tmp 85) 1 _ (by kernel_rfl) (by decide) (fun _ => rfl)) e1 ?_
    rw [Pl.upd_comm _ 12 93 _ _ (by decide)]
    have sz3 := ea.size
    refine Pl.H.store 10 W3 (by kernel_rfl) (by kernel_rfl) (by kernel_rfl) (Pl.free 10 (by kernel_rfl)) (Pl.storeV 10 25 (.tmp 12) (.tmp 92) _ (by kernel_rfl) (by decide) (by decide) hst3) bx3.e ?_
    refine Pl.H.take 11 13 (.int .i64 c) (by kernel_rfl) (by kernel_rfl) (by kernel_rfl) (Pl.free 11 (by kernel_rfl)) (Pl.assign 11 (.tmp 93) (by kernel_rfl) (by decide)) bx3.e ?_
    refine Pl.H.done (by kernel_rfl) (fun A' hA' => ?_)
    rw [Pl.At.ext hA' (((((((((((hA.put 86 _).put 87 _).put 88 _).put 89 _).put 90 _).put 91 _).put 85 _).put 92 _).put 93 _).put 12 _).put 13 _)]
    exact hend (fun d => if d = 86 then lfV u v else if d = 87 then .slice (some ⟨b2, o2, none⟩) 5 cap2 else if d = 88 then .pointer (some ⟨b2, o2 + 4, none⟩) else if d = 89 then .int .i64 y else if d = 90 then .slice (some ⟨b2, o2, none⟩) 5 cap2 else if d = 91 then .tuple #[lfV ⟨a2, n2, d2⟩ ⟨a5, n5, d5⟩, .int .i64 c] else if d = 85 then .tuple #[lfV ⟨a2, n2, d2⟩ ⟨a5, n5, d5⟩, .int .i64 c] else if d = 92 then lfV ⟨a2, n2, d2⟩ ⟨a5, n5, d5⟩ else if d = 93 then .int .i64 c else undef) _ _ a2 n2 d2 a5 n5 d5 l2 ⟨bx3, hbs3, gi3.wide (fun k hk => Nat.le_trans sz3 hk), gb3.wide (fun k hk => Nat.le_trans sz3 hk)⟩

set_option maxHeartbeats 2000000 in
set_option maxRecDepth 100000 in
theorem four22 (w : World) (g b2 o2 cap2 : Nat) (u v : Sl) (y c : Int) (t' : List Int) (s' : List (List Nat)) (hc5 : 5 ≤ cap2) (hg : LfBlk w g u.val v.val) (hy : w.cell? ⟨b2, o2 + 4, none⟩ = some (.int .i64 y)) (hJ : ∀ W, Below w.heap.size w W → Calls Try.prog 19 #[lfV u v, .int .i64 y, .slice (some ⟨b2, o2 + 1, none⟩) 4 (cap2 - 1)] W fun e w' => Told W t' s' (mk2 c) e w')
    {Q : Exit → Act → World → Prop} {A : Act} (hsz : A.tmps.size = 113) (hdf : A.defers = []) (s5 : A.tmps.getD 5 undef = .slice (some ⟨b2, o2, none⟩) 5 cap2) (s7 : A.tmps.getD 7 undef = .pointer (some ⟨g, 0, none⟩))
    (hend : ∀ (u : Nat → Value) w' (g1 : Nat) (a2 : Option Addr) (n2 d2 : Nat) (a5 : Option Addr) (n5 d5 : Nat) (l2 : List Sb), Bx w w' g1 ⟨a2, n2, d2⟩ ⟨a5, n5, d5⟩ t' l2 ∧ bss l2 = s' ∧ Gi (fun k => w.heap.size ≤ k) w' ⟨a2, n2, d2⟩ t' ∧ Gb (fun k => w.heap.size ≤ k) w' ⟨a5, n5, d5⟩ l2 → Q .normal (((((((((((((A).put (some 95) (u 95)).put (some 96) (u 96)).put (some 97) (u 97)).put (some 98) (u 98)).put (some 99) (u 99)).put (some 100) (u 100)).put (some 101) (u 101)).put (some 94) (u 94)).put (some 102) (u 102)).put (some 103) (u 103)).put (some 14) (.pointer (some ⟨g1, 0, none⟩))).put (some 15) (.int .i64 c)) w') :
    (Code.region 22 (Pl.find 22 ((Try.f7.body).getD .skip)) true).wp Try.prog Q A w := by
  have hA := Pl.At.same (v := .pointer (some ⟨g, 0, none⟩)) (d := 7) (Pl.At.same (v := .slice (some ⟨b2, o2, none⟩) 5 cap2) (d := 5) (Pl.At.here hsz hdf) s5) s7
  refine Pl.H.start (S := (fun w' => Below w.heap.size w w')) (by kernel_rfl) hA (below_drew w) ?_
  rw [show (Pl.find 22 ((Try.f7.body).getD .skip)).size = 13 by kernel_rfl]
  refine Pl.H.take 0 95 (lfV u v) (by kernel_rfl) (by kernel_rfl) (by kernel_rfl) (Pl.free 0 (by kernel_rfl)) (Pl.load 0 25 (.tmp 7) _ (by kernel_rfl) (by decide) (fun w' hS => ldLf g u v w' (hg.below hS))) (below_drew w) ?_
  refine Pl.H.take 1 96 (.slice (some ⟨b2, o2, none⟩) 5 cap2) (by kernel_rfl) (by kernel_rfl) (by kernel_rfl) (Pl.free 1 (by kernel_rfl)) (Pl.move 1 (.tmp 5) (by kernel_rfl) (by decide)) (below_drew w) ?_
  refine Pl.H.take 2 97 (.pointer (some ⟨b2, o2 + 4, none⟩)) (by kernel_rfl) (by kernel_rfl) (by kernel_rfl) (Pl.free 2 (by kernel_rfl)) (Pl.index 2 22 (.tmp 96) (.const (.int .i64 4)) _ (by kernel_rfl) (by decide) (by decide) (ixI1 b2 o2 5 cap2 4 (by decide))) (below_drew w) ?_
  refine Pl.H.take 3 98 (.int .i64 y) (by kernel_rfl) (by kernel_rfl) (by kernel_rfl) (Pl.free 3 (by kernel_rfl)) (Pl.load 3 3 (.tmp 97) _ (by kernel_rfl) (by decide) (fun w' hS => ldI1 b2 (o2 + 4) y w' (cell_below hy hS))) (below_drew w) ?_
  refine Pl.H.take 4 99 (.slice (some ⟨b2, o2, none⟩) 5 cap2) (by kernel_rfl) (by kernel_rfl) (by kernel_rfl) (Pl.free 4 (by kernel_rfl)) (Pl.move 4 (.tmp 5) (by kernel_rfl) (by decide)) (below_drew w) ?_
  refine Pl.H.take 5 100 (.slice (some ⟨b2, o2 + 1, none⟩) 4 (cap2 - 1)) (by kernel_rfl) (by kernel_rfl) (by kernel_rfl) (Pl.free 5 (by kernel_rfl)) (Pl.slice 5 22 (.tmp 99) (some (.const (.int .i64 1))) none _ (by kernel_rfl) (by decide) (by decide) (by decide) (fun w => slice_fromN b2 o2 5 cap2 1 (by decide) (by omega) w)) (below_drew w) ?_
  refine Pl.H.two 6 10 (by kernel_rfl) ?_ ?_
  · refine Pl.HOp.call 6 101 19 [(.tmp 95), (.tmp 98), (.tmp 100)] #[25, 3, 22] (by kernel_rfl) (by kernel_rfl) (by kernel_rfl) (by kernel_rfl) (by decide) entJoin (Calls.mono (hJ w.drew (below_drew w)) ?_)
    rintro e w1 td
    have hb1 := td.1
    obtain ⟨a2, n2, d2, a5, n5, d5, l2, W3, rfl, hst3, bx3, hbs3, gi3, gb3⟩ := start_box (below_drew w) td
    have e1 := rBelow (below_drew w) hb1
    refine ⟨.tuple #[lfV ⟨a2, n2, d2⟩ ⟨a5, n5, d5⟩, .int .i64 c], rfl, e1, ?_⟩
    refine Pl.H.take 7 94 (.tuple #[lfV ⟨a2, n2, d2⟩ ⟨a5, n5, d5⟩, .int .i64 c]) (by kernel_rfl) (by kernel_rfl) (by kernel_rfl) (Pl.free 7 (by kernel_rfl)) (Pl.move 7 (.tmp 101) (by kernel_rfl) (by decide)) e1 ?_
    refine Pl.H.take 8 102 (lfV ⟨a2, n2, d2⟩ ⟨a5, n5, d5⟩) (by kernel_rfl) (by kernel_rfl) (by kernel_rfl) (Pl.free 8 (by kernel_rfl)) (Pl.extr 8 (.tmp 94) 0 _ (by kernel_rfl) (by decide) (fun _ => rfl)) e1 ?_
    refine Pl.H.take 9 103 (.int .i64 c) (by kernel_rfl) (by kernel_rfl) (by kernel_rfl) (Pl.free 9 (by kernel_rfl)) (Pl.extr 9 (.tmp 94) 1 _ (by kernel_rfl) (by decide) (fun _ => rfl)) e1 ?_
    have ea := rBelow e1 (below_alloc w1 (.cells #[.slice none 0 0, .slice none 0 0] 25))
    refine Pl.H.make 10 14 (.pointer (some ⟨w1.heap.size, 0, none⟩)) (w1.alloc (.cells #[.slice none 0 0, .slice none 0 0] 25)) (by kernel_rfl) (by kernel_rfl) (by kernel_rfl) (Pl.free 10 (by kernel_rfl)) (Pl.allocV 10 25 _ _ (by kernel_rfl) (alloc_lf w1)) ea ?_
    have sz3 : w.heap.size ≤ w.drew.heap.size := Nat.le_refl _
    refine Pl.H.store 11 W3 (by kernel_rfl) (by kernel_rfl) (by kernel_rfl) (Pl.free 11 (by kernel_rfl)) (Pl.storeV 11 25 (.tmp 14) (.tmp 102) _ (by kernel_rfl) (by decide) (by decide) hst3) bx3.e ?_
    refine Pl.H.take 12 15 (.int .i64 c) (by kernel_rfl) (by kernel_rfl) (by kernel_rfl) (Pl.free 12 (by kernel_rfl)) (Pl.assign 12 (.tmp 103) (by kernel_rfl) (by decide)) bx3.e ?_
    refine Pl.H.done (by kernel_rfl) (fun A' hA' => ?_)
    rw [Pl.At.ext hA' ((((((((((((hA.put 95 _).put 96 _).put 97 _).put 98 _).put 99 _).put 100 _).put 101 _).put 94 _).put 102 _).put 103 _).put 14 _).put 15 _)]
    exact hend (fun d => if d = 95 then lfV u v else if d = 96 then .slice (some ⟨b2, o2, none⟩) 5 cap2 else if d = 97 then .pointer (some ⟨b2, o2 + 4, none⟩) else if d = 98 then .int .i64 y else if d = 99 then .slice (some ⟨b2, o2, none⟩) 5 cap2 else if d = 100 then .slice (some ⟨b2, o2 + 1, none⟩) 4 (cap2 - 1) else if d = 101 then .tuple #[lfV ⟨a2, n2, d2⟩ ⟨a5, n5, d5⟩, .int .i64 c] else if d = 94 then .tuple #[lfV ⟨a2, n2, d2⟩ ⟨a5, n5, d5⟩, .int .i64 c] else if d = 102 then lfV ⟨a2, n2, d2⟩ ⟨a5, n5, d5⟩ else if d = 103 then .int .i64 c else undef) _ _ a2 n2 d2 a5 n5 d5 l2 ⟨bx3, hbs3, gi3.wide (fun k hk => Nat.le_trans sz3 hk), gb3.wide (fun k hk => Nat.le_trans sz3 hk)⟩
  · have ea := rBelow (below_drew w) (below_alloc w.drew (.cells #[.slice none 0 0, .slice none 0 0] 25))
    have ka := lfBlk_new w.drew (.slice none 0 0) (.slice none 0 0)
    refine Pl.HOp.value 10 14 (.pointer (some ⟨w.drew.heap.size, 0, none⟩)) (w.drew.alloc (.cells #[.slice none 0 0, .slice none 0 0] 25)) (by kernel_rfl) (by kernel_rfl) (by kernel_rfl) (Pl.allocV 10 25 _ _ (by kernel_rfl) (alloc_lf w.drew)) ea ?_
    refine Pl.H.call 6 101 19 [(.tmp 95), (.tmp 98), (.tmp 100)] #[25, 3, 22] (by kernel_rfl) (by kernel_rfl) (by kernel_rfl) (Pl.free 6 (by kernel_rfl)) (by kernel_rfl) (by decide) entJoin (Calls.mono (hJ (w.drew.alloc (.cells #[.slice none 0 0, .slice none 0 0] 25)) ea) ?_)
    rintro e w1 td
    have hb1 := td.1
    obtain ⟨a2, n2, d2, a5, n5, d5, l2, W3, rfl, hst3, bx3, hbs3, gi3, gb3⟩ := lay_box ka ea (below_drew w).size td
    have e1 := rBelow ea hb1
    refine ⟨.tuple #[lfV ⟨a2, n2, d2⟩ ⟨a5, n5, d5⟩, .int .i64 c], rfl, e1, ?_⟩
    rw [Pl.upd_comm _ 14 101 _ _ (by decide)]
    refine Pl.H.take 7 94 (.tuple #[lfV ⟨a2, n2, d2⟩ ⟨a5, n5, d5⟩, .int .i64 c]) (by kernel_rfl) (by kernel_rfl) (by kernel_rfl) (Pl.free 7 (by kernel_rfl)) (Pl.move 7 (.tmp 101) (by kernel_rfl) (by decide)) e1 ?_
    rw [Pl.upd_comm _ 14 94 _ _ (by decide)]
    refine Pl.H.take 8 102 (lfV ⟨a2, n2, d2⟩ ⟨a5, n5, d5⟩) (by kernel_rfl) (by kernel_rfl) (by kernel_rfl) (Pl.free 8 (by kernel_rfl)) (Pl.extr 8 (.tmp 94) 0 _ (by kernel_rfl) (by decide) (fun _ => rfl)) e1 ?_
    rw [Pl.upd_comm _ 14 102 _ _ (by decide)]
    refine Pl.H.take 9 103 (.int .i64 c) (by kernel_rfl) (by kernel_rfl) (by kernel_rfl) (Pl.free 9 (by kernel_rfl)) (Pl.extr 9 (.tmp 94) 1 _ (by kernel_rfl) (by decide) (fun _ => rfl)) e1 ?_
    rw [Pl.upd_comm _ 14 103 _ _ (by decide)]
    have sz3 := ea.size
    refine Pl.H.store 11 W3 (by kernel_rfl) (by kernel_rfl) (by kernel_rfl) (Pl.free 11 (by kernel_rfl)) (Pl.storeV 11 25 (.tmp 14) (.tmp 102) _ (by kernel_rfl) (by decide) (by decide) hst3) bx3.e ?_
    refine Pl.H.take 12 15 (.int .i64 c) (by kernel_rfl) (by kernel_rfl) (by kernel_rfl) (Pl.free 12 (by kernel_rfl)) (Pl.assign 12 (.tmp 103) (by kernel_rfl) (by decide)) bx3.e ?_
    refine Pl.H.done (by kernel_rfl) (fun A' hA' => ?_)
    rw [Pl.At.ext hA' ((((((((((((hA.put 95 _).put 96 _).put 97 _).put 98 _).put 99 _).put 100 _).put 101 _).put 94 _).put 102 _).put 103 _).put 14 _).put 15 _)]
    exact hend (fun d => if d = 95 then lfV u v else if d = 96 then .slice (some ⟨b2, o2, none⟩) 5 cap2 else if d = 97 then .pointer (some ⟨b2, o2 + 4, none⟩) else if d = 98 then .int .i64 y else if d = 99 then .slice (some ⟨b2, o2, none⟩) 5 cap2 else if d = 100 then .slice (some ⟨b2, o2 + 1, none⟩) 4 (cap2 - 1) else if d = 101 then .tuple #[lfV ⟨a2, n2, d2⟩ ⟨a5, n5, d5⟩, .int .i64 c] else if d = 94 then .tuple #[lfV ⟨a2, n2, d2⟩ ⟨a5, n5, d5⟩, .int .i64 c] else if d = 102 then lfV ⟨a2, n2, d2⟩ ⟨a5, n5, d5⟩ else if d = 103 then .int .i64 c else undef) _ _ a2 n2 d2 a5 n5 d5 l2 ⟨bx3, hbs3, gi3.wide (fun k hk => Nat.le_trans sz3 hk), gb3.wide (fun k hk => Nat.le_trans sz3 hk)⟩
end Go.Proofs.Ytgieigpbbkeonaa
