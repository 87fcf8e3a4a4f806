/-
  The document's Plus; and that a row is made, and read back.
-/
import Derived.Test.YtgckcalkdojeeaaRowJ
namespace Go.Proofs.Ytgckcalkdojeeaa
open Go.RowKit

theorem run_add_any (x y : Nat) (w : World) : ∃ q w', (binOp .add 22 (.float .f64 x) (.float .f64 y)).run Try.prog w = .ok (.float .f64 q) w' ∧ (w' = w ∨ w' = w.drew) ∧ q < 18446744073709551616 ∧ Fl.val q = Fl.addv x y := by
  cases h : Ieee.double.add x y with
  | some q => exact ⟨q, w, run_add_some _ x y q h w, .inl rfl, Fl.add_fits h, by unfold Fl.addv; rw [h]⟩
  | none =>
    have hc := cut_nan x y (w.tape w.drawn (.nanBits .f64 x y))
    refine ⟨_, _, run_add_none _ x y h w, .inr rfl, hc.2, ?_⟩
    unfold Fl.addv
    rw [h]
    simp [Fl.val, hc.1]

set_option maxHeartbeats 4000000 in
set_option maxRecDepth 100000 in
theorem refPlus_any (r : Rw) (a : Option Addr) (len cap y : Nat) (w : World) (h : Fs w a len cap r.xs) (hl : len ≤ 1000) (h0 : 0 < len) :
    Calls Try.prog 19 #[r.val (.slice a len cap), .float .f64 y] w fun e w' => Below w.heap.size w w' ∧ ∃ ca cc, e = .returned ((plusR r y).val (.slice ca len cc)) ∧ Fs w' ca len cc (plusR r y).xs := by
  have hsf : ∀ (w : World) (a : Addr) (m : Mode) (x : Nat), (store a (.float .f64 x) m).run Try.prog w = stored Try.prog w a (.float .f64 x) m := fun w a m x => run_store Try.prog w a _ m rfl
  have HXa := hide ((rwBlk_new w r (.slice a len cap)).keep (below_alloc _ (.cells #[.float .f64 0, .bool false, .slice none 0 0, .int .i64 0, .int .i64 0, .int .i64 0] 27)))
  have HZa : Hid (RwBlk ((w.alloc (.cells #[.float .f64 r.key, .bool r.dead, .slice a len cap, .int .i64 r.wr, .int .i64 r.cell, .int .i64 r.no] 27)).alloc (.cells #[.float .f64 0, .bool false, .slice none 0 0, .int .i64 0, .int .i64 0, .int .i64 0] 27)) (w.heap.size + 1) zeroR (.slice none 0 0)) := by
    have := rwBlk_new (w.alloc (.cells #[.float .f64 r.key, .bool r.dead, .slice a len cap, .int .i64 r.wr, .int .i64 r.cell, .int .i64 r.no] 27)) ⟨0, false, [], 0, 0, 0⟩ (.slice none 0 0)
    exact hide (by simpa [zeroR] using this)
  have HWa := hide (below_two w (.cells #[.float .f64 r.key, .bool r.dead, .slice a len cap, .int .i64 r.wr, .int .i64 r.cell, .int .i64 r.no] 27) (.cells #[.float .f64 0, .bool false, .slice none 0 0, .int .i64 0, .int .i64 0, .int .i64 0] 27))
  obtain ⟨W, hWe⟩ : ∃ W, W = (w.alloc (.cells #[.float .f64 r.key, .bool r.dead, .slice a len cap, .int .i64 r.wr, .int .i64 r.cell, .int .i64 r.no] 27)).alloc (.cells #[.float .f64 0, .bool false, .slice none 0 0, .int .i64 0, .int .i64 0, .int .i64 0] 27) := ⟨_, rfl⟩
  have hWs : W.heap.size = w.heap.size + 2 := by rw [hWe]; simp
  rw [← hWe] at HXa HZa HWa
  have HX := hide (HXa.out.keep (below_alloc W (.cells #[] 22)))
  have HZ := hide (HZa.out.keep (below_alloc W (.cells #[] 22)))
  have HW := hide (rBelow HWa.out (below_alloc W (.cells #[] 22)))
  have HO : Hid (OwnsV 22 (W.alloc (.cells #[] 22)) w.heap.size (.slice (some ⟨W.heap.size, 0, none⟩) 0 0) []) := OwnsV.lit 22 W _ [] HWa.out.size (by simp)
  have HV := hide (h.keep HW.out (Nat.le_refl _)).vs
  have HN := hide h.nil
  have HL := hide h.len
  have HPF := hide (plus_fits h.fit y)
  have HLEN : Hid (([] : List Value).length + len ≤ 1000000) := by show _ ≤ _; simp; omega
  rw [hWs] at HO
  have HWS := hide hWs
  rw [hWe] at HX HZ HW HO HV
  have HWE := hide hWe
  clear h hWe hWs HXa HZa HWa
  unfold Rw.val
  go_enter Try.func19, Try.ntmps19
  go_wp2_with (at_builtin; refine wpList_append_vals oneFlt _ rfl (.tmp 6) (.tmp 8) rfl w.heap.size _ [] rfl HO.out _ _ _ (fVals r.xs) rfl HV.out HN.out HLEN.out HW.out.size ?_)
  intro v1 w1 ho1 hb1 hs1
  have HW1 := hide (HW.out.trans hb1)
  have HX1 : Hid (RwBlk w1 w.heap.size r (.slice a len cap)) := (hs1 _ _ _ _ HX.out (by decide)).trans HX.out
  have HZ1 : Hid (RwBlk w1 (w.heap.size + 1) zeroR (.slice none 0 0)) := (hs1 _ _ _ _ HZ.out (by decide)).trans HZ.out
  have ho1' : OwnsV 22 w1 w.heap.size v1 (fVals r.xs) := ho1
  obtain ⟨g, cg, rfl⟩ := ho1'.at0 HL.out h0
  have hx0 : 0 < r.xs.length := by rw [HL.out]; exact h0
  obtain ⟨hc1, hf1, _, hBg⟩ := ho1'.first hx0
  have HO1 := hide ho1'
  obtain ⟨x0, hx⟩ : ∃ x0, x0 = r.xs.getD 0 0 := ⟨_, rfl⟩
  rw [← hx] at hc1
  have HX0 := hide hx
  have hp2 := HX1.out.c2
  have hpf := HX1.out.fz 2
  clear ho1 ho1' hb1 hs1 hx HX HZ HW HO HV
  obtain ⟨q, w2, h1, hw2, hq, hqv⟩ := run_add_any x0 y w1
  have hh : w2.heap = w1.heap := by rcases hw2 with rfl | rfl <;> rfl
  have HW2 : Hid (Below w.heap.size w w2) := hw2.elim (fun h => by rw [h]; exact HW1) (fun h => by rw [h]; exact HW1.out.drew)
  have HO2 : Hid (OwnsV 22 w2 w.heap.size (.slice (some ⟨g, 0, none⟩) len cg) (fVals r.xs)) := ⟨HO1.out.1, by rw [hh]; exact HO1.out.2⟩
  have HX2 : Hid (RwBlk w2 w.heap.size r (.slice a len cap)) := by show w2.heap[_]? = _; rw [hh]; exact HX1.out
  have HZ2 : Hid (RwBlk w2 (w.heap.size + 1) zeroR (.slice none 0 0)) := by show w2.heap[_]? = _; rw [hh]; exact HZ1.out
  have HTE := hide (turn_end (W0 := w) (w := w2) (w1 := w2) HW2.out rfl HX2.out HO2.out hx0 (Fl.val q))
  have HCE := hide (col_store (w := w2) (W0 := w) HTE.out.below (Nat.le_refl _) HTE.out.blk HTE.out.owns HTE.out.stay (by simp))
  have HZ3 : Hid (RwBlk ((w2.setCell ⟨g, 0, none⟩ (.float .f64 (Fl.val q))).setCell ⟨w.heap.size, 2, none⟩ (.slice (some ⟨g, 0, none⟩) len cg)) (w.heap.size + 1) zeroR (.slice none 0 0)) := (HCE.out.stay _ _ _ _ HZ2.out (by decide) (by omega)).trans HZ2.out
  have HPX : Hid (r.xs.set 0 (Fl.val q) = (plusR r y).xs) := by show _ = _; rw [hqv, HX0.out]; rfl
  have HR := hide (refValue_any q hq)
  have hfc := from_call ((Fl.val q : Nat) : Int)
  have hgp : g ≠ w.heap.size := by
    rintro rfl
    obtain ⟨_, _, ⟨C, fr, hC⟩, _⟩ := HO2.out.first hx0
    have := HX2.out
    unfold RwBlk at this
    rw [hC] at this
    simp only [Option.some.injEq, Obj.cells.injEq] at this
    exact absurd this.2.1 (by decide)
  have hgz : g ≠ w.heap.size + 1 := by
    rintro rfl
    obtain ⟨_, _, ⟨C, fr, hC⟩, _⟩ := HO2.out.first hx0
    have := HZ2.out
    unfold RwBlk at this
    rw [hC] at this
    simp only [Option.some.injEq, Obj.cells.injEq] at this
    exact absurd this.2.1 (by decide)
  have hgp' : w.heap.size ≠ g := hgp.symm
  have hgz' : w.heap.size + 1 ≠ g := hgz.symm
  obtain ⟨hc2, hf2, _, _⟩ := HO2.out.first hx0
  have y0 := HX2.out.c0
  have y1 := HX2.out.c1
  have y2 := HX2.out.c2
  have y3 := HX2.out.c3
  have y4 := HX2.out.c4
  have y5 := HX2.out.c5
  have yf := HX2.out.fz 2
  have z0 := HZ2.out.c0
  have z1 := HZ2.out.c1
  have z2 := HZ2.out.c2
  have z3 := HZ2.out.c3
  have z4 := HZ2.out.c4
  have z5 := HZ2.out.c5
  have fz := HZ2.out.fz
  simp only [zeroR] at z0 z1 z3 z4 z5
  clear hh hw2 hq hqv HO1 HX1 HZ1 HW1 hf1 hp2 hpf
  go_wp2_with fail
  refine (HR.out _).mono ?_
  rintro e w' ⟨rfl, hw⟩
  subst hw
  go_wp2_with fail
  show bodyPost Try.prog Try.f19 _ Exit.ret _ (setRw ((w'.setCell ⟨g, 0, none⟩ (.float .f64 (Fl.val q))).setCell ⟨w.heap.size, 2, none⟩ (.slice (some ⟨g, 0, none⟩) len cg)) (w.heap.size + 1) (plusR r y) (.slice (some ⟨g, 0, none⟩) len cg))
  refine rw_end1 rfl HZ3.out (plusR r y) (.slice (some ⟨g, 0, none⟩) len cg) ⟨_, _, _, rfl⟩ (by rfl) (by rfl) ?_
  refine ⟨setRw_below HCE.out.below (by omega) _ _, _, _, rfl, ?_⟩
  rw [← HPX.out]
  exact (HCE.out.owns.setRw HZ3.out _ _).fsAt (by rw [HPX.out]; exact HPF.out) (by rw [List.length_set, HL.out]; omega)

end Go.Proofs.Ytgckcalkdojeeaa
