/-
  The document's Of; a row with more in its first column: row's own Plus, and the document's.
-/
import Derived.Test.YtgckcalkdojeeaaRowI
namespace Go.Proofs.Ytgckcalkdojeeaa
open Go.RowKit

set_option maxHeartbeats 4000000 in
set_option maxRecDepth 100000 in
theorem refOf_any (key : Nat) (hkey : key < 18446744073709551616) (a : Option Addr) (len cap : Nat) (xs : List Nat) (w : World) (h : Fs w a len cap xs) (h4 : len ≤ 4) :
    Calls Try.prog 17 #[.float .f64 key, .slice a len cap] w fun e w' => Below w.heap.size w w' ∧ ∃ ca cc, e = .returned ((ofR key xs).val (.slice ca len cc)) ∧ Fs w' ca len cc (ofR key xs).xs := by
  have hsf : ∀ (w : World) (a : Addr) (m : Mode) (x : Nat), (store a (.float .f64 x) m).run Try.prog w = stored Try.prog w a (.float .f64 x) m := fun w a m x => run_store Try.prog w a _ m rfl
  have HK := hide (refKey_any key hkey)
  have H := hide h
  have HL := hide h.len
  have HVF := hide (val_fits h.fit)
  obtain ⟨kk, hkk⟩ : ∃ kk, kk = Fl.key key := ⟨_, rfl⟩
  rw [← hkk] at HK
  have HKK := hide hkk
  have hfc := from_call ((kk : Nat) : Int)
  have HZ := hide ((rwBlk_new w zeroR (.slice none 0 0)).keep (below_alloc _ (.cells #[.float .f64 kk, .bool false, .slice none 0 0, .int .i64 0, .int .i64 0, .int .i64 0] 27)))
  have HX : Hid (RwBlk ((w.alloc (.cells #[.float .f64 0, .bool false, .slice none 0 0, .int .i64 0, .int .i64 0, .int .i64 0] 27)).alloc (.cells #[.float .f64 kk, .bool false, .slice none 0 0, .int .i64 0, .int .i64 0, .int .i64 0] 27)) (w.heap.size + 1) ⟨kk, false, [], 0, 0, 0⟩ (.slice none 0 0)) := by
    have := rwBlk_new (w.alloc (.cells #[.float .f64 0, .bool false, .slice none 0 0, .int .i64 0, .int .i64 0, .int .i64 0] 27)) ⟨kk, false, [], 0, 0, 0⟩ (.slice none 0 0)
    exact hide (by simpa using this)
  have HW := hide (below_two w (.cells #[.float .f64 0, .bool false, .slice none 0 0, .int .i64 0, .int .i64 0, .int .i64 0] 27) (.cells #[.float .f64 kk, .bool false, .slice none 0 0, .int .i64 0, .int .i64 0, .int .i64 0] 27))
  clear h hkk hkey
  go_enter Try.func17, Try.ntmps17
  go_wp2_with fail
  refine (HK.out _).mono ?_
  rintro e w' ⟨rfl, hw⟩
  obtain rfl := hw.symm
  go_wp2_with fail
  go_loopw [6] (fun i wr => ∃ k : Nat, k ≤ len ∧ i = .int .i64 k ∧ Hid (∃ v, RwBlk wr (w.heap.size + 1) ⟨kk, false, [], 0, 0, 0⟩ v ∧ OwnsV 22 wr w.heap.size v (fVals ((xs.map Fl.val).take k))) ∧ Hid (Below w.heap.size w wr) ∧ Hid (RwBlk wr w.heap.size zeroR (.slice none 0 0))) (fun i _ => len - (intOf i).toNat)
  case atStart => exact ⟨0, by omega, rfl, ⟨_, HX.out, OwnsV.nil _ _ _⟩, HW, HZ⟩
  case round =>
    obtain ⟨k, hk, rfl, hv, hWr, hZr⟩ := hrel
    rcases Nat.lt_or_ge k len with hlt | hge
    · obtain ⟨b, off, rfl, c0, _, hxl⟩ := H.out.at k hlt
      obtain ⟨x, hx⟩ : ∃ x, x = xs.getD k 0 := ⟨_, rfl⟩
      rw [← hx] at c0 hxl
      have HXE := hide hx
      have HXL := hide hxl
      have HC0 := hide c0
      obtain ⟨v, hvb, hvo⟩ := hv.out
      have HVB := hide hvb
      have HVO := hide hvo
      clear hx hxl hvb hvo hv c0
      go_wp2_with fail
      refine Pl.region_is (ops := Pl.find 5 ((Try.f17.body).getD .skip)) (by kernel_rfl) ?_
      refine rof5 w wr w.heap.size (w.heap.size + 1) ⟨kk, false, [], 0, 0, 0⟩ v _ hWr.out (by omega) hWr.out.size HVB.out HVO.out (by simp [fVals]; omega) b off len cap k x HXL.out hlt HC0.out (World.block_lt_of_cell? w _ HC0.out) (by rfl) (by rfl) (by rfl) (by rfl) (by rfl) ?_
      intro u w5 v5 hce
      simp only [Act.put, List.setIfInBounds_toArray, List.set_cons_zero, List.set_cons_succ]
      have HCE := hide hce
      have HZ5 : Hid (RwBlk w5 w.heap.size zeroR (.slice none 0 0)) := (hce.stay _ _ _ _ hZr.out (by decide) (by omega)).trans hZr.out
      clear hce
      go_wp2_with fail
      go_roundw
      case rel =>
        refine ⟨k + 1, by omega, by go_num, ⟨v5, HCE.out.blk, ?_⟩, HCE.out.below, HZ5⟩
        rw [fVals_step (by rw [HL.out]; exact hlt) HXE.out]
        exact HCE.out.owns
      case measure => simp only [intOf]; omega
    · have htk : (xs.map Fl.val).take k = xs.map Fl.val := List.take_of_length_le (by rw [List.length_map, HL.out]; omega)
      rw [htk] at hv
      obtain ⟨v, hvb, hvo⟩ := hv.out
      obtain ⟨ca, cc, rfl, hfs⟩ := hvo.fs HVF.out (by rw [List.length_map, HL.out]) (by omega)
      have HVO := hide hvo
      have x0 := hvb.c0
      have x1 := hvb.c1
      have x2 := hvb.c2
      have x3 := hvb.c3
      have x4 := hvb.c4
      have x5 := hvb.c5
      have z0 := hZr.out.c0
      have z1 := hZr.out.c1
      have z2 := hZr.out.c2
      have z3 := hZr.out.c3
      have z4 := hZr.out.c4
      have z5 := hZr.out.c5
      have f0 := hZr.out.fz
      simp only [zeroR] at z0 z1 z3 z4 z5
      clear hvo hvb hfs htk hv
      go_wp2_with fail
      rw [HKK.out]
      show bodyPost Try.prog Try.f17 _ Exit.ret _ (setRw wr w.heap.size (ofR key xs) (.slice ca len cc))
      refine rw_end1 rfl hZr.out (ofR key xs) (.slice ca len cc) ⟨_, _, _, rfl⟩ (by rfl) (by rfl) ?_
      refine ⟨setRw_below hWr.out (Nat.le_refl _) _ _, ca, cc, rfl, ?_⟩
      exact (HVO.out.setRw hZr.out _ _).fsAt HVF.out (by rw [List.length_map, HL.out]; omega)

theorem nil_eq (b off len cap : Nat) (w : World) : (binOp .eql 23 (.slice (some ⟨b, off, none⟩) len cap) (.slice none 0 0)).run Try.prog w = .ok (.bool false) w := by
  rfl

set_option maxHeartbeats 1000000 in
set_option maxRecDepth 100000 in
theorem clone_any (a : Option Addr) (len cap : Nat) (xs : List Nat) (w : World) (h : Fs w a len cap xs) (hl : len ≤ 1000) (h0 : 0 < len) :
    Calls Try.prog 40 #[.slice a len cap] w fun e w' => ∃ v, e = .returned v ∧ OwnsV 22 w' w.heap.size v (fVals xs) ∧ Below w.heap.size w w' := by
  obtain ⟨b, off, rfl, _⟩ := h.at 0 h0
  have hnil := nil_eq b off len cap
  have HO : Hid (OwnsV 22 (w.alloc (.cells #[] 22)) w.heap.size (.slice (some ⟨w.heap.size, 0, none⟩) 0 0) []) := OwnsV.lit 22 w _ [] (Nat.le_refl _) (by simp)
  have HW := hide (below_alloc w (.cells #[] 22))
  have HV := hide ((h.keep HW.out (Nat.le_refl _)).vs)
  have HLEN : Hid (([] : List Value).length + len ≤ 1000000) := by show _ ≤ _; simp; omega
  clear h
  go_enter Try.func40, Try.ntmps40
  go_wp2_with (at_builtin; refine wpList_append_vals oneFlt _ rfl (.tmp 5) (.tmp 6) rfl w.heap.size _ [] rfl HO.out _ _ _ (fVals xs) rfl HV.out (fun h => by cases h) HLEN.out HW.out.size ?_)
  intro v1 w1 ho1 hb1 _
  have HO1 : Hid (OwnsV 22 w1 w.heap.size v1 (fVals xs)) := ho1
  have HW1 := hide (HW.out.trans hb1)
  clear ho1 hb1
  go_wp2_with fail
  go_ret
  exact ⟨_, rfl, HO1.out, HW1.out⟩

set_option maxHeartbeats 400000 in
theorem add_any2 (a b : Nat) (w : World) :
    Calls Try.prog 41 #[.float .f64 a, .float .f64 b] w fun e w' => e = .returned (.float .f64 (Fl.addv a b)) ∧ (w' = w ∨ w' = w.drew) := by
  cases h : Ieee.double.add a b with
  | some r =>
    have e1 : Fl.addv a b = Fl.val r := by unfold Fl.addv; rw [h]
    have h1 := run_add_some 22 a b r h
    have hr := Fl.add_fits h
    rw [e1]
    clear e1 h
    have H : Hid _ := hr
    clear hr
    go_enter Try.func41, Try.ntmps41
    go_wp2_with fail
    refine (value_any r H.out _).mono ?_
    rintro e w' ⟨rfl, rfl⟩
    go_wp2_with fail
    go_ret
    exact ⟨rfl, .inl rfl⟩
  | none =>
    have e1 : Fl.addv a b = 9221120237041090561 := by unfold Fl.addv; rw [h]
    have h1 := run_add_none 22 a b h w
    have hc := cut_nan a b (w.tape w.drawn (.nanBits .f64 a b))
    rw [e1]
    clear e1 h
    generalize (Question.nanBits .f64 a b).cut (w.tape w.drawn (.nanBits .f64 a b)) = r at *
    have H : Hid _ := hc
    clear hc
    go_enter Try.func41, Try.ntmps41
    go_wp2_with fail
    refine (value_any r H.out.2 _).mono ?_
    rintro e w' ⟨rfl, rfl⟩
    go_wp2_with fail
    go_ret
    refine ⟨?_, .inr rfl⟩
    simp [Fl.val, H.out.1]

/-- A row whose first column is more. -/
def plusR (r : Rw) (y : Nat) : Rw := ⟨r.key, r.dead, r.xs.set 0 (Fl.addv (r.xs.getD 0 0) y), r.wr, r.cell, r.no⟩

theorem enters41 : ∀ args w, (callFunc 41 args).run Try.prog w = .ok (.enter 41 args) w := Pl.enters Try.func41 (by kernel_rfl) (by kernel_rfl)

theorem store_flt (b o : Nat) (x : Nat) (u : Value) (w : World) (h : w.cell? ⟨b, o, none⟩ = some u) (hf : w.frozen? ⟨b, o, none⟩ = false) : (Instr.storeAt 22 (.pointer (some ⟨b, o, none⟩)) (.float .f64 x)).run Try.prog w = .ok () (w.setCell ⟨b, o, none⟩ (.float .f64 x)) := by
  have hsf : ∀ (w : World) (a : Addr) (m : Mode) (x : Nat), (store a (.float .f64 x) m).run Try.prog w = stored Try.prog w a (.float .f64 x) m := fun w a m x => run_store Try.prog w a _ m rfl
  simp [go_sem, Instr.storeAt, hsf, h, hf]

theorem fVals_set (xs : List Nat) (i z : Nat) : (fVals xs).set i (.float .f64 z) = fVals (xs.set i z) := by simp [fVals, List.map_set]

/-- What is left behind a column that is turned. -/
structure TurnEnd (W0 w w' : World) (B p g n cap : Nat) (R : Rw) (c : Value) (xs : List Nat) : Prop where
  below : Below B W0 w'
  owns : OwnsV 22 w' B (.slice (some ⟨g, 0, none⟩) n cap) (fVals xs)
  blk : RwBlk w' p R c
  stay : ∀ (k : Nat) (C : Array Value) (t : TypeId) (fr : Nat × Nat), w.heap[k]? = some (Obj.cells C t fr) → t ≠ 22 → w'.heap[k]? = w.heap[k]?

theorem OwnsV.first {w : World} {B g n cap : Nat} {xs : List Nat} (h : OwnsV 22 w B (.slice (some ⟨g, 0, none⟩) n cap) (fVals xs)) (h0 : 0 < xs.length) : w.cell? ⟨g, 0, none⟩ = some (.float .f64 (xs.getD 0 0)) ∧ w.frozen? ⟨g, 0, none⟩ = false ∧ (∃ C fr, w.heap[g]? = some (Obj.cells C 22 fr)) ∧ B ≤ g := by
  have hn : n = (fVals xs).length := by
    rcases h.2 with ⟨hv, _⟩ | ⟨g', cap', cur, hv, _⟩
    · cases hv
    · simp only [Value.slice.injEq] at hv
      exact hv.2.1
  have hl : (fVals xs).length = xs.length := by simp [fVals]
  refine ⟨?_, ?_, ?_⟩
  · rw [hn] at h
    have := World.ownsRow.cellAt h 0 (by omega)
    rw [this]
    simp [fVals, List.getD, h0]
  · rw [hn] at h
    exact World.ownsRow.frozenAt h 0
  · rcases h.2 with ⟨hv, _⟩ | ⟨g', cap', cur, hv, hb, hg, _⟩
    · cases hv
    · simp only [Value.slice.injEq, Option.some.injEq, Addr.mk.injEq] at hv
      obtain ⟨⟨rfl, _⟩, _, _⟩ := hv
      exact ⟨⟨_, _, hg⟩, hb⟩

theorem turn_end {W0 w w1 : World} {B p g n cap : Nat} {R : Rw} {c : Value} {xs : List Nat} (hb : Below B W0 w1) (hh : w1.heap = w.heap) (hblk : RwBlk w p R c) (ho : OwnsV 22 w B (.slice (some ⟨g, 0, none⟩) n cap) (fVals xs)) (h0 : 0 < xs.length) (z : Nat) :
    TurnEnd W0 w (w1.setCell ⟨g, 0, none⟩ (.float .f64 z)) B p g n cap R c (xs.set 0 z) := by
  obtain ⟨_, _, ⟨C, fr, hg⟩, hBg⟩ := ho.first h0
  have ho1 : OwnsV 22 w1 B (.slice (some ⟨g, 0, none⟩) n cap) (fVals xs) := by
    refine ⟨ho.1, ?_⟩
    rw [hh]
    exact ho.2
  have hn : n = (fVals xs).length := by
    rcases ho.2 with ⟨hv, _⟩ | ⟨g', cap', cur, hv, _⟩
    · cases hv
    · simp only [Value.slice.injEq] at hv
      exact hv.2.1
  subst hn
  have hpg : p ≠ g := by
    rintro rfl
    unfold RwBlk at hblk
    rw [hg] at hblk
    simp only [Option.some.injEq, Obj.cells.injEq] at hblk
    exact absurd hblk.2.1 (by decide)
  refine ⟨hb.setCell (p := ⟨g, 0, none⟩) hBg _, ?_, ?_, fun k C' t fr' hk ht => ?_⟩
  · have := (World.ownsRow.stored ho1 0 (.float .f64 z)).1
    unfold OwnsV
    rw [← fVals_set, List.length_set]
    exact this
  · unfold RwBlk
    rw [Below.heap_setCell _ ⟨g, 0, none⟩ _ p hpg, hh]
    exact hblk
  · have hkg : k ≠ g := by
      rintro rfl
      rw [hg] at hk
      simp only [Option.some.injEq, Obj.cells.injEq] at hk
      exact ht hk.2.1.symm
    rw [Below.heap_setCell _ ⟨g, 0, none⟩ _ k hkg, hh]

set_option maxHeartbeats 2000000 in
set_option maxRecDepth 100000 in
theorem plus4 (W0 w : World) (B p g n cap : Nat) (R : Rw) (xs : List Nat) (y : Nat) (hW : Below B W0 w) (hblk : RwBlk w p R (.slice (some ⟨g, 0, none⟩) n cap)) (ho : OwnsV 22 w B (.slice (some ⟨g, 0, none⟩) n cap) (fVals xs)) (hx : 0 < xs.length) (h0 : 0 < n)
    {Q : Exit → Act → World → Prop} {A : Act} (hsz : A.tmps.size = 30) (hdf : A.defers = []) (s1 : A.tmps.getD 1 undef = .float .f64 y) (s2 : A.tmps.getD 2 undef = .pointer (some ⟨p, 0, none⟩))
    (hend : ∀ (u : Nat → Value) w', TurnEnd W0 w w' B p g n cap R (.slice (some ⟨g, 0, none⟩) n cap) (xs.set 0 (Fl.addv (xs.getD 0 0) y)) → Q .normal ((((((((((A).put (some 20) (u 20)).put (some 21) (u 21)).put (some 22) (u 22)).put (some 23) (u 23)).put (some 24) (u 24)).put (some 26) (u 26)).put (some 25) (u 25)).put (some 27) (u 27)).put (some 28) (u 28)) w') :
    (Code.region 4 (Pl.find 4 ((Try.f18.body).getD .skip)) true).wp Try.prog Q A w := by
  have hS0 : Below B W0 w.drew ∧ RwBlk w.drew p R (.slice (some ⟨g, 0, none⟩) n cap) := ⟨hW.drew, hblk⟩
  have hA := Pl.At.same (v := .pointer (some ⟨p, 0, none⟩)) (d := 2) (Pl.At.same (v := .float .f64 y) (d := 1) (Pl.At.here hsz hdf) s1) s2
  refine Pl.H.start (S := fun w' => Below B W0 w' ∧ RwBlk w' p R (.slice (some ⟨g, 0, none⟩) n cap)) (by kernel_rfl) hA hS0 ?_
  rw [show (Pl.find 4 ((Try.f18.body).getD .skip)).size = 10 by kernel_rfl]
  refine Pl.H.take 0 20 (.pointer (some ⟨p, 2, none⟩)) (by kernel_rfl) (by kernel_rfl) (by kernel_rfl) (Pl.free 0 (by kernel_rfl)) (Pl.field 0 27 (.tmp 2) 2 _ (by kernel_rfl) (by decide) (field_rw2 p)) hS0 ?_
  refine Pl.H.take 1 21 (.slice (some ⟨g, 0, none⟩) n cap) (by kernel_rfl) (by kernel_rfl) (by kernel_rfl) (Pl.free 1 (by kernel_rfl)) (Pl.load 1 23 (.tmp 20) _ (by kernel_rfl) (by decide) (fun w' hS => load_fls p 2 _ _ _ w' hS.2.c2)) hS0 ?_
  refine Pl.H.take 2 22 (.pointer (some ⟨p, 2, none⟩)) (by kernel_rfl) (by kernel_rfl) (by kernel_rfl) (Pl.free 2 (by kernel_rfl)) (Pl.field 2 27 (.tmp 2) 2 _ (by kernel_rfl) (by decide) (field_rw2 p)) hS0 ?_
  refine Pl.H.take 3 23 (.slice (some ⟨g, 0, none⟩) n cap) (by kernel_rfl) (by kernel_rfl) (by kernel_rfl) (Pl.free 3 (by kernel_rfl)) (Pl.load 3 23 (.tmp 22) _ (by kernel_rfl) (by decide) (fun w' hS => load_fls p 2 _ _ _ w' hS.2.c2)) hS0 ?_
  refine Pl.H.take 4 24 (.pointer (some ⟨g, 0, none⟩)) (by kernel_rfl) (by kernel_rfl) (by kernel_rfl) (Pl.free 4 (by kernel_rfl)) (Pl.index 4 23 (.tmp 23) (.const (.int .i64 0)) _ (by kernel_rfl) (by decide) (by decide) (index_flt g 0 n cap 0 h0)) hS0 ?_
  refine Pl.H.take 6 26 (.float .f64 y) (by kernel_rfl) (by kernel_rfl) (by kernel_rfl) (Pl.free 6 (by kernel_rfl)) (Pl.move 6 (.tmp 1) (by kernel_rfl) (by decide)) hS0 ?_
  refine Pl.H.solo 5 25 (.float .f64 (xs.getD 0 0)) (by kernel_rfl) (by kernel_rfl) (by kernel_rfl) (Pl.free 5 (by kernel_rfl)) (Pl.load1 5 22 (.tmp 24) _ (by kernel_rfl) (by decide) (load_flt g 0 _ w.drew (ho.first hx).1)) hS0 ?_
  refine Pl.H.call 7 27 41 [(.tmp 25), (.tmp 26)] #[22, 22] (by kernel_rfl) (by kernel_rfl) (by kernel_rfl) (Pl.free 7 (by kernel_rfl)) (by kernel_rfl) (by decide) enters41 (Calls.mono (add_any2 (xs.getD 0 0) y w.drew) ?_)
  rintro e w1 ⟨rfl, hw1⟩
  have hh : w1.heap = w.heap := by rcases hw1 with rfl | rfl <;> rfl
  have hb1 : Below B W0 w1 := hw1.elim (fun h => by rw [h]; exact hW.drew) (fun h => by rw [h]; exact hW.drew.drew)
  have hS1 : Below B W0 w1 ∧ RwBlk w1 p R (.slice (some ⟨g, 0, none⟩) n cap) := ⟨hb1, by unfold RwBlk; rw [hh]; exact hblk⟩
  have hte := turn_end (W0 := W0) (w := w) hb1 hh hblk ho hx (Fl.addv (xs.getD 0 0) y)
  have ho1 : OwnsV 22 w1 B (.slice (some ⟨g, 0, none⟩) n cap) (fVals xs) := ⟨ho.1, by rw [hh]; exact ho.2⟩
  refine ⟨.float .f64 (Fl.addv (xs.getD 0 0) y), rfl, hS1, ?_⟩
  refine Pl.H.take 8 28 (.pointer (some ⟨g, 0, none⟩)) (by kernel_rfl) (by kernel_rfl) (by kernel_rfl) (Pl.free 8 (by kernel_rfl)) (Pl.index 8 23 (.tmp 21) (.const (.int .i64 0)) _ (by kernel_rfl) (by decide) (by decide) (index_flt g 0 n cap 0 h0)) hS1 ?_
  have hS2 : Below B W0 (w1.setCell ⟨g, 0, none⟩ (.float .f64 (Fl.addv (xs.getD 0 0) y))) ∧ RwBlk (w1.setCell ⟨g, 0, none⟩ (.float .f64 (Fl.addv (xs.getD 0 0) y))) p R (.slice (some ⟨g, 0, none⟩) n cap) := ⟨hte.below, hte.blk⟩
  refine Pl.H.store 9 (w1.setCell ⟨g, 0, none⟩ (.float .f64 (Fl.addv (xs.getD 0 0) y))) (by kernel_rfl) (by kernel_rfl) (by kernel_rfl) (Pl.free 9 (by kernel_rfl)) (Pl.storeV 9 22 (.tmp 28) (.tmp 27) _ (by kernel_rfl) (by decide) (by decide) (store_flt g 0 _ _ w1 (ho1.first hx).1 (ho1.first hx).2.1)) hS2 ?_
  refine Pl.H.done (by kernel_rfl) (fun A' hA' => ?_)
  rw [Pl.At.ext hA' (((((((((hA.put 20 _).put 21 _).put 22 _).put 23 _).put 24 _).put 26 _).put 25 _).put 27 _).put 28 _)]
  exact hend (fun d => if d = 20 then .pointer (some ⟨p, 2, none⟩) else if d = 21 then .slice (some ⟨g, 0, none⟩) n cap else if d = 22 then .pointer (some ⟨p, 2, none⟩) else if d = 23 then .slice (some ⟨g, 0, none⟩) n cap else if d = 24 then .pointer (some ⟨g, 0, none⟩) else if d = 26 then .float .f64 y else if d = 25 then .float .f64 (xs.getD 0 0) else if d = 27 then .float .f64 (Fl.addv (xs.getD 0 0) y) else if d = 28 then .pointer (some ⟨g, 0, none⟩) else undef) _ hte

set_option maxHeartbeats 4000000 in
set_option maxRecDepth 100000 in
theorem plus_bad (r : Rw) (a : Option Addr) (len cap y : Nat) (w : World) (h : Fs w a len cap r.xs) (hf : r.fits) (hbad : r.may = false ∨ len = 0) :
    Calls Try.prog 18 #[r.val (.slice a len cap), .float .f64 y] w fun e w' => Below w.heap.size w w' ∧ e = .returned (.tuple #[zeroV, .int .i64 1]) := by
  have hsf : ∀ (w : World) (a : Addr) (m : Mode) (x : Nat), (store a (.float .f64 x) m).run Try.prog w = stored Try.prog w a (.float .f64 x) m := fun w a m x => run_store Try.prog w a _ m rfl
  have HC : Hid (∀ w', Below w.heap.size w w' → Calls Try.prog 10 #[r.val (.slice a len cap)] w' fun e w'' => e = .returned (.int .i64 (chk r.may)) ∧ Below w'.heap.size w' w'') := fun w' hb => checkRow_any r a len cap w' (h.keep hb (Nat.le_refl _)) hf
  have HX := hide ((rwBlk_new w r (.slice a len cap)).keep (below_alloc _ (.cells #[.float .f64 0, .bool false, .slice none 0 0, .int .i64 0, .int .i64 0, .int .i64 0] 27)))
  have HZ : Hid (RwBlk ((w.alloc (.cells #[.float .f64 r.key, .bool r.dead, .slice a len cap, .int .i64 r.wr, .int .i64 r.cell, .int .i64 r.no] 27)).alloc (.cells #[.float .f64 0, .bool false, .slice none 0 0, .int .i64 0, .int .i64 0, .int .i64 0] 27)) (w.heap.size + 1) zeroR (.slice none 0 0)) := by
    have := rwBlk_new (w.alloc (.cells #[.float .f64 r.key, .bool r.dead, .slice a len cap, .int .i64 r.wr, .int .i64 r.cell, .int .i64 r.no] 27)) ⟨0, false, [], 0, 0, 0⟩ (.slice none 0 0)
    exact hide (by simpa [zeroR] using this)
  have HW := hide (below_two w (.cells #[.float .f64 r.key, .bool r.dead, .slice a len cap, .int .i64 r.wr, .int .i64 r.cell, .int .i64 r.no] 27) (.cells #[.float .f64 0, .bool false, .slice none 0 0, .int .i64 0, .int .i64 0, .int .i64 0] 27))
  clear h hf
  cases hm : r.may
  · rw [hm] at HC
    unfold chk at HC
    unfold Rw.val at HC ⊢
    clear hbad
    go_enter Try.func18, Try.ntmps18
    go_wp2_with fail
    refine (HC.out _ HW.out).mono ?_
    rintro e w1 ⟨rfl, hb1⟩
    have HW1 := hide (rBelow HW.out hb1)
    have HZ1 := hide (HZ.out.keep hb1)
    have z0 := HZ1.out.c0
    have z1 := HZ1.out.c1
    have z2 := HZ1.out.c2
    have z3 := HZ1.out.c3
    have z4 := HZ1.out.c4
    have z5 := HZ1.out.c5
    have f0 := HZ1.out.fz
    simp only [zeroR] at z0 z1 z3 z4 z5
    clear hb1
    go_wp2_with fail
    show bodyPost Try.prog Try.f18 _ Exit.ret _ (setRw w1 (w.heap.size + 1) zeroR (.slice none 0 0))
    refine rw_end2 rfl HZ1.out zeroR (.slice none 0 0) (.int .i64 1) ⟨_, _, _, rfl⟩ (by rfl) (by rfl) (by rfl) ?_
    exact ⟨setRw_below HW1.out (by omega) _ _, rfl⟩
  · have h0 : len = 0 := by rcases hbad with h | h; · rw [hm] at h; cases h
                            · exact h
    subst h0
    rw [hm] at HC
    unfold chk at HC
    unfold Rw.val at HC ⊢
    clear hbad
    go_enter Try.func18, Try.ntmps18
    go_wp2_with fail
    refine (HC.out _ HW.out).mono ?_
    rintro e w1 ⟨rfl, hb1⟩
    have HW1 := hide (rBelow HW.out hb1)
    have HZ1 := hide (HZ.out.keep hb1)
    have HX1 := hide (HX.out.keep hb1)
    have x2 := HX1.out.c2
    have z0 := HZ1.out.c0
    have z1 := HZ1.out.c1
    have z2 := HZ1.out.c2
    have z3 := HZ1.out.c3
    have z4 := HZ1.out.c4
    have z5 := HZ1.out.c5
    have f0 := HZ1.out.fz
    simp only [zeroR] at z0 z1 z3 z4 z5
    clear hb1
    go_wp2_with fail
    show bodyPost Try.prog Try.f18 _ Exit.ret _ (setRw w1 (w.heap.size + 1) zeroR (.slice none 0 0))
    refine rw_end2 rfl HZ1.out zeroR (.slice none 0 0) (.int .i64 1) ⟨_, _, _, rfl⟩ (by rfl) (by rfl) (by rfl) ?_
    exact ⟨setRw_below HW1.out (by omega) _ _, rfl⟩

theorem plus_fits {xs : List Nat} (h : ∀ x ∈ xs, x < 18446744073709551616) (y : Nat) : ∀ x ∈ xs.set 0 (Fl.addv (xs.getD 0 0) y), x < 18446744073709551616 := by
  intro x hx
  rcases List.mem_or_eq_of_mem_set hx with h1 | h1
  · exact h x h1
  · rw [h1]
    exact Fl.addv_lt _ _

theorem OwnsV.at0 {w : World} {base : Nat} {v : Value} {xs : List Nat} {n : Nat} (h : OwnsV 22 w base v (fVals xs)) (hn : xs.length = n) (h0 : 0 < n) : ∃ g cap, v = .slice (some ⟨g, 0, none⟩) n cap := by
  have hl : (fVals xs).length = n := by simp [fVals, hn]
  rcases h.2 with ⟨_, hz⟩ | ⟨g, cap, cur, hv, _⟩
  · rw [hl] at hz
    omega
  · rw [hl] at hv
    exact ⟨g, cap, hv⟩

set_option maxHeartbeats 4000000 in
set_option maxRecDepth 100000 in
theorem plus_any (r : Rw) (a : Option Addr) (len cap y : Nat) (w : World) (h : Fs w a len cap r.xs) (hf : r.fits) (hm : r.may = true) (h0 : 0 < len) :
    Calls Try.prog 18 #[r.val (.slice a len cap), .float .f64 y] w fun e w' => Below w.heap.size w w' ∧ ∃ ca cc, e = .returned (.tuple #[(plusR r y).val (.slice ca len cc), .int .i64 0]) ∧ Fs w' ca len cc (plusR r y).xs := by
  have hsf : ∀ (w : World) (a : Addr) (m : Mode) (x : Nat), (store a (.float .f64 x) m).run Try.prog w = stored Try.prog w a (.float .f64 x) m := fun w a m x => run_store Try.prog w a _ m rfl
  have h4 : len ≤ 4 := by have := (Rw.may_parts hm).2.1; rw [h.len] at this; exact this
  have HC : Hid (∀ w', Below w.heap.size w w' → Calls Try.prog 10 #[r.val (.slice a len cap)] w' fun e w'' => e = .returned (.int .i64 (chk r.may)) ∧ Below w'.heap.size w' w'') := fun w' hb => checkRow_any r a len cap w' (h.keep hb (Nat.le_refl _)) hf
  rw [hm] at HC
  have HX := hide ((rwBlk_new w r (.slice a len cap)).keep (below_alloc _ (.cells #[.float .f64 0, .bool false, .slice none 0 0, .int .i64 0, .int .i64 0, .int .i64 0] 27)))
  have HZ : Hid (RwBlk ((w.alloc (.cells #[.float .f64 r.key, .bool r.dead, .slice a len cap, .int .i64 r.wr, .int .i64 r.cell, .int .i64 r.no] 27)).alloc (.cells #[.float .f64 0, .bool false, .slice none 0 0, .int .i64 0, .int .i64 0, .int .i64 0] 27)) (w.heap.size + 1) zeroR (.slice none 0 0)) := by
    have := rwBlk_new (w.alloc (.cells #[.float .f64 r.key, .bool r.dead, .slice a len cap, .int .i64 r.wr, .int .i64 r.cell, .int .i64 r.no] 27)) ⟨0, false, [], 0, 0, 0⟩ (.slice none 0 0)
    exact hide (by simpa [zeroR] using this)
  have HW := hide (below_two w (.cells #[.float .f64 r.key, .bool r.dead, .slice a len cap, .int .i64 r.wr, .int .i64 r.cell, .int .i64 r.no] 27) (.cells #[.float .f64 0, .bool false, .slice none 0 0, .int .i64 0, .int .i64 0, .int .i64 0] 27))
  have H := hide h
  have HL := hide h.len
  have HPF := hide (plus_fits h.fit y)
  have i0 : ((len : Int) == 0) = false := beq_eq_false_iff_ne.2 (by omega)
  clear h hf hm
  unfold chk at HC
  unfold Rw.val at HC ⊢
  go_enter Try.func18, Try.ntmps18
  go_wp2_with fail
  refine (HC.out _ HW.out).mono ?_
  rintro e w1 ⟨rfl, hb1⟩
  have HW1 := hide (rBelow HW.out hb1)
  have HZ1 := hide (HZ.out.keep hb1)
  have HX1 := hide (HX.out.keep hb1)
  have x2 := HX1.out.c2
  have HCL := hide (clone_any a len cap r.xs w1 (H.out.keep HW1.out (Nat.le_refl _)) (by omega) h0)
  clear hb1 HC HX HZ
  go_wp2_with fail
  refine HCL.out.mono ?_
  rintro e w2 ⟨v2, rfl, ho2, hb2⟩
  have HW2 := hide (rBelow HW1.out hb2)
  have HZ2 := hide (HZ1.out.keep hb2)
  have HX2 := hide (HX1.out.keep hb2)
  obtain ⟨g, cg, rfl⟩ := ho2.at0 HL.out h0
  have HCE := hide (col_store (w := w2) (W0 := w) (B := w.heap.size) HW2.out (Nat.le_refl _) HX2.out (ho2.lower HW1.out.size) (fun _ _ _ _ _ _ => rfl) (Nat.le_refl _))
  have y2 := HX2.out.c2
  have f2 := HX2.out.fz 2
  have HZ3 : Hid (RwBlk (w2.setCell ⟨w.heap.size, 2, none⟩ (.slice (some ⟨g, 0, none⟩) len cg)) (w.heap.size + 1) zeroR (.slice none 0 0)) := (HCE.out.stay _ _ _ _ HZ2.out (by decide) (by omega)).trans HZ2.out
  clear hb2 ho2 x2 HCL
  go_wp2_with fail
  generalize w2.setCell ⟨w.heap.size, 2, none⟩ (.slice (some ⟨g, 0, none⟩) len cg) = w3 at *
  refine Pl.region_is (ops := Pl.find 4 ((Try.f18.body).getD .skip)) (by kernel_rfl) ?_
  refine plus4 w w3 w.heap.size w.heap.size g len cg r r.xs y HCE.out.below HCE.out.blk HCE.out.owns (by rw [HL.out]; exact h0) h0 (by rfl) (by rfl) (by rfl) (by rfl) ?_
  intro u w4 hte
  simp only [Act.put, List.setIfInBounds_toArray, List.set_cons_zero, List.set_cons_succ]
  have HTE := hide hte
  have HZ4 : Hid (RwBlk w4 (w.heap.size + 1) zeroR (.slice none 0 0)) := (hte.stay _ _ _ _ HZ3.out (by decide)).trans HZ3.out
  have t0 := hte.blk.c0
  have t1 := hte.blk.c1
  have t2 := hte.blk.c2
  have t3 := hte.blk.c3
  have t4 := hte.blk.c4
  have t5 := hte.blk.c5
  have z0 := HZ4.out.c0
  have z1 := HZ4.out.c1
  have z2 := HZ4.out.c2
  have z3 := HZ4.out.c3
  have z4 := HZ4.out.c4
  have z5 := HZ4.out.c5
  have f0 := HZ4.out.fz
  simp only [zeroR] at z0 z1 z3 z4 z5
  clear hte y2 f2 HZ3
  go_wp2_with fail
  show bodyPost Try.prog Try.f18 _ Exit.ret _ (setRw w4 (w.heap.size + 1) (plusR r y) (.slice (some ⟨g, 0, none⟩) len cg))
  refine rw_end2 rfl HZ4.out (plusR r y) (.slice (some ⟨g, 0, none⟩) len cg) (.int .i64 0) ⟨_, _, _, rfl⟩ (by rfl) (by rfl) (by rfl) ?_
  refine ⟨setRw_below HTE.out.below (by omega) _ _, _, _, rfl, ?_⟩
  exact (HTE.out.owns.setRw HZ4.out _ _).fsAt HPF.out (by rw [List.length_set, HL.out]; omega)

end Go.Proofs.Ytgckcalkdojeeaa
