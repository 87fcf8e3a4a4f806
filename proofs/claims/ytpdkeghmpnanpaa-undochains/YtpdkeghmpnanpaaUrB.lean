/-
  Undoings in memory; and undorec's own small functions, and the document's.
-/
import Derived.Test.YtpdkeghmpnanpaaUrA
namespace Go.Proofs.Ytpdkeghmpnanpaa
open Go.RowKit

/-- The twelve cells of an undoing, in a block of its own. -/
def UnBlk (w : World) (p : Nat) (u : Un) (c : Value) : Prop := w.heap[p]? = some (Obj.cells #[.int .i64 u.tx, .int .i64 u.no, .int .i64 u.prev, .int .i64 u.kind, .int .i64 u.page, .int .i64 u.slot, .float .f64 u.row.key, .bool u.row.dead, c, .int .i64 u.row.wr, .int .i64 u.row.cell, .int .i64 u.row.no] 30 (0, 0))

theorem unBlk_new (w : World) (u : Un) (c : Value) : UnBlk (w.alloc (.cells #[.int .i64 u.tx, .int .i64 u.no, .int .i64 u.prev, .int .i64 u.kind, .int .i64 u.page, .int .i64 u.slot, .float .f64 u.row.key, .bool u.row.dead, c, .int .i64 u.row.wr, .int .i64 u.row.cell, .int .i64 u.row.no] 30)) w.heap.size u c := heap_alloc_new w _

theorem UnBlk.keep {w w' : World} {p : Nat} {u : Un} {c : Value} (h : UnBlk w p u c) (hb : Below w.heap.size w w') : UnBlk w' p u c := (hb.block p (Array.getElem?_eq_some_iff.1 h).1).trans h

theorem UnBlk.lt {w : World} {p : Nat} {u : Un} {c : Value} (h : UnBlk w p u c) : p < w.heap.size := (Array.getElem?_eq_some_iff.1 h).1

theorem UnBlk.c0 {w : World} {p : Nat} {u : Un} {c : Value} (h : UnBlk w p u c) : w.cell? ⟨p, 0, none⟩ = some (.int .i64 u.tx) := by unfold UnBlk at h; simp [World.cell?, h]
theorem UnBlk.c1 {w : World} {p : Nat} {u : Un} {c : Value} (h : UnBlk w p u c) : w.cell? ⟨p, 1, none⟩ = some (.int .i64 u.no) := by unfold UnBlk at h; simp [World.cell?, h]
theorem UnBlk.c2 {w : World} {p : Nat} {u : Un} {c : Value} (h : UnBlk w p u c) : w.cell? ⟨p, 2, none⟩ = some (.int .i64 u.prev) := by unfold UnBlk at h; simp [World.cell?, h]
theorem UnBlk.c3 {w : World} {p : Nat} {u : Un} {c : Value} (h : UnBlk w p u c) : w.cell? ⟨p, 3, none⟩ = some (.int .i64 u.kind) := by unfold UnBlk at h; simp [World.cell?, h]
theorem UnBlk.c4 {w : World} {p : Nat} {u : Un} {c : Value} (h : UnBlk w p u c) : w.cell? ⟨p, 4, none⟩ = some (.int .i64 u.page) := by unfold UnBlk at h; simp [World.cell?, h]
theorem UnBlk.c5 {w : World} {p : Nat} {u : Un} {c : Value} (h : UnBlk w p u c) : w.cell? ⟨p, 5, none⟩ = some (.int .i64 u.slot) := by unfold UnBlk at h; simp [World.cell?, h]
theorem UnBlk.c6 {w : World} {p : Nat} {u : Un} {c : Value} (h : UnBlk w p u c) : w.cell? ⟨p, 6, none⟩ = some (.float .f64 u.row.key) := by unfold UnBlk at h; simp [World.cell?, h]
theorem UnBlk.c7 {w : World} {p : Nat} {u : Un} {c : Value} (h : UnBlk w p u c) : w.cell? ⟨p, 7, none⟩ = some (.bool u.row.dead) := by unfold UnBlk at h; simp [World.cell?, h]
theorem UnBlk.c8 {w : World} {p : Nat} {u : Un} {c : Value} (h : UnBlk w p u c) : w.cell? ⟨p, 8, none⟩ = some (c) := by unfold UnBlk at h; simp [World.cell?, h]
theorem UnBlk.c9 {w : World} {p : Nat} {u : Un} {c : Value} (h : UnBlk w p u c) : w.cell? ⟨p, 9, none⟩ = some (.int .i64 u.row.wr) := by unfold UnBlk at h; simp [World.cell?, h]
theorem UnBlk.c10 {w : World} {p : Nat} {u : Un} {c : Value} (h : UnBlk w p u c) : w.cell? ⟨p, 10, none⟩ = some (.int .i64 u.row.cell) := by unfold UnBlk at h; simp [World.cell?, h]
theorem UnBlk.c11 {w : World} {p : Nat} {u : Un} {c : Value} (h : UnBlk w p u c) : w.cell? ⟨p, 11, none⟩ = some (.int .i64 u.row.no) := by unfold UnBlk at h; simp [World.cell?, h]
theorem UnBlk.fz {w : World} {p : Nat} {u : Un} {c : Value} (h : UnBlk w p u c) (o : Nat) : w.frozen? ⟨p, o, none⟩ = false := frozen_of_row w p _ _ 30 h

def setUn (w : World) (g : Nat) (u : Un) (c : Value) : World := (((((((((((w.setCell ⟨g, 0, none⟩ (.int .i64 u.tx)).setCell ⟨g, 1, none⟩ (.int .i64 u.no)).setCell ⟨g, 2, none⟩ (.int .i64 u.prev)).setCell ⟨g, 3, none⟩ (.int .i64 u.kind)).setCell ⟨g, 4, none⟩ (.int .i64 u.page)).setCell ⟨g, 5, none⟩ (.int .i64 u.slot)).setCell ⟨g, 6, none⟩ (.float .f64 u.row.key)).setCell ⟨g, 7, none⟩ (.bool u.row.dead)).setCell ⟨g, 8, none⟩ (c)).setCell ⟨g, 9, none⟩ (.int .i64 u.row.wr)).setCell ⟨g, 10, none⟩ (.int .i64 u.row.cell)).setCell ⟨g, 11, none⟩ (.int .i64 u.row.no)

theorem setUn_blk {w : World} {g : Nat} {u0 : Un} {c0 : Value} (h : UnBlk w g u0 c0) (u : Un) (c : Value) : UnBlk (setUn w g u c) g u c := by
  have h1 := heap_setCell_same w g 0 _ 30 (.int .i64 u.tx) h
  have h2 := heap_setCell_same _ g 1 _ 30 (.int .i64 u.no) h1
  have h3 := heap_setCell_same _ g 2 _ 30 (.int .i64 u.prev) h2
  have h4 := heap_setCell_same _ g 3 _ 30 (.int .i64 u.kind) h3
  have h5 := heap_setCell_same _ g 4 _ 30 (.int .i64 u.page) h4
  have h6 := heap_setCell_same _ g 5 _ 30 (.int .i64 u.slot) h5
  have h7 := heap_setCell_same _ g 6 _ 30 (.float .f64 u.row.key) h6
  have h8 := heap_setCell_same _ g 7 _ 30 (.bool u.row.dead) h7
  have h9 := heap_setCell_same _ g 8 _ 30 (c) h8
  have h10 := heap_setCell_same _ g 9 _ 30 (.int .i64 u.row.wr) h9
  have h11 := heap_setCell_same _ g 10 _ 30 (.int .i64 u.row.cell) h10
  have h12 := heap_setCell_same _ g 11 _ 30 (.int .i64 u.row.no) h11
  unfold UnBlk setUn
  rw [h12]
  simp

theorem setUn_below {B g : Nat} {w0 w : World} (hb : Below B w0 w) (hg : B ≤ g) (u : Un) (c : Value) : Below B w0 (setUn w g u c) :=
  (((((((((((hb.setCell (p := ⟨g, 0, none⟩) hg _).setCell (p := ⟨g, 1, none⟩) hg _).setCell (p := ⟨g, 2, none⟩) hg _).setCell (p := ⟨g, 3, none⟩) hg _).setCell (p := ⟨g, 4, none⟩) hg _).setCell (p := ⟨g, 5, none⟩) hg _).setCell (p := ⟨g, 6, none⟩) hg _).setCell (p := ⟨g, 7, none⟩) hg _).setCell (p := ⟨g, 8, none⟩) hg _).setCell (p := ⟨g, 9, none⟩) hg _).setCell (p := ⟨g, 10, none⟩) hg _).setCell (p := ⟨g, 11, none⟩) hg _

theorem setUn_other (w : World) (g : Nat) (u : Un) (c : Value) (k : Nat) (hk : k ≠ g) : (setUn w g u c).heap[k]? = w.heap[k]? := by
  unfold setUn
  rw [Below.heap_setCell _ ⟨g, 11, none⟩ _ k hk, Below.heap_setCell _ ⟨g, 10, none⟩ _ k hk, Below.heap_setCell _ ⟨g, 9, none⟩ _ k hk, Below.heap_setCell _ ⟨g, 8, none⟩ _ k hk, Below.heap_setCell _ ⟨g, 7, none⟩ _ k hk, Below.heap_setCell _ ⟨g, 6, none⟩ _ k hk, Below.heap_setCell _ ⟨g, 5, none⟩ _ k hk, Below.heap_setCell _ ⟨g, 4, none⟩ _ k hk, Below.heap_setCell _ ⟨g, 3, none⟩ _ k hk, Below.heap_setCell _ ⟨g, 2, none⟩ _ k hk, Below.heap_setCell _ ⟨g, 1, none⟩ _ k hk, Below.heap_setCell _ ⟨g, 0, none⟩ _ k hk]

theorem setUn_size (w : World) (g : Nat) (u : Un) (c : Value) : (setUn w g u c).heap.size = w.heap.size := by simp [setUn]

theorem un_results2 {fn : Func} {x y : Nat} (hr : fn.results = #[.cell x 30, .tmp y]) {W : World} {g : Nat} {u : Un} {c : Value} (h : UnBlk W g u c) (tmps : Array Value) (v : Value) (ht : tmps.getD x undef = .pointer (some ⟨g, 0, none⟩)) (hx : tmps.getD y undef = v) (hc : ∃ a len cap, c = .slice a len cap) : (results fn tmps).run Try.prog W = .ok (.tuple #[u.val c, v]) W := by
  have c0 := h.c0
  have c1 := h.c1
  have c2 := h.c2
  have c3 := h.c3
  have c4 := h.c4
  have c5 := h.c5
  have c6 := h.c6
  have c7 := h.c7
  have c8 := h.c8
  have c9 := h.c9
  have c10 := h.c10
  have c11 := h.c11
  obtain ⟨a, len, cap, rfl⟩ := hc
  have ht2 : tmps[x]?.getD undef = .pointer (some ⟨g, 0, none⟩) := by simpa using ht
  have hx2 : tmps[y]?.getD undef = v := by simpa using hx
  simp [results, hr, ht2, hx2, go_sem, c0, c1, c2, c3, c4, c5, c6, c7, c8, c9, c10, c11, Un.val]

theorem un_end2 {fn : Func} {x y : Nat} (hres : fn.results = #[.cell x 30, .tmp y]) {W : World} {g : Nat} {u0 : Un} {c0 : Value} (h : UnBlk W g u0 c0) (u : Un) (c v : Value) (hc : ∃ a len cap, c = .slice a len cap) {A : Act} {R : Ending → World → Prop} (t2 : A.tmps.getD x undef = .pointer (some ⟨g, 0, none⟩)) (t3 : A.tmps.getD y undef = v) (hd : A.defers = [])
    (hR : R (.returned (.tuple #[u.val c, v])) (setUn W g u c)) : bodyPost Try.prog fn R Exit.ret A (setUn W g u c) := by
  have hr := setUn_blk h u c
  generalize setUn W g u c = W' at *
  exact bodyPost_ret (un_results2 hres hr _ _ t2 t3 hc) hd hR

theorem load_un (b : Nat) (u : Un) (c : Value) (hc : ∃ a len cap, c = .slice a len cap) (w : World) (h : UnBlk w b u c) : (Instr.loadAt 30 (.pointer (some ⟨b, 0, none⟩))).run Try.prog w = .ok (u.val c) w := by
  have c0 := h.c0
  have c1 := h.c1
  have c2 := h.c2
  have c3 := h.c3
  have c4 := h.c4
  have c5 := h.c5
  have c6 := h.c6
  have c7 := h.c7
  have c8 := h.c8
  have c9 := h.c9
  have c10 := h.c10
  have c11 := h.c11
  obtain ⟨a, len, cap, rfl⟩ := hc
  simp [go_sem, c0, c1, c2, c3, c4, c5, c6, c7, c8, c9, c10, c11, Un.val]

def zeroU : Un := ⟨0, 0, 0, 0, 0, 0, zeroR⟩
theorem zeroU_fits : zeroU.fits := ⟨by decide, by decide, by decide, by decide, by decide, by decide, zeroR_fits⟩

theorem within_any (n lo hi : Int) (w : World) : Calls Try.prog 41 #[.int .i64 n, .int .i64 lo, .int .i64 hi] w fun e w' => e = .returned (.bool (witB n lo hi)) ∧ w' = w := by
  unfold witB
  go_enter Try.func41, Try.ntmps41
  go_wp2_with fail
  all_goals (go_ret; exact ⟨by simp [*] <;> (intros; omega), rfl⟩)

set_option maxHeartbeats 2000000 in
theorem mayUndo_any (k : Int) (r : Rw) (a : Option Addr) (len cap : Nat) (w : World) (h : Fs w a len cap r.xs) (hf : r.fits) :
    Calls Try.prog 42 #[.int .i64 k, r.val (.slice a len cap)] w fun e w' => e = .returned (.bool (undoB k r)) ∧ Below w.heap.size w w' := by
  have HW := hide (below_alloc w (.cells #[.float .f64 r.key, .bool r.dead, .slice a len cap, .int .i64 r.wr, .int .i64 r.cell, .int .i64 r.no] 28))
  have HS : Hid (∀ w', Below w.heap.size w w' → Calls Try.prog 50 #[r.val (.slice a len cap), zeroR.val (.slice none 0 0)] w' fun e w'' => e = .returned (.bool (r.same zeroR)) ∧ Below w'.heap.size w' w'') := fun w' hb => rowSame_any r zeroR a len cap none 0 0 w' (h.keep hb (Nat.le_refl _)) (fs_nil w')
  have HC : Hid (∀ w', Below w.heap.size w w' → Calls Try.prog 51 #[r.val (.slice a len cap)] w' fun e w'' => e = .returned (.int .i64 (chk r.may)) ∧ Below w'.heap.size w' w'') := fun w' hb => checkRow_any r a len cap w' (h.keep hb (Nat.le_refl _)) hf
  clear h hf
  unfold undoB
  by_cases k1 : k = 1
  · subst k1
    rw [if_pos rfl]
    generalize r.same zeroR = m at *
    unfold Rw.val zeroR at HS
    unfold Rw.val
    simp only at HS ⊢
    go_enter Try.func42, Try.ntmps42
    go_wp2_with fail
    refine (HS.out _ HW.out).mono ?_
    rintro e w1 ⟨rfl, hb1⟩
    have HW1 := hide (rBelow HW.out hb1)
    clear hb1
    go_wp2_with fail
    go_ret
    exact ⟨rfl, HW1.out⟩
  · rw [if_neg k1]
    have e1 : (k == 1) = false := beq_eq_false_iff_ne.2 k1
    clear k1
    by_cases k2 : k = 2
    · subst k2
      rw [if_pos rfl]
      generalize r.may = m at *
      unfold Rw.val at HC ⊢
      clear e1
      cases m
      all_goals
        unfold chk at HC
        go_enter Try.func42, Try.ntmps42
        go_wp2_with fail
        refine (HC.out _ HW.out).mono ?_
        rintro e w1 ⟨rfl, hb1⟩
        have HW1 := hide (rBelow HW.out hb1)
        clear hb1
        go_wp2_with fail
        go_ret
        exact ⟨by simp, HW1.out⟩
    · rw [if_neg k2]
      have e2 : (k == 2) = false := beq_eq_false_iff_ne.2 k2
      clear k2
      unfold Rw.val
      go_enter Try.func42, Try.ntmps42
      go_wp2_with fail
      go_ret
      exact ⟨by simp, HW.out⟩

set_option maxHeartbeats 4000000 in
set_option maxRecDepth 100000 in
theorem checkU_any (u : Un) (a : Option Addr) (len cap : Nat) (w : World) (h : Fs w a len cap u.row.xs) (hf : u.row.fits) :
    Calls Try.prog 27 #[u.val (.slice a len cap)] w fun e w' => e = .returned (.int .i64 (chk u.may)) ∧ Below w.heap.size w w' := by
  obtain ⟨tx, no, prev, kind, page, slot, r⟩ := u
  simp only at h hf
  have HW := hide (below_alloc w (.cells #[.int .i64 tx, .int .i64 no, .int .i64 prev, .int .i64 kind, .int .i64 page, .int .i64 slot, .float .f64 r.key, .bool r.dead, (.slice a len cap), .int .i64 r.wr, .int .i64 r.cell, .int .i64 r.no] 30))
  have H1 := hide (within_any tx 1 2147483647)
  have H2 := hide (within_any no 1 2147483647)
  have H3 := hide (within_any prev 0 65535)
  have H4 := hide (within_any page 0 255)
  have H5 := hide (within_any slot 0 255)
  have H6 : Hid (∀ w', Below w.heap.size w w' → Calls Try.prog 42 #[.int .i64 kind, r.val (.slice a len cap)] w' fun e w'' => e = .returned (.bool (undoB kind r)) ∧ Below w'.heap.size w' w'') := fun w' hb => mayUndo_any kind r a len cap w' (h.keep hb (Nat.le_refl _)) hf
  clear h hf
  unfold Un.val Un.may
  unfold Rw.val at H6
  simp only
  generalize witB tx 1 2147483647 = b1 at *
  generalize witB no 1 2147483647 = b2 at *
  generalize witB prev 0 65535 = b3 at *
  generalize witB page 0 255 = b4 at *
  generalize witB slot 0 255 = b5 at *
  generalize undoB kind r = b6 at *
  cases b1
  · go_enter Try.func27, Try.ntmps27
    go_wp2_with fail
    refine (H1.out _).mono ?_
    rintro e w' ⟨rfl, hw⟩
    obtain rfl := hw.symm
    go_wp2_with fail
    go_ret
    exact ⟨rfl, HW.out⟩
  cases b2
  · go_enter Try.func27, Try.ntmps27
    go_wp2_with fail
    refine (H1.out _).mono ?_
    rintro e w' ⟨rfl, hw⟩
    obtain rfl := hw.symm
    go_wp2_with fail
    refine (H2.out _).mono ?_
    rintro e w' ⟨rfl, hw⟩
    obtain rfl := hw.symm
    go_wp2_with fail
    go_ret
    exact ⟨rfl, HW.out⟩
  cases b3
  · go_enter Try.func27, Try.ntmps27
    go_wp2_with fail
    refine (H1.out _).mono ?_
    rintro e w' ⟨rfl, hw⟩
    obtain rfl := hw.symm
    go_wp2_with fail
    refine (H2.out _).mono ?_
    rintro e w' ⟨rfl, hw⟩
    obtain rfl := hw.symm
    go_wp2_with fail
    refine (H3.out _).mono ?_
    rintro e w' ⟨rfl, hw⟩
    obtain rfl := hw.symm
    go_wp2_with fail
    go_ret
    exact ⟨rfl, HW.out⟩
  cases b4
  · go_enter Try.func27, Try.ntmps27
    go_wp2_with fail
    refine (H1.out _).mono ?_
    rintro e w' ⟨rfl, hw⟩
    obtain rfl := hw.symm
    go_wp2_with fail
    refine (H2.out _).mono ?_
    rintro e w' ⟨rfl, hw⟩
    obtain rfl := hw.symm
    go_wp2_with fail
    refine (H3.out _).mono ?_
    rintro e w' ⟨rfl, hw⟩
    obtain rfl := hw.symm
    go_wp2_with fail
    refine (H4.out _).mono ?_
    rintro e w' ⟨rfl, hw⟩
    obtain rfl := hw.symm
    go_wp2_with fail
    go_ret
    exact ⟨rfl, HW.out⟩
  cases b5
  · go_enter Try.func27, Try.ntmps27
    go_wp2_with fail
    refine (H1.out _).mono ?_
    rintro e w' ⟨rfl, hw⟩
    obtain rfl := hw.symm
    go_wp2_with fail
    refine (H2.out _).mono ?_
    rintro e w' ⟨rfl, hw⟩
    obtain rfl := hw.symm
    go_wp2_with fail
    refine (H3.out _).mono ?_
    rintro e w' ⟨rfl, hw⟩
    obtain rfl := hw.symm
    go_wp2_with fail
    refine (H4.out _).mono ?_
    rintro e w' ⟨rfl, hw⟩
    obtain rfl := hw.symm
    go_wp2_with fail
    refine (H5.out _).mono ?_
    rintro e w' ⟨rfl, hw⟩
    obtain rfl := hw.symm
    go_wp2_with fail
    go_ret
    exact ⟨rfl, HW.out⟩
  cases b6
  all_goals
    go_enter Try.func27, Try.ntmps27
    go_wp2_with fail
    refine (H1.out _).mono ?_
    rintro e w' ⟨rfl, hw⟩
    obtain rfl := hw.symm
    go_wp2_with fail
    refine (H2.out _).mono ?_
    rintro e w' ⟨rfl, hw⟩
    obtain rfl := hw.symm
    go_wp2_with fail
    refine (H3.out _).mono ?_
    rintro e w' ⟨rfl, hw⟩
    obtain rfl := hw.symm
    go_wp2_with fail
    refine (H4.out _).mono ?_
    rintro e w' ⟨rfl, hw⟩
    obtain rfl := hw.symm
    go_wp2_with fail
    refine (H5.out _).mono ?_
    rintro e w' ⟨rfl, hw⟩
    obtain rfl := hw.symm
    go_wp2_with fail
    refine (H6.out _ HW.out).mono ?_
    rintro e w1 ⟨rfl, hb1⟩
    have HW1 := hide (rBelow HW.out hb1)
    clear hb1
    go_wp2_with fail
    go_ret
    exact ⟨rfl, HW1.out⟩

set_option maxHeartbeats 4000000 in
set_option maxRecDepth 100000 in
theorem unSame_any (A B : Un) (a : Option Addr) (len cap : Nat) (b : Option Addr) (len' cap' : Nat) (w : World) (h : Fs w a len cap A.row.xs) (h' : Fs w b len' cap' B.row.xs) :
    Calls Try.prog 45 #[A.val (.slice a len cap), B.val (.slice b len' cap')] w fun e w' => e = .returned (.bool (A.same B)) ∧ Below w.heap.size w w' := by
  obtain ⟨t, n, p, k, g, s, r⟩ := A
  obtain ⟨t', n', p', k', g', s', r'⟩ := B
  simp only at h h'
  have HW := hide (below_two w (.cells #[.int .i64 t, .int .i64 n, .int .i64 p, .int .i64 k, .int .i64 g, .int .i64 s, .float .f64 r.key, .bool r.dead, .slice a len cap, .int .i64 r.wr, .int .i64 r.cell, .int .i64 r.no] 30) (.cells #[.int .i64 t', .int .i64 n', .int .i64 p', .int .i64 k', .int .i64 g', .int .i64 s', .float .f64 r'.key, .bool r'.dead, .slice b len' cap', .int .i64 r'.wr, .int .i64 r'.cell, .int .i64 r'.no] 30))
  have HR : Hid (∀ w', Below w.heap.size w w' → Calls Try.prog 50 #[r.val (.slice a len cap), r'.val (.slice b len' cap')] w' fun e w'' => e = .returned (.bool (r.same r')) ∧ Below w'.heap.size w' w'') := fun w' hb => rowSame_any r r' a len cap b len' cap' w' (h.keep hb (Nat.le_refl _)) (h'.keep hb (Nat.le_refl _))
  clear h h'
  unfold Un.val Un.same
  unfold Rw.val at HR
  simp only
  generalize r.same r' = m at *
  by_cases et : t = t'
  rotate_left
  · have qt : (t == t') = false := beq_eq_false_iff_ne.2 et
    clear et
    go_enter Try.func45, Try.ntmps45
    go_wp2_with fail
    go_ret
    exact ⟨by simp [qt], HW.out⟩
  subst et
  by_cases en : n = n'
  rotate_left
  · have qn : (n == n') = false := beq_eq_false_iff_ne.2 en
    clear en
    go_enter Try.func45, Try.ntmps45
    go_wp2_with fail
    go_ret
    exact ⟨by simp [qn], HW.out⟩
  subst en
  by_cases ep : p = p'
  rotate_left
  · have qp : (p == p') = false := beq_eq_false_iff_ne.2 ep
    clear ep
    go_enter Try.func45, Try.ntmps45
    go_wp2_with fail
    go_ret
    exact ⟨by simp [qp], HW.out⟩
  subst ep
  by_cases ek : k = k'
  rotate_left
  · have qk : (k == k') = false := beq_eq_false_iff_ne.2 ek
    clear ek
    go_enter Try.func45, Try.ntmps45
    go_wp2_with fail
    go_ret
    exact ⟨by simp [qk], HW.out⟩
  subst ek
  by_cases eg : g = g'
  rotate_left
  · have qg : (g == g') = false := beq_eq_false_iff_ne.2 eg
    clear eg
    go_enter Try.func45, Try.ntmps45
    go_wp2_with fail
    go_ret
    exact ⟨by simp [qg], HW.out⟩
  subst eg
  by_cases es : s = s'
  rotate_left
  · have qs : (s == s') = false := beq_eq_false_iff_ne.2 es
    clear es
    go_enter Try.func45, Try.ntmps45
    go_wp2_with fail
    go_ret
    exact ⟨by simp [qs], HW.out⟩
  subst es
  go_enter Try.func45, Try.ntmps45
  go_wp2_with fail
  refine (HR.out _ HW.out).mono ?_
  rintro e w1 ⟨rfl, hb1⟩
  have HW1 := hide (rBelow HW.out hb1)
  clear hb1
  go_wp2_with fail
  go_ret
  exact ⟨by simp, HW1.out⟩

set_option maxHeartbeats 4000000 in
set_option maxRecDepth 100000 in
theorem refUnSame_any (A B : Un) (a : Option Addr) (len cap : Nat) (b : Option Addr) (len' cap' : Nat) (w : World) (h : Fs w a len cap A.row.xs) (h' : Fs w b len' cap' B.row.xs) :
    Calls Try.prog 22 #[A.val (.slice a len cap), B.val (.slice b len' cap')] w fun e w' => e = .returned (.bool (A.same B)) ∧ Below w.heap.size w w' := by
  obtain ⟨t, n, p, k, g, s, r⟩ := A
  obtain ⟨t', n', p', k', g', s', r'⟩ := B
  simp only at h h'
  have HW := hide (below_two w (.cells #[.int .i64 t, .int .i64 n, .int .i64 p, .int .i64 k, .int .i64 g, .int .i64 s, .float .f64 r.key, .bool r.dead, .slice a len cap, .int .i64 r.wr, .int .i64 r.cell, .int .i64 r.no] 30) (.cells #[.int .i64 t', .int .i64 n', .int .i64 p', .int .i64 k', .int .i64 g', .int .i64 s', .float .f64 r'.key, .bool r'.dead, .slice b len' cap', .int .i64 r'.wr, .int .i64 r'.cell, .int .i64 r'.no] 30))
  have HR : Hid (∀ w', Below w.heap.size w w' → Calls Try.prog 39 #[r.val (.slice a len cap), r'.val (.slice b len' cap')] w' fun e w'' => e = .returned (.bool (r.same r')) ∧ Below w'.heap.size w' w'') := fun w' hb => refRowSame_any r r' a len cap b len' cap' w' (h.keep hb (Nat.le_refl _)) (h'.keep hb (Nat.le_refl _))
  clear h h'
  unfold Un.val Un.same
  unfold Rw.val at HR
  simp only
  generalize r.same r' = m at *
  by_cases et : t = t'
  rotate_left
  · have qt : (t == t') = false := beq_eq_false_iff_ne.2 et
    clear et
    go_enter Try.func22, Try.ntmps22
    go_wp2_with fail
    go_ret
    exact ⟨by simp [qt], HW.out⟩
  subst et
  by_cases en : n = n'
  rotate_left
  · have qn : (n == n') = false := beq_eq_false_iff_ne.2 en
    clear en
    go_enter Try.func22, Try.ntmps22
    go_wp2_with fail
    go_ret
    exact ⟨by simp [qn], HW.out⟩
  subst en
  by_cases ep : p = p'
  rotate_left
  · have qp : (p == p') = false := beq_eq_false_iff_ne.2 ep
    clear ep
    go_enter Try.func22, Try.ntmps22
    go_wp2_with fail
    go_ret
    exact ⟨by simp [qp], HW.out⟩
  subst ep
  by_cases ek : k = k'
  rotate_left
  · have qk : (k == k') = false := beq_eq_false_iff_ne.2 ek
    clear ek
    go_enter Try.func22, Try.ntmps22
    go_wp2_with fail
    go_ret
    exact ⟨by simp [qk], HW.out⟩
  subst ek
  by_cases eg : g = g'
  rotate_left
  · have qg : (g == g') = false := beq_eq_false_iff_ne.2 eg
    clear eg
    go_enter Try.func22, Try.ntmps22
    go_wp2_with fail
    go_ret
    exact ⟨by simp [qg], HW.out⟩
  subst eg
  by_cases es : s = s'
  rotate_left
  · have qs : (s == s') = false := beq_eq_false_iff_ne.2 es
    clear es
    go_enter Try.func22, Try.ntmps22
    go_wp2_with fail
    go_ret
    exact ⟨by simp [qs], HW.out⟩
  subst es
  go_enter Try.func22, Try.ntmps22
  go_wp2_with fail
  refine (HR.out _ HW.out).mono ?_
  rintro e w1 ⟨rfl, hb1⟩
  have HW1 := hide (rBelow HW.out hb1)
  clear hb1
  go_wp2_with fail
  go_ret
  exact ⟨by simp, HW1.out⟩

/-- May, as the document tests it. -/
theorem mayU_no {u : Un} (h : u.tx < 1 ∨ 2147483647 < u.tx ∨ u.no < 1 ∨ 2147483647 < u.no ∨ u.prev < 0 ∨ 65535 < u.prev ∨ u.page < 0 ∨ 255 < u.page ∨ u.slot < 0 ∨ 255 < u.slot) : u.may = false := by
  cases hm : u.may
  · rfl
  · have p := Un.parts hm
    have p1 := p.tx
    have p2 := p.no
    have p3 := p.prev
    have p4 := p.page
    have p5 := p.slot
    omega

theorem mayU_yes {u : Un} (h : ¬ (u.tx < 1 ∨ 2147483647 < u.tx ∨ u.no < 1 ∨ 2147483647 < u.no ∨ u.prev < 0 ∨ 65535 < u.prev ∨ u.page < 0 ∨ 255 < u.page ∨ u.slot < 0 ∨ 255 < u.slot)) : u.may = undoB u.kind u.row := by
  unfold Un.may witB
  simp only [show (1 ≤ u.tx) = True by simp; omega, show (u.tx ≤ 2147483647) = True by simp; omega, show (1 ≤ u.no) = True by simp; omega, show (u.no ≤ 2147483647) = True by simp; omega, show (0 ≤ u.prev) = True by simp; omega, show (u.prev ≤ 65535) = True by simp; omega, show (0 ≤ u.page) = True by simp; omega, show (u.page ≤ 255) = True by simp; omega, show (0 ≤ u.slot) = True by simp; omega, show (u.slot ≤ 255) = True by simp; omega, decide_true, Bool.and_self, Bool.true_and]

set_option maxHeartbeats 4000000 in
set_option maxRecDepth 100000 in
theorem refMayU_any (u : Un) (a : Option Addr) (len cap : Nat) (w : World) (h : Fs w a len cap u.row.xs) (hf : u.row.fits) :
    Calls Try.prog 34 #[u.val (.slice a len cap)] w fun e w' => e = .returned (.bool u.may) ∧ Below w.heap.size w w' := by
  have hno : ∀ (tx no prev kind page slot : Int) (r : Rw), _ → Un.may ⟨tx, no, prev, kind, page, slot, r⟩ = false := fun tx no prev kind page slot r h => mayU_no (u := ⟨tx, no, prev, kind, page, slot, r⟩) h
  have HNO := hide hno
  have HYES := hide (@mayU_yes u)
  obtain ⟨tx, no, prev, kind, page, slot, r⟩ := u
  simp only at h hf HYES
  have HW := hide (below_alloc w (.cells #[.int .i64 tx, .int .i64 no, .int .i64 prev, .int .i64 kind, .int .i64 page, .int .i64 slot, .float .f64 r.key, .bool r.dead, (.slice a len cap), .int .i64 r.wr, .int .i64 r.cell, .int .i64 r.no] 30))
  have HS : Hid (∀ w', Below w.heap.size w w' → Calls Try.prog 39 #[r.val (.slice a len cap), zeroR.val (.slice none 0 0)] w' fun e w'' => e = .returned (.bool (r.same zeroR)) ∧ Below w'.heap.size w' w'') := fun w' hb => refRowSame_any r zeroR a len cap none 0 0 w' (h.keep hb (Nat.le_refl _)) (fs_nil w')
  have HM : Hid (∀ w', Below w.heap.size w w' → Calls Try.prog 44 #[r.val (.slice a len cap)] w' fun e w'' => e = .returned (.bool r.may) ∧ Below w'.heap.size w' w'') := fun w' hb => refMayRow_any r a len cap w' (h.keep hb (Nat.le_refl _)) hf
  clear h hf hno
  unfold Un.val
  simp only
  by_cases x1 : tx < 1
  · have HR := hide (HNO.out tx no prev kind page slot r (by simp only; omega))
    go_enter Try.func34, Try.ntmps34
    go_wp2_with fail
    go_ret
    exact ⟨by rw [HR.out]; rfl, HW.out⟩
  by_cases x2 : 2147483647 < tx
  · have HR := hide (HNO.out tx no prev kind page slot r (by simp only; omega))
    go_enter Try.func34, Try.ntmps34
    go_wp2_with fail
    go_ret
    exact ⟨by rw [HR.out]; rfl, HW.out⟩
  by_cases x3 : no < 1
  · have HR := hide (HNO.out tx no prev kind page slot r (by simp only; omega))
    go_enter Try.func34, Try.ntmps34
    go_wp2_with fail
    go_ret
    exact ⟨by rw [HR.out]; rfl, HW.out⟩
  by_cases x4 : 2147483647 < no
  · have HR := hide (HNO.out tx no prev kind page slot r (by simp only; omega))
    go_enter Try.func34, Try.ntmps34
    go_wp2_with fail
    go_ret
    exact ⟨by rw [HR.out]; rfl, HW.out⟩
  by_cases x5 : prev < 0
  · have HR := hide (HNO.out tx no prev kind page slot r (by simp only; omega))
    go_enter Try.func34, Try.ntmps34
    go_wp2_with fail
    go_ret
    exact ⟨by rw [HR.out]; rfl, HW.out⟩
  by_cases x6 : 65535 < prev
  · have HR := hide (HNO.out tx no prev kind page slot r (by simp only; omega))
    go_enter Try.func34, Try.ntmps34
    go_wp2_with fail
    go_ret
    exact ⟨by rw [HR.out]; rfl, HW.out⟩
  by_cases x7 : page < 0
  · have HR := hide (HNO.out tx no prev kind page slot r (by simp only; omega))
    go_enter Try.func34, Try.ntmps34
    go_wp2_with fail
    go_ret
    exact ⟨by rw [HR.out]; rfl, HW.out⟩
  by_cases x8 : 255 < page
  · have HR := hide (HNO.out tx no prev kind page slot r (by simp only; omega))
    go_enter Try.func34, Try.ntmps34
    go_wp2_with fail
    go_ret
    exact ⟨by rw [HR.out]; rfl, HW.out⟩
  by_cases x9 : slot < 0
  · have HR := hide (HNO.out tx no prev kind page slot r (by simp only; omega))
    go_enter Try.func34, Try.ntmps34
    go_wp2_with fail
    go_ret
    exact ⟨by rw [HR.out]; rfl, HW.out⟩
  by_cases x10 : 255 < slot
  · have HR := hide (HNO.out tx no prev kind page slot r (by simp only; omega))
    go_enter Try.func34, Try.ntmps34
    go_wp2_with fail
    go_ret
    exact ⟨by rw [HR.out]; rfl, HW.out⟩
  have HR := hide (HYES.out (by omega))
  clear HNO HYES
  by_cases k1 : kind = 1
  · subst k1
    have HR' : Hid (Un.may ⟨tx, no, prev, 1, page, slot, r⟩ = r.same zeroR) := HR.out.trans (if_pos rfl)
    generalize r.same zeroR = m at *
    unfold Rw.val zeroR at HS
    simp only at HS
    clear HR
    go_enter Try.func34, Try.ntmps34
    go_wp2_with fail
    refine (HS.out _ HW.out).mono ?_
    rintro e w1 ⟨rfl, hb1⟩
    have HW1 := hide (rBelow HW.out hb1)
    clear hb1
    go_wp2_with fail
    go_ret
    exact ⟨by rw [HR'.out]; rfl, HW1.out⟩
  · have e1 : (kind == 1) = false := beq_eq_false_iff_ne.2 k1
    by_cases k2 : kind = 2
    · subst k2
      have HR' : Hid (Un.may ⟨tx, no, prev, 2, page, slot, r⟩ = r.may) := HR.out.trans rfl
      generalize r.may = m at *
      unfold Rw.val at HM
      clear HR e1 k1
      go_enter Try.func34, Try.ntmps34
      go_wp2_with fail
      refine (HM.out _ HW.out).mono ?_
      rintro e w1 ⟨rfl, hb1⟩
      have HW1 := hide (rBelow HW.out hb1)
      clear hb1
      go_wp2_with fail
      go_ret
      exact ⟨by rw [HR'.out]; rfl, HW1.out⟩
    · have e2 : (kind == 2) = false := beq_eq_false_iff_ne.2 k2
      have HR' : Hid (Un.may ⟨tx, no, prev, kind, page, slot, r⟩ = false) := HR.out.trans (by unfold undoB; rw [if_neg k1, if_neg k2])
      clear HR k1 k2
      go_enter Try.func34, Try.ntmps34
      go_wp2_with fail
      go_ret
      exact ⟨by rw [HR'.out]; rfl, HW.out⟩

end Go.Proofs.Ytpdkeghmpnanpaa
