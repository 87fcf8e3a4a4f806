/-
  The document's device: the first units of a part.
-/
import Derived.Test.YtokdeilcfkobfaaDevD
namespace Go.Proofs.Ytokdeilcfkobfaa
open Go.RowKit
variable {K : Home}

/-- A part laid over a part. -/
def setPt (w : World) (g : Nat) (a : Int) (x : Value) (t : Bool) (o : Int) : World := (((w.setCell ⟨g, 0, none⟩ (.int .i64 a)).setCell ⟨g, 1, none⟩ x).setCell ⟨g, 2, none⟩ (.bool t)).setCell ⟨g, 3, none⟩ (.int .i64 o)
theorem setPt_size (w : World) (g : Nat) (a : Int) (x : Value) (t : Bool) (o : Int) : (setPt w g a x t o).heap.size = w.heap.size := by simp only [setPt, setCell_size]
theorem setPt_blk {w : World} {g : Nat} {a0 o0 : Int} {x0 : Value} {t0 : Bool} (h : PtBlk w g a0 x0 t0 o0) (a : Int) (x : Value) (t : Bool) (o : Int) : PtBlk (setPt w g a x t o) g a x t o := by
  have h1 := heap_setCell_same w g 0 _ 81 (.int .i64 a) h
  have h2 := heap_setCell_same _ g 1 _ 81 x h1
  have h3 := heap_setCell_same _ g 2 _ 81 (.bool t) h2
  have h4 := heap_setCell_same _ g 3 _ 81 (.int .i64 o) h3
  unfold PtBlk setPt
  rw [h4]
  simp
theorem setPt_below {B g : Nat} {w0 w : World} (hb : Below B w0 w) (hg : B ≤ g) (a : Int) (x : Value) (t : Bool) (o : Int) : Below B w0 (setPt w g a x t o) :=
  (((hb.setCell (p := ⟨g, 0, none⟩) hg _).setCell (p := ⟨g, 1, none⟩) hg _).setCell (p := ⟨g, 2, none⟩) hg _).setCell (p := ⟨g, 3, none⟩) hg _
theorem setPt_other (w : World) (g : Nat) (a : Int) (x : Value) (t : Bool) (o : Int) (k : Nat) (hk : k ≠ g) : (setPt w g a x t o).heap[k]? = w.heap[k]? := by
  unfold setPt
  rw [Below.heap_setCell _ ⟨g, 3, none⟩ _ k hk, Below.heap_setCell _ ⟨g, 2, none⟩ _ k hk, Below.heap_setCell _ ⟨g, 1, none⟩ _ k hk, Below.heap_setCell _ ⟨g, 0, none⟩ _ k hk]
theorem pt_results2 {fn : Func} {x y : Nat} (hr : fn.results = #[.cell x 81, .tmp y]) {W : World} {g : Nat} {q : Sl} {u : Pt} {v : Value} (h : PtBlk W g u.at_ q.val u.trim u.to) (tmps : Array Value) (ht : tmps.getD x undef = .pointer (some ⟨g, 0, none⟩)) (hv : tmps.getD y undef = v) : (results fn tmps).run Try.prog W = .ok (.tuple #[u.val q, v]) W := by
  have c0 := h.c0
  have c1 := h.c1
  have c2 := h.c2
  have c3 := h.c3
  unfold Sl.val at c1
  have ht2 : tmps[x]?.getD undef = .pointer (some ⟨g, 0, none⟩) := by simpa using ht
  have hv2 : tmps[y]?.getD undef = v := by simpa using hv
  simp [results, hr, ht2, hv2, go_sem, c0, c1, c2, c3, Pt.val, Sl.val]
theorem pt_end2 {fn : Func} {x y : Nat} (hres : fn.results = #[.cell x 81, .tmp y]) {W : World} {g : Nat} {x0 : Value} {a0 o0 : Int} {t0 : Bool} (h : PtBlk W g a0 x0 t0 o0) (u : Pt) (q : Sl) (v : Value) {A : Act} {R : Ending → World → Prop} (t2 : A.tmps.getD x undef = .pointer (some ⟨g, 0, none⟩)) (t3 : A.tmps.getD y undef = v) (hd : A.defers = [])
    (hR : R (.returned (.tuple #[u.val q, v])) (setPt W g u.at_ q.val u.trim u.to)) : bodyPost Try.prog fn R Exit.ret A (setPt W g u.at_ q.val u.trim u.to) := by
  have hr := setPt_blk h u.at_ q.val u.trim u.to
  generalize setPt W g u.at_ q.val u.trim u.to = W' at *
  exact bodyPost_ret (pt_results2 hres hr _ t2 t3) hd hR
theorem load_pt (p : Nat) (u : Pt) (q : Sl) (w : World) (h : PtBlk w p u.at_ q.val u.trim u.to) : (Instr.loadAt 81 (.pointer (some ⟨p, 0, none⟩))).run Try.prog w = .ok (u.val q) w := by
  have c0 := h.c0
  have c1 := h.c1
  have c2 := h.c2
  have c3 := h.c3
  unfold Sl.val at c1
  simp [go_sem, Instr.loadAt, c0, c1, c2, c3, Pt.val, Sl.val]
theorem store_pt (p : Nat) (u : Pt) (q : Sl) (w : World) {a0 o0 : Int} {x0 : Sl} {t0 : Bool} (h : PtBlk w p a0 x0.val t0 o0) : (Instr.storeAt 81 (.pointer (some ⟨p, 0, none⟩)) (u.val q)).run Try.prog w = .ok () (setPt w p u.at_ q.val u.trim u.to) := by
  have c0 := h.c0
  have c1 := h.c1
  have c2 := h.c2
  have c3 := h.c3
  have f0 := h.fz
  unfold Sl.val at c1
  simp [go_sem, Instr.storeAt, c0, c1, c2, c3, f0, Pt.val, Sl.val, setPt]

theorem enters43 : ∀ args w, (callFunc 43 args).run Try.prog w = .ok (.enter 43 args) w := Pl.enters Try.func43 (by kernel_rfl) (by kernel_rfl)

/-- The first so many units of a part: what they are, and are there any? -/
def Pt.first (u : Pt) (n : Int) : Pt × Bool := if (u.size : Int) ≤ n then (u, decide (0 < u.size)) else if n ≤ 0 ∨ 0 ≤ u.at_ ∨ u.trim = true then (u, false) else (⟨u.at_, u.b.take n.toNat, u.trim, u.to⟩, true)

set_option maxHeartbeats 4000000 in
set_option maxRecDepth 100000 in
theorem first2 (w : World) (p g : Nat) (hpg : p ≠ g) (u : Pt) (q : Sl) (hp : PtBlk w p u.at_ q.val u.trim u.to) (hg : PtBlk w g 0 Sl.nil.val false 0) (hq : BsS K w q u.b)
    {Q : Exit → Act → World → Prop} {A : Act} (hsz : A.tmps.size = 32) (hdf : A.defers = []) (s2 : A.tmps.getD 2 undef = .pointer (some ⟨p, 0, none⟩)) (s4 : A.tmps.getD 4 undef = .pointer (some ⟨g, 0, none⟩))
    (hend : ∀ (v : Nat → Value) w2, Below w.heap.size w w2 → PtBlk w2 g 0 Sl.nil.val false 0 → Q .normal ((((((A).put (some 10) (v 10)).put (some 11) (v 11)).put (some 12) (v 12)).put (some 13) (v 13)).put (some 5) (.bool (decide (0 < u.size)))) (setPt w2 g u.at_ q.val u.trim u.to)) :
    (Code.region 2 (Pl.find 2 ((Try.f42.body).getD .skip)) true).wp Try.prog Q A w := by
  have hW0 : Below w.heap.size w w.drew := (Below.refl _ _).drew
  have hS0 : (fun w' => PtBlk w' p u.at_ q.val u.trim u.to) w.drew := hp
  have hA := Pl.At.same (v := .pointer (some ⟨g, 0, none⟩)) (d := 4) (Pl.At.same (v := .pointer (some ⟨p, 0, none⟩)) (d := 2) (Pl.At.here hsz hdf) s2) s4
  refine Pl.H.start (S := fun w' => PtBlk w' p u.at_ q.val u.trim u.to) (by kernel_rfl) hA hS0 ?_
  rw [show (Pl.find 2 ((Try.f42.body).getD .skip)).size = 6 by kernel_rfl]
  refine Pl.H.take 0 10 (u.val q) (by kernel_rfl) (by kernel_rfl) (by kernel_rfl) (Pl.free 0 (by kernel_rfl)) (Pl.load 0 81 (.tmp 2) _ (by kernel_rfl) (by decide) (fun w' hS => load_pt p u q w' hS)) hS0 ?_
  refine Pl.H.take 1 11 (u.val q) (by kernel_rfl) (by kernel_rfl) (by kernel_rfl) (Pl.free 1 (by kernel_rfl)) (Pl.load 1 81 (.tmp 2) _ (by kernel_rfl) (by decide) (fun w' hS => load_pt p u q w' hS)) hS0 ?_
  refine Pl.H.call 2 12 43 [.tmp 11] #[81] (by kernel_rfl) (by kernel_rfl) (by kernel_rfl) (Pl.free 2 (by kernel_rfl)) (by kernel_rfl) (by decide) enters43 (Calls.mono (size_any u q w.drew (hq.keep hW0 (Nat.le_refl _))) ?_)
  rintro e w1 ⟨rfl, hb1⟩
  have hW1 : Below w.heap.size w w1 := hW0.trans hb1
  have hS1 : (fun w' => PtBlk w' p u.at_ q.val u.trim u.to) w1 := hp.keep hW1
  have hg1 := hg.keep hW1
  refine ⟨_, rfl, hS1, ?_⟩
  have hS2 : (fun w' => PtBlk w' p u.at_ q.val u.trim u.to) (setPt w1 g u.at_ q.val u.trim u.to) := by
    show PtBlk _ _ _ _ _ _
    unfold PtBlk
    rw [setPt_other _ _ _ _ _ _ _ hpg]
    exact hS1
  refine Pl.H.take 3 13 (.bool (decide (0 < u.size))) (by kernel_rfl) (by kernel_rfl) (by kernel_rfl) (Pl.free 3 (by kernel_rfl)) (Pl.bin 3 .gtr 3 3 (.tmp 12) (.const (.int .i64 0)) _ (by kernel_rfl) (by decide) (by decide) (fun w => by simp [Pl.ev, Pl.upd, go_sem])) hS1 ?_
  refine Pl.H.store 4 (setPt w1 g u.at_ q.val u.trim u.to) (by kernel_rfl) (by kernel_rfl) (by kernel_rfl) (Pl.free 4 (by kernel_rfl)) (Pl.storeV 4 81 (.tmp 4) (.tmp 10) _ (by kernel_rfl) (by decide) (by decide) (store_pt g u q w1 hg1)) hS2 ?_
  refine Pl.H.take 5 5 (.bool (decide (0 < u.size))) (by kernel_rfl) (by kernel_rfl) (by kernel_rfl) (Pl.free 5 (by kernel_rfl)) (Pl.assign 5 (.tmp 13) (by kernel_rfl) (by decide)) hS2 ?_
  refine Pl.H.done (by kernel_rfl) (fun A' hA' => ?_)
  rw [Pl.At.ext hA' (((((hA.put 10 _).put 11 _).put 12 _).put 13 _).put 5 _)]
  exact hend (fun d => if d = 10 then u.val q else if d = 11 then u.val q else if d = 12 then .int .i64 (u.size : Nat) else if d = 13 then .bool (decide (0 < u.size)) else if d = 5 then .bool (decide (0 < u.size)) else undef) _ hW1 hg1

theorem PtBlk.no8 {w : World} {g : Nat} {s1 : Sl} {a o : Int} {t : Bool} (h : PtBlk w g a s1.val t o) : ∀ k i, w.cell? ⟨g, k, none⟩ ≠ some (.int .u8 i) := by
  intro k i
  unfold PtBlk Sl.val at h
  rcases k with _ | _ | _ | _ | k <;> simp [World.cell?, h]
theorem PtBlk.set1 {w : World} {g : Nat} {a o : Int} {x : Value} {t : Bool} (h : PtBlk w g a x t o) (u : Value) : PtBlk (w.setCell ⟨g, 1, none⟩ u) g a u t o := by
  have := heap_setCell_same w g 1 _ 81 u h
  unfold PtBlk
  rw [this]
  simp
theorem PtBlk.off {w : World} {g : Nat} {a r : Int} {x : Value} {t : Bool} (h : PtBlk w g a x t r) {q o : Nat} (hq : g ≠ q) (u : Value) : PtBlk (w.setCell ⟨q, o, none⟩ u) g a x t r := by
  unfold PtBlk
  rw [Below.heap_setCell _ ⟨q, o, none⟩ _ g hq]
  exact h

/-- A part of a slice, up to a place. -/
def Sl.upto (s : Sl) (k : Nat) : Sl := ⟨fromA s.a s.cap 0, k, s.cap⟩
theorem BsS.upto {w : World} {s : Sl} {xs : List Nat} {k : Nat} (h : BsS K w s xs) (hk : k ≤ s.len) : BsS K w (s.upto k) (xs.take k) := by
  have hle := h.le
  have hbg := h.big
  refine ⟨⟨h.bs.upto hk, ?_, by show k ≤ s.cap; omega, by show k ≤ _; omega⟩, h.low, fun h0 ad ha => ?_⟩
  rotate_left
  · have h0' : 0 < s.len := by have : 0 < k := h0; omega
    have ha' : fromA s.a s.cap 0 = some ad := ha
    unfold fromA at ha'
    split at ha'
    · exact h.home h0' ad ha'
    · cases hs : s.a with
      | none => rw [hs] at ha'; cases ha'
      | some x =>
        rw [hs] at ha'
        have := h.home h0' x hs
        simp only [Option.map_some, Option.some.injEq] at ha'
        rw [← ha']
        unfold Addr.add
        split <;> exact this
  intro e
  have e' : fromA s.a s.cap 0 = none := e
  show s.cap = 0
  unfold fromA at e'
  split at e'
  · omega
  · cases ha : s.a with
    | none => exact h.nil ha
    | some x => rw [ha] at e'; simp at e'

set_option maxHeartbeats 4000000 in
set_option maxRecDepth 100000 in
theorem first_any (u : Pt) (q : Sl) (n : Int) (w : World) (h : BsS K w q u.b) :
    Calls Try.prog 42 #[u.val q, .int .i64 n] w fun e w' => Below w.heap.size w w' ∧ ∃ q', e = .returned (.tuple #[(u.first n).1.val q', .bool (u.first n).2]) ∧ BsS K w' q' (u.first n).1.b := by
  have HSZ : Hid (∀ w', Below w.heap.size w w' → Calls Try.prog 43 #[u.val q] w' fun e w2 => e = .returned (.int .i64 (u.size : Nat)) ∧ Below w'.heap.size w' w2) := fun w' hb => size_any u q w' (h.keep hb (Nat.le_refl _))
  obtain ⟨qa, ql, qc⟩ := q
  obtain ⟨W, hW⟩ : ∃ W, W = (w.alloc (.cells #[.int .i64 u.at_, .slice qa ql qc, .bool u.trim, .int .i64 u.to] 81)).alloc (.cells #[.int .i64 0, .slice none 0 0, .bool false, .int .i64 0] 81) := ⟨_, rfl⟩
  have hWb : Below w.heap.size w W := by rw [hW]; exact below_two w _ _
  have hB2 : PtBlk W w.heap.size u.at_ (.slice qa ql qc) u.trim u.to := by
    rw [hW]
    exact (ptBlk_new w u.at_ (.slice qa ql qc) u.trim u.to).keep (below_alloc _ _)
  have hB4 : PtBlk W (w.heap.size + 1) 0 (.slice none 0 0) false 0 := by
    rw [hW]
    have := ptBlk_new (w.alloc (.cells #[.int .i64 u.at_, .slice qa ql qc, .bool u.trim, .int .i64 u.to] 81)) 0 (.slice none 0 0) false 0
    simpa using this
  have HWE := hide hW
  have HWB := hide hWb
  have HB2 := hide hB2
  have HB4 := hide hB4
  have H := hide h
  clear h hW hWb hB2 hB4
  by_cases hA : (u.size : Int) ≤ n
  · have e : u.first n = (u, decide (0 < u.size)) := by unfold Pt.first; rw [if_pos hA]
    rw [e]
    simp only
    unfold Pt.val Sl.val at HSZ
    unfold Pt.val Sl.val
    simp only at HSZ ⊢
    generalize hsz : u.size = sz at HSZ hA ⊢
    have HSZE := hide hsz
    clear hsz e
    go_enter Try.func42, Try.ntmps42
    go_wp2_with fail
    rw [← HWE.out]
    refine (HSZ.out W HWB.out).mono ?_
    rintro e w1 ⟨rfl, hb1⟩
    have hB2 := HB2.out.keep hb1
    have hB4 := HB4.out.keep hb1
    have HW1 := hide (rBelow HWB.out hb1)
    have G2 := hide hB2
    have G4 := hide hB4
    clear hb1 hB2 hB4
    go_wp2_with fail
    refine Pl.region_is (ops := Pl.find 2 ((Try.f42.body).getD .skip)) (by kernel_rfl) ?_
    refine first2 w1 w.heap.size (w.heap.size + 1) (by omega) u ⟨qa, ql, qc⟩ G2.out G4.out (H.out.keep HW1.out (Nat.le_refl _)) (by rfl) (by rfl) (by rfl) (by rfl) ?_
    intro v w2 hb2 hg2
    have HW2 := hide (rBelow HW1.out hb2)
    have HG2 := hide hg2
    clear hb2 hg2
    simp only [Act.put, List.setIfInBounds_toArray, List.set_cons_zero, List.set_cons_succ]
    go_wp2_with fail
    refine pt_end2 rfl HG2.out u ⟨qa, ql, qc⟩ (.bool (decide (0 < u.size))) (by rfl) (by rfl) rfl ?_
    have hbb := setPt_below HW2.out (Nat.le_succ _) u.at_ (Sl.val ⟨qa, ql, qc⟩) u.trim u.to
    refine ⟨hbb, ⟨qa, ql, qc⟩, ?_, H.out.keep hbb (Nat.le_refl _)⟩
    rw [HSZE.out]
    rfl
  · have hA' : ¬ (u.size : Int) ≤ n := hA
    replace hA : n < (u.size : Int) := by omega
    by_cases h1 : n ≤ 0
    · have e : u.first n = (u, false) := by unfold Pt.first; rw [if_neg hA', if_pos (Or.inl h1)]
      rw [e]
      clear hA'
      simp only
      unfold Pt.val Sl.val at HSZ
      unfold Pt.val Sl.val
      simp only at HSZ ⊢
      generalize hsz : u.size = sz at HSZ hA ⊢
      have HSZE := hide hsz
      clear hsz e
      go_enter Try.func42, Try.ntmps42
      go_wp2_with fail
      rw [← HWE.out]
      refine (HSZ.out W HWB.out).mono ?_
      rintro e w1 ⟨rfl, hb1⟩
      have hB2 := HB2.out.keep hb1
      have hB4 := HB4.out.keep hb1
      have HW1 := hide (rBelow HWB.out hb1)
      have G2 := hide hB2
      have G4 := hide hB4
      have c0 := hB2.c0
      have c1 := hB2.c1
      have c2 := hB2.c2
      have c3 := hB2.c3
      have z0 := hB4.c0
      have z1 := hB4.c1
      have z2 := hB4.c2
      have z3 := hB4.c3
      have fz := hB4.fz
      have fy := hB2.fz
      clear hb1 hB2 hB4
      go_wp2_with fail
      show bodyPost Try.prog Try.f42 _ Exit.ret _ (setPt w1 (w.heap.size + 1) u.at_ (Sl.val ⟨qa, ql, qc⟩) u.trim u.to)
      refine pt_end2 rfl G4.out u ⟨qa, ql, qc⟩ (.bool false) (by rfl) (by rfl) rfl ?_
      have hbb := setPt_below HW1.out (Nat.le_succ _) u.at_ (Sl.val ⟨qa, ql, qc⟩) u.trim u.to
      exact ⟨hbb, ⟨qa, ql, qc⟩, rfl, H.out.keep hbb (Nat.le_refl _)⟩
    · replace h1 : 0 < n := by omega
      by_cases h2 : 0 ≤ u.at_
      · have e : u.first n = (u, false) := by unfold Pt.first; rw [if_neg hA', if_pos (Or.inr (Or.inl h2))]
        rw [e]
        clear hA'
        simp only
        unfold Pt.val Sl.val at HSZ
        unfold Pt.val Sl.val
        simp only at HSZ ⊢
        generalize hsz : u.size = sz at HSZ hA ⊢
        have HSZE := hide hsz
        clear hsz e
        go_enter Try.func42, Try.ntmps42
        go_wp2_with fail
        rw [← HWE.out]
        refine (HSZ.out W HWB.out).mono ?_
        rintro e w1 ⟨rfl, hb1⟩
        have hB2 := HB2.out.keep hb1
        have hB4 := HB4.out.keep hb1
        have HW1 := hide (rBelow HWB.out hb1)
        have G2 := hide hB2
        have G4 := hide hB4
        have c0 := hB2.c0
        have c1 := hB2.c1
        have c2 := hB2.c2
        have c3 := hB2.c3
        have z0 := hB4.c0
        have z1 := hB4.c1
        have z2 := hB4.c2
        have z3 := hB4.c3
        have fz := hB4.fz
        have fy := hB2.fz
        clear hb1 hB2 hB4
        go_wp2_with fail
        show bodyPost Try.prog Try.f42 _ Exit.ret _ (setPt w1 (w.heap.size + 1) u.at_ (Sl.val ⟨qa, ql, qc⟩) u.trim u.to)
        refine pt_end2 rfl G4.out u ⟨qa, ql, qc⟩ (.bool false) (by rfl) (by rfl) rfl ?_
        have hbb := setPt_below HW1.out (Nat.le_succ _) u.at_ (Sl.val ⟨qa, ql, qc⟩) u.trim u.to
        exact ⟨hbb, ⟨qa, ql, qc⟩, rfl, H.out.keep hbb (Nat.le_refl _)⟩
      · cases h3 : u.trim
        · obtain ⟨at_, b, trim, to⟩ := u
          simp only at h3 h2
          subst h3
          replace h2 : at_ < 0 := by omega
          obtain ⟨k, rfl⟩ : ∃ k : Nat, n = (k : Nat) := ⟨n.toNat, by omega⟩
          have hql := H.out.len
          have hsl : Pt.size ⟨at_, b, false, to⟩ = ql := by
            unfold Pt.size
            rw [if_pos ⟨h2, rfl⟩]
            exact hql
          have hk : k ≤ ql := by omega
          have e : Pt.first ⟨at_, b, false, to⟩ (k : Nat) = (⟨at_, b.take k, false, to⟩, true) := by
            unfold Pt.first
            rw [if_neg hA', if_neg (by
              rintro (x | x | x)
              · omega
              · have x' : 0 ≤ at_ := x
                omega
              · cases x)]
            rfl
          rw [e]
          have hle := H.out.le
          simp only at hle
          have hsc := slice_upto qa ql qc k (by omega)
          have HK := hide hk
          clear hA' hql hsl
          simp only at HWE HB2
          simp only
          unfold Pt.val Sl.val at HSZ
          unfold Pt.val Sl.val
          simp only at HSZ ⊢
          generalize hsz : Pt.size ⟨at_, b, false, to⟩ = sz at HSZ hA ⊢
          have HSZE := hide hsz
          clear hsz e
          go_enter Try.func42, Try.ntmps42
          go_wp2_with fail
          rw [← HWE.out]
          refine (HSZ.out W HWB.out).mono ?_
          rintro e w1 ⟨rfl, hb1⟩
          have hB2 := HB2.out.keep hb1
          have hB4 := HB4.out.keep hb1
          have HW1 := hide (rBelow HWB.out hb1)
          have G2 := hide hB2
          have G4 := hide hB4
          have c0 := hB2.c0
          have c1 := hB2.c1
          have c2 := hB2.c2
          have c3 := hB2.c3
          have z0 := hB4.c0
          have z1 := hB4.c1
          have z2 := hB4.c2
          have z3 := hB4.c3
          have fz := hB4.fz
          have fy := hB2.fz
          have hY2 := hB2.set1 (Sl.val (Sl.upto ⟨qa, ql, qc⟩ k))
          have hY4 := hB4.off (q := w.heap.size) (o := 1) (by omega) (Sl.val (Sl.upto ⟨qa, ql, qc⟩ k))
          have GY4 := hide hY4
          unfold Sl.upto Sl.val at hY2 hY4
          simp only at hY2 hY4
          have d0 := hY2.c0
          have d1 := hY2.c1
          have d2 := hY2.c2
          have d3 := hY2.c3
          have y0 := hY4.c0
          have y1 := hY4.c1
          have y2 := hY4.c2
          have y3 := hY4.c3
          have fw := hY4.fz
          clear hb1 hB2 hB4 hY2 hY4
          go_wp2_with fail
          show bodyPost Try.prog Try.f42 _ Exit.ret _ (setPt (w1.setCell ⟨w.heap.size, 1, none⟩ (Sl.val (Sl.upto ⟨qa, ql, qc⟩ k))) (w.heap.size + 1) at_ (Sl.val (Sl.upto ⟨qa, ql, qc⟩ k)) false to)
          refine pt_end2 rfl GY4.out ⟨at_, b.take k, false, to⟩ (Sl.upto ⟨qa, ql, qc⟩ k) (.bool true) (by rfl) (by rfl) rfl ?_
          have hbb := setPt_below (HW1.out.setCell (p := ⟨w.heap.size, 1, none⟩) (Nat.le_refl _) (Sl.val (Sl.upto ⟨qa, ql, qc⟩ k))) (Nat.le_succ _) at_ (Sl.val (Sl.upto ⟨qa, ql, qc⟩ k)) false to
          exact ⟨hbb, Sl.upto ⟨qa, ql, qc⟩ k, rfl, (H.out.upto HK.out).keep hbb (Nat.le_refl _)⟩
        · have e : u.first n = (u, false) := by unfold Pt.first; rw [if_neg hA', if_pos (Or.inr (Or.inr h3))]
          rw [e]
          clear hA' e
          replace h2 : u.at_ < 0 := by omega
          obtain ⟨at_, b, trim, to⟩ := u
          simp only at h3 h2
          subst h3
          have e := trivial
          simp only at HWE HB2
          simp only
          unfold Pt.val Sl.val at HSZ
          unfold Pt.val Sl.val
          simp only at HSZ ⊢
          generalize hsz : Pt.size ⟨at_, b, true, to⟩ = sz at HSZ hA ⊢
          have HSZE := hide hsz
          clear hsz e
          go_enter Try.func42, Try.ntmps42
          go_wp2_with fail
          rw [← HWE.out]
          refine (HSZ.out W HWB.out).mono ?_
          rintro e w1 ⟨rfl, hb1⟩
          have hB2 := HB2.out.keep hb1
          have hB4 := HB4.out.keep hb1
          have HW1 := hide (rBelow HWB.out hb1)
          have G2 := hide hB2
          have G4 := hide hB4
          have c0 := hB2.c0
          have c1 := hB2.c1
          have c2 := hB2.c2
          have c3 := hB2.c3
          have z0 := hB4.c0
          have z1 := hB4.c1
          have z2 := hB4.c2
          have z3 := hB4.c3
          have fz := hB4.fz
          have fy := hB2.fz
          clear hb1 hB2 hB4
          go_wp2_with fail
          show bodyPost Try.prog Try.f42 _ Exit.ret _ (setPt w1 (w.heap.size + 1) at_ (Sl.val ⟨qa, ql, qc⟩) true to)
          refine pt_end2 rfl G4.out ⟨at_, b, true, to⟩ ⟨qa, ql, qc⟩ (.bool false) (by rfl) (by rfl) rfl ?_
          have hbb := setPt_below HW1.out (Nat.le_succ _) at_ (Sl.val ⟨qa, ql, qc⟩) true to
          exact ⟨hbb, ⟨qa, ql, qc⟩, rfl, H.out.keep hbb (Nat.le_refl _)⟩

end Go.Proofs.Ytokdeilcfkobfaa
