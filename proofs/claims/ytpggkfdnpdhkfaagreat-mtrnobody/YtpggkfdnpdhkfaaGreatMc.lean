/-
  Layer 13: acts that came in; are they light; an act's group.
  Layer 13: pages that nobody gave.
-/
import Derived.Test.YtpggkfdnpdhkfaaGreatMb
import Derived.Test.YtpggkfdnpdhkfaaGreatRd
import Derived.Lib.SmallJoins
import Derived.Laws.Cover2
import Derived.Deep.Slices
namespace Go.Proofs.YtpggkfdnpdhkfaaGreat
open Go.ChangeShapes Go.WideShapes Go.ChangeAt Go.RowKit
set_option maxRecDepth 100000
set_option linter.unusedVariables false

/-- An act: its numbers, its slices, what lies there. -/
structure Ag where
  do_ : Int
  p : Sl
  b : Sl
  n : Int
  q : Sl
  ps : List Int
  bb : List Bt
  pat : List Bool
def agD : Ag := ⟨0, Sl.nil, Sl.nil, 0, Sl.nil, [], [], []⟩
def Ag.cells (x : Ag) : Array Value := #[.int .i64 x.do_, x.p.val, x.b.val, .int .i64 x.n, x.q.val]
structure AgIn (w : World) (x : Ag) : Prop where
  p : InsI w x.p.a x.p.len x.p.cap x.ps
  b : InsB w x.b.a x.b.len x.b.cap x.bb
  q : Pat w x.q.a x.q.len x.pat
  ql : x.q.len ≤ 9223372036854775807
  wd : (Lit.int .i64 x.do_).wf = true
  wn : (Lit.int .i64 x.n).wf = true
theorem AgIn.keep {w w' : World} {x : Ag} (h : AgIn w x) (hb : Below w.heap.size w w') : AgIn w' x := ⟨h.p.below hb (Nat.le_refl _), h.b.below hb (Nat.le_refl _), h.q.keep hb, h.ql, h.wd, h.wn⟩
section
variable {H : Type} {enc : TypeId × Value → H} {w : World} {base : Nat} {spare : Nat → Bool} {held : Bool}

theorem ag_cells {n : Nat} {cs : List Value} {y : DataW H × List MemPlace} (hf : DataW.trod enc Tryz.prog w base spare held n 50 cs = some y) :
    ∃ x : Ag, cs = x.cells.toList ∧ AgIn w x := by
  have hC : Tryz.prog.cellsOf 50 = 5 := by kernel_rfl
  have h1 : Tryz.prog.cellsOf 3 = 1 := by kernel_rfl
  have h2 : Tryz.prog.cellsOf 46 = 1 := by kernel_rfl
  have h3 : Tryz.prog.cellsOf 47 = 1 := by kernel_rfl
  have h4 : Tryz.prog.cellsOf 48 = 1 := by kernel_rfl
  obtain ⟨xs, m, _, _, hsz, hlen, hfd⟩ := DataW.trod_struct Tryz.underlying50 hf
  rw [hC] at hsz
  match cs, hsz with
  | [c0, c1, c2, c3, c4], _ =>
    match xs, hlen with
    | [y0, y1, y2, y3, y4], _ =>
      have t0 : DataW.trod enc Tryz.prog w base spare held m 3 [c0] = some y0 := by simpa [h1] using hfd 0 _ rfl
      have t1 : DataW.trod enc Tryz.prog w base spare held m 46 [c1] = some y1 := by simpa [h1, h2] using hfd 1 _ rfl
      have t2 : DataW.trod enc Tryz.prog w base spare held m 47 [c2] = some y2 := by simpa [h1, h2, h3] using hfd 2 _ rfl
      have t3 : DataW.trod enc Tryz.prog w base spare held m 3 [c3] = some y3 := by simpa [h1, h2, h3] using hfd 3 _ rfl
      have t4 : DataW.trod enc Tryz.prog w base spare held m 48 [c4] = some y4 := by simpa [h1, h2, h3, h4] using hfd 4 _ rfl
      obtain ⟨k0, e0, _, w0⟩ := DataW.trod_int Tryz.underlying3 t0
      obtain ⟨k3, e3, _, w3⟩ := DataW.trod_int Tryz.underlying3 t3
      obtain ⟨a1, len1, cap1, e1⟩ := Go.Joins.slice_form Tryz.underlying46 t1
      obtain ⟨a2, len2, cap2, e2⟩ := Go.Joins.slice_form Tryz.underlying47 t2
      obtain ⟨a4, len4, cap4, e4⟩ := Go.Joins.slice_form Tryz.underlying48 t4
      simp only [List.cons.injEq, and_true] at e0 e1 e2 e3 e4
      subst e0 e1 e2 e3 e4
      obtain ⟨ps, hp⟩ := open_nums t1
      obtain ⟨bb, hb⟩ := open_bss t2
      obtain ⟨pat, hq, hql⟩ := open_pat t4
      exact ⟨⟨k0, ⟨a1, len1, cap1⟩, ⟨a2, len2, cap2⟩, k3, ⟨a4, len4, cap4⟩, ps, bb, pat⟩, rfl, ⟨hp, hb, hq, hql, w0, w3⟩⟩

theorem open_ag {r : Reach} {b0 : Nat} {v : Value} {d : DataW H} {p : List MemPlace} (hv : Value.okWide Tryz.prog w r b0 50 v) (h : DataW.Trod enc Tryz.prog w base spare held 50 v d p) :
    ∃ x : Ag, v = .agg x.cells ∧ AgIn w x := by
  obtain ⟨cs, rfl, hsz⟩ := okWide_struct Tryz.underlying50 hv
  obtain ⟨fuel, hf⟩ := h
  obtain ⟨x, e, hin⟩ := ag_cells hf
  refine ⟨x, ?_, hin⟩
  have : cs = x.cells := Array.toList_inj.1 (by simpa [Value.cells] using e)
  rw [this]
end

structure AgAt (w : World) (b off : Nat) (t : Ag) : Prop where
  c0 : w.cell? ⟨b, off, none⟩ = some (.int .i64 t.do_)
  c1 : w.cell? ⟨b, off + 1, none⟩ = some (.slice t.p.a t.p.len t.p.cap)
  c2 : w.cell? ⟨b, off + 2, none⟩ = some (.slice t.b.a t.b.len t.b.cap)
  c3 : w.cell? ⟨b, off + 3, none⟩ = some (.int .i64 t.n)
  c4 : w.cell? ⟨b, off + 4, none⟩ = some (.slice t.q.a t.q.len t.q.cap)
  inn : AgIn w t
structure Ags (w : World) (a : Option Addr) (len : Nat) (l : List Ag) : Prop where
  len_ : l.length = len
  big : len ≤ 9223372036854775807
  at_ : ∀ j, j < len → ∃ b off, a = some ⟨b, off, none⟩ ∧ AgAt w b (off + j * 5) (l.getD j agD)
theorem AgAt.keep {w w' : World} {b off : Nat} {t : Ag} (hat : AgAt w b off t) (hb : Below w.heap.size w w') : AgAt w' b off t := by
  have k := fun (i : Nat) (v : Value) (hc : w.cell? ⟨b, i, none⟩ = some v) => (hb.cell (World.block_lt_of_cell? w _ hc)).trans hc
  exact ⟨k _ _ hat.c0, k _ _ hat.c1, k _ _ hat.c2, k _ _ hat.c3, k _ _ hat.c4, hat.inn.keep hb⟩
theorem Ags.keep {w w' : World} {a : Option Addr} {len : Nat} {l : List Ag} (h : Ags w a len l) (hb : Below w.heap.size w w') : Ags w' a len l := by
  refine ⟨h.len_, h.big, fun j hj => ?_⟩
  obtain ⟨b, off, ha, hat⟩ := h.at_ j hj
  exact ⟨b, off, ha, hat.keep hb⟩

section
variable {H : Type} {enc : TypeId × Value → H} {w : World} {base : Nat} {spare : Nat → Bool} {held : Bool}

end

/-- An act's group. -/
def Ag.grp (x : Ag) : List Im := imgsOf x.ps (bts x.bb) (cnt x.p.len x.b.len)
set_option maxHeartbeats 4000000 in
theorem group_any (w : World) (x : Ag) (h : AgIn w x) : Calls Tryz.prog 14 #[.agg x.cells] w fun e w' => ImgPost w x.grp e w' := by
  have hA := below_alloc w (.cells x.cells 50)
  have HI := hide (images_any _ _ _ _ _ (h.keep hA).p _ _ _ _ (h.keep hA).b)
  have HA := hide hA
  obtain ⟨dd, ⟨pa, pl, pc⟩, ⟨ba, bl, bc⟩, nn, ⟨qa, ql, qc⟩, ps, bb, pat⟩ := x
  unfold Ag.cells at *
  unfold Ag.grp
  unfold Sl.val at *
  simp only at *
  clear h hA
  go_enter Tryz.func14, Tryz.ntmps14
  go_wp2_with fail
  refine HI.out.mono ?_
  rintro e w1 ⟨v, l, rfl, hg, hi, hb⟩
  have HE : Hid (GI (fun k => w.heap.size ≤ k) w.heap.size w1 v l ∧ ims l = imgsOf ps (bts bb) (cnt pl bl) ∧ Below w.heap.size w w1) := by
    refine ⟨⟨hg.own, fun k hk => Nat.le_trans HA.out.size (hg.blk k hk), fun y hy => (hg.bs y hy).mono (fun k hk _ => ⟨Nat.le_trans HA.out.size hk.1, hk.2⟩)⟩, hi, rBelowM HA.out hb⟩
  clear hg hi hb HI
  obtain ⟨va, vl, vc⟩ := v
  unfold Sl.val
  go_wp2_with fail
  go_ret
  exact ⟨⟨va, vl, vc⟩, l, rfl, HE.out⟩

end Go.Proofs.YtpggkfdnpdhkfaaGreat

namespace Go.Proofs.YtpggkfdnpdhkfaaGreat
open Go.RowKit
set_option maxRecDepth 100000
set_option linter.unusedVariables false

/-- Pages that nobody gave: nil, or the zero ones. -/
def NobM (w : World) (v : Value) : Prop := v = .pointer none ∨ ∃ p, v = .pointer (some ⟨p, 0, none⟩) ∧ w.cell? ⟨p, 0, none⟩ = some (.pointer none)
theorem NobM.keep {w w' : World} {v : Value} (h : NobM w v) (hb : Below w.heap.size w w') : NobM w' v := by
  rcases h with h | ⟨p, h, hc⟩
  · exact .inl h
  · exact .inr ⟨p, h, (hb.cell (World.block_lt_of_cell? w _ hc)).trans hc⟩

set_option maxHeartbeats 2000000 in
theorem givenN_any {w : World} {v : Value} (h : NobM w v) : Calls Tryz.prog 45 #[v] w fun e w' => e = .returned (.bool false) ∧ w' = w := by
  rcases h with rfl | ⟨p, rfl, hc⟩
  · go_enter Tryz.func45, Tryz.ntmps45
    go_wp2_with fail
    go_ret
    exact ⟨rfl, rfl⟩
  · go_enter Tryz.func45, Tryz.ntmps45
    go_wp2_with fail
    go_ret
    exact ⟨rfl, rfl⟩

set_option maxHeartbeats 2000000 in
theorem syncN {w : World} {v : Value} (h : NobM w v) : Calls Tryz.prog 16 #[v] w fun e w' => e = .returned (.tuple #[]) ∧ w' = w := by
  have HG := hide (givenN_any h)
  clear h
  go_enter Tryz.func16, Tryz.ntmps16
  go_wp2_with fail
  refine HG.out.mono ?_
  rintro e w' ⟨rfl, hw⟩
  obtain rfl := hw.symm
  clear hw
  go_wp2_with fail
  refine bodyPost_ret (results_none rfl _ _ _) rfl ?_
  exact ⟨rfl, rfl⟩

set_option maxHeartbeats 2000000 in
theorem checkN {w : World} {v : Value} (h : NobM w v) : Calls Tryz.prog 18 #[v] w fun e w' => e = .returned (.tuple #[]) ∧ w' = w := by
  have HG := hide (givenN_any h)
  clear h
  go_enter Tryz.func18, Tryz.ntmps18
  go_wp2_with fail
  refine HG.out.mono ?_
  rintro e w' ⟨rfl, hw⟩
  obtain rfl := hw.symm
  clear hw
  go_wp2_with fail
  refine bodyPost_ret (results_none rfl _ _ _) rfl ?_
  exact ⟨rfl, rfl⟩

set_option maxHeartbeats 2000000 in
theorem readN {w : World} {v : Value} (h : NobM w v) : Calls Tryz.prog 22 #[v, .int .i64 0] w fun e w' => e = .returned (.tuple #[.slice none 0 0, .int .i64 3]) ∧ w' = w := by
  have HG := hide (givenN_any h)
  clear h
  go_enter Tryz.func22, Tryz.ntmps22
  go_wp2_with fail
  refine HG.out.mono ?_
  rintro e w' ⟨rfl, hw⟩
  obtain rfl := hw.symm
  clear hw
  go_wp2_with fail
  go_ret2
  exact ⟨rfl, rfl⟩

set_option maxHeartbeats 2000000 in
theorem applyN {w : World} {v : Value} (h : NobM w v) (g : Value) : Calls Tryz.prog 13 #[v, g] w fun e w' => e = .returned (.int .i64 1) ∧ w' = w := by
  have HG := hide (givenN_any h)
  clear h
  go_enter Tryz.func13, Tryz.ntmps13
  go_wp2_with fail
  refine HG.out.mono ?_
  rintro e w' ⟨rfl, hw⟩
  obtain rfl := hw.symm
  clear hw
  go_wp2_with fail
  go_ret
  exact ⟨rfl, rfl⟩

set_option maxHeartbeats 2000000 in
theorem evictN {w : World} {v : Value} (h : NobM w v) : Calls Tryz.prog 20 #[v, .int .i64 0] w fun e w' => e = .returned (.int .i64 3) ∧ w' = w := by
  have HG := hide (givenN_any h)
  clear h
  go_enter Tryz.func20, Tryz.ntmps20
  go_wp2_with fail
  refine HG.out.mono ?_
  rintro e w' ⟨rfl, hw⟩
  obtain rfl := hw.symm
  clear hw
  go_wp2_with fail
  go_ret
  exact ⟨rfl, rfl⟩

set_option maxHeartbeats 2000000 in
theorem leftN {w : World} {v : Value} (h : NobM w v) : Calls Tryz.prog 32 #[v] w fun e w' => e = .returned (.int .i64 0) ∧ w' = w := by
  have HG := hide (givenN_any h)
  clear h
  go_enter Tryz.func32, Tryz.ntmps32
  go_wp2_with fail
  refine HG.out.mono ?_
  rintro e w' ⟨rfl, hw⟩
  obtain rfl := hw.symm
  clear hw
  go_wp2_with fail
  go_ret
  exact ⟨rfl, rfl⟩

set_option maxHeartbeats 2000000 in
theorem pagesN {w : World} {v : Value} (h : NobM w v) : Calls Tryz.prog 33 #[v] w fun e w' => e = .returned (.int .i64 0) ∧ w' = w := by
  have HG := hide (givenN_any h)
  clear h
  go_enter Tryz.func33, Tryz.ntmps33
  go_wp2_with fail
  refine HG.out.mono ?_
  rintro e w' ⟨rfl, hw⟩
  obtain rfl := hw.symm
  clear hw
  go_wp2_with fail
  go_ret
  exact ⟨rfl, rfl⟩

set_option maxHeartbeats 2000000 in
theorem openN {M : PoM} (S : PoolS M) (w : World) : Calls Tryz.prog 8 #[.pointer none, .int .i64 1] w fun e w' => e = .returned (.tuple #[.pointer none, .int .i64 1]) ∧ Below w.heap.size w w' := by
  have HN := hide (S.newDead w (.pointer none) (.inl rfl))
  clear S
  go_enter Tryz.func8, Tryz.ntmps8
  go_wp2_with fail
  refine HN.out.mono ?_
  rintro e w1 ⟨hb, rfl⟩
  have HB := hide hb
  clear hb
  go_wp2_with fail
  go_ret2
  exact ⟨rfl, HB.out⟩

theorem agBlk {w w' : World} {x : Ag} {b : Nat} (hb : Below w.heap.size w w') (h : w.heap[b]? = some (.cells x.cells 50 (0, 0))) : w'.heap[b]? = some (.cells x.cells 50 (0, 0)) := (hb.block b (Array.getElem?_eq_some_iff.1 h).1).trans h

set_option maxHeartbeats 8000000 in
set_option maxRecDepth 100000 in
theorem nobodyM_walk {M : PoM} (S : PoolS M) (w : World) (x : Ag) (hx : AgIn w x) : Calls Tryz.prog 5 #[.agg x.cells] w fun e w' => e = .returned (.bool true) ∧ Below w.heap.size w w' := by
  have HAW : Hid (∀ w', Calls Tryz.prog 10 #[] w' fun e w2 => e = .returned (.bool true) ∧ Below w'.heap.size w' w2) := fun w' => awakeM_any S w'
  have HOP := hide (fun w' => openN S w')
  have HB0 := hide (below_alloc w (.cells x.cells 50))
  have HQ0 : Hid ((w.alloc (.cells x.cells 50)).heap[w.heap.size]? = some (.cells x.cells 50 (0, 0))) := heap_alloc_new w _
  have HGR : Hid (∀ w' : World, w'.heap[w.heap.size]? = some (.cells x.cells 50 (0, 0)) → Below w.heap.size w w' → Calls Tryz.prog 14 #[.agg x.cells] w' fun e w2 => ImgPost w' x.grp e w2) := fun w' _ hb => group_any w' x (hx.keep hb)
  clear S hx
  obtain ⟨X, hX⟩ : ∃ X, X = x := ⟨_, rfl⟩
  have HC : Hid (∀ w' : World, w'.heap[w.heap.size]? = some (.cells x.cells 50 (0, 0)) → w'.cell? ⟨w.heap.size, 0, none⟩ = some (.int .i64 x.do_) ∧ w'.cell? ⟨w.heap.size, 1, none⟩ = some (.slice x.p.a x.p.len x.p.cap) ∧ w'.cell? ⟨w.heap.size, 2, none⟩ = some (.slice x.b.a x.b.len x.b.cap) ∧ w'.cell? ⟨w.heap.size, 3, none⟩ = some (.int .i64 x.n) ∧ w'.cell? ⟨w.heap.size, 4, none⟩ = some (.slice x.q.a x.q.len x.q.cap)) := fun w' h => ⟨(Addr.cell0 h).trans rfl, (Addr.cell0 h).trans rfl, (Addr.cell0 h).trans rfl, (Addr.cell0 h).trans rfl, (Addr.cell0 h).trans rfl⟩
  have HCE : Hid (x.cells = #[.int .i64 x.do_, .slice x.p.a x.p.len x.p.cap, .slice x.b.a x.b.len x.b.cap, .int .i64 x.n, .slice x.q.a x.q.len x.q.cap]) := rfl
  rw [HCE.out]
  go_enter Tryz.func5, Tryz.ntmps5
  go_wp2_with fail
  go_loopw [3] (fun i wr => ∃ j : Nat, j ≤ 2 ∧ i = .int .i64 j ∧ Hid (wr.heap[w.heap.size]? = some (.cells x.cells 50 (0, 0))) ∧ Hid (Below w.heap.size w wr)) (fun i _ => 2 - (intOf i).toNat)
  case atStart => exact ⟨0, by omega, rfl, HQ0, HB0⟩
  case round =>
    obtain ⟨j, hj, rfl, hQ, hB⟩ := hrel
    have hj3 : j = 0 ∨ j = 1 ∨ j = 2 := by omega
    rcases hj3 with rfl | rfl | rfl
    · obtain ⟨wr2, hwr⟩ : ∃ w2, w2 = wr := ⟨_, rfl⟩
      rw [← hwr] at hQ hB ⊢
      obtain ⟨d0, d1, d2, d3, d4⟩ := HC.out wr2 hQ.out
      have NB : Hid (NobM wr2 (.pointer none)) := hide (.inl rfl)
      have QB := hide hQ.out
      have BB := hide hB.out
      clear hwr hQ hB
      go_wp2_with fail
      refine (syncN NB.out).mono ?_
      rintro e w' ⟨rfl, hw⟩
      obtain rfl := hw.symm
      clear hw
      go_wp2_with fail
      refine (checkN NB.out).mono ?_
      rintro e w' ⟨rfl, hw⟩
      obtain rfl := hw.symm
      clear hw
      go_wp2_with fail
      refine (readN NB.out).mono ?_
      rintro e w' ⟨rfl, hw⟩
      obtain rfl := hw.symm
      clear hw
      go_wp2_with fail
      refine (HGR.out wr2 QB.out BB.out).mono ?_
      rintro e w5 ⟨⟨va, vl, vc⟩, l, rfl, _, _, hb5⟩
      have NB5 := hide (NB.out.keep hb5)
      have QB5 := hide (agBlk hb5 QB.out)
      have BB5 := hide (rBelowM BB.out hb5)
      clear hb5 NB QB BB
      simp only [Sl.val]
      go_wp2_with fail
      refine (applyN NB5.out _).mono ?_
      rintro e w' ⟨rfl, hw⟩
      obtain rfl := hw.symm
      clear hw
      go_wp2_with fail
      refine (evictN NB5.out).mono ?_
      rintro e w' ⟨rfl, hw⟩
      obtain rfl := hw.symm
      clear hw
      go_wp2_with fail
      refine (leftN NB5.out).mono ?_
      rintro e w' ⟨rfl, hw⟩
      obtain rfl := hw.symm
      clear hw
      go_wp2_with fail
      refine (pagesN NB5.out).mono ?_
      rintro e w' ⟨rfl, hw⟩
      obtain rfl := hw.symm
      clear hw
      go_wp2_with fail
      go_roundw
      case rel => exact ⟨0 + 1, by omega, by go_num, QB5, BB5⟩
      case measure => simp only [intOf]; omega
    · have hA := below_alloc wr (.cells #[.pointer none, .pointer none] 83)
      have hcz : (wr.alloc (.cells #[.pointer none, .pointer none] 83)).cell? ⟨wr.heap.size, 0, none⟩ = some (.pointer none) := (Addr.cell0 (heap_alloc_new wr _)).trans rfl
      obtain ⟨wr2, hwr⟩ : ∃ w2, w2 = wr.alloc (.cells #[.pointer none, .pointer none] 83) := ⟨_, rfl⟩
      rw [← hwr] at hA hcz
      have NB : Hid (NobM wr2 (.pointer (some ⟨wr.heap.size, 0, none⟩))) := hide (.inr ⟨_, rfl, hcz⟩)
      have QB := hide (agBlk hA hQ.out)
      have BB := hide (rBelowM hB.out hA)
      have hnil : ∀ w : World, (binOp .neq 27 (.pointer (some ⟨wr.heap.size, 0, none⟩)) (.pointer none)).run Tryz.prog w = .ok (.bool true) w := fun _ => rfl
      obtain ⟨d0, d1, d2, d3, d4⟩ := HC.out wr2 QB.out
      have HWR := hide hwr
      clear hA hcz hQ hB hwr
      go_wp2_with fail
      rw [← HWR.out]
      refine (syncN NB.out).mono ?_
      rintro e w' ⟨rfl, hw⟩
      obtain rfl := hw.symm
      clear hw
      go_wp2_with fail
      refine (checkN NB.out).mono ?_
      rintro e w' ⟨rfl, hw⟩
      obtain rfl := hw.symm
      clear hw
      go_wp2_with fail
      refine (readN NB.out).mono ?_
      rintro e w' ⟨rfl, hw⟩
      obtain rfl := hw.symm
      clear hw
      go_wp2_with fail
      refine (HGR.out wr2 QB.out BB.out).mono ?_
      rintro e w5 ⟨⟨va, vl, vc⟩, l, rfl, _, _, hb5⟩
      have NB5 := hide (NB.out.keep hb5)
      have QB5 := hide (agBlk hb5 QB.out)
      have BB5 := hide (rBelowM BB.out hb5)
      clear hb5 NB QB BB
      simp only [Sl.val]
      go_wp2_with fail
      refine (applyN NB5.out _).mono ?_
      rintro e w' ⟨rfl, hw⟩
      obtain rfl := hw.symm
      clear hw
      go_wp2_with fail
      refine (evictN NB5.out).mono ?_
      rintro e w' ⟨rfl, hw⟩
      obtain rfl := hw.symm
      clear hw
      go_wp2_with fail
      refine (leftN NB5.out).mono ?_
      rintro e w' ⟨rfl, hw⟩
      obtain rfl := hw.symm
      clear hw
      go_wp2_with fail
      refine (pagesN NB5.out).mono ?_
      rintro e w' ⟨rfl, hw⟩
      obtain rfl := hw.symm
      clear hw
      go_wp2_with fail
      go_roundw
      case rel => exact ⟨1 + 1, by omega, by go_num, QB5, BB5⟩
      case measure => simp only [intOf]; omega
    · go_wp2_with fail
      refine (HOP.out wr).mono ?_
      rintro e w1 ⟨rfl, hb1⟩
      have B1 := hide (rBelowM hB.out hb1)
      clear hb1
      go_wp2_with fail
      refine (HAW.out w1).mono ?_
      rintro e w2 ⟨rfl, hb2⟩
      have B2 := hide (rBelowM B1.out hb2)
      clear hb2
      go_wp2_with fail
      go_ret
      exact ⟨rfl, B2.out⟩
end Go.Proofs.YtpggkfdnpdhkfaaGreat
