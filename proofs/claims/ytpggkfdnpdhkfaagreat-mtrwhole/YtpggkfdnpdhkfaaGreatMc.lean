/-
  Layer 13: acts that came in; are they light; an act's group.
-/
import Derived.Test.YtpggkfdnpdhkfaaGreatMb
import Derived.Test.YtpggkfdnpdhkfaaGreatRd
import Derived.Lib.SmallJoins
import Derived.Laws.Cover2
import Derived.Deep.Slices
namespace Go.Proofs.YtpggkfdnpdhkfaaGreat
open Go.ChangeShapes Go.WideShapes Go.ChangeAt Go.RowKit
set_option maxRecDepth 100000
set_option linter.unusedVariables false

/-- An act: its numbers, its slices, what lies there. -/
structure Ag where
  do_ : Int
  p : Sl
  b : Sl
  n : Int
  q : Sl
  ps : List Int
  bb : List Bt
  pat : List Bool
def agD : Ag := ⟨0, Sl.nil, Sl.nil, 0, Sl.nil, [], [], []⟩
def Ag.cells (x : Ag) : Array Value := #[.int .i64 x.do_, x.p.val, x.b.val, .int .i64 x.n, x.q.val]
structure AgIn (w : World) (x : Ag) : Prop where
  p : InsI w x.p.a x.p.len x.p.cap x.ps
  b : InsB w x.b.a x.b.len x.b.cap x.bb
  q : Pat w x.q.a x.q.len x.pat
  ql : x.q.len ≤ 9223372036854775807
  wd : (Lit.int .i64 x.do_).wf = true
  wn : (Lit.int .i64 x.n).wf = true
theorem AgIn.keep {w w' : World} {x : Ag} (h : AgIn w x) (hb : Below w.heap.size w w') : AgIn w' x := ⟨h.p.below hb (Nat.le_refl _), h.b.below hb (Nat.le_refl _), h.q.keep hb, h.ql, h.wd, h.wn⟩
section
variable {H : Type} {enc : TypeId × Value → H} {w : World} {base : Nat} {spare : Nat → Bool} {held : Bool}

theorem ag_cells {n : Nat} {cs : List Value} {y : DataW H × List MemPlace} (hf : DataW.trod enc Tryz.prog w base spare held n 50 cs = some y) :
    ∃ x : Ag, cs = x.cells.toList ∧ AgIn w x := by
  have hC : Tryz.prog.cellsOf 50 = 5 := by kernel_rfl
  have h1 : Tryz.prog.cellsOf 3 = 1 := by kernel_rfl
  have h2 : Tryz.prog.cellsOf 46 = 1 := by kernel_rfl
  have h3 : Tryz.prog.cellsOf 47 = 1 := by kernel_rfl
  have h4 : Tryz.prog.cellsOf 48 = 1 := by kernel_rfl
  obtain ⟨xs, m, _, _, hsz, hlen, hfd⟩ := DataW.trod_struct Tryz.underlying50 hf
  rw [hC] at hsz
  match cs, hsz with
  | [c0, c1, c2, c3, c4], _ =>
    match xs, hlen with
    | [y0, y1, y2, y3, y4], _ =>
      have t0 : DataW.trod enc Tryz.prog w base spare held m 3 [c0] = some y0 := by simpa [h1] using hfd 0 _ rfl
      have t1 : DataW.trod enc Tryz.prog w base spare held m 46 [c1] = some y1 := by simpa [h1, h2] using hfd 1 _ rfl
      have t2 : DataW.trod enc Tryz.prog w base spare held m 47 [c2] = some y2 := by simpa [h1, h2, h3] using hfd 2 _ rfl
      have t3 : DataW.trod enc Tryz.prog w base spare held m 3 [c3] = some y3 := by simpa [h1, h2, h3] using hfd 3 _ rfl
      have t4 : DataW.trod enc Tryz.prog w base spare held m 48 [c4] = some y4 := by simpa [h1, h2, h3, h4] using hfd 4 _ rfl
      obtain ⟨k0, e0, _, w0⟩ := DataW.trod_int Tryz.underlying3 t0
      obtain ⟨k3, e3, _, w3⟩ := DataW.trod_int Tryz.underlying3 t3
      obtain ⟨a1, len1, cap1, e1⟩ := Go.Joins.slice_form Tryz.underlying46 t1
      obtain ⟨a2, len2, cap2, e2⟩ := Go.Joins.slice_form Tryz.underlying47 t2
      obtain ⟨a4, len4, cap4, e4⟩ := Go.Joins.slice_form Tryz.underlying48 t4
      simp only [List.cons.injEq, and_true] at e0 e1 e2 e3 e4
      subst e0 e1 e2 e3 e4
      obtain ⟨ps, hp⟩ := open_nums t1
      obtain ⟨bb, hb⟩ := open_bss t2
      obtain ⟨pat, hq, hql⟩ := open_pat t4
      exact ⟨⟨k0, ⟨a1, len1, cap1⟩, ⟨a2, len2, cap2⟩, k3, ⟨a4, len4, cap4⟩, ps, bb, pat⟩, rfl, ⟨hp, hb, hq, hql, w0, w3⟩⟩

end

structure AgAt (w : World) (b off : Nat) (t : Ag) : Prop where
  c0 : w.cell? ⟨b, off, none⟩ = some (.int .i64 t.do_)
  c1 : w.cell? ⟨b, off + 1, none⟩ = some (.slice t.p.a t.p.len t.p.cap)
  c2 : w.cell? ⟨b, off + 2, none⟩ = some (.slice t.b.a t.b.len t.b.cap)
  c3 : w.cell? ⟨b, off + 3, none⟩ = some (.int .i64 t.n)
  c4 : w.cell? ⟨b, off + 4, none⟩ = some (.slice t.q.a t.q.len t.q.cap)
  inn : AgIn w t
structure Ags (w : World) (a : Option Addr) (len : Nat) (l : List Ag) : Prop where
  len_ : l.length = len
  big : len ≤ 9223372036854775807
  at_ : ∀ j, j < len → ∃ b off, a = some ⟨b, off, none⟩ ∧ AgAt w b (off + j * 5) (l.getD j agD)
theorem AgAt.keep {w w' : World} {b off : Nat} {t : Ag} (hat : AgAt w b off t) (hb : Below w.heap.size w w') : AgAt w' b off t := by
  have k := fun (i : Nat) (v : Value) (hc : w.cell? ⟨b, i, none⟩ = some v) => (hb.cell (World.block_lt_of_cell? w _ hc)).trans hc
  exact ⟨k _ _ hat.c0, k _ _ hat.c1, k _ _ hat.c2, k _ _ hat.c3, k _ _ hat.c4, hat.inn.keep hb⟩
theorem Ags.keep {w w' : World} {a : Option Addr} {len : Nat} {l : List Ag} (h : Ags w a len l) (hb : Below w.heap.size w w') : Ags w' a len l := by
  refine ⟨h.len_, h.big, fun j hj => ?_⟩
  obtain ⟨b, off, ha, hat⟩ := h.at_ j hj
  exact ⟨b, off, ha, hat.keep hb⟩

section
variable {H : Type} {enc : TypeId × Value → H} {w : World} {base : Nat} {spare : Nat → Bool} {held : Bool}

theorem open_ags {n : Nat} {a : Option Addr} {len cap : Nat} {y : DataW H × List MemPlace} (h : DataW.trod enc Tryz.prog w base spare held n 22 [.slice a len cap] = some y) :
    ∃ l, Ags w a len l := by
  have hC : Tryz.prog.cellsOf 50 = 5 := by kernel_rfl
  rcases Go.Deep.open_slice Tryz.underlying22 h with ⟨hcs, _⟩ | ⟨x, l, c, m, k, D, Pl, hcs, hb, hl, hm, hmm, _, hx⟩
  · simp only [List.cons.injEq, Value.slice.injEq, and_true] at hcs
    obtain ⟨rfl, rfl, rfl⟩ := hcs
    exact ⟨[], ⟨rfl, by omega, fun j hj => by omega⟩⟩
  · simp only [List.cons.injEq, Value.slice.injEq, and_true] at hcs
    obtain ⟨rfl, rfl, rfl⟩ := hcs
    have hle : len ≤ m := by rw [hmm]; split <;> omega
    have hsp : 0 < len → x.spot = none := by
      intro h0
      obtain ⟨cs, h1, _⟩ := hx 0 (by omega)
      rw [hC] at h1
      obtain ⟨_, hlen, hc⟩ := World.cells?_some h1
      match cs, hlen with
      | [c0, c1, c2, c3, c4], _ =>
        have e0 := hc 0 (by omega)
        have := World.cell?_spot (by simpa using e0)
        simpa [Addr.add] using this
    have each : ∀ i, i < len → ∃ t : Ag, (∃ b off, x = ⟨b, off, none⟩ ∧ AgAt w b (off + i * 5) t) := by
      intro i hi
      obtain ⟨cs, h1, h2⟩ := hx i (by omega)
      rw [hC] at h1
      obtain ⟨_, hlen, hc⟩ := World.cells?_some h1
      obtain ⟨t, rfl, hin⟩ := ag_cells h2
      have e0 := hc 0 (by omega)
      have e1 := hc 1 (by omega)
      have e2 := hc 2 (by omega)
      have e3 := hc 3 (by omega)
      have e4 := hc 4 (by omega)
      obtain ⟨b, off, spot⟩ := x
      have hspot : spot = none := hsp (by omega)
      subst hspot
      refine ⟨t, b, off, rfl, ?_⟩
      simp only [Addr.add_lit] at e0 e1 e2 e3 e4
      exact ⟨by simpa [Ag.cells, Sl.val] using e0, by simpa [Ag.cells, Sl.val] using e1, by simpa [Ag.cells, Sl.val] using e2, by simpa [Ag.cells, Sl.val] using e3, by simpa [Ag.cells, Sl.val] using e4, hin⟩
    obtain ⟨f, hf⟩ := @Go.Deep.choose_lt Ag ⟨agD⟩ len _ each
    refine ⟨(List.range len).map f, ⟨by simp, by unfold maxLen at hm; omega, ?_⟩⟩
    intro j hj
    obtain ⟨b, off, rfl, hit⟩ := hf j hj
    refine ⟨b, off, rfl, ?_⟩
    have : ((List.range len).map f).getD j agD = f j := by simp [List.getD, hj]
    rw [this]
    exact hit
end

/-- An act's group. -/
def Ag.grp (x : Ag) : List Im := imgsOf x.ps (bts x.bb) (cnt x.p.len x.b.len)
set_option maxHeartbeats 4000000 in
theorem group_any (w : World) (x : Ag) (h : AgIn w x) : Calls Tryz.prog 14 #[.agg x.cells] w fun e w' => ImgPost w x.grp e w' := by
  have hA := below_alloc w (.cells x.cells 50)
  have HI := hide (images_any _ _ _ _ _ (h.keep hA).p _ _ _ _ (h.keep hA).b)
  have HA := hide hA
  obtain ⟨dd, ⟨pa, pl, pc⟩, ⟨ba, bl, bc⟩, nn, ⟨qa, ql, qc⟩, ps, bb, pat⟩ := x
  unfold Ag.cells at *
  unfold Ag.grp
  unfold Sl.val at *
  simp only at *
  clear h hA
  go_enter Tryz.func14, Tryz.ntmps14
  go_wp2_with fail
  refine HI.out.mono ?_
  rintro e w1 ⟨v, l, rfl, hg, hi, hb⟩
  have HE : Hid (GI (fun k => w.heap.size ≤ k) w.heap.size w1 v l ∧ ims l = imgsOf ps (bts bb) (cnt pl bl) ∧ Below w.heap.size w w1) := by
    refine ⟨⟨hg.own, fun k hk => Nat.le_trans HA.out.size (hg.blk k hk), fun y hy => (hg.bs y hy).mono (fun k hk _ => ⟨Nat.le_trans HA.out.size hk.1, hk.2⟩)⟩, hi, rBelowM HA.out hb⟩
  clear hg hi hb HI
  obtain ⟨va, vl, vc⟩ := v
  unfold Sl.val
  go_wp2_with fail
  go_ret
  exact ⟨⟨va, vl, vc⟩, l, rfl, HE.out⟩

def SaysB (e : Ending) : Prop := ∃ r : Bool, e = .returned (.bool r)
set_option maxHeartbeats 8000000 in
set_option maxRecDepth 100000 in
theorem lightA_any (w : World) (a : Option Addr) (len cap : Nat) (l : List Ag) (h : Ags w a len l) : Calls Tryz.prog 9 #[.slice a len cap] w fun e w' => w' = w ∧ SaysB e := by
  have H := hide h
  have hbig := h.big
  clear h
  go_enter Tryz.func9, Tryz.ntmps9
  go_wp2_with fail
  go_loopw [3, 4] (fun m i wr => wr = w ∧ ∃ j t : Nat, j ≤ 30 ∧ t ≤ 600 ∧ i = .int .i64 j ∧ m = .int .i64 ((t : Nat) : Int)) (fun _ i _ => 30 - (intOf i).toNat)
  case atStart => exact ⟨rfl, 0, 0, by omega, by omega, rfl, rfl⟩
  case round =>
    obtain ⟨rfl, j, t, hj, ht, rfl, rfl⟩ := hrel
    by_cases hgo : j < len ∧ j < 30
    · obtain ⟨hlt, hlt3⟩ := hgo
      have i1 : ((j : Nat) : Int) < ((len : Nat) : Int) := by omega
      have i2 : ((j : Nat) : Int) < 30 := by omega
      obtain ⟨b, off, ha, hat⟩ := H.out.at_ j hlt
      subst ha
      have d1 := hat.c1
      have d2 := hat.c2
      have d4 := hat.c4
      have HB := hide hat.inn.b
      have hql := hat.inn.ql
      have hpl := hat.inn.p.big
      have hbl := hat.inn.b.big
      generalize l.getD j agD = x at *
      obtain ⟨dd, ⟨pa, pl, pc⟩, ⟨ba, bl, bc⟩, nn, ⟨qa, ql, qc⟩, ps, bb, pat⟩ := x
      simp only at d1 d2 d4 HB hql hpl hbl
      clear hat
      by_cases c1 : (9 : Int) < ((pl : Nat) : Int)
      · go_wp2_with fail
        go_ret
        exact ⟨rfl, _, rfl⟩
      by_cases c2 : (9 : Int) < ((bl : Nat) : Int)
      · go_wp2_with fail
        go_ret
        exact ⟨rfl, _, rfl⟩
      by_cases c3 : (60 : Int) < ((ql : Nat) : Int)
      · go_wp2_with fail
        go_ret
        exact ⟨rfl, _, rfl⟩
      have hbl9 : bl ≤ 9 := by omega
      go_wp2_with fail
      go_loopw [3, 5] (fun m i wz => wz = wr ∧ ∃ k t : Nat, k ≤ bl ∧ t ≤ 600 ∧ i = .int .i64 k ∧ m = .int .i64 ((t : Nat) : Int)) (fun _ i _ => bl - (intOf i).toNat)
      case atStart => exact ⟨rfl, 0, t, by omega, by omega, rfl, rfl⟩
      case round =>
        obtain ⟨rfl, k, t', hk, ht', rfl, rfl⟩ := hrel
        by_cases hkl : k < bl
        · have i3 : ((k : Nat) : Int) < ((bl : Nat) : Int) := by omega
          obtain ⟨b2, o2, ha2, e0, hcm⟩ := HB.out.at_ k hkl
          subst ha2
          have hcl := hcm.big
          generalize bb.getD k Bt.zero = y at *
          obtain ⟨⟨ya, yl, yc⟩, ys⟩ := y
          simp only [Sl.val] at e0 hcl
          clear hcm
          by_cases c4 : (600 : Int) - ((t' : Nat) : Int) < ((yl : Nat) : Int)
          · go_wp2_with fail
            go_ret
            exact ⟨rfl, _, rfl⟩
          · go_wp2_with fail
            go_roundw
            case rel => exact ⟨by trivial, k + 1, t' + yl, by omega, by omega, by go_num, by go_num⟩
            case measure => simp only [intOf]; omega
        · have i3 : ¬ ((k : Nat) : Int) < ((bl : Nat) : Int) := by omega
          go_wp2_with fail
          go_roundw
          case rel => exact ⟨by trivial, j + 1, t', by omega, by omega, by go_num, rfl⟩
          case measure => simp only [intOf]; omega
    · by_cases hlt : j < len
      · have i1 : ((j : Nat) : Int) < ((len : Nat) : Int) := by omega
        have i2 : ¬ ((j : Nat) : Int) < 30 := by omega
        go_wp2_with fail
        go_ret
        exact ⟨rfl, _, rfl⟩
      · have i1 : ¬ ((j : Nat) : Int) < ((len : Nat) : Int) := by omega
        go_wp2_with fail
        go_ret
        exact ⟨rfl, _, rfl⟩
end Go.Proofs.YtpggkfdnpdhkfaaGreat
