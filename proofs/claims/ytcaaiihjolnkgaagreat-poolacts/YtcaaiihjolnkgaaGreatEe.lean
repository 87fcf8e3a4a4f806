/-
  The document's Ints.
  The document's pool: New.
  Are the pools alike?
-/
import Derived.Test.YtcaaiihjolnkgaaGreatEd
import Derived.Test.YtcaaiihjolnkgaaGreatBh
namespace Go.Proofs.YtcaaiihjolnkgaaGreat
open Go.RowKit
set_option maxRecDepth 100000
set_option linter.unusedVariables false

def Ks (w : World) (a : Option Addr) (len : Nat) (ks : List Int) : Prop :=
  ks.length = len ∧ ∀ j, j < len → ∃ b off, a = some ⟨b, off, none⟩ ∧ w.cell? ⟨b, off + j, none⟩ = some (.int .i64 (ks.getD j 0))

theorem Ks.keep {w w' : World} {B : Nat} {a : Option Addr} {len : Nat} {ks : List Int} (h : Ks w a len ks) (hb : Below B w w') (hB : w.heap.size ≤ B) : Ks w' a len ks := by
  refine ⟨h.1, fun i hi => ?_⟩
  obtain ⟨b, off, ha, hc⟩ := h.2 i hi
  exact ⟨b, off, ha, (hb.cell (Nat.lt_of_lt_of_le (World.block_lt_of_cell? w _ hc) hB)).trans hc⟩


set_option maxHeartbeats 2000000 in
set_option maxRecDepth 100000 in
theorem rints6a (w : World) (b o len cap b2 o2 len2 cap2 i : Nat) (x y : Int) (hi : i < len) (hi2 : i < len2) (hx : w.cell? ⟨b, o + i, none⟩ = some (.int .i64 x)) (hy : w.cell? ⟨b2, o2 + i, none⟩ = some (.int .i64 y)) (hr : x ≠ y)
    {Q : Exit → Act → World → Prop} {A : Act} (hsz : A.tmps.size = 26) (hdf : A.defers = []) (s0 : A.tmps.getD 0 undef = .slice (some ⟨b, o, none⟩) len cap) (s1 : A.tmps.getD 1 undef = .slice (some ⟨b2, o2, none⟩) len2 cap2) (s5 : A.tmps.getD 5 undef = .int .i64 ((i : Nat) : Int))
    (hend : ∀ (u : Nat → Value) w', Below w.heap.size w w' → Q .normal ((((((((((A).put (some 17) (u 17)).put (some 18) (u 18)).put (some 19) (u 19)).put (some 20) (u 20)).put (some 21) (u 21)).put (some 22) (u 22)).put (some 23) (u 23)).put (some 24) (u 24)).put (some 25) (.bool true)) w') :
    (Code.region 6 (Pl.find 6 ((Tryz.f53.body).getD .skip)) true).wp Tryz.prog Q A w := by
  have hA := Pl.At.same (v := .int .i64 ((i : Nat) : Int)) (d := 5) (Pl.At.same (v := .slice (some ⟨b2, o2, none⟩) len2 cap2) (d := 1) (Pl.At.same (v := .slice (some ⟨b, o, none⟩) len cap) (d := 0) (Pl.At.here hsz hdf) s0) s1) s5
  refine Pl.H.start (S := (fun w' => Below w.heap.size w w')) (by kernel_rfl) hA (below_drew w) ?_
  rw [show (Pl.find 6 ((Tryz.f53.body).getD .skip)).size = 9 by kernel_rfl]
  refine Pl.H.take 0 17 (.slice (some ⟨b, o, none⟩) len cap) (by kernel_rfl) (by kernel_rfl) (by kernel_rfl) (Pl.free 0 (by kernel_rfl)) (Pl.move 0 (.tmp 0) (by kernel_rfl) (by decide)) (below_drew w) ?_
  refine Pl.H.take 1 18 (.int .i64 ((i : Nat) : Int)) (by kernel_rfl) (by kernel_rfl) (by kernel_rfl) (Pl.free 1 (by kernel_rfl)) (Pl.move 1 (.tmp 5) (by kernel_rfl) (by decide)) (below_drew w) ?_
  refine Pl.H.take 2 19 (.pointer (some ⟨b, o + i, none⟩)) (by kernel_rfl) (by kernel_rfl) (by kernel_rfl) (Pl.free 2 (by kernel_rfl)) (Pl.index 2 57 (.tmp 17) (.tmp 18) _ (by kernel_rfl) (by decide) (by decide) (ixI1 b o len cap i hi)) (below_drew w) ?_
  refine Pl.H.take 3 20 (.int .i64 x) (by kernel_rfl) (by kernel_rfl) (by kernel_rfl) (Pl.free 3 (by kernel_rfl)) (Pl.load 3 3 (.tmp 19) _ (by kernel_rfl) (by decide) (fun w' hS => ldInt b (o + i) x w' ((hS.cell (p := ⟨b, o + i, none⟩) (World.block_lt_of_cell? w _ hx)).trans hx))) (below_drew w) ?_
  refine Pl.H.take 4 21 (.slice (some ⟨b2, o2, none⟩) len2 cap2) (by kernel_rfl) (by kernel_rfl) (by kernel_rfl) (Pl.free 4 (by kernel_rfl)) (Pl.move 4 (.tmp 1) (by kernel_rfl) (by decide)) (below_drew w) ?_
  refine Pl.H.take 5 22 (.int .i64 ((i : Nat) : Int)) (by kernel_rfl) (by kernel_rfl) (by kernel_rfl) (Pl.free 5 (by kernel_rfl)) (Pl.move 5 (.tmp 5) (by kernel_rfl) (by decide)) (below_drew w) ?_
  refine Pl.H.take 6 23 (.pointer (some ⟨b2, o2 + i, none⟩)) (by kernel_rfl) (by kernel_rfl) (by kernel_rfl) (Pl.free 6 (by kernel_rfl)) (Pl.index 6 57 (.tmp 21) (.tmp 22) _ (by kernel_rfl) (by decide) (by decide) (ixI1 b2 o2 len2 cap2 i hi2)) (below_drew w) ?_
  refine Pl.H.take 7 24 (.int .i64 y) (by kernel_rfl) (by kernel_rfl) (by kernel_rfl) (Pl.free 7 (by kernel_rfl)) (Pl.load 7 3 (.tmp 23) _ (by kernel_rfl) (by decide) (fun w' hS => ldInt b2 (o2 + i) y w' ((hS.cell (p := ⟨b2, o2 + i, none⟩) (World.block_lt_of_cell? w _ hy)).trans hy))) (below_drew w) ?_
  refine Pl.H.take 8 25 (.bool true) (by kernel_rfl) (by kernel_rfl) (by kernel_rfl) (Pl.free 8 (by kernel_rfl)) (Pl.binV 8 .neq 3 3 (.tmp 20) (.tmp 24) (.int .i64 x) (.int .i64 y) _ (by kernel_rfl) (by decide) (by decide) rfl rfl (fun w => neqT x y _ _ hr w)) (below_drew w) ?_
  refine Pl.H.done (by kernel_rfl) (fun A' hA' => ?_)
  rw [Pl.At.ext hA' (((((((((hA.put 17 _).put 18 _).put 19 _).put 20 _).put 21 _).put 22 _).put 23 _).put 24 _).put 25 _)]
  exact hend (fun d => if d = 17 then .slice (some ⟨b, o, none⟩) len cap else if d = 18 then .int .i64 ((i : Nat) : Int) else if d = 19 then .pointer (some ⟨b, o + i, none⟩) else if d = 20 then .int .i64 x else if d = 21 then .slice (some ⟨b2, o2, none⟩) len2 cap2 else if d = 22 then .int .i64 ((i : Nat) : Int) else if d = 23 then .pointer (some ⟨b2, o2 + i, none⟩) else if d = 24 then .int .i64 y else undef) _ (below_drew w)

set_option maxHeartbeats 2000000 in
set_option maxRecDepth 100000 in
theorem rints6b (w : World) (b o len cap b2 o2 len2 cap2 i : Nat) (x y : Int) (hi : i < len) (hi2 : i < len2) (hx : w.cell? ⟨b, o + i, none⟩ = some (.int .i64 x)) (hy : w.cell? ⟨b2, o2 + i, none⟩ = some (.int .i64 y)) (hr : x = y)
    {Q : Exit → Act → World → Prop} {A : Act} (hsz : A.tmps.size = 26) (hdf : A.defers = []) (s0 : A.tmps.getD 0 undef = .slice (some ⟨b, o, none⟩) len cap) (s1 : A.tmps.getD 1 undef = .slice (some ⟨b2, o2, none⟩) len2 cap2) (s5 : A.tmps.getD 5 undef = .int .i64 ((i : Nat) : Int))
    (hend : ∀ (u : Nat → Value) w', Below w.heap.size w w' → Q .normal ((((((((((A).put (some 17) (u 17)).put (some 18) (u 18)).put (some 19) (u 19)).put (some 20) (u 20)).put (some 21) (u 21)).put (some 22) (u 22)).put (some 23) (u 23)).put (some 24) (u 24)).put (some 25) (.bool false)) w') :
    (Code.region 6 (Pl.find 6 ((Tryz.f53.body).getD .skip)) true).wp Tryz.prog Q A w := by
  have hA := Pl.At.same (v := .int .i64 ((i : Nat) : Int)) (d := 5) (Pl.At.same (v := .slice (some ⟨b2, o2, none⟩) len2 cap2) (d := 1) (Pl.At.same (v := .slice (some ⟨b, o, none⟩) len cap) (d := 0) (Pl.At.here hsz hdf) s0) s1) s5
  refine Pl.H.start (S := (fun w' => Below w.heap.size w w')) (by kernel_rfl) hA (below_drew w) ?_
  rw [show (Pl.find 6 ((Tryz.f53.body).getD .skip)).size = 9 by kernel_rfl]
  refine Pl.H.take 0 17 (.slice (some ⟨b, o, none⟩) len cap) (by kernel_rfl) (by kernel_rfl) (by kernel_rfl) (Pl.free 0 (by kernel_rfl)) (Pl.move 0 (.tmp 0) (by kernel_rfl) (by decide)) (below_drew w) ?_
  refine Pl.H.take 1 18 (.int .i64 ((i : Nat) : Int)) (by kernel_rfl) (by kernel_rfl) (by kernel_rfl) (Pl.free 1 (by kernel_rfl)) (Pl.move 1 (.tmp 5) (by kernel_rfl) (by decide)) (below_drew w) ?_
  refine Pl.H.take 2 19 (.pointer (some ⟨b, o + i, none⟩)) (by kernel_rfl) (by kernel_rfl) (by kernel_rfl) (Pl.free 2 (by kernel_rfl)) (Pl.index 2 57 (.tmp 17) (.tmp 18) _ (by kernel_rfl) (by decide) (by decide) (ixI1 b o len cap i hi)) (below_drew w) ?_
  refine Pl.H.take 3 20 (.int .i64 x) (by kernel_rfl) (by kernel_rfl) (by kernel_rfl) (Pl.free 3 (by kernel_rfl)) (Pl.load 3 3 (.tmp 19) _ (by kernel_rfl) (by decide) (fun w' hS => ldInt b (o + i) x w' ((hS.cell (p := ⟨b, o + i, none⟩) (World.block_lt_of_cell? w _ hx)).trans hx))) (below_drew w) ?_
  refine Pl.H.take 4 21 (.slice (some ⟨b2, o2, none⟩) len2 cap2) (by kernel_rfl) (by kernel_rfl) (by kernel_rfl) (Pl.free 4 (by kernel_rfl)) (Pl.move 4 (.tmp 1) (by kernel_rfl) (by decide)) (below_drew w) ?_
  refine Pl.H.take 5 22 (.int .i64 ((i : Nat) : Int)) (by kernel_rfl) (by kernel_rfl) (by kernel_rfl) (Pl.free 5 (by kernel_rfl)) (Pl.move 5 (.tmp 5) (by kernel_rfl) (by decide)) (below_drew w) ?_
  refine Pl.H.take 6 23 (.pointer (some ⟨b2, o2 + i, none⟩)) (by kernel_rfl) (by kernel_rfl) (by kernel_rfl) (Pl.free 6 (by kernel_rfl)) (Pl.index 6 57 (.tmp 21) (.tmp 22) _ (by kernel_rfl) (by decide) (by decide) (ixI1 b2 o2 len2 cap2 i hi2)) (below_drew w) ?_
  refine Pl.H.take 7 24 (.int .i64 y) (by kernel_rfl) (by kernel_rfl) (by kernel_rfl) (Pl.free 7 (by kernel_rfl)) (Pl.load 7 3 (.tmp 23) _ (by kernel_rfl) (by decide) (fun w' hS => ldInt b2 (o2 + i) y w' ((hS.cell (p := ⟨b2, o2 + i, none⟩) (World.block_lt_of_cell? w _ hy)).trans hy))) (below_drew w) ?_
  refine Pl.H.take 8 25 (.bool false) (by kernel_rfl) (by kernel_rfl) (by kernel_rfl) (Pl.free 8 (by kernel_rfl)) (Pl.binV 8 .neq 3 3 (.tmp 20) (.tmp 24) (.int .i64 x) (.int .i64 y) _ (by kernel_rfl) (by decide) (by decide) rfl rfl (fun w => neqF x y _ _ (fun h => h hr) w)) (below_drew w) ?_
  refine Pl.H.done (by kernel_rfl) (fun A' hA' => ?_)
  rw [Pl.At.ext hA' (((((((((hA.put 17 _).put 18 _).put 19 _).put 20 _).put 21 _).put 22 _).put 23 _).put 24 _).put 25 _)]
  exact hend (fun d => if d = 17 then .slice (some ⟨b, o, none⟩) len cap else if d = 18 then .int .i64 ((i : Nat) : Int) else if d = 19 then .pointer (some ⟨b, o + i, none⟩) else if d = 20 then .int .i64 x else if d = 21 then .slice (some ⟨b2, o2, none⟩) len2 cap2 else if d = 22 then .int .i64 ((i : Nat) : Int) else if d = 23 then .pointer (some ⟨b2, o2 + i, none⟩) else if d = 24 then .int .i64 y else undef) _ (below_drew w)

set_option maxHeartbeats 4000000 in
set_option maxRecDepth 100000 in
theorem rints_any (a : Option Addr) (len cap : Nat) (l : List Int) (b : Option Addr) (len2 cap2 : Nat) (m : List Int) (w : World) (h : Ks w a len l) (k : Ks w b len2 m) (hl : len ≤ 9223372036854775807) (hl2 : len2 ≤ 9223372036854775807) :
    Calls Tryz.prog 53 #[.slice a len cap, .slice b len2 cap2] w fun e w' => e = .returned (.bool (decide (l = m))) ∧ Below w.heap.size w w' := by
  by_cases hne : len = len2
  · subst hne
    have H := hide h
    have HK := hide k
    have H0 := hide (Below.refl w.heap.size w)
    clear h k hl2
    go_enter Tryz.func53, Tryz.ntmps53
    go_wp2_with fail
    go_loopw [5] (fun iv wr => ∃ i : Nat, i ≤ len ∧ iv = .int .i64 (i : Nat) ∧ Hid (∀ j, j < i → l.getD j 0 = m.getD j 0) ∧ Hid (Below w.heap.size w wr)) (fun iv _ => len - (intOf iv).toNat)
    case atStart => exact ⟨0, Nat.zero_le _, rfl, fun j hj => absurd hj (Nat.not_lt_zero _), H0⟩
    case round =>
      obtain ⟨i, hi, rfl, hix, hbr⟩ := hrel
      rcases Nat.lt_or_ge i len with hlt | hge
      · have i1 : ((i : Nat) : Int) < ((len : Nat) : Int) := by omega
        obtain ⟨b1, o1, ha, hx⟩ := (H.out.keep hbr.out (Nat.le_refl _)).2 i hlt
        subst ha
        obtain ⟨b2, o2, ha2, hy⟩ := (HK.out.keep hbr.out (Nat.le_refl _)).2 i hlt
        subst ha2
        have HX := hide hx
        have HY := hide hy
        clear hx hy
        by_cases hon : l.getD i 0 = m.getD i 0
        · have HN : Hid (∀ j, j < i + 1 → l.getD j 0 = m.getD j 0) := by
            intro j hj
            by_cases e : j = i
            · rw [e]; exact hon
            · exact hix.out j (by omega)
          have HON := hide hon
          clear hix hon
          go_wp2_with fail
          refine Pl.region_is (ops := Pl.find 6 ((Tryz.f53.body).getD .skip)) (by kernel_rfl) ?_
          refine rints6b _ b1 o1 len cap b2 o2 len cap2 i _ _ hlt hlt HX.out HY.out HON.out (by rfl) rfl (by rfl) (by rfl) (by rfl) ?_
          intro u1 w1 hb1
          simp only [Act.put, List.setIfInBounds_toArray, List.set_cons_zero, List.set_cons_succ]
          have HB1 := hide (rBelow hbr.out hb1)
          clear hb1
          go_wp2_with fail
          go_roundw
          case rel => exact ⟨i + 1, by omega, by go_num, HN, HB1⟩
          case measure => simp only [intOf]; omega
        · have HNE : Hid (decide (l = m) = false) := decide_eq_false (fun e => hon (by rw [e]))
          have HON := hide hon
          clear hix hon
          go_wp2_with fail
          refine Pl.region_is (ops := Pl.find 6 ((Tryz.f53.body).getD .skip)) (by kernel_rfl) ?_
          refine rints6a _ b1 o1 len cap b2 o2 len cap2 i _ _ hlt hlt HX.out HY.out HON.out (by rfl) rfl (by rfl) (by rfl) (by rfl) ?_
          intro u1 w1 hb1
          simp only [Act.put, List.setIfInBounds_toArray, List.set_cons_zero, List.set_cons_succ]
          have HB1 := hide (rBelow hbr.out hb1)
          clear hb1
          go_wp2_with fail
          go_ret
          exact ⟨by rw [HNE.out]; rfl, HB1.out⟩
      · have i1 : ¬ ((i : Nat) : Int) < ((len : Nat) : Int) := by omega
        have HY : Hid (decide (l = m) = true) := decide_eq_true (by
          apply List.ext_getElem
          · rw [H.out.1, HK.out.1]
          · intro j h1 h2
            have := hix.out j (by rw [H.out.1] at h1; omega)
            simpa [List.getD, h1, h2] using this)
        clear hix
        go_wp2_with fail
        go_ret
        exact ⟨by rw [HY.out]; rfl, hbr.out⟩
  · have HNE : Hid (decide (l = m) = false) := decide_eq_false (fun e => hne (by rw [← h.1, ← k.1, e]))
    have q4 : (((len : Nat) : Int) != ((len2 : Nat) : Int)) = true := by simp; omega
    have q5 : ¬ ((len : Nat) : Int) = ((len2 : Nat) : Int) := by omega
    clear h k hne
    go_enter Tryz.func53, Tryz.ntmps53
    go_wp2_with fail
    go_ret
    exact ⟨by rw [HNE.out]; rfl, Below.refl _ _⟩


theorem own_ks {w : World} {a : Sl} {xs : List Nat} (h : Own 3 1 w a (ivals xs)) : Ks w a.a a.len (xs.map (fun k => ((k : Nat) : Int))) := by
  have hal : xs.length = a.len := by
    have := h.1
    simp [ivals] at this
    exact this
  refine ⟨by simpa using hal, fun j hj => ?_⟩
  rcases h.2 with ⟨h0, he⟩ | ⟨g, off, cur, ha, hg, _⟩
  · rw [h0] at hj; exact absurd hj (Nat.not_lt_zero _)
  · refine ⟨g, off, ha, ?_⟩
    have hx : j < xs.length := by omega
    have := h.cell ha j (.int .i64 ((xs[j] : Nat) : Int)) (by simp [ivals, hx])
    rw [Addr.add_lit] at this
    rw [this]
    simp [hx]
theorem rints_own {w : World} {a b : Sl} {xs ys : List Nat} (h : Own 3 1 w a (ivals xs)) (k : Own 3 1 w b (ivals ys)) (hx : xs.length ≤ 1000) (hy : ys.length ≤ 1000) : Calls Tryz.prog 53 #[a.val, b.val] w fun e w' => e = .returned (.bool (decide (xs = ys))) ∧ Below w.heap.size w w' := by
  have h1 := own_ks h
  have h2 := own_ks k
  have l1 := h1.1
  have l2 := h2.1
  rw [List.length_map] at l1 l2
  refine Calls.mono (rints_any a.a a.len a.cap _ b.a b.len b.cap _ w h1 h2 (by omega) (by omega)) (fun e w' hq => ⟨?_, hq.2⟩)
  rw [hq.1]
  have hinj : (xs.map (fun k => ((k : Nat) : Int)) = ys.map (fun k => ((k : Nat) : Int))) ↔ xs = ys := ⟨fun e => (List.map_inj_right (fun _ _ e => Int.ofNat.inj e)).1 e, fun e => by rw [e]⟩
  simp only [hinj]
end Go.Proofs.YtcaaiihjolnkgaaGreat

namespace Go.Proofs.YtcaaiihjolnkgaaGreat
open Go.RowKit
set_option maxRecDepth 100000
set_option linter.unusedVariables false
variable {K : Home}

def DvB (w : World) (g : Nat) (d : Dv) (Ld : DvL) : Prop := w.heap[g]? = some (.cells #[Ld.kp.val, .int .i64 d.kept.base, Ld.ks.val, Ld.np.val, .int .i64 d.now.base, Ld.ns.val, Ld.ds.val, .bool d.gone, .int .i64 d.armed] 37 (0, 0))
theorem DvB.lt {w : World} {g : Nat} {d : Dv} {Ld : DvL} (h : DvB w g d Ld) : g < w.heap.size := (Array.getElem?_eq_some_iff.1 h).1
theorem DvB.keep {w w' : World} {g : Nat} {d : Dv} {Ld : DvL} (h : DvB w g d Ld) (e : w'.heap[g]? = w.heap[g]?) : DvB w' g d Ld := e.trans h
theorem DvB.ld {w : World} {g : Nat} {d : Dv} {Ld : DvL} (h : DvB w g d Ld) : (Instr.loadAt 37 (.pointer (some ⟨g, 0, none⟩))).run Tryz.prog w = .ok (d.val Ld) w := by
  have h' : DvBlk w g Ld.kp.val d.kept.base Ld.ks.val Ld.np.val d.now.base Ld.ns.val Ld.ds.val d.gone d.armed := h
  have c0 := h'.c0
  have c1 := h'.c1
  have c2 := h'.c2
  have c3 := h'.c3
  have c4 := h'.c4
  have c5 := h'.c5
  have c6 := h'.c6
  have c7 := h'.c7
  have c8 := h'.c8
  unfold Dv.val
  simp [go_sem, Instr.loadAt, c0, c1, c2, c3, c4, c5, c6, c7, c8]
theorem fldDk1 (x : Dk) (p s : Sl) (w : World) : (Instr.field 34 (x.val p s) 1).run Tryz.prog w = .ok (.int .i64 x.base) w := by
  unfold Dk.val Sl.val
  simp [go_sem, Instr.field, asAgg]
theorem buildRp (d : Dv) (Ld : DvL) (b : Int) (w : World) : (Instr.build 43 #[(0, d.val Ld), (3, .int .i64 b)]).run Tryz.prog w = .ok (rV d Ld Sl.nil 0 Sl.nil b) w := by
  unfold Dv.val rV rCells Sl.val Sl.nil
  simp [go_sem, Instr.build]
theorem alloc_rp (w : World) : (Instr.alloc 43 true (.tuple #[])).run Tryz.prog w = .ok (.pointer (some ⟨w.heap.size, 0, none⟩)) (w.alloc (.cells (rCells dv0 dvl0 Sl.nil 0 Sl.nil 0) 43)) := by
  unfold rCells dv0 dvl0 Sl.val Sl.nil
  simp [go_sem, Instr.alloc]
theorem stRV {w : World} {g : Nat} {d : Dv} {Ld : DvL} {v : Sl} {h : Int} {s : Sl} {sy : Int} (k : RBlk w g d Ld v h s sy) (s2 : Sl) : ∃ W, (Instr.storeAt 38 (.pointer (some ⟨g, 9, none⟩)) s2.val).run Tryz.prog w = .ok () W ∧ RBlk W g d Ld s2 h s sy ∧ Frm (fun i => i = g) w W ∧ W.heap.size = w.heap.size := by
  have c9 := k.c9
  have ff := k.fz
  refine ⟨(w.setCell ⟨g, 9, none⟩ (s2.val)), ?_, ?_, (Frm.refl (fun i => i = g) w).setCell (p := ⟨g, 9, none⟩) rfl _, by simp only [setCell_size]⟩
  · unfold Sl.val
    simp [go_sem, Instr.storeAt, stored, c9, ff]
  · unfold RBlk at k
    have q0 := heap_setCell_same w g 9 _ 43 (s2.val) k
    unfold RBlk
    rw [q0]
    simp [rCells]
theorem sp_app {W : World} {a : Sl} {l : List Sp} (h : OwnS W a l) (x : Sp) (hl : a.len + 1 ≤ 1000000) : ∃ a' W', (∀ ty, (Builtin.append_ #[38, 38] ty #[a.val, .slice (some ⟨W.heap.size, 0, none⟩) 1 1]).run Tryz.prog (W.alloc (.cells (Sp.cells x).toArray 85)) = .ok a'.val W') ∧ OwnS W' a' (l ++ [x]) ∧ a'.len = a.len + 1 ∧ Frm (fun i => a.blk = some i) W W' ∧ (a'.blk = a.blk ∨ ∃ q, a'.blk = some q ∧ W.heap.size ≤ q) := by
  have hA := below_alloc W (.cells (Sp.cells x).toArray 85)
  have ho : OwnS (W.alloc (.cells (Sp.cells x).toArray 85)) a l := h.below hA
  have h1 : Own 85 3 (W.alloc (.cells (Sp.cells x).toArray 85)) ⟨some ⟨W.heap.size, 0, none⟩, 1, 1⟩ (Sp.cells x) := ⟨rfl, .inr ⟨W.heap.size, 0, _, rfl, heap_alloc_new W _, by simp [Sp.cells], Nat.le_refl _, (by unfold maxLen; show 1 ≤ _; omega), by simp [Sp.cells]⟩⟩
  have hs := Own.src (S := 38) h1 Tryz.underlying38 (by have := cellsS_one [x]; simpa [cellsS] using this)
  obtain ⟨a', W', hrun, ho', hlen, hfr, hbk⟩ := own_append Tryz.underlying38 infoSp rfl (by omega) _ a _ ho (cellsS_one l) _ 1 _ hs hl 0
  refine ⟨a', W', fun ty => hrun, ?_, hlen, (Frm.ofBelow (F := fun i => a.blk = some i) hA).trans hfr (fun _ _ e => e), hbk.imp id (fun e => ⟨_, e.1, hA.size⟩)⟩
  unfold OwnS
  rw [cellsS_append]
  simpa [cellsS] using ho'

structure SN (w : World) (g : Nat) (d : Dv) (Ld : DvL) (w' : World) : Prop where
  b : DvB w' g d Ld
  e : Below w.heap.size w w'
  lt : g < w.heap.size
theorem SN.size {w : World} {g : Nat} {d : Dv} {Ld : DvL} {w' : World} (h : SN w g d Ld w') : w.heap.size ≤ w'.heap.size := h.e.size
theorem SN.keep {w : World} {g : Nat} {d : Dv} {Ld : DvL} {w' w2 : World} (h : SN w g d Ld w') (hb : Below w'.heap.size w' w2) : SN w g d Ld w2 := ⟨h.b.keep (hb.block _ h.b.lt), h.e.trans (hb.mono h.e.size), h.lt⟩
theorem SN.store {w : World} {g : Nat} {d : Dv} {Ld : DvL} {w' w2 : World} {k : Nat} (h : SN w g d Ld w') (hf : Frm (fun i => i = k) w' w2) (hk : w.heap.size ≤ k) : SN w g d Ld w2 := ⟨h.b.keep (hf.block _ h.b.lt (by have := h.lt; omega)), h.e.trans (hf.below h.e.size (fun i e => by omega)), h.lt⟩

set_option maxHeartbeats 2000000 in
set_option maxRecDepth 100000 in
theorem new1 (w : World) (g : Nat) (dd : Dv) (Ld : DvL) (h0 : DvB w g dd Ld)
    {Q : Exit → Act → World → Prop} {A : Act} (hsz : A.tmps.size = 26) (hdf : A.defers = []) (s2 : A.tmps.getD 2 undef = .pointer (some ⟨g, 0, none⟩))
    (hend : ∀ (u : Nat → Value) w', (∃ g5, u 5 = .pointer (some ⟨g5, 0, none⟩) ∧ RBlk w' g5 dd Ld Sl.nil 0 Sl.nil dd.now.base ∧ w.heap.size ≤ g5 ∧ Below w.heap.size w w') → Q .normal (((((((A).put (some 7) (u 7)).put (some 8) (u 8)).put (some 9) (u 9)).put (some 10) (u 10)).put (some 11) (u 11)).put (some 5) (u 5)) w') :
    (Code.region 1 (Pl.find 1 ((Tryz.f8.body).getD .skip)) true).wp Tryz.prog Q A w := by
  have hA := Pl.At.same (v := .pointer (some ⟨g, 0, none⟩)) (d := 2) (Pl.At.here hsz hdf) s2
  refine Pl.H.start (S := fun w' => SN w g dd Ld w') (by kernel_rfl) hA (show SN w g dd Ld w.drew from ⟨h0, below_drew w, h0.lt⟩) ?_
  rw [show (Pl.find 1 ((Tryz.f8.body).getD .skip)).size = 7 by kernel_rfl]
  refine Pl.H.take 0 7 (dd.val Ld) (by kernel_rfl) (by kernel_rfl) (by kernel_rfl) (Pl.free 0 (by kernel_rfl)) (Pl.load 0 37 (.tmp 2) _ (by kernel_rfl) (by decide) (fun w' hS => DvB.ld hS.b)) (show SN w g dd Ld w.drew from ⟨h0, below_drew w, h0.lt⟩) ?_
  refine Pl.H.take 1 8 (dd.val Ld) (by kernel_rfl) (by kernel_rfl) (by kernel_rfl) (Pl.free 1 (by kernel_rfl)) (Pl.load 1 37 (.tmp 2) _ (by kernel_rfl) (by decide) (fun w' hS => DvB.ld hS.b)) (show SN w g dd Ld w.drew from ⟨h0, below_drew w, h0.lt⟩) ?_
  refine Pl.H.two 2 5 (by kernel_rfl) ?_ ?_
  · refine Pl.HOp.call 2 9 31 [(.tmp 8)] #[37] (by kernel_rfl) (by kernel_rfl) (by kernel_rfl) (by kernel_rfl) (by decide) entSeen (Calls.mono (refSeen_any dd Ld w.drew) ?_)
    rintro e w2 ⟨hb2, rfl⟩
    have hS2 : SN w g dd Ld w2 := SN.keep (show SN w g dd Ld w.drew from ⟨h0, below_drew w, h0.lt⟩) hb2
    refine ⟨dd.now.val Ld.np Ld.ns, rfl, hS2, ?_⟩
    refine Pl.H.take 3 10 (.int .i64 dd.now.base) (by kernel_rfl) (by kernel_rfl) (by kernel_rfl) (Pl.free 3 (by kernel_rfl)) (Pl.fieldV 3 34 (.tmp 9) 1 _ (by kernel_rfl) (by decide) (fldDk1 dd.now Ld.np Ld.ns)) hS2 ?_
    refine Pl.H.take 4 11 (rV dd Ld Sl.nil 0 Sl.nil dd.now.base) (by kernel_rfl) (by kernel_rfl) (by kernel_rfl) (Pl.free 4 (by kernel_rfl)) (Pl.buildV 4 43 [(0, .tmp 7), (3, .tmp 10)] _ (by kernel_rfl) (by decide) (fun w => buildRp dd Ld _ w)) hS2 ?_
    have hSa : SN w g dd Ld (w2.alloc (.cells (rCells dv0 dvl0 Sl.nil 0 Sl.nil 0) 43)) := SN.keep hS2 (below_alloc w2 (.cells (rCells dv0 dvl0 Sl.nil 0 Sl.nil 0) 43))
    have hK1 := rBlk_new w2 dv0 dvl0 Sl.nil 0 Sl.nil 0
    have hge : w.heap.size ≤ w2.heap.size := SN.size hS2
    refine Pl.H.make 5 5 (.pointer (some ⟨w2.heap.size, 0, none⟩)) (w2.alloc (.cells (rCells dv0 dvl0 Sl.nil 0 Sl.nil 0) 43)) (by kernel_rfl) (by kernel_rfl) (by kernel_rfl) (Pl.free 5 (by kernel_rfl)) (Pl.allocV 5 43 _ _ (by kernel_rfl) (alloc_rp w2)) hSa ?_
    obtain ⟨W4, hst, hb4, hf4, _⟩ := stR hK1 dd Ld Sl.nil 0 Sl.nil dd.now.base
    have hS4 : SN w g dd Ld W4 := SN.store hSa hf4 hge
    refine Pl.H.store 6 W4 (by kernel_rfl) (by kernel_rfl) (by kernel_rfl) (Pl.free 6 (by kernel_rfl)) (Pl.storeV 6 43 (.tmp 5) (.tmp 11) W4 (by kernel_rfl) (by decide) (by decide) hst) hS4 ?_
    refine Pl.H.done (by kernel_rfl) (fun A' hA' => ?_)
    rw [Pl.At.ext hA' ((((((hA.put 7 _).put 8 _).put 9 _).put 10 _).put 11 _).put 5 _)]
    exact hend (fun d => if d = 7 then dd.val Ld else if d = 8 then dd.val Ld else if d = 9 then dd.now.val Ld.np Ld.ns else if d = 10 then .int .i64 dd.now.base else if d = 11 then rV dd Ld Sl.nil 0 Sl.nil dd.now.base else if d = 5 then .pointer (some ⟨w2.heap.size, 0, none⟩) else undef) _ ⟨_, rfl, hb4, hge, hS4.e⟩
  · have hSa : SN w g dd Ld (w.drew.alloc (.cells (rCells dv0 dvl0 Sl.nil 0 Sl.nil 0) 43)) := SN.keep (show SN w g dd Ld w.drew from ⟨h0, below_drew w, h0.lt⟩) (below_alloc w.drew (.cells (rCells dv0 dvl0 Sl.nil 0 Sl.nil 0) 43))
    have hK1 := rBlk_new w.drew dv0 dvl0 Sl.nil 0 Sl.nil 0
    have hge : w.heap.size ≤ w.drew.heap.size := SN.size (show SN w g dd Ld w.drew from ⟨h0, below_drew w, h0.lt⟩)
    refine Pl.HOp.value 5 5 (.pointer (some ⟨w.drew.heap.size, 0, none⟩)) (w.drew.alloc (.cells (rCells dv0 dvl0 Sl.nil 0 Sl.nil 0) 43)) (by kernel_rfl) (by kernel_rfl) (by kernel_rfl) (Pl.allocV 5 43 _ _ (by kernel_rfl) (alloc_rp w.drew)) hSa ?_
    refine Pl.H.call 2 9 31 [(.tmp 8)] #[37] (by kernel_rfl) (by kernel_rfl) (by kernel_rfl) (Pl.free 2 (by kernel_rfl)) (by kernel_rfl) (by decide) entSeen (Calls.mono (refSeen_any dd Ld (w.drew.alloc (.cells (rCells dv0 dvl0 Sl.nil 0 Sl.nil 0) 43))) ?_)
    rintro e w2 ⟨hb2, rfl⟩
    have hS2 : SN w g dd Ld w2 := SN.keep hSa hb2
    have hK2 := hK1.below hb2
    refine ⟨dd.now.val Ld.np Ld.ns, rfl, hS2, ?_⟩
    rw [Pl.upd_comm _ 5 9 _ _ (by decide)]
    refine Pl.H.take 3 10 (.int .i64 dd.now.base) (by kernel_rfl) (by kernel_rfl) (by kernel_rfl) (Pl.free 3 (by kernel_rfl)) (Pl.fieldV 3 34 (.tmp 9) 1 _ (by kernel_rfl) (by decide) (fldDk1 dd.now Ld.np Ld.ns)) hS2 ?_
    rw [Pl.upd_comm _ 5 10 _ _ (by decide)]
    refine Pl.H.take 4 11 (rV dd Ld Sl.nil 0 Sl.nil dd.now.base) (by kernel_rfl) (by kernel_rfl) (by kernel_rfl) (Pl.free 4 (by kernel_rfl)) (Pl.buildV 4 43 [(0, .tmp 7), (3, .tmp 10)] _ (by kernel_rfl) (by decide) (fun w => buildRp dd Ld _ w)) hS2 ?_
    rw [Pl.upd_comm _ 5 11 _ _ (by decide)]
    obtain ⟨W4, hst, hb4, hf4, _⟩ := stR hK2 dd Ld Sl.nil 0 Sl.nil dd.now.base
    have hS4 : SN w g dd Ld W4 := SN.store hS2 hf4 hge
    refine Pl.H.store 6 W4 (by kernel_rfl) (by kernel_rfl) (by kernel_rfl) (Pl.free 6 (by kernel_rfl)) (Pl.storeV 6 43 (.tmp 5) (.tmp 11) W4 (by kernel_rfl) (by decide) (by decide) hst) hS4 ?_
    refine Pl.H.done (by kernel_rfl) (fun A' hA' => ?_)
    rw [Pl.At.ext hA' ((((((hA.put 7 _).put 8 _).put 9 _).put 10 _).put 11 _).put 5 _)]
    exact hend (fun d => if d = 7 then dd.val Ld else if d = 8 then dd.val Ld else if d = 9 then dd.now.val Ld.np Ld.ns else if d = 10 then .int .i64 dd.now.base else if d = 11 then rV dd Ld Sl.nil 0 Sl.nil dd.now.base else if d = 5 then .pointer (some ⟨w.drew.heap.size, 0, none⟩) else undef) _ ⟨_, rfl, hb4, hge, hS4.e⟩

/-- What stands between two rounds. -/
structure Nw (w W : World) (g j : Nat) (d : Dv) (Ld : DvL) (v : Sl) (sy : Int) : Prop where
  b : RBlk W g d Ld v 0 Sl.nil sy
  own : OwnS W v (List.replicate j Sp.none)
  up : ∀ k, v.blk = some k → g < k
  ans : ∃ d' Ld' v' h' s' sy', RBlk W (w.heap.size + 1) d' Ld' v' h' s' sy'
  gt : w.heap.size + 1 < g
  e : Below w.heap.size w W
theorem Nw.step {w W : World} {g j : Nat} {d : Dv} {Ld : DvL} {v : Sl} {sy : Int} (h : Nw w W g j d Ld v sy) (hj : j ≤ 64) : ∃ v' W1 W2, (∀ ty, (Builtin.append_ #[38, 38] ty #[v.val, .slice (some ⟨W.heap.size, 0, none⟩) 1 1]).run Tryz.prog (W.alloc (.cells #[.int .i64 (-1), .bool false, .bool false] 85)) = .ok v'.val W1) ∧ (Instr.storeAt 38 (.pointer (some ⟨g, 9, none⟩)) v'.val).run Tryz.prog W1 = .ok () W2 ∧ Nw w W2 g (j + 1) d Ld v' sy := by
  have hvl := h.own.len
  rw [List.length_replicate] at hvl
  obtain ⟨v', W1, hrun, ho, hlen, hfr, hbk⟩ := sp_app h.own Sp.none (by omega)
  have hb1 : RBlk W1 g d Ld v 0 Sl.nil sy := h.b.keep (hfr.block _ h.b.lt (fun e => by have := h.up _ e; omega))
  obtain ⟨W2, hst, hb2, hf2, hsz2⟩ := stRV hb1 v'
  have hlt := h.gt
  have hup : ∀ k, v'.blk = some k → g < k := fun k hk => by
    rcases hbk with e | ⟨q, e, hq⟩
    · rw [e] at hk; exact h.up k hk
    · rw [e] at hk; obtain rfl := Option.some.inj hk; have := h.b.lt; omega
  obtain ⟨d', Ld', vv, h', s', sy', ka⟩ := h.ans
  have ka1 := ka.keep (hfr.block _ ka.lt (fun e => by have := h.up _ e; omega))
  have ka2 := ka1.keep (hf2.block _ ka1.lt (by omega))
  have hfr2 := hfr.below h.e.size (fun k e => by have := h.up _ e; omega)
  have e1 := h.e.trans hfr2
  refine ⟨v', W1, W2, hrun, hst, ⟨hb2, ?_, hup, ⟨d', Ld', vv, h', s', sy', ka2⟩, hlt, e1.trans (hf2.below e1.size (fun k e => by omega))⟩⟩
  rw [List.replicate_succ']
  exact ho.frame (fun k hk => hf2.block k (Own.lt ho hk) (by have := hup k hk; omega))

theorem inl_new (D : Ds) (f n : Nat) : (Po.new D f).inl n = [] := by
  unfold Po.inl Po.from_ Po.new
  simp
theorem shRow_nil (w : World) : ShRow K w Sl.nil [] := ⟨[], rfl, ⟨rfl, fun _ => rfl, Nat.le_refl _, by decide, fun j z hz => by simp at hz⟩, fun z hz => by cases hz⟩

set_option maxHeartbeats 8000000 in
set_option maxRecDepth 100000 in
theorem rNew_any {w : World} {n tot m : Nat} {D : Ds} {d : Dv} {Ld : DvL} (hd : DvIn K w d Ld) (hr : Rel D d.abs) (hg : Good n tot m d.abs) (hlow : K.low ≤ w.heap.size) (f : Nat) (hf : f ≤ 64) : Calls Tryz.prog 8 #[d.val Ld, .int .i64 ((f : Nat) : Int)] w fun e w' => Below w.heap.size w w' ∧ ∃ x, e = .returned x ∧ RpSays K n tot m (Po.new D f) x w' := by
  obtain ⟨W0, hW0⟩ : ∃ W, W = (w.alloc (.cells #[Ld.kp.val, .int .i64 d.kept.base, Ld.ks.val, Ld.np.val, .int .i64 d.now.base, Ld.ns.val, Ld.ds.val, .bool d.gone, .int .i64 d.armed] 37)).alloc (.cells (rCells dv0 dvl0 Sl.nil 0 Sl.nil 0) 43) := ⟨_, rfl⟩
  have b1 := below_alloc w (.cells #[Ld.kp.val, .int .i64 d.kept.base, Ld.ks.val, Ld.np.val, .int .i64 d.now.base, Ld.ns.val, Ld.ds.val, .bool d.gone, .int .i64 d.armed] 37)
  have b2 := below_alloc (w.alloc (.cells #[Ld.kp.val, .int .i64 d.kept.base, Ld.ks.val, Ld.np.val, .int .i64 d.now.base, Ld.ns.val, Ld.ds.val, .bool d.gone, .int .i64 d.armed] 37)) (.cells (rCells dv0 dvl0 Sl.nil 0 Sl.nil 0) 43)
  have hDB : DvB W0 w.heap.size d Ld := by rw [hW0]; exact (b2.block _ (by simp)).trans (heap_alloc_new w _)
  have hAN : RBlk W0 (w.heap.size + 1) dv0 dvl0 Sl.nil 0 Sl.nil 0 := by
    have := rBlk_new (w.alloc (.cells #[Ld.kp.val, .int .i64 d.kept.base, Ld.ks.val, Ld.np.val, .int .i64 d.now.base, Ld.ns.val, Ld.ds.val, .bool d.gone, .int .i64 d.armed] 37)) dv0 dvl0 Sl.nil 0 Sl.nil 0
    rw [show (w.alloc (.cells #[Ld.kp.val, .int .i64 d.kept.base, Ld.ks.val, Ld.np.val, .int .i64 d.now.base, Ld.ns.val, Ld.ds.val, .bool d.gone, .int .i64 d.armed] 37)).heap.size = w.heap.size + 1 by simp, ← hW0] at this
    exact this
  have hB0 : Below w.heap.size w W0 := by rw [hW0]; exact rBelow b1 b2
  have HR1 : Hid (∀ {Q : Exit → Act → World → Prop} {A : Act}, A.tmps.size = 26 → A.defers = [] → A.tmps.getD 2 undef = .pointer (some ⟨w.heap.size, 0, none⟩) → _ → (Code.region 1 (Pl.find 1 ((Tryz.f8.body).getD .skip)) true).wp Tryz.prog Q A W0) := fun {Q A} a1 a2 a3 hend => new1 W0 w.heap.size d Ld hDB a1 a2 a3 hend
  have HNW : Hid (∀ g w1, RBlk w1 g d Ld Sl.nil 0 Sl.nil d.now.base → W0.heap.size ≤ g → Below W0.heap.size W0 w1 → Nw w w1 g 0 d Ld Sl.nil d.now.base) := fun g w1 k hg hb => ⟨k, Own.nil _ _ _, (fun k hk => by simp [Sl.nil, Sl.blk] at hk), ⟨_, _, _, _, _, _, hAN.below hb⟩, by have := hAN.lt; omega, hB0.trans (hb.mono hB0.size)⟩
  have HD := hide hd
  have HR := hide hr
  have HG := hide hg
  have HLO := hide hlow
  have HW0 := hide hW0
  clear hd hr hg hlow hDB hAN hB0 b1 b2 hW0
  unfold rCells dv0 dvl0 at HW0
  simp only [Sl.val, Sl.nil] at HW0
  unfold Dv.val Sl.val
  go_enter Tryz.func8, Tryz.ntmps8
  go_wp2_with fail
  rw [← HW0.out]
  refine Pl.region_is (ops := Pl.find 1 ((Tryz.f8.body).getD .skip)) (by kernel_rfl) ?_
  refine HR1.out (by rfl) rfl (by rfl) ?_
  rintro u1 w1 ⟨g, hu5, hk1, hg1, hb1⟩
  have hN1 := HNW.out g w1 hk1 hg1 hb1
  clear hk1 hg1 hb1 HNW
  rw [hu5]
  simp only [Act.put, List.setIfInBounds_toArray, List.set_cons_zero, List.set_cons_succ]
  have HN1 := hide hN1
  clear hN1 hu5
  go_wp2_with fail
  go_loopw [6] (fun i wr => ∃ (j : Nat) (v : Sl), j ≤ f ∧ i = .int .i64 j ∧ Hid (Nw w wr g j d Ld v d.now.base)) (fun i _ => f - (intOf i).toNat)
  case atStart => exact ⟨0, Sl.nil, by omega, rfl, HN1⟩
  case round =>
    obtain ⟨j, ⟨va, vl, vc⟩, hj, rfl, hNr⟩ := hrel
    by_cases hlt : j < f
    · have i1 : ((j : Nat) : Int) < ((f : Nat) : Int) := by omega
      have c9 := hNr.out.b.c9
      simp only [Sl.val] at c9
      obtain ⟨⟨ca, cl, cc⟩, W1, W2, hrun, hst, hN2⟩ := hNr.out.step (by omega)
      have HRUN := hide hrun
      have HST := hide hst
      have HN2 := hide hN2
      simp only [Sl.val] at HRUN HST
      clear hrun hst hN2
      go_wp2_with (first | refine wpList_app _ rfl 38 (.tmp 19) (.tmp 21) rfl (.slice va vl vc) (.slice (some ⟨wr.heap.size, 0, none⟩) 1 1) rfl rfl (.slice ca cl cc) W1 HRUN.out ?_ | refine wpList_store _ rfl rfl 38 (.tmp 24) (.tmp 22) rfl (.pointer (some ⟨g, 9, none⟩)) _ rfl rfl W2 HST.out ?_)
      go_roundw
      case rel => exact ⟨j + 1, ⟨ca, cl, cc⟩, by omega, by go_num, HN2⟩
      case measure => simp only [intOf]; omega
    · have i1 : ¬ ((j : Nat) : Int) < ((f : Nat) : Int) := by omega
      have hjf : j = f := by omega
      subst hjf
      have HL := hide (ldR hNr.out.b)
      obtain ⟨d', Ld', vv, h', s', sy', ka⟩ := hNr.out.ans
      obtain ⟨W3, hst, hb3, hf3, hsz3⟩ := stR ka d Ld ⟨va, vl, vc⟩ 0 Sl.nil d.now.base
      have hgt := hNr.out.gt
      have hB3 := hNr.out.e.trans (hf3.below hNr.out.e.size (fun k e => by omega))
      have HSAY : Hid (RpSays K n tot m (Po.new D j) (rV d Ld ⟨va, vl, vc⟩ 0 Sl.nil d.now.base) W3) := by
        have hsy : ((D.sb : Nat) : Int) = d.now.base := by
          rw [HR.out.sb]
          exact Int.toNat_of_nonneg HG.out.nb0
        refine ⟨d, Ld, ⟨va, vl, vc⟩, Sl.nil, ?_, HD.out.keep hB3 (Nat.le_refl _), HR.out, HG.out, ?_, ?_, Nat.le_trans HLO.out hB3.size⟩
        · show rV d Ld ⟨va, vl, vc⟩ 0 Sl.nil d.now.base = rV d Ld ⟨va, vl, vc⟩ 0 Sl.nil ((D.sb : Nat) : Int)
          rw [hsy]
        · have ho : OwnS W3 ⟨va, vl, vc⟩ (List.replicate j Sp.none) := hNr.out.own.frame (fun k hk => hf3.block k (Own.lt hNr.out.own hk) (by have := hNr.out.up k hk; omega))
          have hvl := ho.len
          rw [List.length_replicate] at hvl
          exact ho.gs (fun k hk => K.all k (by have := hNr.out.up k hk; have := HLO.out; omega)) (by simp only at hvl ⊢; omega)
        · rw [inl_new]
          exact shRow_nil W3
      have HST := hide hst
      have HB3 := hide hb3
      have HBB := hide hB3
      unfold rV at HL HST
      clear hst hb3 hB3 hf3 ka hsz3
      go_wp2_with (first | refine wpList_load _ rfl 43 (.tmp 5) rfl (.pointer (some ⟨g, 0, none⟩)) _ rfl HL.out ?_ | refine wpList_store _ rfl rfl 43 (.tmp 4) (.tmp 25) rfl (.pointer (some ⟨w.heap.size + 1, 0, none⟩)) _ rfl rfl W3 HST.out ?_)
      refine bodyPost_ret (rp_results rfl HB3.out _ rfl) rfl ?_
      exact ⟨HBB.out, _, rfl, HSAY.out⟩
end Go.Proofs.YtcaaiihjolnkgaaGreat

namespace Go.Proofs.YtcaaiihjolnkgaaGreat
open Go.RowKit
set_option maxRecDepth 100000
set_option linter.unusedVariables false
variable {K : Home}

theorem neqStr (x : ByteArray) (w : World) : (binOp .neq 9 (.string x) (.string x)).run Tryz.prog w = .ok (.bool false) w := by simp [go_sem]
theorem bs_mid {w : World} {a : Option Addr} {len cap j : Nat} {xs : List Nat} (h : Bs w a len xs) (hj : 512 * j + 512 ≤ len) (hc : len ≤ cap) : Bs w (fromA a cap (512 * j)) (512 * j + 512 - 512 * j) ((xs.drop (512 * j)).take 512) := by
  obtain ⟨h1, h2, h3⟩ := h
  refine ⟨by rw [List.length_take, List.length_drop]; omega, (h2.drop _).take _, fun i hi => ?_⟩
  obtain ⟨b, off, ha, hcell⟩ := h3 (512 * j + i) (by omega)
  refine ⟨b, off + 512 * j, ?_, ?_⟩
  · rw [ha]; unfold fromA; rw [if_neg (by omega), Nat.mul_one, Option.map_some, Addr.add_lit]
  · rw [Nat.add_assoc, hcell]
    simp only [List.getD, List.getElem?_take, List.getElem?_drop]
    rw [if_pos (by omega)]

section
variable {ops : Array Oper} {rest : List Oper} {o : Oper} {a : Act} {Q : Exit → Act → World → Prop}
theorem wpList_valG (w : World) (hw : Region.wanted o (yielded ops a.tmps) = true) (v : Value) (w' : World) (hrun : (execOp a.eval o).run Tryz.prog w = .ok (.value v) w') (hK : wpList Tryz.prog ops Q rest (a.put o.dst v) w') : wpList Tryz.prog ops Q (o :: rest) a w := by
  refine BigFrame.wpList_want hw fun K hK' => ?_
  unfold Oper.wp
  rw [hrun]
  exact hK' _ _ hK
theorem wpList_convG (w : World) (hw : Region.wanted o (yielded ops a.tmps) = true) (s d : TypeId) (x : Operand) (ho : o.op = .convert s d x) (u v : Value) (hu : a.eval x = u) (w' : World) (hrun : (convert s d u).run Tryz.prog w = .ok v w') (hK : wpList Tryz.prog ops Q rest (a.put o.dst v) w') : wpList Tryz.prog ops Q (o :: rest) a w := by
  refine wpList_valG w hw v w' ?_ hK
  have e : execOp a.eval o = (do pure (.value (← convert s d (a.eval x)))) := by
    unfold execOp
    rw [ho]
  rw [e, hu]
  simp [hrun]
theorem wpList_loadG (w : World) (hw : Region.wanted o (yielded ops a.tmps) = true) (t : TypeId) (x : Operand) (ho : o.op = .load t x) (p v : Value) (hp : a.eval x = p) (hrun : (Instr.loadAt t p).run Tryz.prog w = .ok v w) (hK : wpList Tryz.prog ops Q rest (a.put o.dst v) w) : wpList Tryz.prog ops Q (o :: rest) a w := by
  refine wpList_valG w hw v w ?_ hK
  have e : execOp a.eval o = (do pure (.value (← Instr.loadAt t (a.eval x)))) := by
    unfold execOp
    rw [ho]
  rw [e, hp]
  simp [hrun]
end
theorem fdRDk0_0 (p : Nat) (w : World) : (Instr.fieldAt 34 (.pointer (some ⟨p, 0, none⟩)) 0).run Tryz.prog w = .ok (.pointer (some ⟨p, 0, none⟩)) w := by simp [go_sem, Instr.fieldAt]

set_option maxHeartbeats 2000000 in
set_option maxRecDepth 100000 in
theorem plike12 (w : World) (sa : Option Addr) (sl sc : Nat) (xa : Option Addr) (xl xc : Nat) (xs : List Nat) (q7 j : Nat) (h1 : Bs w sa sl ((xs.drop (512 * j)).take 512)) (h2 : Bs w xa xl xs) (h3 : w.cell? ⟨q7, 0, none⟩ = some (.slice xa xl xc)) (hj : 512 * j + 512 ≤ xl) (hc : xl ≤ xc) (hm1 : IntKind.i64.wrap (512 * ((j : Nat) : Int)) = 512 * ((j : Nat) : Int)) (hm2 : IntKind.i64.wrap (512 * ((j : Nat) : Int) + 512) = 512 * ((j : Nat) : Int) + 512)
    {Q : Exit → Act → World → Prop} {A : Act} (hsz : A.tmps.size = 107) (hdf : A.defers = []) (s7 : A.tmps.getD 7 undef = .pointer (some ⟨q7, 0, none⟩)) (s16 : A.tmps.getD 16 undef = .int .i64 ((j : Nat) : Int)) (s17 : A.tmps.getD 17 undef = .slice sa sl sc) (s18 : A.tmps.getD 18 undef = .int .i64 0)
    (hend : ∀ (u : Nat → Value) w', w' = w.drew → Q .normal (((((((((((((((((A).put (some 91) (u 91)).put (some 92) (u 92)).put (some 93) (u 93)).put (some 94) (u 94)).put (some 95) (u 95)).put (some 96) (u 96)).put (some 97) (u 97)).put (some 98) (u 98)).put (some 99) (u 99)).put (some 100) (u 100)).put (some 101) (u 101)).put (some 102) (u 102)).put (some 103) (u 103)).put (some 104) (u 104)).put (some 105) (u 105)).put (some 106) (.bool false)) w') :
    (Code.region 12 (Pl.find 12 ((Tryz.f26.body).getD .skip)) true).wp Tryz.prog Q A w := by
  have hA := Pl.At.same (v := .int .i64 0) (d := 18) (Pl.At.same (v := .slice sa sl sc) (d := 17) (Pl.At.same (v := .int .i64 ((j : Nat) : Int)) (d := 16) (Pl.At.same (v := .pointer (some ⟨q7, 0, none⟩)) (d := 7) (Pl.At.here hsz hdf) s7) s16) s17) s18
  refine Pl.H.start (S := fun (w' : World) => Bs w' sa sl ((xs.drop (512 * j)).take 512) ∧ Bs w' xa xl xs ∧ w'.cell? ⟨q7, 0, none⟩ = some (.slice xa xl xc)) (by kernel_rfl) hA (show (fun (w' : World) => Bs w' sa sl ((xs.drop (512 * j)).take 512) ∧ Bs w' xa xl xs ∧ w'.cell? ⟨q7, 0, none⟩ = some (.slice xa xl xc)) w.drew from ⟨h1, h2, h3⟩) ?_
  rw [show (Pl.find 12 ((Tryz.f26.body).getD .skip)).size = 16 by kernel_rfl]
  refine Pl.H.take 0 91 (.int .i64 0) (by kernel_rfl) (by kernel_rfl) (by kernel_rfl) (Pl.free 0 (by kernel_rfl)) (Pl.move 0 (.tmp 18) (by kernel_rfl) (by decide)) (show (fun (w' : World) => Bs w' sa sl ((xs.drop (512 * j)).take 512) ∧ Bs w' xa xl xs ∧ w'.cell? ⟨q7, 0, none⟩ = some (.slice xa xl xc)) w.drew from ⟨h1, h2, h3⟩) ?_
  refine Pl.H.take 1 92 (.bool false) (by kernel_rfl) (by kernel_rfl) (by kernel_rfl) (Pl.free 1 (by kernel_rfl)) (Pl.binV 1 .neq 24 24 (.tmp 91) (.const (.int .i64 0)) (.int .i64 0) (.int .i64 0) _ (by kernel_rfl) (by decide) (by decide) rfl rfl (fun w => by simp only [eqGuard]; simp [go_sem])) (show (fun (w' : World) => Bs w' sa sl ((xs.drop (512 * j)).take 512) ∧ Bs w' xa xl xs ∧ w'.cell? ⟨q7, 0, none⟩ = some (.slice xa xl xc)) w.drew from ⟨h1, h2, h3⟩) ?_
  refine Pl.H.take 2 93 (.bool false) (by kernel_rfl) (by kernel_rfl) (by kernel_rfl) (Pl.free 2 (by kernel_rfl)) (Pl.move 2 (.tmp 92) (by kernel_rfl) (by decide)) (show (fun (w' : World) => Bs w' sa sl ((xs.drop (512 * j)).take 512) ∧ Bs w' xa xl xs ∧ w'.cell? ⟨q7, 0, none⟩ = some (.slice xa xl xc)) w.drew from ⟨h1, h2, h3⟩) ?_
  refine Pl.H.take 3 94 (.slice sa sl sc) (by kernel_rfl) (by kernel_rfl) (by kernel_rfl) (Pl.guarded 3 2 93 false (by kernel_rfl) (by kernel_rfl) (by decide) rfl) (Pl.move 3 (.tmp 17) (by kernel_rfl) (by decide)) (show (fun (w' : World) => Bs w' sa sl ((xs.drop (512 * j)).take 512) ∧ Bs w' xa xl xs ∧ w'.cell? ⟨q7, 0, none⟩ = some (.slice xa xl xc)) w.drew from ⟨h1, h2, h3⟩) ?_
  refine Pl.H.take 4 95 (.string (bstr ((xs.drop (512 * j)).take 512))) (by kernel_rfl) (by kernel_rfl) (by kernel_rfl) (Pl.guarded 4 2 93 false (by kernel_rfl) (by kernel_rfl) (by decide) rfl) (Pl.convV 4 32 9 (.tmp 94) (.slice sa sl sc) _ (by kernel_rfl) (by decide) rfl (fun w' hS => run_string_of _ hS.1)) (show (fun (w' : World) => Bs w' sa sl ((xs.drop (512 * j)).take 512) ∧ Bs w' xa xl xs ∧ w'.cell? ⟨q7, 0, none⟩ = some (.slice xa xl xc)) w.drew from ⟨h1, h2, h3⟩) ?_
  refine Pl.H.take 5 96 (.pointer (some ⟨q7, 0, none⟩)) (by kernel_rfl) (by kernel_rfl) (by kernel_rfl) (Pl.guarded 5 2 93 false (by kernel_rfl) (by kernel_rfl) (by decide) rfl) (Pl.field 5 34 (.tmp 7) 0 _ (by kernel_rfl) (by decide) (fdRDk0_0 q7)) (show (fun (w' : World) => Bs w' sa sl ((xs.drop (512 * j)).take 512) ∧ Bs w' xa xl xs ∧ w'.cell? ⟨q7, 0, none⟩ = some (.slice xa xl xc)) w.drew from ⟨h1, h2, h3⟩) ?_
  refine Pl.H.take 6 97 (.slice xa xl xc) (by kernel_rfl) (by kernel_rfl) (by kernel_rfl) (Pl.guarded 6 2 93 false (by kernel_rfl) (by kernel_rfl) (by decide) rfl) (Pl.load 6 32 (.tmp 96) _ (by kernel_rfl) (by decide) (fun w' hS => ldBs q7 0 _ _ _ w' hS.2.2)) (show (fun (w' : World) => Bs w' sa sl ((xs.drop (512 * j)).take 512) ∧ Bs w' xa xl xs ∧ w'.cell? ⟨q7, 0, none⟩ = some (.slice xa xl xc)) w.drew from ⟨h1, h2, h3⟩) ?_
  refine Pl.H.take 7 98 (.int .i64 ((j : Nat) : Int)) (by kernel_rfl) (by kernel_rfl) (by kernel_rfl) (Pl.guarded 7 2 93 false (by kernel_rfl) (by kernel_rfl) (by decide) rfl) (Pl.move 7 (.tmp 16) (by kernel_rfl) (by decide)) (show (fun (w' : World) => Bs w' sa sl ((xs.drop (512 * j)).take 512) ∧ Bs w' xa xl xs ∧ w'.cell? ⟨q7, 0, none⟩ = some (.slice xa xl xc)) w.drew from ⟨h1, h2, h3⟩) ?_
  refine Pl.H.take 8 99 (.int .i64 ((512 * j : Nat) : Int)) (by kernel_rfl) (by kernel_rfl) (by kernel_rfl) (Pl.guarded 8 2 93 false (by kernel_rfl) (by kernel_rfl) (by decide) rfl) (Pl.binV 8 .mul 3 3 (.const (.int .i64 512)) (.tmp 98) (.int .i64 512) (.int .i64 ((j : Nat) : Int)) _ (by kernel_rfl) (by decide) (by decide) rfl rfl (fun w => by simp [go_sem, eqGuard, hm1])) (show (fun (w' : World) => Bs w' sa sl ((xs.drop (512 * j)).take 512) ∧ Bs w' xa xl xs ∧ w'.cell? ⟨q7, 0, none⟩ = some (.slice xa xl xc)) w.drew from ⟨h1, h2, h3⟩) ?_
  refine Pl.H.take 9 100 (.int .i64 ((j : Nat) : Int)) (by kernel_rfl) (by kernel_rfl) (by kernel_rfl) (Pl.guarded 9 2 93 false (by kernel_rfl) (by kernel_rfl) (by decide) rfl) (Pl.move 9 (.tmp 16) (by kernel_rfl) (by decide)) (show (fun (w' : World) => Bs w' sa sl ((xs.drop (512 * j)).take 512) ∧ Bs w' xa xl xs ∧ w'.cell? ⟨q7, 0, none⟩ = some (.slice xa xl xc)) w.drew from ⟨h1, h2, h3⟩) ?_
  refine Pl.H.take 10 101 (.int .i64 ((512 * j : Nat) : Int)) (by kernel_rfl) (by kernel_rfl) (by kernel_rfl) (Pl.guarded 10 2 93 false (by kernel_rfl) (by kernel_rfl) (by decide) rfl) (Pl.binV 10 .mul 3 3 (.const (.int .i64 512)) (.tmp 100) (.int .i64 512) (.int .i64 ((j : Nat) : Int)) _ (by kernel_rfl) (by decide) (by decide) rfl rfl (fun w => by simp [go_sem, eqGuard, hm1])) (show (fun (w' : World) => Bs w' sa sl ((xs.drop (512 * j)).take 512) ∧ Bs w' xa xl xs ∧ w'.cell? ⟨q7, 0, none⟩ = some (.slice xa xl xc)) w.drew from ⟨h1, h2, h3⟩) ?_
  refine Pl.H.take 11 102 (.int .i64 ((512 * j + 512 : Nat) : Int)) (by kernel_rfl) (by kernel_rfl) (by kernel_rfl) (Pl.guarded 11 2 93 false (by kernel_rfl) (by kernel_rfl) (by decide) rfl) (Pl.binV 11 .add 3 3 (.tmp 101) (.const (.int .i64 512)) (.int .i64 ((512 * j : Nat) : Int)) (.int .i64 512) _ (by kernel_rfl) (by decide) (by decide) rfl rfl (fun w => by simp [go_sem, eqGuard, hm2])) (show (fun (w' : World) => Bs w' sa sl ((xs.drop (512 * j)).take 512) ∧ Bs w' xa xl xs ∧ w'.cell? ⟨q7, 0, none⟩ = some (.slice xa xl xc)) w.drew from ⟨h1, h2, h3⟩) ?_
  refine Pl.H.take 12 103 (.slice (fromA xa xc (512 * j)) (512 * j + 512 - 512 * j) (xc - 512 * j)) (by kernel_rfl) (by kernel_rfl) (by kernel_rfl) (Pl.guarded 12 2 93 false (by kernel_rfl) (by kernel_rfl) (by decide) rfl) (Pl.slice 12 32 (.tmp 97) (some (.tmp 99)) (some (.tmp 102)) _ (by kernel_rfl) (by decide) (by decide) (by decide) (slice_mid xa xl xc (512 * j) (512 * j + 512) (by omega) (by omega))) (show (fun (w' : World) => Bs w' sa sl ((xs.drop (512 * j)).take 512) ∧ Bs w' xa xl xs ∧ w'.cell? ⟨q7, 0, none⟩ = some (.slice xa xl xc)) w.drew from ⟨h1, h2, h3⟩) ?_
  refine Pl.H.take 13 104 (.string (bstr ((xs.drop (512 * j)).take 512))) (by kernel_rfl) (by kernel_rfl) (by kernel_rfl) (Pl.guarded 13 2 93 false (by kernel_rfl) (by kernel_rfl) (by decide) rfl) (Pl.convV 13 32 9 (.tmp 103) (.slice (fromA xa xc (512 * j)) (512 * j + 512 - 512 * j) (xc - 512 * j)) _ (by kernel_rfl) (by decide) rfl (fun w' hS => run_string_of _ (bs_mid (cap := xc) hS.2.1 hj hc))) (show (fun (w' : World) => Bs w' sa sl ((xs.drop (512 * j)).take 512) ∧ Bs w' xa xl xs ∧ w'.cell? ⟨q7, 0, none⟩ = some (.slice xa xl xc)) w.drew from ⟨h1, h2, h3⟩) ?_
  refine Pl.H.take 14 105 (.bool false) (by kernel_rfl) (by kernel_rfl) (by kernel_rfl) (Pl.guarded 14 2 93 false (by kernel_rfl) (by kernel_rfl) (by decide) rfl) (Pl.binV 14 .neq 9 9 (.tmp 95) (.tmp 104) (.string (bstr ((xs.drop (512 * j)).take 512))) (.string (bstr ((xs.drop (512 * j)).take 512))) _ (by kernel_rfl) (by decide) (by decide) rfl rfl (fun w => by simp only [eqGuard]; exact neqStr _ w)) (show (fun (w' : World) => Bs w' sa sl ((xs.drop (512 * j)).take 512) ∧ Bs w' xa xl xs ∧ w'.cell? ⟨q7, 0, none⟩ = some (.slice xa xl xc)) w.drew from ⟨h1, h2, h3⟩) ?_
  refine Pl.H.take 15 106 (.bool false) (by kernel_rfl) (by kernel_rfl) (by kernel_rfl) (Pl.free 15 (by kernel_rfl)) (Pl.pickF 15 (.tmp 93) (.const (.bool true)) (.tmp 105) (by kernel_rfl) (by decide) (by decide) rfl) (show (fun (w' : World) => Bs w' sa sl ((xs.drop (512 * j)).take 512) ∧ Bs w' xa xl xs ∧ w'.cell? ⟨q7, 0, none⟩ = some (.slice xa xl xc)) w.drew from ⟨h1, h2, h3⟩) ?_
  refine Pl.H.done (by kernel_rfl) (fun A' hA' => ?_)
  rw [Pl.At.ext hA' ((((((((((((((((hA.put 91 _).put 92 _).put 93 _).put 94 _).put 95 _).put 96 _).put 97 _).put 98 _).put 99 _).put 100 _).put 101 _).put 102 _).put 103 _).put 104 _).put 105 _).put 106 _)]
  exact hend (fun d => if d = 91 then .int .i64 0 else if d = 92 then .bool false else if d = 93 then .bool false else if d = 94 then .slice sa sl sc else if d = 95 then .string (bstr ((xs.drop (512 * j)).take 512)) else if d = 96 then .pointer (some ⟨q7, 0, none⟩) else if d = 97 then .slice xa xl xc else if d = 98 then .int .i64 ((j : Nat) : Int) else if d = 99 then .int .i64 ((512 * j : Nat) : Int) else if d = 100 then .int .i64 ((j : Nat) : Int) else if d = 101 then .int .i64 ((512 * j : Nat) : Int) else if d = 102 then .int .i64 ((512 * j + 512 : Nat) : Int) else if d = 103 then .slice (fromA xa xc (512 * j)) (512 * j + 512 - 512 * j) (xc - 512 * j) else if d = 104 then .string (bstr ((xs.drop (512 * j)).take 512)) else if d = 105 then .bool false else undef) _ rfl

set_option maxHeartbeats 8000000 in
set_option maxRecDepth 100000 in
theorem plike_any {M : PoM} (S : PoolS M) {n tot m c : Nat} {w : World} {p dp : Nat} {P : Po} {L : Dl} {X : Nat → Prop} (h : M w p dp P L X) (hF : P.Fine n c) {d : Dv} {Ld : DvL} {v s : Sl} (hI : RpIn K w n tot m P d Ld v s) (ht : tot ≤ 600) (hm : m ≤ 900) :
    Calls Tryz.prog 26 #[at0 p, at0 dp, rV d Ld v P.h s P.sy] w fun e w' => e = .returned (.bool true) ∧ Below w.heap.size w w' := by
  have hn1 := hF.wet.dev.n1
  have hn2 := hF.wet.dev.n2
  have hr := hI.rel
  have g := hI.good
  have hd := hI.dv
  have hsane := hr.sane g ht (by omega) hn1 hn2
  have hsp := hsane.sp
  have hdl : d.done.length ≤ 1000 := by
    have h1 := g.len
    have e : d.abs.done.length = d.done.length := by show (d.done.map _).length = _; rw [List.length_map]
    omega
  have hun : P.D.units = pendB (d.done.map (·.u)) := by
    have : P.D.units = pendB d.abs.done := by unfold Ds.units; rw [hr.ap, hr.tr, pendB_un]
    exact this
  have hwl : P.D.wr.length = pendA (d.done.map (·.u)) := by
    have : P.D.wr.length = pendA d.abs.done := by rw [hr.wr, pendA_wr]
    exact this
  have hus : P.D.units ≤ 1000000 := by
    have h1 := hsane.ks
    have h2 := hsane.tl
    have h3 := g.kt
    have h4 : P.D.ap.length ≤ 600 := by rw [hr.ap]; omega
    unfold Ds.units
    omega
  have hss : P.D.ss.length ≤ 600 := by rw [hr.ss]; have := g.nt; omega
  have hbase : d.now.base = ((P.D.sb : Nat) : Int) := by have h1 := hr.sb; have h2 := g.nb0; have e : d.abs.now.base = d.now.base := rfl; rw [e] at h1 h2; omega
  have hst : d.now.st = P.D.ss := hr.ss.symm
  have hpg : d.now.pg = P.D.sp := hr.sp.symm
  have hww : ∀ x ∈ P.D.wr, x.b.length = 128 := fun x hx => (hsane.wr x hx).len
  have hM : ∀ w', Below w.heap.size w w' → M w' p dp P L X := fun w' hb => S.frm h (Frm.ofBelow (F := fun _ => False) hb) (fun _ _ e => e)
  have HST : Hid (∀ w', Below w.heap.size w w' → Calls Tryz.prog 29 #[at0 dp] w' fun e w2 => Below w'.heap.size w' w2 ∧ ∃ s : Sl, e = .returned (.tuple #[.int .i64 ((P.D.sb : Nat) : Int), s.val]) ∧ Own 5 1 w2 s (vals P.D.ss) ∧ s.len = P.D.ss.length ∧ ∀ k, s.blk = some k → w'.heap.size ≤ k) := fun w' hb => stream_any w' dp P.D L (S.dev (hM w' hb)) n hsp hn2 hn1 (by omega)
  have HPE : Hid (∀ w', Below w.heap.size w w' → Calls Tryz.prog 51 #[at0 dp] w' fun e w2 => Below w'.heap.size w' w2 ∧ e = .returned (.tuple #[.int .i64 ((P.D.wr.length : Nat) : Int), .int .i64 ((P.D.units : Nat) : Int)])) := fun w' hb => pending_any w' dp P.D L (S.dev (hM w' hb)) n hsp hn2 hn1 (by omega) hww
  have HPA : Hid (∀ w', Below w.heap.size w w' → Calls Tryz.prog 27 #[at0 dp] w' fun e w2 => e = .returned (.int .i64 ((n : Nat) : Int)) ∧ w2 = w') := fun w' hb => pages_any w' dp P.D L (S.dev (hM w' hb)) n hsp hn2
  have HRE : Hid (∀ w', Below w.heap.size w w' → ∀ k, k < n → Calls Tryz.prog 30 #[at0 dp, .int .i64 ((k : Nat) : Int)] w' fun e w2 => Below w'.heap.size w' w2 ∧ ∃ s : Sl, e = .returned (.tuple #[s.val, .int .i64 0]) ∧ Own 5 1 w2 s (vals ((P.D.sp.drop (512 * k)).take 512)) ∧ s.len = 512 ∧ ∀ k, s.blk = some k → w'.heap.size ≤ k) := fun w' hb k hk => read_any w' dp P.D L (S.dev (hM w' hb)) n hsp hn2 k hk
  have HSE : Hid (∀ w', Calls Tryz.prog 31 #[d.val Ld] w' fun e w2 => Below w'.heap.size w' w2 ∧ e = .returned (d.now.val Ld.np Ld.ns)) := fun w' => refSeen_any d Ld w'
  have HRP : Hid (∀ w', Below w.heap.size w w' → Calls Tryz.prog 52 #[d.val Ld] w' fun e w2 => Below w'.heap.size w' w2 ∧ e = .returned (.tuple #[.int .i64 ((P.D.wr.length : Nat) : Int), .int .i64 ((P.D.units : Nat) : Int)])) := fun w' hb => by
    have := refPending_any d Ld w' (hd.keep hb (Nat.le_refl _)) hdl (by omega)
    rw [← hun, ← hwl] at this
    exact this
  have HLI : Hid (∀ w', Below w.heap.size w w' → Calls Tryz.prog 15 #[rV d Ld v P.h s P.sy] w' fun e w2 => Below w'.heap.size w' w2 ∧ ∃ a b : Sl, e = .returned (.tuple #[a.val, b.val]) ∧ Own 3 1 w2 a (ivals (P.inn n)) ∧ Own 3 1 w2 b (ivals (P.dirty n)) ∧ (∀ k, a.blk = some k → w'.heap.size ≤ k) ∧ ∀ k, b.blk = some k → w'.heap.size ≤ k) := fun w' hb => by
    have := rLists_any (hI.sh.keep hb) (Nat.le_trans (inl_len _ n) (by omega)) d Ld v P.h P.sy
    rw [inl_pages, inl_dirty] at this
    exact this
  have hil : (P.inn n).length ≤ 1000 := by rw [← inl_pages, List.length_map]; exact Nat.le_trans (inl_len _ n) (by omega)
  have hdl2 : (P.dirty n).length ≤ 1000 := by rw [← inl_dirty, List.length_map]; exact Nat.le_trans (List.length_filter_le _ _) (Nat.le_trans (inl_len _ n) (by omega))
  have HIN : Hid (∀ w', Below w.heap.size w w' → Calls Tryz.prog 54 #[at0 p] w' fun e w2 => Below w'.heap.size w' w2 ∧ ∃ s : Sl, e = .returned s.val ∧ Own 3 1 w2 s (ivals (P.inn n))) := fun w' hb => S.inn w' p dp P L X n c (hM w' hb) hF
  have HDI : Hid (∀ w', Below w.heap.size w w' → Calls Tryz.prog 39 #[at0 p] w' fun e w2 => Below w'.heap.size w' w2 ∧ ∃ s : Sl, e = .returned s.val ∧ Own 3 1 w2 s (ivals (P.dirty n))) := fun w' hb => S.dirty w' p dp P L X n c (hM w' hb) hF
  have HNT : Hid (∀ (xs : List Nat) (a b : Sl) (w' : World), xs.length ≤ 1000 → Own 3 1 w' a (ivals xs) → Own 3 1 w' b (ivals xs) → Calls Tryz.prog 53 #[a.val, b.val] w' fun e w2 => e = .returned (.bool true) ∧ Below w'.heap.size w' w2) := fun xs a b w' hl h1 h2 => by
    have := rints_own h1 h2 hl hl
    rw [decide_eq_true rfl] at this
    exact this
  have HIL := hide hil
  have HDL := hide hdl2
  have HXS : Hid (Bs w Ld.ns.a Ld.ns.len P.D.ss) := by rw [← hst]; exact hide hd.now.st.bs
  have HXP : Hid (Bs w Ld.np.a Ld.np.len P.D.sp ∧ Ld.np.len ≤ Ld.np.cap ∧ Ld.np.len = 512 * n) := by
    rw [← hpg]
    refine hide ⟨hd.now.pg.bs, hd.now.pg.le, ?_⟩
    rw [← hd.now.pg.len, hpg, hsp]
  have HBYS : Hid (Bytes P.D.ss) := (S.dev h).byt .ss
  have HBYP : Hid (Bytes P.D.sp) := (S.dev h).byt .sp
  have HBASE := hide hbase
  obtain ⟨W1, hW1⟩ : ∃ W1, W1 = w.alloc (.cells (rCells d Ld v P.h s P.sy) 43) := ⟨_, rfl⟩
  have HB1 : Hid (Below w.heap.size w W1) := by rw [hW1]; exact hide (below_alloc w _)
  have HRB1 : Hid (RBlk W1 w.heap.size d Ld v P.h s P.sy) := by rw [hW1]; exact hide (rBlk_new w _ _ _ _ _ _)
  have HLD1 := hide (ldRD HRB1.out)
  have HW1 := hide hW1
  clear hW1 hbase hd hr g hsane hdl hun hwl hus hss hww h hst hpg hM hI hF hsp hil hdl2 hm ht
  obtain ⟨B, hB⟩ : ∃ B, B = ((P.D.sb : Nat) : Int) := ⟨_, rfl⟩
  obtain ⟨XS, hXS⟩ : ∃ x, x = P.D.ss := ⟨_, rfl⟩
  rw [← hB] at HST HBASE
  rw [← hXS] at HST HXS HBYS
  clear hB hXS
  generalize P.D.wr.length = na at *
  generalize P.D.units = nu at *
  generalize P.inn n = LI at *
  generalize P.dirty n = LD at *
  have HBY : Hid (P.D.sp = P.D.sp) := rfl
  unfold rV
  unfold at0 at *
  go_enter Tryz.func26, Tryz.ntmps26
  go_wp2_with (rw [← HW1.out]; refine wpList_load _ rfl 37 (.tmp 19) rfl (.pointer (some ⟨w.heap.size, 0, none⟩)) (d.val Ld) rfl HLD1.out ?_)
  refine (HSE.out _).mono ?_
  rintro e w2 ⟨hb2, rfl⟩
  obtain ⟨W3, hW3⟩ : ∃ W3, W3 = setDk (w2.alloc (.cells #[.slice none 0 0, .int .i64 0, .slice none 0 0] 34)) w2.heap.size Ld.np.val d.now.base Ld.ns.val := ⟨_, rfl⟩
  have hZ : DkBlk (w2.alloc (.cells #[.slice none 0 0, .int .i64 0, .slice none 0 0] 34)) w2.heap.size Sl.nil.val 0 Sl.nil.val := dkBlk_new w2 _ _ _
  have hbz := below_alloc w2 (.cells #[.slice none 0 0, .int .i64 0, .slice none 0 0] 34)
  have HSD := hide (store_dk w2.heap.size d.now Ld.np Ld.ns _ hZ)
  have hb12 := HB1.out.trans (hb2.mono HB1.out.size)
  have HB3 : Hid (Below w.heap.size w W3) := by rw [hW3]; exact hide (setDk_below (hb12.trans (hbz.mono hb12.size)) hb12.size _ _ _)
  have HDK3 : Hid (DkBlk W3 w2.heap.size Ld.np.val d.now.base Ld.ns.val) := by rw [hW3]; exact hide (setDk_blk hZ _ _ _)
  have HRB3 : Hid (RBlk W3 w.heap.size d Ld v P.h s P.sy) := by
    rw [hW3]
    have h1 := (HRB1.out.below hb2).below hbz
    refine hide (h1.keep (setDk_other _ _ _ _ _ _ ?_))
    have := HRB1.out.lt
    have := hb2.size
    omega
  rw [← hW3] at HSD
  have HLR3 := hide (ldR HRB3.out)
  have HW3 := hide hW3
  unfold rV at HLR3 HLI
  clear hW3 hZ hbz hb12 hb2
  go_wp2_with (first | refine wpList_store _ rfl rfl 34 (.tmp 7) (.tmp 21) rfl (.pointer (some ⟨w2.heap.size, 0, none⟩)) (d.now.val Ld.np Ld.ns) rfl rfl _ HSD.out ?_ | refine wpList_load _ rfl 43 (.tmp 5) rfl (.pointer (some ⟨w.heap.size, 0, none⟩)) _ rfl HLR3.out ?_)
  refine (HLI.out _ HB3.out).mono ?_
  rintro e w4 ⟨hb4, ⟨ia, il, ic⟩, ⟨ja, jl, jc⟩, rfl, hoi, hoj, _, _⟩
  have HOI4 := hide hoi
  have HOJ4 := hide hoj
  have HB4 := hide (HB3.out.trans (hb4.mono HB3.out.size))
  have HDK4 := hide (HDK3.out.keep hb4)
  have HRB4 := hide (HRB3.out.below hb4)
  clear hoi hoj hb4
  unfold Sl.val
  simp only
  go_wp2_with fail
  refine (HST.out _ HB4.out).mono ?_
  rintro e w5 ⟨hb5, ⟨sa, sl, sc⟩, rfl, hown, hsl, _⟩
  have HBS5 := hide (hown.came HBYS.out).bs
  have HB5 := hide (HB4.out.trans (hb5.mono HB4.out.size))
  have HDK5 := hide (HDK4.out.keep hb5)
  have HRB5 := hide (HRB4.out.below hb5)
  have HOI5 := hide (Own.frame HOI4.out (fun k hk => hb5.block k (Own.lt HOI4.out hk)))
  have HOJ5 := hide (Own.frame HOJ4.out (fun k hk => hb5.block k (Own.lt HOJ4.out hk)))
  clear hown hsl hb5
  simp only [Sl.val]
  go_wp2_with fail
  refine (HPE.out _ HB5.out).mono ?_
  rintro e w6 ⟨hb6, rfl⟩
  have HBS6 := hide (HBS5.out.keep hb6 (Nat.le_refl _))
  have HB6 := hide (HB5.out.trans (hb6.mono HB5.out.size))
  have HDK6 := hide (HDK5.out.keep hb6)
  have HRB6 := hide (HRB5.out.below hb6)
  have HOI6 := hide (Own.frame HOI5.out (fun k hk => hb6.block k (Own.lt HOI5.out hk)))
  have HOJ6 := hide (Own.frame HOJ5.out (fun k hk => hb6.block k (Own.lt HOJ5.out hk)))
  have HLD6 := hide (ldRD HRB6.out)
  clear hb6
  go_wp2_with (refine wpList_load _ rfl 37 (.tmp 38) rfl (.pointer (some ⟨w.heap.size, 0, none⟩)) (d.val Ld) rfl HLD6.out ?_)
  refine (HRP.out _ HB6.out).mono ?_
  rintro e w7 ⟨hb7, rfl⟩
  have HBS7 := hide (HBS6.out.keep hb7 (Nat.le_refl _))
  have HB7 := hide (HB6.out.trans (hb7.mono HB6.out.size))
  have HDK7 := hide (HDK6.out.keep hb7)
  have HOI7 := hide (Own.frame HOI6.out (fun k hk => hb7.block k (Own.lt HOI6.out hk)))
  have HOJ7 := hide (Own.frame HOJ6.out (fun k hk => hb7.block k (Own.lt HOJ6.out hk)))
  have HXS7 := hide (HXS.out.keep HB7.out (Nat.le_refl _))
  clear hb7 HLD6 HRB6 HRB5 HRB4 HRB3 HLR3 HW3 HSD HRB1 HLD1 HW1 HB1 HOI4 HOJ4 HOI5 HOJ5 HOI6 HOJ6 HBS5 HBS6 HDK3 HDK4 HDK5 HDK6 HB3 HB4 HB5 HB6 HST HPE HSE HRP HLI
  have c1 : w7.cell? ⟨w2.heap.size, 1, none⟩ = some (.int .i64 B) := by rw [← HBASE.out]; exact HDK7.out.c1
  have c2 : w7.cell? ⟨w2.heap.size, 2, none⟩ = some (.slice Ld.ns.a Ld.ns.len Ld.ns.cap) := HDK7.out.c2
  have HCV1 := hide (run_string_of sc HBS7.out)
  have HCV2 := hide (run_string_of Ld.ns.cap HXS7.out)
  go_wp2_with (first | refine wpList_convG _ (by rfl) 32 9 (.tmp 48) rfl (.slice sa sl sc) (.string (bstr XS)) rfl _ HCV1.out ?_ | refine wpList_convG _ (by rfl) 32 9 (.tmp 51) rfl (.slice Ld.ns.a Ld.ns.len Ld.ns.cap) (.string (bstr XS)) rfl _ HCV2.out ?_)
  clear HCV1 HCV2 c1 c2 HBS7 HXS7 HXS HBASE HBYS
  refine (HIN.out _ HB7.out).mono ?_
  rintro e w8 ⟨hb8, ⟨ka, kl, kc⟩, rfl, hok⟩
  have HB8 := hide (HB7.out.trans (hb8.mono HB7.out.size))
  have HDK8 := hide (HDK7.out.keep hb8)
  have HOJ8 := hide (Own.frame HOJ7.out (fun k hk => hb8.block k (Own.lt HOJ7.out hk)))
  have HN8 := hide (HNT.out LI ⟨ka, kl, kc⟩ ⟨ia, il, ic⟩ w8 HIL.out hok (Own.frame HOI7.out (fun k hk => hb8.block k (Own.lt HOI7.out hk))))
  simp only [Sl.val] at HN8
  simp only [Sl.val]
  clear hok hb8
  go_wp2_with fail
  refine HN8.out.mono ?_
  rintro e w9 ⟨rfl, hb9⟩
  have HB9 := hide (HB8.out.trans (hb9.mono HB8.out.size))
  have HDK9 := hide (HDK8.out.keep hb9)
  have HOJ9 := hide (Own.frame HOJ8.out (fun k hk => hb9.block k (Own.lt HOJ8.out hk)))
  clear hb9 HN8
  go_wp2_with fail
  refine (HDI.out _ HB9.out).mono ?_
  rintro e w10 ⟨hb10, ⟨la, ll, lc⟩, rfl, hol⟩
  have HB10 := hide (HB9.out.trans (hb10.mono HB9.out.size))
  have HDK10 := hide (HDK9.out.keep hb10)
  have HN10 := hide (HNT.out LD ⟨la, ll, lc⟩ ⟨ja, jl, jc⟩ w10 HDL.out hol (Own.frame HOJ9.out (fun k hk => hb10.block k (Own.lt HOJ9.out hk))))
  simp only [Sl.val] at HN10
  simp only [Sl.val]
  clear hol hb10
  go_wp2_with fail
  refine HN10.out.mono ?_
  rintro e w11 ⟨rfl, hb11⟩
  have HB11 := hide (HB10.out.trans (hb11.mono HB10.out.size))
  have HDK11 := hide (HDK10.out.keep hb11)
  clear hb11 HN10 HB7 HB8 HB9 HB10 HDK7 HDK8 HDK9 HDK10 HOI7 HOJ7 HOJ8 HOJ9 HNT HIN HDI HIL HDL
  go_wp2_with fail
  go_loopw [16] (fun i wr => ∃ j : Nat, j ≤ n ∧ i = .int .i64 j ∧ Hid (Below w.heap.size w wr) ∧ Hid (DkBlk wr w2.heap.size Ld.np.val d.now.base Ld.ns.val)) (fun i _ => n - (intOf i).toNat)
  case atStart => exact ⟨0, by omega, rfl, HB11, HDK11⟩
  case round =>
    obtain ⟨j, hj, rfl, hB, hK⟩ := hrel
    rcases Nat.lt_or_ge j n with hlt | hge
    · have i1 : ((j : Nat) : Int) < ((n : Nat) : Int) := by omega
      go_wp2_with fail
      refine (HPA.out _ hB.out).mono ?_
      rintro e w12 ⟨rfl, rfl⟩
      go_wp2_with fail
      refine (HRE.out _ hB.out j hlt).mono ?_
      rintro e w13 ⟨hb13, ⟨pa, pl, pc⟩, rfl, hown, hpl, _⟩
      have HBS13 := hide (hown.came ((HBYP.out.drop _).take _)).bs
      have HB13 := hide (hB.out.trans (hb13.mono hB.out.size))
      have HDK13 := hide (hK.out.keep hb13)
      clear hown hpl hb13
      unfold Sl.val
      simp only
      have c0 : w13.cell? ⟨w2.heap.size, 0, none⟩ = some (.slice Ld.np.a Ld.np.len Ld.np.cap) := HDK13.out.c0
      obtain ⟨x1, x2, x3⟩ := HXP.out
      have HR12 : Hid (∀ {Q : Exit → Act → World → Prop} {A' : Act}, _) := fun {Q A'} => plike12 w13 pa pl pc Ld.np.a Ld.np.len Ld.np.cap P.D.sp w2.heap.size j HBS13.out (x1.keep HB13.out (Nat.le_refl _)) c0 (by omega) x2 (by rw [IntKind.wrap_i64]; omega) (by rw [IntKind.wrap_i64]; omega) (Q := Q) (A := A')
      clear c0 x1 x2 x3
      go_wp2_with fail
      refine Pl.region_is (ops := Pl.find 12 ((Tryz.f26.body).getD .skip)) (by kernel_rfl) ?_
      refine HR12.out (by rfl) rfl (by rfl) (by rfl) (by rfl) (by rfl) ?_
      rintro uu w14 rfl
      simp only [Act.put, List.setIfInBounds_toArray, List.set_cons_zero, List.set_cons_succ]
      have HB14 := hide (HB13.out.trans ((below_drew w13).mono HB13.out.size))
      have HDK14 := hide (HDK13.out.keep (below_drew w13))
      generalize w13.drew = w14 at HB14 HDK14
      clear HR12
      go_wp2_with fail
      go_roundw
      case rel => exact ⟨j + 1, by omega, by go_num, HB14, HDK14⟩
      case measure => simp only [intOf]; omega
    · obtain rfl : j = n := by omega
      go_wp2_with fail
      refine (HPA.out _ hB.out).mono ?_
      rintro e w12 ⟨rfl, rfl⟩
      go_wp2_with fail
      go_ret
      exact ⟨rfl, hB.out⟩
end Go.Proofs.YtcaaiihjolnkgaaGreat
