/-
  slices.Contains and slices.Equal of numbers. (Written by gen_vwt.py.)
-/
import Derived.Test.YtehmemfeagjagaaVwG
namespace Go.Proofs.Ytehmemfeagjagaa
open Go.RowKit
set_option maxRecDepth 100000
set_option linter.unusedVariables false

set_option maxHeartbeats 4000000 in
theorem indexI_any {D : Nat → Prop} (w : World) (s : Sl) (t : List Int) (h : Gi D w s t) (x : Int) :
    Calls Try.prog 27 #[s.val, .int .i64 x] w fun e w' => ∃ k : Int, e = .returned (.int .i64 k) ∧ decide (0 ≤ k) = t.contains x ∧ Below w.heap.size w w' := by
  obtain ⟨a, len, cap⟩ := s
  have H := hide h
  have HL : Hid (t.length = len) := h.len
  have hbig : len ≤ 1000000 := h.big
  have H0 := hide (Below.refl w.heap.size w)
  obtain ⟨r, hr⟩ : ∃ r, r = t.contains x := ⟨_, rfl⟩
  rw [← hr]
  have HR := hide hr
  clear h hr
  unfold Sl.val
  simp only
  go_enter Try.func27, Try.ntmps27
  go_wp2_with fail
  go_loopw [8] (fun iv wr => wr = w ∧ ∃ i : Nat, i ≤ len ∧ iv = .int .i64 (i : Nat) ∧ Hid (∀ j, j < i → t.getD j 0 ≠ x)) (fun iv _ => len - (intOf iv).toNat)
  case atStart => exact ⟨rfl, 0, Nat.zero_le _, rfl, fun j hj => absurd hj (Nat.not_lt_zero _)⟩
  case round =>
    obtain ⟨rfl, i, hi, rfl, hix⟩ := hrel
    rcases Nat.lt_or_ge i len with hlt | hge
    · have i1 : ((i : Nat) : Int) < ((len : Nat) : Int) := by omega
      obtain ⟨bb, oo, ha, c0⟩ := H.out.cell i hlt
      replace ha : a = some ⟨bb, oo, none⟩ := ha
      subst ha
      obtain ⟨y, hy⟩ : ∃ y, y = t.getD i 0 := ⟨_, rfl⟩
      rw [← hy] at c0
      by_cases hxy : x = y
      · have HE : Hid (r = true) := HR.out.trans (contains_yes (i := i) (by rw [HL.out]; exact hlt) (by rw [← hy, hxy]))
        clear hy hix
        go_wp2_with fail
        go_ret
        exact ⟨_, rfl, by rw [HE.out]; simp, H0.out⟩
      · have HN : Hid (∀ j, j < i + 1 → t.getD j 0 ≠ x) := by
          intro j hj
          by_cases e : j = i
          · rw [e, ← hy]; exact fun e2 => hxy e2.symm
          · exact hix.out j (by omega)
        clear hy hix
        go_wp2_with fail
        go_roundw
        case rel => exact ⟨trivial, i + 1, by omega, by go_num, HN⟩
        case measure => simp only [intOf]; omega
    · have i1 : ¬ ((i : Nat) : Int) < ((len : Nat) : Int) := by omega
      have HE : Hid (r = false) := HR.out.trans (contains_no (fun j hj => hix.out j (by rw [HL.out] at hj; omega)))
      clear hix
      go_wp2_with fail
      go_ret
      exact ⟨_, rfl, by rw [HE.out]; rfl, H0.out⟩

set_option maxHeartbeats 4000000 in
theorem containsI_any {D : Nat → Prop} (w : World) (s : Sl) (t : List Int) (h : Gi D w s t) (x : Int) :
    Calls Try.prog 23 #[s.val, .int .i64 x] w fun e w' => e = .returned (.bool (t.contains x)) ∧ Below w.heap.size w w' := by
  have HI := hide (indexI_any w s t h x)
  obtain ⟨r, hr⟩ : ∃ r, r = t.contains x := ⟨_, rfl⟩
  rw [← hr] at HI ⊢
  obtain ⟨a, len, cap⟩ := s
  clear h hr
  unfold Sl.val at *
  simp only at *
  go_enter Try.func23, Try.ntmps23
  go_wp2_with fail
  refine HI.out.mono ?_
  rintro e w1 ⟨k, rfl, hk, hb⟩
  have HB := hide hb
  have HK := hide hk
  clear hb hk HI
  go_wp2_with fail
  go_ret
  exact ⟨by rw [← HK.out]; rfl, HB.out⟩

set_option maxHeartbeats 2000000 in
set_option maxRecDepth 100000 in
theorem equal6a (w : World) (b o len cap b2 o2 len2 cap2 i : Nat) (x y : Int) (hi : i < len) (hi2 : i < len2) (hx : w.cell? ⟨b, o + i, none⟩ = some (.int .i64 x)) (hy : w.cell? ⟨b2, o2 + i, none⟩ = some (.int .i64 y)) (hr : x ≠ y)
    {Q : Exit → Act → World → Prop} {A : Act} (hsz : A.tmps.size = 26) (hdf : A.defers = []) (s0 : A.tmps.getD 0 undef = .slice (some ⟨b, o, none⟩) len cap) (s1 : A.tmps.getD 1 undef = .slice (some ⟨b2, o2, none⟩) len2 cap2) (s5 : A.tmps.getD 5 undef = .int .i64 ((i : Nat) : Int))
    (hend : ∀ (u : Nat → Value) w', Below w.heap.size w w' → Q .normal ((((((((((A).put (some 16) (u 16)).put (some 17) (u 17)).put (some 18) (u 18)).put (some 19) (u 19)).put (some 20) (u 20)).put (some 21) (u 21)).put (some 22) (u 22)).put (some 23) (u 23)).put (some 24) (.bool true)) w') :
    (Code.region 6 (Pl.find 6 ((Try.f24.body).getD .skip)) true).wp Try.prog Q A w := by
  have hA := Pl.At.same (v := .int .i64 ((i : Nat) : Int)) (d := 5) (Pl.At.same (v := .slice (some ⟨b2, o2, none⟩) len2 cap2) (d := 1) (Pl.At.same (v := .slice (some ⟨b, o, none⟩) len cap) (d := 0) (Pl.At.here hsz hdf) s0) s1) s5
  refine Pl.H.start (S := (fun w' => Below w.heap.size w w')) (by kernel_rfl) hA (below_drew w) ?_
  rw [show (Pl.find 6 ((Try.f24.body).getD .skip)).size = 9 by kernel_rfl]
  refine Pl.H.take 0 16 (.slice (some ⟨b, o, none⟩) len cap) (by kernel_rfl) (by kernel_rfl) (by kernel_rfl) (Pl.free 0 (by kernel_rfl)) (Pl.move 0 (.tmp 0) (by kernel_rfl) (by decide)) (below_drew w) ?_
  refine Pl.H.take 1 17 (.int .i64 ((i : Nat) : Int)) (by kernel_rfl) (by kernel_rfl) (by kernel_rfl) (Pl.free 1 (by kernel_rfl)) (Pl.move 1 (.tmp 5) (by kernel_rfl) (by decide)) (below_drew w) ?_
  refine Pl.H.take 2 18 (.pointer (some ⟨b, o + i, none⟩)) (by kernel_rfl) (by kernel_rfl) (by kernel_rfl) (Pl.free 2 (by kernel_rfl)) (Pl.index 2 22 (.tmp 16) (.tmp 17) _ (by kernel_rfl) (by decide) (by decide) (ixI1 b o len cap i hi)) (below_drew w) ?_
  refine Pl.H.take 3 19 (.int .i64 x) (by kernel_rfl) (by kernel_rfl) (by kernel_rfl) (Pl.free 3 (by kernel_rfl)) (Pl.load 3 3 (.tmp 18) _ (by kernel_rfl) (by decide) (fun w' hS => ldInt b (o + i) x w' ((hS.cell (p := ⟨b, o + i, none⟩) (World.block_lt_of_cell? w _ hx)).trans hx))) (below_drew w) ?_
  refine Pl.H.take 4 20 (.slice (some ⟨b2, o2, none⟩) len2 cap2) (by kernel_rfl) (by kernel_rfl) (by kernel_rfl) (Pl.free 4 (by kernel_rfl)) (Pl.move 4 (.tmp 1) (by kernel_rfl) (by decide)) (below_drew w) ?_
  refine Pl.H.take 5 21 (.int .i64 ((i : Nat) : Int)) (by kernel_rfl) (by kernel_rfl) (by kernel_rfl) (Pl.free 5 (by kernel_rfl)) (Pl.move 5 (.tmp 5) (by kernel_rfl) (by decide)) (below_drew w) ?_
  refine Pl.H.take 6 22 (.pointer (some ⟨b2, o2 + i, none⟩)) (by kernel_rfl) (by kernel_rfl) (by kernel_rfl) (Pl.free 6 (by kernel_rfl)) (Pl.index 6 22 (.tmp 20) (.tmp 21) _ (by kernel_rfl) (by decide) (by decide) (ixI1 b2 o2 len2 cap2 i hi2)) (below_drew w) ?_
  refine Pl.H.take 7 23 (.int .i64 y) (by kernel_rfl) (by kernel_rfl) (by kernel_rfl) (Pl.free 7 (by kernel_rfl)) (Pl.load 7 3 (.tmp 22) _ (by kernel_rfl) (by decide) (fun w' hS => ldInt b2 (o2 + i) y w' ((hS.cell (p := ⟨b2, o2 + i, none⟩) (World.block_lt_of_cell? w _ hy)).trans hy))) (below_drew w) ?_
  refine Pl.H.take 8 24 (.bool true) (by kernel_rfl) (by kernel_rfl) (by kernel_rfl) (Pl.free 8 (by kernel_rfl)) (Pl.binV 8 .neq 3 3 (.tmp 19) (.tmp 23) (.int .i64 x) (.int .i64 y) _ (by kernel_rfl) (by decide) (by decide) rfl rfl (fun w => neqT x y _ _ hr w)) (below_drew w) ?_
  refine Pl.H.done (by kernel_rfl) (fun A' hA' => ?_)
  rw [Pl.At.ext hA' (((((((((hA.put 16 _).put 17 _).put 18 _).put 19 _).put 20 _).put 21 _).put 22 _).put 23 _).put 24 _)]
  exact hend (fun d => if d = 16 then .slice (some ⟨b, o, none⟩) len cap else if d = 17 then .int .i64 ((i : Nat) : Int) else if d = 18 then .pointer (some ⟨b, o + i, none⟩) else if d = 19 then .int .i64 x else if d = 20 then .slice (some ⟨b2, o2, none⟩) len2 cap2 else if d = 21 then .int .i64 ((i : Nat) : Int) else if d = 22 then .pointer (some ⟨b2, o2 + i, none⟩) else if d = 23 then .int .i64 y else undef) _ (below_drew w)
set_option maxHeartbeats 2000000 in
set_option maxRecDepth 100000 in
theorem equal6b (w : World) (b o len cap b2 o2 len2 cap2 i : Nat) (x y : Int) (hi : i < len) (hi2 : i < len2) (hx : w.cell? ⟨b, o + i, none⟩ = some (.int .i64 x)) (hy : w.cell? ⟨b2, o2 + i, none⟩ = some (.int .i64 y)) (hr : x = y)
    {Q : Exit → Act → World → Prop} {A : Act} (hsz : A.tmps.size = 26) (hdf : A.defers = []) (s0 : A.tmps.getD 0 undef = .slice (some ⟨b, o, none⟩) len cap) (s1 : A.tmps.getD 1 undef = .slice (some ⟨b2, o2, none⟩) len2 cap2) (s5 : A.tmps.getD 5 undef = .int .i64 ((i : Nat) : Int))
    (hend : ∀ (u : Nat → Value) w', Below w.heap.size w w' → Q .normal ((((((((((A).put (some 16) (u 16)).put (some 17) (u 17)).put (some 18) (u 18)).put (some 19) (u 19)).put (some 20) (u 20)).put (some 21) (u 21)).put (some 22) (u 22)).put (some 23) (u 23)).put (some 24) (.bool false)) w') :
    (Code.region 6 (Pl.find 6 ((Try.f24.body).getD .skip)) true).wp Try.prog Q A w := by
  have hA := Pl.At.same (v := .int .i64 ((i : Nat) : Int)) (d := 5) (Pl.At.same (v := .slice (some ⟨b2, o2, none⟩) len2 cap2) (d := 1) (Pl.At.same (v := .slice (some ⟨b, o, none⟩) len cap) (d := 0) (Pl.At.here hsz hdf) s0) s1) s5
  refine Pl.H.start (S := (fun w' => Below w.heap.size w w')) (by kernel_rfl) hA (below_drew w) ?_
  rw [show (Pl.find 6 ((Try.f24.body).getD .skip)).size = 9 by kernel_rfl]
  refine Pl.H.take 0 16 (.slice (some ⟨b, o, none⟩) len cap) (by kernel_rfl) (by kernel_rfl) (by kernel_rfl) (Pl.free 0 (by kernel_rfl)) (Pl.move 0 (.tmp 0) (by kernel_rfl) (by decide)) (below_drew w) ?_
  refine Pl.H.take 1 17 (.int .i64 ((i : Nat) : Int)) (by kernel_rfl) (by kernel_rfl) (by kernel_rfl) (Pl.free 1 (by kernel_rfl)) (Pl.move 1 (.tmp 5) (by kernel_rfl) (by decide)) (below_drew w) ?_
  refine Pl.H.take 2 18 (.pointer (some ⟨b, o + i, none⟩)) (by kernel_rfl) (by kernel_rfl) (by kernel_rfl) (Pl.free 2 (by kernel_rfl)) (Pl.index 2 22 (.tmp 16) (.tmp 17) _ (by kernel_rfl) (by decide) (by decide) (ixI1 b o len cap i hi)) (below_drew w) ?_
  refine Pl.H.take 3 19 (.int .i64 x) (by kernel_rfl) (by kernel_rfl) (by kernel_rfl) (Pl.free 3 (by kernel_rfl)) (Pl.load 3 3 (.tmp 18) _ (by kernel_rfl) (by decide) (fun w' hS => ldInt b (o + i) x w' ((hS.cell (p := ⟨b, o + i, none⟩) (World.block_lt_of_cell? w _ hx)).trans hx))) (below_drew w) ?_
  refine Pl.H.take 4 20 (.slice (some ⟨b2, o2, none⟩) len2 cap2) (by kernel_rfl) (by kernel_rfl) (by kernel_rfl) (Pl.free 4 (by kernel_rfl)) (Pl.move 4 (.tmp 1) (by kernel_rfl) (by decide)) (below_drew w) ?_
  refine Pl.H.take 5 21 (.int .i64 ((i : Nat) : Int)) (by kernel_rfl) (by kernel_rfl) (by kernel_rfl) (Pl.free 5 (by kernel_rfl)) (Pl.move 5 (.tmp 5) (by kernel_rfl) (by decide)) (below_drew w) ?_
  refine Pl.H.take 6 22 (.pointer (some ⟨b2, o2 + i, none⟩)) (by kernel_rfl) (by kernel_rfl) (by kernel_rfl) (Pl.free 6 (by kernel_rfl)) (Pl.index 6 22 (.tmp 20) (.tmp 21) _ (by kernel_rfl) (by decide) (by decide) (ixI1 b2 o2 len2 cap2 i hi2)) (below_drew w) ?_
  refine Pl.H.take 7 23 (.int .i64 y) (by kernel_rfl) (by kernel_rfl) (by kernel_rfl) (Pl.free 7 (by kernel_rfl)) (Pl.load 7 3 (.tmp 22) _ (by kernel_rfl) (by decide) (fun w' hS => ldInt b2 (o2 + i) y w' ((hS.cell (p := ⟨b2, o2 + i, none⟩) (World.block_lt_of_cell? w _ hy)).trans hy))) (below_drew w) ?_
  refine Pl.H.take 8 24 (.bool false) (by kernel_rfl) (by kernel_rfl) (by kernel_rfl) (Pl.free 8 (by kernel_rfl)) (Pl.binV 8 .neq 3 3 (.tmp 19) (.tmp 23) (.int .i64 x) (.int .i64 y) _ (by kernel_rfl) (by decide) (by decide) rfl rfl (fun w => neqF x y _ _ (fun h => h hr) w)) (below_drew w) ?_
  refine Pl.H.done (by kernel_rfl) (fun A' hA' => ?_)
  rw [Pl.At.ext hA' (((((((((hA.put 16 _).put 17 _).put 18 _).put 19 _).put 20 _).put 21 _).put 22 _).put 23 _).put 24 _)]
  exact hend (fun d => if d = 16 then .slice (some ⟨b, o, none⟩) len cap else if d = 17 then .int .i64 ((i : Nat) : Int) else if d = 18 then .pointer (some ⟨b, o + i, none⟩) else if d = 19 then .int .i64 x else if d = 20 then .slice (some ⟨b2, o2, none⟩) len2 cap2 else if d = 21 then .int .i64 ((i : Nat) : Int) else if d = 22 then .pointer (some ⟨b2, o2 + i, none⟩) else if d = 23 then .int .i64 y else undef) _ (below_drew w)
set_option maxHeartbeats 4000000 in
set_option maxRecDepth 100000 in
theorem equalK_any (a : Option Addr) (len cap : Nat) (l : List Int) (b : Option Addr) (len2 cap2 : Nat) (m : List Int) (w : World) (h : Ks w a len l) (k : Ks w b len2 m) (hl : len ≤ 9223372036854775807) (hl2 : len2 ≤ 9223372036854775807) :
    Calls Try.prog 24 #[.slice a len cap, .slice b len2 cap2] w fun e w' => e = .returned (.bool (decide (l = m))) ∧ Below w.heap.size w w' := by
  by_cases hne : len = len2
  · subst hne
    have H := hide h
    have HK := hide k
    have H0 := hide (Below.refl w.heap.size w)
    clear h k hl2
    go_enter Try.func24, Try.ntmps24
    go_wp2_with fail
    go_loopw [13] (fun iv wr => ∃ i : Nat, i ≤ len ∧ iv = .int .i64 (i : Nat) ∧ Hid (∀ j, j < i → l.getD j 0 = m.getD j 0) ∧ Hid (Below w.heap.size w wr)) (fun iv _ => len - (intOf iv).toNat)
    case atStart => exact ⟨0, Nat.zero_le _, rfl, fun j hj => absurd hj (Nat.not_lt_zero _), H0⟩
    case round =>
      obtain ⟨i, hi, rfl, hix, hbr⟩ := hrel
      rcases Nat.lt_or_ge i len with hlt | hge
      · have i1 : ((i : Nat) : Int) < ((len : Nat) : Int) := by omega
        obtain ⟨b1, o1, ha, hx⟩ := (H.out.keep hbr.out (Nat.le_refl _)).2 i hlt
        subst ha
        obtain ⟨b2, o2, ha2, hy⟩ := (HK.out.keep hbr.out (Nat.le_refl _)).2 i hlt
        subst ha2
        have HX := hide hx
        have HY := hide hy
        clear hx hy
        by_cases hon : l.getD i 0 = m.getD i 0
        · have HN : Hid (∀ j, j < i + 1 → l.getD j 0 = m.getD j 0) := by
            intro j hj
            by_cases e : j = i
            · rw [e]; exact hon
            · exact hix.out j (by omega)
          have HON := hide hon
          clear hix hon
          go_wp2_with fail
          refine Pl.region_is (ops := Pl.find 6 ((Try.f24.body).getD .skip)) (by kernel_rfl) ?_
          refine equal6b _ b1 o1 len cap b2 o2 len cap2 i _ _ hlt hlt HX.out HY.out HON.out (by rfl) rfl (by rfl) (by rfl) (by rfl) ?_
          intro u1 w1 hb1
          simp only [Act.put, List.setIfInBounds_toArray, List.set_cons_zero, List.set_cons_succ]
          have HB1 := hide (rBelow hbr.out hb1)
          clear hb1
          go_wp2_with fail
          go_roundw
          case rel => exact ⟨i + 1, by omega, by go_num, HN, HB1⟩
          case measure => simp only [intOf]; omega
        · have HNE : Hid (decide (l = m) = false) := decide_eq_false (fun e => hon (by rw [e]))
          have HON := hide hon
          clear hix hon
          go_wp2_with fail
          refine Pl.region_is (ops := Pl.find 6 ((Try.f24.body).getD .skip)) (by kernel_rfl) ?_
          refine equal6a _ b1 o1 len cap b2 o2 len cap2 i _ _ hlt hlt HX.out HY.out HON.out (by rfl) rfl (by rfl) (by rfl) (by rfl) ?_
          intro u1 w1 hb1
          simp only [Act.put, List.setIfInBounds_toArray, List.set_cons_zero, List.set_cons_succ]
          have HB1 := hide (rBelow hbr.out hb1)
          clear hb1
          go_wp2_with fail
          go_ret
          exact ⟨by rw [HNE.out]; rfl, HB1.out⟩
      · have i1 : ¬ ((i : Nat) : Int) < ((len : Nat) : Int) := by omega
        have HY : Hid (decide (l = m) = true) := decide_eq_true (by
          apply List.ext_getElem
          · rw [H.out.1, HK.out.1]
          · intro j h1 h2
            have := hix.out j (by rw [H.out.1] at h1; omega)
            simpa [List.getD, h1, h2] using this)
        clear hix
        go_wp2_with fail
        go_ret
        exact ⟨by rw [HY.out]; rfl, hbr.out⟩
  · have HNE : Hid (decide (l = m) = false) := decide_eq_false (fun e => hne (by rw [← h.1, ← k.1, e]))
    have q4 : (((len : Nat) : Int) != ((len2 : Nat) : Int)) = true := by simp; omega
    have q5 : ¬ ((len : Nat) : Int) = ((len2 : Nat) : Int) := by omega
    clear h k hne
    go_enter Try.func24, Try.ntmps24
    go_wp2_with fail
    go_ret
    exact ⟨by rw [HNE.out]; rfl, Below.refl _ _⟩

theorem equalI_any {D E : Nat → Prop} (w : World) (u v : Sl) (s t : List Int) (h : Gi D w u s) (k : Gi E w v t) :
    Calls Try.prog 24 #[u.val, v.val] w fun e w' => e = .returned (.bool (decide (s = t))) ∧ Below w.heap.size w w' :=
  equalK_any u.a u.len u.cap s v.a v.len v.cap t w h.ks k.ks (by have := h.big; omega) (by have := k.big; omega)

end Go.Proofs.Ytehmemfeagjagaa
