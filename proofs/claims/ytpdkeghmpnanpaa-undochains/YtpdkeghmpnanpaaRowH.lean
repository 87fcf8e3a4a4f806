/-
  Which rows are alike: row's own Same, and the document's.
-/
import Derived.Test.YtpdkeghmpnanpaaRowB
namespace Go.Proofs.Ytpdkeghmpnanpaa
open Go.RowKit

/-- Are rows alike, numbers by their bits? -/
def Rw.same (r s : Rw) : Bool := r.key == s.key && r.dead == s.dead && r.xs == s.xs && r.wr == s.wr && r.cell == s.cell && r.no == s.no

theorem Rw.same_self (r : Rw) : r.same r = true := by simp [Rw.same]

theorem lists_no {xs ys : List Nat} {k : Nat} (h : ¬ xs.getD k 0 = ys.getD k 0) : (xs == ys) = false := by
  apply beq_eq_false_iff_ne.2
  rintro rfl
  exact h rfl

theorem lists_yes {xs ys : List Nat} (hl : xs.length = ys.length) (h : ∀ j, j < xs.length → xs.getD j 0 = ys.getD j 0) : (xs == ys) = true := by
  apply beq_iff_eq.2
  apply List.ext_getElem hl
  intro j h1 h2
  have := h j h1
  simpa [List.getD, h1, h2] using this

set_option maxHeartbeats 1000000 in
theorem eqFunc_any (a : Option Addr) (len cap : Nat) (b : Option Addr) (len' cap' : Nat) (xs ys : List Nat) (w : World) (h : Fs w a len cap xs) (h' : Fs w b len' cap' ys) :
    Calls Try.prog 58 #[.slice a len cap, .slice b len' cap', .func (.func 57) #[] #[]] w fun e w' => e = .returned (.bool (xs == ys)) ∧ w' = w := by
  have H := hide h
  have H' := hide h'
  have HL := hide h.len
  have HL' := hide h'.len
  have hbig := h.big
  clear h h'
  by_cases hl : len = len'
  · subst hl
    go_enter Try.func58, Try.ntmps58
    go_wp2_with fail
    go_loop [17] (fun i => ∃ k : Nat, k ≤ len ∧ i = .int .i64 k ∧ Hid (∀ j, j < k → xs.getD j 0 = ys.getD j 0)) (fun i => len - (intOf i).toNat)
    case atStart => exact ⟨0, by omega, rfl, fun j hj => by omega⟩
    case round =>
      obtain ⟨k, hk, rfl, hall⟩ := hrel
      rcases Nat.lt_or_ge k len with hlt | hge
      · obtain ⟨b1, o1, rfl, c1, _, _⟩ := H.out.at k hlt
        obtain ⟨b2, o2, rfl, c2, _, _⟩ := H'.out.at k hlt
        obtain ⟨x, hx⟩ : ∃ x, x = xs.getD k 0 := ⟨_, rfl⟩
        obtain ⟨y, hy⟩ : ∃ y, y = ys.getD k 0 := ⟨_, rfl⟩
        rw [← hx] at c1
        rw [← hy] at c2
        have HX := hide hx
        have HY := hide hy
        have HS := hide (same_any x y)
        clear hx hy
        by_cases he : x = y
        · subst he
          rw [beq_self_eq_true] at HS
          go_wp2_with fail
          refine (HS.out _).mono ?_
          rintro e w' ⟨rfl, hw⟩
          obtain rfl := hw.symm
          go_wp2_with fail
          go_round
          case rel =>
            refine ⟨k + 1, by omega, by go_num, ?_⟩
            intro j hj
            by_cases e : j = k
            · rw [e, ← HX.out, ← HY.out]
            · exact hall.out j (by omega)
          case measure => simp only [intOf]; omega
        · have HN : Hid ((xs == ys) = false) := lists_no (k := k) (by rw [← HX.out, ← HY.out]; exact he)
          rw [beq_eq_false_iff_ne.2 he] at HS
          go_wp2_with fail
          refine (HS.out _).mono ?_
          rintro e w' ⟨rfl, hw⟩
          obtain rfl := hw.symm
          go_wp2_with fail
          go_ret
          exact ⟨by rw [HN.out]; rfl, rfl⟩
      · have HN : Hid ((xs == ys) = true) := lists_yes (by rw [HL.out, HL'.out]) (fun j hj => hall.out j (by rw [HL.out] at hj; omega))
        go_wp2_with fail
        go_ret
        exact ⟨by rw [HN.out]; rfl, rfl⟩
  · have HN : Hid ((xs == ys) = false) := by
      apply beq_eq_false_iff_ne.2
      rintro rfl
      exact hl (HL.out.symm.trans HL'.out)
    have i1 : ((len : Int) != (len' : Int)) = true := by rw [bne_cast]; simpa [bne] using hl
    have i2 : ¬ (len : Int) = (len' : Int) := by omega
    go_enter Try.func58, Try.ntmps58
    go_wp2_with fail
    go_ret
    exact ⟨by rw [HN.out]; rfl, rfl⟩

set_option maxHeartbeats 2000000 in
theorem rowSame_any (r s : Rw) (a : Option Addr) (len cap : Nat) (b : Option Addr) (len' cap' : Nat) (w : World) (h : Fs w a len cap r.xs) (h' : Fs w b len' cap' s.xs) :
    Calls Try.prog 50 #[r.val (.slice a len cap), s.val (.slice b len' cap')] w fun e w' => e = .returned (.bool (r.same s)) ∧ Below w.heap.size w w' := by
  obtain ⟨k, d, xs, t, c, n⟩ := r
  obtain ⟨k', d', xs', t', c', n'⟩ := s
  have H1 := hide (same_any k k')
  have HE : Hid (∀ w', Below w.heap.size w w' → Calls Try.prog 58 #[.slice a len cap, .slice b len' cap', .func (.func 57) #[] #[]] w' fun e w'' => e = .returned (.bool (xs == xs')) ∧ w'' = w') := fun w' hb => eqFunc_any a len cap b len' cap' xs xs' w' (h.keep hb (Nat.le_refl _)) (h'.keep hb (Nat.le_refl _))
  have HW : Hid (∀ o o', Below w.heap.size w ((w.alloc o).alloc o')) := below_two w
  clear h h'
  unfold Rw.val Rw.same
  simp only
  by_cases hk : k = k'
  · subst hk
    have e1 : (k == k) = true := beq_self_eq_true k
    rw [e1] at H1
    rw [e1]
    clear e1
    by_cases hd : d = d'
    · subst hd
      have e2 : (d == d) = true := beq_self_eq_true d
      rw [e2]
      clear e2
      generalize (xs == xs') = m at *
      cases m
      · go_enter Try.func50, Try.ntmps50
        go_wp2_with fail
        refine (H1.out _).mono ?_
        rintro e w' ⟨rfl, hw⟩
        obtain rfl := hw.symm
        go_wp2_with fail
        refine (HE.out _ (HW.out _ _)).mono ?_
        rintro e w' ⟨rfl, hw⟩
        obtain rfl := hw.symm
        go_wp2_with fail
        go_ret
        exact ⟨rfl, HW.out _ _⟩
      · go_enter Try.func50, Try.ntmps50
        go_wp2_with fail
        refine (H1.out _).mono ?_
        rintro e w' ⟨rfl, hw⟩
        obtain rfl := hw.symm
        go_wp2_with fail
        refine (HE.out _ (HW.out _ _)).mono ?_
        rintro e w' ⟨rfl, hw⟩
        obtain rfl := hw.symm
        go_wp2_with fail
        all_goals (go_ret; refine ⟨?_, HW.out _ _⟩; simp [*])
    · have e2 : (d == d') = false := beq_eq_false_iff_ne.2 hd
      rw [e2]
      go_enter Try.func50, Try.ntmps50
      go_wp2_with fail
      refine (H1.out _).mono ?_
      rintro e w' ⟨rfl, hw⟩
      obtain rfl := hw.symm
      go_wp2_with fail
      go_ret
      exact ⟨rfl, HW.out _ _⟩
  · have e1 : (k == k') = false := beq_eq_false_iff_ne.2 hk
    rw [e1] at H1
    rw [e1]
    clear e1 hk
    go_enter Try.func50, Try.ntmps50
    go_wp2_with fail
    refine (H1.out _).mono ?_
    rintro e w' ⟨rfl, hw⟩
    obtain rfl := hw.symm
    go_wp2_with fail
    go_ret
    exact ⟨rfl, HW.out _ _⟩

theorem enters48 : ∀ args w, (callFunc 48 args).run Try.prog w = .ok (.enter 48 args) w := Pl.enters Try.func48 (by kernel_rfl) (by kernel_rfl)

set_option maxHeartbeats 2000000 in
set_option maxRecDepth 100000 in
theorem fls6 (w0 w : World) (b1 o1 b2 o2 len c1 c2 k x1 x2 : Nat) (m : Bool) (hk : k < len) (h1 : w0.cell? ⟨b1, o1 + k, none⟩ = some (.float .f64 x1)) (h2 : w0.cell? ⟨b2, o2 + k, none⟩ = some (.float .f64 x2)) (he : (x1 == x2) = m) (hW : Below w0.heap.size w0 w)
    {Q : Exit → Act → World → Prop} {A : Act} (hsz : A.tmps.size = 27) (hdf : A.defers = []) (s0 : A.tmps.getD 0 undef = .slice (some ⟨b1, o1, none⟩) len c1) (s1 : A.tmps.getD 1 undef = .slice (some ⟨b2, o2, none⟩) len c2) (s5 : A.tmps.getD 5 undef = .int .i64 (k : Nat))
    (hend : ∀ (u : Nat → Value) w', Below w0.heap.size w0 w' → Q .normal (((((((((((A).put (some 17) (u 17)).put (some 18) (u 18)).put (some 19) (u 19)).put (some 20) (u 20)).put (some 21) (u 21)).put (some 22) (u 22)).put (some 23) (u 23)).put (some 24) (u 24)).put (some 25) (u 25)).put (some 26) (.bool (!m))) w') :
    (Code.region 6 (Pl.find 6 ((Try.f49.body).getD .skip)) true).wp Try.prog Q A w := by
  have hS0 : Below w0.heap.size w0 w.drew := hW.drew
  have hA := Pl.At.same (v := .int .i64 (k : Nat)) (d := 5) (Pl.At.same (v := .slice (some ⟨b2, o2, none⟩) len c2) (d := 1) (Pl.At.same (v := .slice (some ⟨b1, o1, none⟩) len c1) (d := 0) (Pl.At.here hsz hdf) s0) s1) s5
  refine Pl.H.start (S := fun w' => Below w0.heap.size w0 w') (by kernel_rfl) hA hS0 ?_
  rw [show (Pl.find 6 ((Try.f49.body).getD .skip)).size = 10 by kernel_rfl]
  refine Pl.H.take 0 17 (.slice (some ⟨b1, o1, none⟩) len c1) (by kernel_rfl) (by kernel_rfl) (by kernel_rfl) (Pl.free 0 (by kernel_rfl)) (Pl.move 0 (.tmp 0) (by kernel_rfl) (by decide)) hS0 ?_
  refine Pl.H.take 1 18 (.int .i64 (k : Nat)) (by kernel_rfl) (by kernel_rfl) (by kernel_rfl) (Pl.free 1 (by kernel_rfl)) (Pl.move 1 (.tmp 5) (by kernel_rfl) (by decide)) hS0 ?_
  refine Pl.H.take 2 19 (.pointer (some ⟨b1, o1 + k, none⟩)) (by kernel_rfl) (by kernel_rfl) (by kernel_rfl) (Pl.free 2 (by kernel_rfl)) (Pl.index 2 24 (.tmp 17) (.tmp 18) _ (by kernel_rfl) (by decide) (by decide) (index_flt b1 o1 len c1 k hk)) hS0 ?_
  refine Pl.H.take 3 20 (.float .f64 x1) (by kernel_rfl) (by kernel_rfl) (by kernel_rfl) (Pl.free 3 (by kernel_rfl)) (Pl.load 3 23 (.tmp 19) _ (by kernel_rfl) (by decide) (fun w' hS => load_flt b1 (o1 + k) x1 w' ((hS.cell (World.block_lt_of_cell? w0 _ h1)).trans h1))) hS0 ?_
  refine Pl.H.take 4 21 (.slice (some ⟨b2, o2, none⟩) len c2) (by kernel_rfl) (by kernel_rfl) (by kernel_rfl) (Pl.free 4 (by kernel_rfl)) (Pl.move 4 (.tmp 1) (by kernel_rfl) (by decide)) hS0 ?_
  refine Pl.H.take 5 22 (.int .i64 (k : Nat)) (by kernel_rfl) (by kernel_rfl) (by kernel_rfl) (Pl.free 5 (by kernel_rfl)) (Pl.move 5 (.tmp 5) (by kernel_rfl) (by decide)) hS0 ?_
  refine Pl.H.take 6 23 (.pointer (some ⟨b2, o2 + k, none⟩)) (by kernel_rfl) (by kernel_rfl) (by kernel_rfl) (Pl.free 6 (by kernel_rfl)) (Pl.index 6 24 (.tmp 21) (.tmp 22) _ (by kernel_rfl) (by decide) (by decide) (index_flt b2 o2 len c2 k hk)) hS0 ?_
  refine Pl.H.take 7 24 (.float .f64 x2) (by kernel_rfl) (by kernel_rfl) (by kernel_rfl) (Pl.free 7 (by kernel_rfl)) (Pl.load 7 23 (.tmp 23) _ (by kernel_rfl) (by decide) (fun w' hS => load_flt b2 (o2 + k) x2 w' ((hS.cell (World.block_lt_of_cell? w0 _ h2)).trans h2))) hS0 ?_
  refine Pl.H.call 8 25 48 [(.tmp 20), (.tmp 24)] #[23, 23] (by kernel_rfl) (by kernel_rfl) (by kernel_rfl) (Pl.free 8 (by kernel_rfl)) (by kernel_rfl) (by decide) enters48 (Calls.mono (refSame_any x1 x2 w.drew) ?_)
  rintro e w' ⟨rfl, hw⟩
  obtain rfl := hw.symm
  rw [he]
  refine ⟨.bool m, rfl, hS0, ?_⟩
  refine Pl.H.take 9 26 (.bool (!m)) (by kernel_rfl) (by kernel_rfl) (by kernel_rfl) (Pl.free 9 (by kernel_rfl)) (Pl.neg 9 4 (.tmp 25) _ (by kernel_rfl) (by decide) rfl) hS0 ?_
  refine Pl.H.done (by kernel_rfl) (fun A' hA' => ?_)
  rw [Pl.At.ext hA' ((((((((((hA.put 17 _).put 18 _).put 19 _).put 20 _).put 21 _).put 22 _).put 23 _).put 24 _).put 25 _).put 26 _)]
  exact hend (fun d => if d = 17 then .slice (some ⟨b1, o1, none⟩) len c1 else if d = 18 then .int .i64 (k : Nat) else if d = 19 then .pointer (some ⟨b1, o1 + k, none⟩) else if d = 20 then .float .f64 x1 else if d = 21 then .slice (some ⟨b2, o2, none⟩) len c2 else if d = 22 then .int .i64 (k : Nat) else if d = 23 then .pointer (some ⟨b2, o2 + k, none⟩) else if d = 24 then .float .f64 x2 else if d = 25 then .bool m else undef) _ hS0

set_option maxHeartbeats 2000000 in
set_option maxRecDepth 100000 in
theorem refFls_any (a : Option Addr) (len cap : Nat) (b : Option Addr) (len' cap' : Nat) (xs ys : List Nat) (w : World) (h : Fs w a len cap xs) (h' : Fs w b len' cap' ys) :
    Calls Try.prog 49 #[.slice a len cap, .slice b len' cap'] w fun e w' => e = .returned (.bool (xs == ys)) ∧ Below w.heap.size w w' := by
  have H := hide h
  have H' := hide h'
  have HL := hide h.len
  have HL' := hide h'.len
  have hbig := h.big
  clear h h'
  by_cases hl : len = len'
  · subst hl
    go_enter Try.func49, Try.ntmps49
    go_wp2_with fail
    go_loopw [5] (fun i wr => ∃ k : Nat, k ≤ len ∧ i = .int .i64 k ∧ Hid (∀ j, j < k → xs.getD j 0 = ys.getD j 0) ∧ Hid (Below w.heap.size w wr)) (fun i _ => len - (intOf i).toNat)
    case atStart => exact ⟨0, by omega, rfl, fun j hj => by omega, Below.refl _ _⟩
    case round =>
      obtain ⟨k, hk, rfl, hall, hWr⟩ := hrel
      rcases Nat.lt_or_ge k len with hlt | hge
      · obtain ⟨b1, o1, rfl, c1, _, _⟩ := (H.out.keep hWr.out (Nat.le_refl _)).at k hlt
        obtain ⟨b2, o2, rfl, c2, _, _⟩ := (H'.out.keep hWr.out (Nat.le_refl _)).at k hlt
        have C1 := hide c1
        have C2 := hide c2
        clear c1 c2
        by_cases he : xs.getD k 0 = ys.getD k 0
        · have HE := hide he
          clear he
          go_wp2_with fail
          refine Pl.region_is (ops := Pl.find 6 ((Try.f49.body).getD .skip)) (by kernel_rfl) ?_
          refine fls6 wr wr b1 o1 b2 o2 len cap cap' k _ _ true hlt C1.out C2.out (by rw [HE.out]; exact beq_self_eq_true _) (Below.refl _ _) (by rfl) (by rfl) (by rfl) (by rfl) (by rfl) ?_
          intro u w' hb
          have HB := hide (rBelow hWr.out hb)
          clear hb
          simp only [Act.put, List.setIfInBounds_toArray, List.set_cons_zero, List.set_cons_succ, Bool.not_true]
          go_wp2_with fail
          go_roundw
          case rel =>
            refine ⟨k + 1, by omega, by go_num, ?_, HB⟩
            intro j hj
            by_cases e : j = k
            · rw [e]; exact HE.out
            · exact hall.out j (by omega)
          case measure => simp only [intOf]; omega
        · have HN : Hid ((xs == ys) = false) := lists_no (k := k) he
          have HE := hide he
          clear he
          go_wp2_with fail
          refine Pl.region_is (ops := Pl.find 6 ((Try.f49.body).getD .skip)) (by kernel_rfl) ?_
          refine fls6 wr wr b1 o1 b2 o2 len cap cap' k _ _ false hlt C1.out C2.out (beq_eq_false_iff_ne.2 HE.out) (Below.refl _ _) (by rfl) (by rfl) (by rfl) (by rfl) (by rfl) ?_
          intro u w' hb
          have HB := hide (rBelow hWr.out hb)
          clear hb
          simp only [Act.put, List.setIfInBounds_toArray, List.set_cons_zero, List.set_cons_succ, Bool.not_false]
          go_wp2_with fail
          go_ret
          exact ⟨by rw [HN.out]; rfl, HB.out⟩
      · have HN : Hid ((xs == ys) = true) := lists_yes (by rw [HL.out, HL'.out]) (fun j hj => hall.out j (by rw [HL.out] at hj; omega))
        go_wp2_with fail
        go_ret
        exact ⟨by rw [HN.out]; rfl, hWr.out⟩
  · have HN : Hid ((xs == ys) = false) := by
      apply beq_eq_false_iff_ne.2
      rintro rfl
      exact hl (HL.out.symm.trans HL'.out)
    have i1 : ((len : Int) != (len' : Int)) = true := by rw [bne_cast]; simpa [bne] using hl
    have i2 : ¬ (len : Int) = (len' : Int) := by omega
    go_enter Try.func49, Try.ntmps49
    go_wp2_with fail
    go_ret
    exact ⟨by rw [HN.out]; rfl, Below.refl _ _⟩

set_option maxHeartbeats 2000000 in
theorem refRowSame_any (r s : Rw) (a : Option Addr) (len cap : Nat) (b : Option Addr) (len' cap' : Nat) (w : World) (h : Fs w a len cap r.xs) (h' : Fs w b len' cap' s.xs) :
    Calls Try.prog 39 #[r.val (.slice a len cap), s.val (.slice b len' cap')] w fun e w' => e = .returned (.bool (r.same s)) ∧ Below w.heap.size w w' := by
  obtain ⟨k, d, xs, t, c, n⟩ := r
  obtain ⟨k', d', xs', t', c', n'⟩ := s
  have H1 := hide (refSame_any k k')
  have HE : Hid (∀ w', Below w.heap.size w w' → Calls Try.prog 49 #[.slice a len cap, .slice b len' cap'] w' fun e w'' => e = .returned (.bool (xs == xs')) ∧ Below w'.heap.size w' w'') := fun w' hb => refFls_any a len cap b len' cap' xs xs' w' (h.keep hb (Nat.le_refl _)) (h'.keep hb (Nat.le_refl _))
  have HW : Hid (∀ o o', Below w.heap.size w ((w.alloc o).alloc o')) := below_two w
  clear h h'
  unfold Rw.val Rw.same
  simp only
  by_cases hall : k = k' ∧ d = d' ∧ t = t' ∧ c = c' ∧ n = n'
  · obtain ⟨rfl, rfl, rfl, rfl, rfl⟩ := hall
    rw [beq_self_eq_true] at H1
    simp only [beq_self_eq_true, Bool.true_and, Bool.and_true]
    generalize (xs == xs') = m at *
    go_enter Try.func39, Try.ntmps39
    go_wp2_with fail
    refine (H1.out _).mono ?_
    rintro e w' ⟨rfl, hw⟩
    obtain rfl := hw.symm
    go_wp2_with fail
    refine (HE.out _ (HW.out _ _)).mono ?_
    rintro e w' ⟨rfl, hb⟩
    have HB := hide (rBelow (HW.out _ _) hb)
    clear hb
    go_wp2_with fail
    go_ret
    exact ⟨rfl, HB.out⟩
  · have HN : Hid ((k == k' && d == d' && xs == xs' && t == t' && c == c' && n == n') = false) := by
      show _ = _
      rw [Bool.eq_false_iff]
      intro h
      simp only [Bool.and_eq_true, beq_iff_eq] at h
      exact hall ⟨h.1.1.1.1.1, h.1.1.1.1.2, h.1.1.2, h.1.2, h.2⟩
    by_cases hk : k = k'
    · subst hk
      rw [beq_self_eq_true] at H1
      by_cases hd : d = d'
      · subst hd
        by_cases ht : t = t'
        · subst ht
          have hcn : ¬ (c = c' ∧ n = n') := fun h => hall ⟨rfl, rfl, rfl, h.1, h.2⟩
          clear hall
          go_enter Try.func39, Try.ntmps39
          go_wp2_with fail
          refine (H1.out _).mono ?_
          rintro e w' ⟨rfl, hw⟩
          obtain rfl := hw.symm
          go_wp2_with fail
          all_goals (go_ret; exact ⟨by rw [HN.out]; simp [*], HW.out _ _⟩)
        · have e3 : (t == t') = false := beq_eq_false_iff_ne.2 ht
          clear hall
          go_enter Try.func39, Try.ntmps39
          go_wp2_with fail
          refine (H1.out _).mono ?_
          rintro e w' ⟨rfl, hw⟩
          obtain rfl := hw.symm
          go_wp2_with fail
          go_ret
          exact ⟨by rw [HN.out]; simp, HW.out _ _⟩
      · have e2 : (d == d') = false := beq_eq_false_iff_ne.2 hd
        clear hall
        go_enter Try.func39, Try.ntmps39
        go_wp2_with fail
        refine (H1.out _).mono ?_
        rintro e w' ⟨rfl, hw⟩
        obtain rfl := hw.symm
        go_wp2_with fail
        go_ret
        exact ⟨by rw [HN.out]; simp, HW.out _ _⟩
    · rw [beq_eq_false_iff_ne.2 hk] at H1
      clear hall hk
      go_enter Try.func39, Try.ntmps39
      go_wp2_with fail
      refine (H1.out _).mono ?_
      rintro e w' ⟨rfl, hw⟩
      obtain rfl := hw.symm
      go_wp2_with fail
      go_ret
      exact ⟨by rw [HN.out]; simp, HW.out _ _⟩

end Go.Proofs.Ytpdkeghmpnanpaa
