/-
  The document's Sees, Same; rows of views; its All.
-/
import Derived.Test.YtehmemfeagjagaaVwC
namespace Go.Proofs.Ytehmemfeagjagaa
open Go.RowKit
set_option maxRecDepth 100000
set_option linter.unusedVariables false

set_option maxHeartbeats 4000000 in
theorem rsees_any {D : Nat → Prop} (w : World) (s : Sl) (v : Vw) (h : Gi D w s v.act) (x : Int) :
    Calls Try.prog 15 #[vwV v s, .int .i64 x] w fun e w' => e = .returned (.bool (seesV v x)) ∧ Below w.heap.size w w' := by
  obtain ⟨vs, vn, t⟩ := v
  have hA := below_alloc w (.cells #[.int .i64 vs, .int .i64 vn, s.val] 25)
  have HI := hide (rin_any _ s t (h.below hA (Nat.le_refl _)) x)
  have HA := hide hA
  obtain ⟨a, len, cap⟩ := s
  obtain ⟨r, hr⟩ : ∃ r, r = seesV ⟨vs, vn, t⟩ x := ⟨_, rfl⟩
  rw [← hr]
  have HR := hide hr
  clear h hA hr
  obtain ⟨c, hc⟩ : ∃ c, c = t.contains x := ⟨_, rfl⟩
  rw [← hc] at HI
  have HC := hide hc
  clear hc
  unfold vwV Sl.val at *
  simp only at *
  go_enter Try.func15, Try.ntmps15
  by_cases h0 : x = 0
  · have HQ : Hid (r = true) := by show _ = _; rw [HR.out]; unfold seesV; simp [h0]
    subst h0
    go_wp2_with fail
    go_ret
    exact ⟨by rw [HQ.out]; rfl, HA.out⟩
  · have b0 : (x == 0) = false := beq_eq_false_iff_ne.2 h0
    by_cases h1 : 0 < x
    · by_cases h2 : x = vs
      · have HQ : Hid (r = true) := by
          show _ = _
          rw [HR.out]
          unfold seesV
          rw [← h2, decide_eq_true h1]
          simp
        subst h2
        clear HC HR
        go_wp2_with fail
        go_ret
        exact ⟨by rw [HQ.out]; rfl, HA.out⟩
      · have b2 : (x == vs) = false := beq_eq_false_iff_ne.2 h2
        by_cases h3 : x < vn
        · have HQ : Hid (r = !c) := by
            show _ = _
            rw [HR.out, HC.out]
            unfold seesV
            simp only [b0, b2, decide_eq_true h1, decide_eq_true h3, Bool.true_and, Bool.false_or, Bool.and_false]
          clear HC HR
          go_wp2_with fail
          refine HI.out.mono ?_
          rintro e w2 ⟨rfl, hb⟩
          have HB := hide (rBelow HA.out hb)
          clear hb HI
          cases c with
          | true =>
            go_wp2_with fail
            go_ret
            exact ⟨by rw [HQ.out]; rfl, HB.out⟩
          | false =>
            go_wp2_with fail
            go_ret
            exact ⟨by rw [HQ.out]; rfl, HB.out⟩
        · have HQ : Hid (r = false) := by
            show _ = _
            rw [HR.out]
            unfold seesV
            simp only [b0, b2, decide_eq_true h1, decide_eq_false h3, Bool.false_or, Bool.and_false, Bool.false_and]
          clear HC HR
          go_wp2_with fail
          go_ret
          exact ⟨by rw [HQ.out]; rfl, HA.out⟩
    · have HQ : Hid (r = false) := by
        show _ = _
        rw [HR.out]
        unfold seesV
        simp only [b0, decide_eq_false h1, Bool.false_and, Bool.false_or]
      clear HC HR
      go_wp2_with fail
      go_ret
      exact ⟨by rw [HQ.out]; rfl, HA.out⟩

set_option maxHeartbeats 4000000 in
theorem rsame_any {D E : Nat → Prop} (w : World) (s t : Sl) (v u : Vw) (h : Gi D w s v.act) (k : Gi E w t u.act) :
    Calls Try.prog 10 #[vwV v s, vwV u t] w fun e w' => e = .returned (.bool (sameV v u)) ∧ Below w.heap.size w w' := by
  obtain ⟨vs, vn, vt⟩ := v
  obtain ⟨us, un, ut⟩ := u
  have hA := rBelow (below_alloc w (.cells #[.int .i64 vs, .int .i64 vn, s.val] 25)) (below_alloc (w.alloc (.cells #[.int .i64 vs, .int .i64 vn, s.val] 25)) (.cells #[.int .i64 us, .int .i64 un, t.val] 25))
  have HI := hide (rintsG _ s t vt ut (h.below hA (Nat.le_refl _)) (k.below hA (Nat.le_refl _)))
  have HA := hide hA
  have k0 := vwBlk_new w ⟨vs, vn, vt⟩ s
  have K0 := k0.keep (below_alloc _ (.cells #[.int .i64 us, .int .i64 un, t.val] 25))
  have c0 := K0.c0
  have c1 := K0.c1
  have c2 := K0.c2
  obtain ⟨a, len, cap⟩ := s
  obtain ⟨b, len2, cap2⟩ := t
  obtain ⟨r, hr⟩ : ∃ r, r = sameV ⟨vs, vn, vt⟩ ⟨us, un, ut⟩ := ⟨_, rfl⟩
  rw [← hr]
  have HR := hide hr
  clear h k hA hr k0 K0
  obtain ⟨c, hc⟩ : ∃ c, c = decide (vt = ut) := ⟨_, rfl⟩
  rw [← hc] at HI
  have HC := hide hc
  clear hc
  unfold vwV Sl.val at *
  simp only at *
  go_enter Try.func10, Try.ntmps10
  by_cases h0 : vs = us
  · by_cases h1 : vn = un
    · have HQ : Hid (r = c) := by show _ = _; rw [HR.out, HC.out]; unfold sameV; simp [h0, h1]
      obtain rfl := h0.symm
      obtain rfl := h1.symm
      go_wp2_with fail
      refine HI.out.mono ?_
      rintro e w2 ⟨rfl, hb⟩
      have HB := hide (rBelow HA.out hb)
      clear hb HI
      go_wp2_with fail
      go_ret
      exact ⟨by rw [HQ.out]; rfl, HB.out⟩
    · have HQ : Hid (r = false) := by show _ = _; rw [HR.out]; unfold sameV; simp [h1]
      obtain rfl := h0.symm
      clear HC HR
      go_wp2_with fail
      go_ret
      exact ⟨by rw [HQ.out]; rfl, HA.out⟩
  · have HQ : Hid (r = false) := by show _ = _; rw [HR.out]; unfold sameV; simp [h0]
    go_wp2_with fail
    go_ret
    exact ⟨by rw [HQ.out]; rfl, HA.out⟩

/-! ### Rows of views -/
/-- A view in memory. -/
structure Vx where
  v : Vw
  s : Sl
def Vx.zero : Vx := ⟨Vw.zero, Sl.nil⟩
def vws (L : List Vx) : List Vw := L.map Vx.v
/-- The views L lie where the slice leads. -/
structure Gv (w : World) (s : Sl) (L : List Vx) : Prop where
  len : L.length = s.len
  nil : s.a = none → s.cap = 0
  le : s.len ≤ s.cap
  big : s.len ≤ 1000000
  cell : ∀ i, i < s.len → ∃ b off, s.a = some ⟨b, off, none⟩ ∧ w.cell? ⟨b, off + i * 3, none⟩ = some (.int .i64 (L.getD i Vx.zero).v.self) ∧ w.cell? ⟨b, off + i * 3 + 1, none⟩ = some (.int .i64 (L.getD i Vx.zero).v.next) ∧ w.cell? ⟨b, off + i * 3 + 2, none⟩ = some (L.getD i Vx.zero).s.val
  act : ∀ x ∈ L, Gi (fun _ => True) w x.s x.v.act
theorem vx_mem {L : List Vx} {i : Nat} (h : i < L.length) : L.getD i Vx.zero ∈ L := by simp [List.getD, h]
theorem Gv.keep {w w' : World} {s : Sl} {L : List Vx} (h : Gv w s L) (hb : Below w.heap.size w w') : Gv w' s L := by
  refine ⟨h.len, h.nil, h.le, h.big, fun i hi => ?_, fun x hx => (h.act x hx).below hb (Nat.le_refl _)⟩
  obtain ⟨b, off, ha, c0, c1, c2⟩ := h.cell i hi
  have k : ∀ {p : Addr} {u : Value}, w.cell? p = some u → w'.cell? p = some u := fun {p u} hp => (hb.cell (World.block_lt_of_cell? w _ hp)).trans hp
  exact ⟨b, off, ha, k c0, k c1, k c2⟩
theorem Gv.at {w : World} {s : Sl} {L : List Vx} (h : Gv w s L) {i : Nat} (hi : i < s.len) : Gi (fun _ => True) w (L.getD i Vx.zero).s (L.getD i Vx.zero).v.act := h.act _ (vx_mem (by rw [h.len]; exact hi))
theorem Gv.none (w : World) : Gv w Sl.nil [] := ⟨rfl, fun _ => rfl, Nat.le_refl _, Nat.zero_le _, (fun i hi => absurd hi (Nat.not_lt_zero _)), fun x hx => by cases hx⟩
theorem index_vw (b o len cap k : Nat) (hk : k < len) (w : World) : (Instr.indexAt 36 (.slice (some ⟨b, o, none⟩) len cap) (.int .i64 (k : Nat))).run Try.prog w = .ok (.pointer (some ⟨b, o + k * 3, none⟩)) w := by
  have h22 : Try.prog.underlying 36 = some (.slice (Try.prog.elem 36)) := by kernel_rfl
  have h1 : (0 : Int) ≤ (k : Int) := by omega
  simp [go_sem, Instr.indexAt, run_underlying h22, h1, Addr.add_lit]
  omega
theorem load_vw {b o : Nat} {v : Vw} {s : Sl} {w : World} (c0 : w.cell? ⟨b, o, none⟩ = some (.int .i64 v.self)) (c1 : w.cell? ⟨b, o + 1, none⟩ = some (.int .i64 v.next)) (c2 : w.cell? ⟨b, o + 2, none⟩ = some s.val) : (Instr.loadAt 25 (.pointer (some ⟨b, o, none⟩))).run Try.prog w = .ok (vwV v s) w := by
  unfold Sl.val at c2
  simp [go_sem, c0, c1, c2, vwV, Sl.val]
/-- Both views of a literal. -/
theorem two_vw (w : World) (v u : Vw) (s t : Sl) (hs : Gi (fun _ => True) w s v.act) (ht : Gi (fun _ => True) w t u.act) :
    Gv (w.alloc (.cells #[.int .i64 v.self, .int .i64 v.next, s.val, .int .i64 u.self, .int .i64 u.next, t.val] 25)) ⟨some ⟨w.heap.size, 0, none⟩, 2, 2⟩ [⟨v, s⟩, ⟨u, t⟩] := by
  have hA := below_alloc w (.cells #[.int .i64 v.self, .int .i64 v.next, s.val, .int .i64 u.self, .int .i64 u.next, t.val] 25)
  refine ⟨rfl, (fun e => by cases e), Nat.le_refl _, (by show 2 ≤ 1000000; omega), fun i hi => ⟨_, _, rfl, ?_⟩, fun x hx => ?_⟩
  · have hb := heap_alloc_new w (.cells #[.int .i64 v.self, .int .i64 v.next, s.val, .int .i64 u.self, .int .i64 u.next, t.val] 25)
    have hi2 : i = 0 ∨ i = 1 := by
      have : i < 2 := hi
      omega
    rcases hi2 with rfl | rfl
    · refine ⟨?_, ?_, ?_⟩ <;> (rw [cell_of_row _ _ _ _ _ _ hb]; rfl)
    · refine ⟨?_, ?_, ?_⟩ <;> (rw [cell_of_row _ _ _ _ _ _ hb]; rfl)
  · rcases List.mem_cons.1 hx with rfl | hx
    · exact hs.below hA (Nat.le_refl _)
    · rcases List.mem_cons.1 hx with rfl | hx
      · exact ht.below hA (Nat.le_refl _)
      · cases hx

theorem allV_take {L : List Vw} {x : Int} {i : Nat} (h : ∀ j, j < i → seesA (L.getD j Vw.zero) x = true) (hi : L.length ≤ i) : allV L x = true := by
  unfold allV
  rw [List.all_eq_true]
  intro v hv
  obtain ⟨j, hj, rfl⟩ := List.mem_iff_getElem.1 hv
  have := h j (by omega)
  simpa [List.getD, hj] using this
theorem allV_no {L : List Vw} {x : Int} {i : Nat} (hi : i < L.length) (h : seesA (L.getD i Vw.zero) x = false) : allV L x = false := by
  unfold allV
  rw [List.all_eq_false]
  exact ⟨L.getD i Vw.zero, by simp [List.getD, hi], by rw [h]; decide⟩
theorem vws_at (L : List Vx) (i : Nat) : (vws L).getD i Vw.zero = (L.getD i Vx.zero).v := by
  unfold vws
  by_cases h : i < L.length
  · simp [List.getD, h]
  · have h' : L.length ≤ i := Nat.le_of_not_lt h
    simp [List.getD, h', Vx.zero]

set_option maxHeartbeats 4000000 in
theorem rall_any (w : World) (s : Sl) (L : List Vx) (h : Gv w s L) (x : Int) :
    Calls Try.prog 13 #[s.val, .int .i64 x] w fun e w' => e = .returned (.bool (allV (vws L) x)) ∧ Below w.heap.size w w' := by
  obtain ⟨a, len, cap⟩ := s
  have H := hide h
  have HL : Hid ((vws L).length = len) := by show _ = _; unfold vws; rw [List.length_map]; exact h.len
  have H0 := hide (Below.refl w.heap.size w)
  have hl' : len ≤ 1000000 := h.big
  obtain ⟨r, hr⟩ : ∃ r, r = allV (vws L) x := ⟨_, rfl⟩
  rw [← hr]
  have HR := hide hr
  clear h hr
  unfold Sl.val
  simp only
  go_enter Try.func13, Try.ntmps13
  go_wp2_with fail
  go_loopw [5] (fun iv wr => ∃ i : Nat, i ≤ len ∧ iv = .int .i64 (i : Nat) ∧ Hid (∀ j, j < i → seesA ((vws L).getD j Vw.zero) x = true) ∧ Hid (Below w.heap.size w wr)) (fun iv _ => len - (intOf iv).toNat)
  case atStart => exact ⟨0, Nat.zero_le _, rfl, fun j hj => absurd hj (Nat.not_lt_zero _), H0⟩
  case round =>
    obtain ⟨i, hi, rfl, hix, hbr⟩ := hrel
    rcases Nat.lt_or_ge i len with hlt | hge
    · have i1 : ((i : Nat) : Int) < ((len : Nat) : Int) := by omega
      have hg := H.out.keep hbr.out
      obtain ⟨bb, oo, ha, c0, c1, c2⟩ := hg.cell i hlt
      replace ha : a = some ⟨bb, oo, none⟩ := ha
      subst ha
      have hat := hg.at (i := i) hlt
      have hix2 := vws_at L i
      obtain ⟨y, hy⟩ : ∃ y, y = L.getD i Vx.zero := ⟨_, rfl⟩
      rw [← hy] at c0 c1 c2 hat hix2
      have HIX := hide hix2
      have HM := hide (rmayV_any wr y.s y.v hat)
      have HAT := hide hat
      have HX := hide (fun w => index_vw bb oo len cap i hlt w)
      obtain ⟨m, hm⟩ : ∃ m, m = decide (MayV y.v) := ⟨_, rfl⟩
      rw [← hm] at HM
      have HMM := hide hm
      have HS := hide (fun w2 (hb2 : Below wr.heap.size wr w2) => rsees_any w2 y.s y.v (HAT.out.below hb2 (Nat.le_refl _)) x)
      obtain ⟨q, hq⟩ : ∃ q, q = seesV y.v x := ⟨_, rfl⟩
      rw [← hq] at HS
      have HQ := hide hq
      have HSA : Hid (seesA ((vws L).getD i Vw.zero) x = (m && q)) := by show _ = _; rw [HIX.out, HMM.out, HQ.out]; rfl
      have HC : Hid (∀ w2, Below wr.heap.size wr w2 → w2.cell? ⟨bb, oo + i * 3, none⟩ = some (.int .i64 y.v.self) ∧ w2.cell? ⟨bb, oo + i * 3 + 1, none⟩ = some (.int .i64 y.v.next) ∧ w2.cell? ⟨bb, oo + i * 3 + 2, none⟩ = some y.s.val) := fun w2 hb2 => by
        have k : ∀ {p : Addr} {u : Value}, wr.cell? p = some u → w2.cell? p = some u := fun {p u} hp => (hb2.cell (World.block_lt_of_cell? wr _ hp)).trans hp
        exact ⟨k c0, k c1, k c2⟩
      clear hg hat hy hix2 hm hq HAT HIX HMM HQ
      obtain ⟨⟨ys, yn, yt⟩, ⟨ya, yl, yc⟩⟩ := y
      unfold vwV Sl.val at HM HS
      unfold Sl.val at HC c2
      simp only at HM HS HC c0 c1 c2
      go_wp2_with fail
      refine HM.out.mono ?_
      rintro e w2 ⟨rfl, hb2⟩
      have HB2 := hide (rBelow hbr.out hb2)
      have HS2 := hide (HS.out w2 hb2)
      obtain ⟨d0, d1, d2⟩ := HC.out w2 hb2
      clear hb2 HM HC HS c0 c1 c2
      cases m with
      | false =>
        have HNO : Hid (r = false) := HR.out.trans (allV_no (i := i) (by rw [HL.out]; exact hlt) HSA.out)
        clear hix
        go_wp2_with fail
        go_ret
        exact ⟨by rw [HNO.out]; rfl, HB2.out⟩
      | true =>
        go_wp2_with fail
        refine HS2.out.mono ?_
        rintro e w3 ⟨rfl, hb3⟩
        have HB3 := hide (rBelow HB2.out hb3)
        clear hb3 HS2 d0 d1 d2
        cases q with
        | false =>
          have HNO : Hid (r = false) := HR.out.trans (allV_no (i := i) (by rw [HL.out]; exact hlt) HSA.out)
          clear hix
          go_wp2_with fail
          go_ret
          exact ⟨by rw [HNO.out]; rfl, HB3.out⟩
        | true =>
          have HN : Hid (∀ j, j < i + 1 → seesA ((vws L).getD j Vw.zero) x = true) := by
            intro j hj
            by_cases e : j = i
            · rw [e]; exact HSA.out
            · exact hix.out j (by omega)
          clear hix
          go_wp2_with fail
          go_roundw
          case rel => exact ⟨i + 1, by omega, by go_num, HN, HB3⟩
          case measure => simp only [intOf]; omega
    · have i1 : ¬ ((i : Nat) : Int) < ((len : Nat) : Int) := by omega
      have HY : Hid (r = true) := HR.out.trans (allV_take hix.out (by rw [HL.out]; exact hge))
      clear hix
      go_wp2_with fail
      go_ret
      exact ⟨by rw [HY.out]; rfl, hbr.out⟩

end Go.Proofs.Ytehmemfeagjagaa
