/-
  Views in memory; the document's In, May, Sees, Same.
-/
import Derived.Test.YtehmemfeagjagaaVwB
namespace Go.Proofs.Ytehmemfeagjagaa
open Go.RowKit
set_option maxRecDepth 100000
set_option linter.unusedVariables false

/-- A view, as a value. -/
def vwV (v : Vw) (s : Sl) : Value := .agg #[.int .i64 v.self, .int .i64 v.next, s.val]
/-- A box with a view. -/
def VwBlk (w : World) (p : Nat) (v : Vw) (s : Sl) : Prop := w.heap[p]? = some (Obj.cells #[.int .i64 v.self, .int .i64 v.next, s.val] 25 (0, 0))
theorem VwBlk.c0 {w : World} {p : Nat} {v : Vw} {s : Sl} (k : VwBlk w p v s) : w.cell? ⟨p, 0, none⟩ = some (.int .i64 v.self) := by unfold VwBlk at k; simp [World.cell?, k]
theorem VwBlk.c1 {w : World} {p : Nat} {v : Vw} {s : Sl} (k : VwBlk w p v s) : w.cell? ⟨p, 1, none⟩ = some (.int .i64 v.next) := by unfold VwBlk at k; simp [World.cell?, k]
theorem VwBlk.c2 {w : World} {p : Nat} {v : Vw} {s : Sl} (k : VwBlk w p v s) : w.cell? ⟨p, 2, none⟩ = some s.val := by unfold VwBlk at k; simp [World.cell?, k]
theorem VwBlk.fz {w : World} {p : Nat} {v : Vw} {s : Sl} (k : VwBlk w p v s) (o : Nat) : w.frozen? ⟨p, o, none⟩ = false := frozen_of_row w p _ _ 25 k
theorem VwBlk.lt {w : World} {p : Nat} {v : Vw} {s : Sl} (k : VwBlk w p v s) : p < w.heap.size := (Array.getElem?_eq_some_iff.1 k).1
theorem vwBlk_new (w : World) (v : Vw) (s : Sl) : VwBlk (w.alloc (.cells #[.int .i64 v.self, .int .i64 v.next, s.val] 25)) w.heap.size v s := heap_alloc_new w _
theorem VwBlk.keep {w w' : World} {p : Nat} {v : Vw} {s : Sl} (k : VwBlk w p v s) (hb : Below w.heap.size w w') : VwBlk w' p v s := (hb.block p k.lt).trans k
theorem VwBlk.frm {w w' : World} {F : Nat → Prop} {p : Nat} {v : Vw} {s : Sl} (k : VwBlk w p v s) (hf : Frm F w w') (hn : ¬ F p) : VwBlk w' p v s := (hf.block p k.lt hn).trans k

theorem mem_getD0 {t : List Int} {i : Nat} (h : i < t.length) : t.getD i 0 ∈ t := by simp [List.getD, h]
theorem contains_no {t : List Int} {x : Int} (h : ∀ j, j < t.length → t.getD j 0 ≠ x) : t.contains x = false := by
  by_cases hx : x ∈ t
  · obtain ⟨i, hi, e⟩ := List.mem_iff_getElem.1 hx
    exact absurd (by simpa [List.getD, hi] using e) (h i hi)
  · simpa using hx
theorem contains_yes {t : List Int} {x : Int} {i : Nat} (h : i < t.length) (e : t.getD i 0 = x) : t.contains x = true := by
  rw [← e]
  simpa using mem_getD0 h

set_option maxHeartbeats 4000000 in
theorem rin_any {D : Nat → Prop} (w : World) (s : Sl) (t : List Int) (h : Gi D w s t) (x : Int) :
    Calls Try.prog 18 #[s.val, .int .i64 x] w fun e w' => e = .returned (.bool (t.contains x)) ∧ Below w.heap.size w w' := by
  obtain ⟨a, len, cap⟩ := s
  have H := hide h
  have HL : Hid (t.length = len) := h.len
  have hbig : len ≤ 1000000 := h.big
  have H0 := hide (Below.refl w.heap.size w)
  obtain ⟨r, hr⟩ : ∃ r, r = t.contains x := ⟨_, rfl⟩
  rw [← hr]
  have HR := hide hr
  clear h hr
  unfold Sl.val
  simp only
  go_enter Try.func18, Try.ntmps18
  go_wp2_with fail
  go_loopw [5] (fun iv wr => wr = w ∧ ∃ i : Nat, i ≤ len ∧ iv = .int .i64 (i : Nat) ∧ Hid (∀ j, j < i → t.getD j 0 ≠ x)) (fun iv _ => len - (intOf iv).toNat)
  case atStart => exact ⟨rfl, 0, Nat.zero_le _, rfl, fun j hj => absurd hj (Nat.not_lt_zero _)⟩
  case round =>
    obtain ⟨rfl, i, hi, rfl, hix⟩ := hrel
    rcases Nat.lt_or_ge i len with hlt | hge
    · have i1 : ((i : Nat) : Int) < ((len : Nat) : Int) := by omega
      obtain ⟨bb, oo, ha, c0⟩ := H.out.cell i hlt
      replace ha : a = some ⟨bb, oo, none⟩ := ha
      subst ha
      obtain ⟨y, hy⟩ : ∃ y, y = t.getD i 0 := ⟨_, rfl⟩
      rw [← hy] at c0
      by_cases hxy : y = x
      · have HE : Hid (r = true) := HR.out.trans (contains_yes (i := i) (by rw [HL.out]; exact hlt) (by rw [← hy, hxy]))
        clear hy hix
        go_wp2_with fail
        go_ret
        exact ⟨by rw [HE.out]; rfl, H0.out⟩
      · have HN : Hid (∀ j, j < i + 1 → t.getD j 0 ≠ x) := by
          intro j hj
          by_cases e : j = i
          · rw [e, ← hy]; exact hxy
          · exact hix.out j (by omega)
        clear hy hix
        go_wp2_with fail
        go_roundw
        case rel => exact ⟨trivial, i + 1, by omega, by go_num, HN⟩
        case measure => simp only [intOf]; omega
    · have i1 : ¬ ((i : Nat) : Int) < ((len : Nat) : Int) := by omega
      have HE : Hid (r = false) := HR.out.trans (contains_no (fun j hj => hix.out j (by rw [HL.out] at hj; omega)))
      clear hix
      go_wp2_with fail
      go_ret
      exact ⟨by rw [HE.out]; rfl, H0.out⟩

theorem mayV_each {v : Vw} (h : MayV v) {i : Nat} (hi : i < v.act.length) : 1 ≤ v.act.getD i 0 ∧ v.act.getD i 0 < v.next ∧ v.act.getD i 0 ≠ v.self := h.2.2.2.1 i hi

set_option maxHeartbeats 8000000 in
theorem rmayV_any {D : Nat → Prop} (w : World) (s : Sl) (v : Vw) (h : Gi D w s v.act) :
    Calls Try.prog 12 #[vwV v s] w fun e w' => e = .returned (.bool (decide (MayV v))) ∧ Below w.heap.size w w' := by
  obtain ⟨a, len, cap⟩ := s
  obtain ⟨vs, vn, t⟩ := v
  have hA := below_alloc w (.cells #[.int .i64 vs, .int .i64 vn, .slice a len cap] 25)
  have H := hide (h.below hA (Nat.le_refl _))
  have HL : Hid (t.length = len) := h.len
  have hbig : len ≤ 1000000 := h.big
  have HA := hide hA
  obtain ⟨r, hr⟩ : ∃ r, r = decide (MayV ⟨vs, vn, t⟩) := ⟨_, rfl⟩
  rw [← hr]
  have HR := hide hr
  clear h hA hr
  unfold vwV Sl.val
  simp only at H ⊢
  go_enter Try.func12, Try.ntmps12
  go_wp2_with fail
  go_loopw [3] (fun iv wr => wr = w.alloc (.cells #[.int .i64 vs, .int .i64 vn, .slice a len cap] 25) ∧ ∃ i : Nat, i ≤ len ∧ iv = .int .i64 (i : Nat) ∧ Hid (∀ j, j < i → (1 ≤ t.getD j 0 ∧ t.getD j 0 < vn ∧ t.getD j 0 ≠ vs) ∧ (0 < j → t.getD (j - 1) 0 < t.getD j 0))) (fun iv _ => len - (intOf iv).toNat)
  case atStart => exact ⟨rfl, 0, Nat.zero_le _, rfl, fun j hj => absurd hj (Nat.not_lt_zero _)⟩
  case round =>
    obtain ⟨rfl, i, hi, rfl, hix⟩ := hrel
    rcases Nat.lt_or_ge i len with hlt | hge
    · have i1 : ((i : Nat) : Int) < ((len : Nat) : Int) := by omega
      obtain ⟨bb, oo, ha, c0⟩ := H.out.cell i hlt
      replace ha : a = some ⟨bb, oo, none⟩ := ha
      subst ha
      obtain ⟨y, hy⟩ : ∃ y, y = t.getD i 0 := ⟨_, rfl⟩
      rw [← hy] at c0
      have HY := hide hy
      by_cases hbad : y < 1 ∨ vn ≤ y ∨ y = vs
      · have HNO : Hid (r = false) := HR.out.trans (decide_eq_false (fun m => by
          have := m.2.2.2.1 i (by show i < t.length; rw [HL.out]; exact hlt)
          simp only [← HY.out] at this
          omega))
        clear hy hix
        by_cases h1 : y < 1
        · clear hbad
          go_wp2_with fail
          go_ret
          exact ⟨by rw [HNO.out]; rfl, HA.out⟩
        · by_cases h2 : vn ≤ y
          · clear hbad
            go_wp2_with fail
            go_ret
            exact ⟨by rw [HNO.out]; rfl, HA.out⟩
          · have h3 : y = vs := by omega
            have h2' : ¬ y ≥ vn := h2
            clear hbad
            go_wp2_with fail
            go_ret
            exact ⟨by rw [HNO.out]; rfl, HA.out⟩
      · have h1 : ¬ y < 1 := fun e => hbad (.inl e)
        have h2 : ¬ y ≥ vn := fun e => hbad (.inr (.inl e))
        have h3 : ¬ y = vs := fun e => hbad (.inr (.inr e))
        clear hbad
        by_cases h0 : i = 0
        · have HN : Hid (∀ j, j < i + 1 → (1 ≤ t.getD j 0 ∧ t.getD j 0 < vn ∧ t.getD j 0 ≠ vs) ∧ (0 < j → t.getD (j - 1) 0 < t.getD j 0)) := by
            intro j hj
            obtain rfl : j = i := by omega
            rw [← HY.out]
            exact ⟨⟨by omega, by omega, h3⟩, fun e => by omega⟩
          have j0 : ¬ (0 : Int) < ((i : Nat) : Int) := by omega
          clear hy hix h0
          go_wp2_with fail
          go_roundw
          case rel => exact ⟨trivial, i + 1, by omega, by go_num, HN⟩
          case measure => simp only [intOf]; omega
        · have j0 : (0 : Int) < ((i : Nat) : Int) := by omega
          obtain ⟨m, rfl⟩ : ∃ m, i = m + 1 := ⟨i - 1, by omega⟩
          obtain ⟨b2, o2, ha2, d0⟩ := H.out.cell m (by show m < len; omega)
          simp only [Option.some.injEq, Addr.mk.injEq, and_true] at ha2
          obtain ⟨rfl, rfl⟩ := ha2
          obtain ⟨z, hz⟩ : ∃ z, z = t.getD m 0 := ⟨_, rfl⟩
          rw [← hz] at d0
          have HZ := hide hz
          have em : ((m + 1 : Nat) : Int) - 1 = ((m : Nat) : Int) := by omega
          by_cases hup : z < y
          · have HN : Hid (∀ j, j < m + 1 + 1 → (1 ≤ t.getD j 0 ∧ t.getD j 0 < vn ∧ t.getD j 0 ≠ vs) ∧ (0 < j → t.getD (j - 1) 0 < t.getD j 0)) := by
              intro j hj
              by_cases e : j = m + 1
              · subst e
                rw [← HY.out]
                exact ⟨⟨by omega, by omega, h3⟩, fun _ => by show t.getD (m + 1 - 1) 0 < y; rw [Nat.add_sub_cancel, ← HZ.out]; exact hup⟩
              · exact hix.out j (by omega)
            have hup' : ¬ z ≥ y := by omega
            clear hy hix hz hup
            go_wp2_with fail
            go_roundw
            case rel => exact ⟨trivial, m + 1 + 1, by omega, by go_num, HN⟩
            case measure => simp only [intOf]; omega
          · have HNO : Hid (r = false) := HR.out.trans (decide_eq_false (fun k => by
              have := k.2.2.2.2 (m + 1) (by show m + 1 < t.length; rw [HL.out]; exact hlt) (by omega)
              simp only [Nat.add_sub_cancel, ← HY.out, ← HZ.out] at this
              exact hup this))
            have hup' : z ≥ y := by omega
            clear hy hix hz hup
            go_wp2_with fail
            go_ret
            exact ⟨by rw [HNO.out]; rfl, HA.out⟩
    · have i1 : ¬ ((i : Nat) : Int) < ((len : Nat) : Int) := by omega
      have HE : Hid (r = (decide (0 ≤ vs) && (decide (vs < 2147483648) && (decide (0 ≤ vn) && (decide (vn < 2147483648) && decide (((len : Nat) : Int) ≤ 64)))))) := by
        show _ = _
        have hx := hix.out
        have hl := HL.out
        rw [HR.out, Bool.eq_iff_iff, decide_eq_true_iff]
        simp only [Bool.and_eq_true, decide_eq_true_eq]
        constructor
        · rintro ⟨⟨a1, a2⟩, ⟨a3, a4⟩, a5, _⟩
          simp only at a1 a2 a3 a4 a5
          exact ⟨a1, by omega, a3, by omega, by omega⟩
        · rintro ⟨a1, a2, a3, a4, a5⟩
          show (0 ≤ vs ∧ vs ≤ 2147483647) ∧ (0 ≤ vn ∧ vn ≤ 2147483647) ∧ t.length ≤ 64 ∧ (∀ i, i < t.length → 1 ≤ t.getD i 0 ∧ t.getD i 0 < vn ∧ t.getD i 0 ≠ vs) ∧ ∀ i, i < t.length → 0 < i → t.getD (i - 1) 0 < t.getD i 0
          exact ⟨⟨a1, by omega⟩, ⟨a3, by omega⟩, by omega, fun j hj => (hx j (by omega)).1, fun j hj h0 => (hx j (by omega)).2 h0⟩
      clear hix
      by_cases k1 : 0 ≤ vs
      · by_cases k2 : vs < 2147483648
        · by_cases k3 : 0 ≤ vn
          · by_cases k4 : vn < 2147483648
            · by_cases k5 : ((len : Nat) : Int) ≤ 64
              · have HQ : Hid (r = true) := by show _ = _; rw [HE.out]; simp [k1, k2, k3, k4, k5]
                clear HE
                go_wp2_with fail
                go_ret
                exact ⟨by rw [HQ.out]; rfl, HA.out⟩
              · have HQ : Hid (r = false) := by show _ = _; rw [HE.out]; simp [k5]
                clear HE
                go_wp2_with fail
                go_ret
                exact ⟨by rw [HQ.out]; rfl, HA.out⟩
            · have HQ : Hid (r = false) := by show _ = _; rw [HE.out]; simp [k4]
              clear HE
              go_wp2_with fail
              go_ret
              exact ⟨by rw [HQ.out]; rfl, HA.out⟩
          · have HQ : Hid (r = false) := by show _ = _; rw [HE.out]; simp [k3]
            clear HE
            go_wp2_with fail
            go_ret
            exact ⟨by rw [HQ.out]; rfl, HA.out⟩
        · have HQ : Hid (r = false) := by show _ = _; rw [HE.out]; simp [k2]
          clear HE
          go_wp2_with fail
          go_ret
          exact ⟨by rw [HQ.out]; rfl, HA.out⟩
      · have HQ : Hid (r = false) := by show _ = _; rw [HE.out]; simp [k1]
        clear HE
        go_wp2_with fail
        go_ret
        exact ⟨by rw [HQ.out]; rfl, HA.out⟩

end Go.Proofs.Ytehmemfeagjagaa
