/-
  The walk of the law on nobody's pools, over what the landed pool says.
-/
import Derived.Test.YtenaonnijpnnaaaPoJ
namespace Go.Proofs.Ytenaonnijpnnaaa
open Go.RowKit
set_option maxRecDepth 100000
set_option linter.unusedVariables false

/-- The cells of a pool that nobody gave. -/
def zeroPo : Array Value := #[.pointer none, .slice none 0 0, .int .i64 0, .map none, .int .i64 0]
/-- A pool that nobody gave: none, or one of noughts. -/
def Nob (w : World) (v : Value) : Prop := v = .pointer none ∨ ∃ q, v = .pointer (some ⟨q, 0, none⟩) ∧ w.heap[q]? = some (.cells zeroPo 54 (0, 0))
theorem Nob.keep {w w' : World} {v : Value} (h : Nob w v) (hb : Below w.heap.size w w') : Nob w' v := by
  rcases h with h | ⟨q, h1, h2⟩
  · exact .inl h
  · exact .inr ⟨q, h1, (hb.block q (Array.getElem?_eq_some_iff.1 h2).1).trans h2⟩
/-- What is said of them. -/
structure PoolN : Prop where
  synced : ∀ (w : World) (v : Value), Nob w v → Calls Try.prog 20 #[v] w fun e w' => e = .returned (.tuple #[]) ∧ Below w.heap.size w w'
  read : ∀ (w : World) (v : Value), Nob w v → Calls Try.prog 15 #[v, .int .i64 0] w fun e w' => e = .returned (.tuple #[.slice none 0 0, .int .i64 3]) ∧ Below w.heap.size w w'
  put : ∀ (w : World) (v x : Value), Nob w v → Calls Try.prog 11 #[v, .int .i64 0, x, .int .i64 0] w fun e w' => e = .returned (.int .i64 3) ∧ Below w.heap.size w w'
  flush : ∀ (w : World) (v : Value), Nob w v → Calls Try.prog 13 #[v] w fun e w' => e = .returned (.int .i64 0) ∧ Below w.heap.size w w'
  evict : ∀ (w : World) (v : Value), Nob w v → Calls Try.prog 14 #[v, .int .i64 0] w fun e w' => e = .returned (.int .i64 3) ∧ Below w.heap.size w w'
  inn : ∀ (w : World) (v : Value), Nob w v → Calls Try.prog 21 #[v] w fun e w' => (∃ a c, e = .returned (.slice a 0 c)) ∧ Below w.heap.size w w'
  dirty : ∀ (w : World) (v : Value), Nob w v → Calls Try.prog 22 #[v] w fun e w' => (∃ a c, e = .returned (.slice a 0 c)) ∧ Below w.heap.size w w'
theorem PoolN.first (S : PoolN) (wr : World) (C : Array Value) (hC : C = zeroPo) : Calls Try.prog 20 #[.pointer (some ⟨wr.heap.size, 0, none⟩)] (wr.alloc (.cells C 54)) fun e w' => e = .returned (.tuple #[]) ∧ Below wr.heap.size wr w' ∧ Nob w' (.pointer (some ⟨wr.heap.size, 0, none⟩)) := by
  subst hC
  have hn : Nob (wr.alloc (.cells zeroPo 54)) (.pointer (some ⟨wr.heap.size, 0, none⟩)) := .inr ⟨_, rfl, heap_alloc_new wr _⟩
  have hA := below_alloc wr (.cells zeroPo 54)
  refine (S.synced _ _ hn).mono ?_
  rintro e w' ⟨r, hb⟩
  exact ⟨r, hA.trans (hb.mono hA.size), hn.keep hb⟩
theorem below_more {w0 w1 w2 : World} (h : Below w0.heap.size w0 w1) (X : Obj) (h2 : Below (w1.alloc X).heap.size (w1.alloc X) w2) : Below w0.heap.size w0 w2 := by
  have hA := below_alloc w1 X
  exact h.trans ((hA.trans (h2.mono hA.size)).mono h.size)

set_option maxHeartbeats 16000000 in
set_option maxRecDepth 100000 in
theorem nobodyP_walk {M : PoM} (S : PoolS M) (Z : PoolN) (w : World) (x : Ac) (b q : Sl) : Calls Try.prog 5 #[.agg (x.cells b q)] w fun e w' => e = .returned (.bool true) ∧ Below w.heap.size w w' := by
  have HAW : Hid (∀ w', Calls Try.prog 10 #[] w' fun e w2 => e = .returned (.bool true) ∧ Below w'.heap.size w' w2) := fun w' => awakeP_any S w'
  have HB0 := hide (below_alloc w (.cells (x.cells b q) 36))
  have HQ0 : Hid (AcBlk (w.alloc (.cells (x.cells b q) 36)) w.heap.size x b q) := heap_alloc_new w _
  have HS := hide S
  have HZ := hide Z
  clear S Z
  unfold Ac.cells at HB0 HQ0
  unfold Ac.cells
  go_enter Try.func5, Try.ntmps5
  go_wp2_with fail
  go_loopw [3] (fun i wr => ∃ j : Nat, j ≤ 2 ∧ i = .int .i64 j ∧ Hid (AcBlk wr w.heap.size x b q) ∧ Hid (Below w.heap.size w wr)) (fun i _ => 2 - (intOf i).toNat)
  case atStart => exact ⟨0, by omega, rfl, HQ0, HB0⟩
  case round =>
    obtain ⟨j, hj, rfl, hQ, hB⟩ := hrel
    have hj3 : j = 0 ∨ j = 1 ∨ j = 2 := by omega
    rcases hj3 with rfl | rfl | rfl
    · go_wp2_with fail
      refine (HZ.out.synced _ _ (.inl rfl)).mono ?_
      rintro e w1 ⟨rfl, hb1⟩
      have N1 : Hid (Nob w1 (.pointer none)) := hide (.inl rfl)
      have Q1 := hide (hQ.out.keep hb1)
      have B1 := hide (hB.out.trans (hb1.mono hB.out.size))
      clear hb1
      go_wp2_with fail
      refine (HZ.out.read _ _ N1.out).mono ?_
      rintro e w2 ⟨rfl, hb2⟩
      have N2 := hide (N1.out.keep hb2)
      have Q2 := hide (Q1.out.keep hb2)
      have B2 := hide (B1.out.trans (hb2.mono B1.out.size))
      clear hb2
      have e2 := Q2.out.c2
      go_wp2_with fail
      refine (HZ.out.put _ _ _ N2.out).mono ?_
      rintro e w3 ⟨rfl, hb3⟩
      have N3 := hide (N2.out.keep hb3)
      have Q3 := hide (Q2.out.keep hb3)
      have B3 := hide (B2.out.trans (hb3.mono B2.out.size))
      clear hb3 e2
      go_wp2_with fail
      refine (HZ.out.flush _ _ N3.out).mono ?_
      rintro e w4 ⟨rfl, hb4⟩
      have N4 := hide (N3.out.keep hb4)
      have Q4 := hide (Q3.out.keep hb4)
      have B4 := hide (B3.out.trans (hb4.mono B3.out.size))
      clear hb4
      go_wp2_with fail
      refine (HZ.out.evict _ _ N4.out).mono ?_
      rintro e w5 ⟨rfl, hb5⟩
      have N5 := hide (N4.out.keep hb5)
      have Q5 := hide (Q4.out.keep hb5)
      have B5 := hide (B4.out.trans (hb5.mono B4.out.size))
      clear hb5
      go_wp2_with fail
      refine (HZ.out.inn _ _ N5.out).mono ?_
      rintro e w6 ⟨⟨a6, c6, rfl⟩, hb6⟩
      have N6 := hide (N5.out.keep hb6)
      have Q6 := hide (Q5.out.keep hb6)
      have B6 := hide (B5.out.trans (hb6.mono B5.out.size))
      clear hb6
      go_wp2_with fail
      refine (HZ.out.dirty _ _ N6.out).mono ?_
      rintro e w7 ⟨⟨a7, c7, rfl⟩, hb7⟩
      have N7 := hide (N6.out.keep hb7)
      have Q7 := hide (Q6.out.keep hb7)
      have B7 := hide (B6.out.trans (hb7.mono B6.out.size))
      clear hb7
      go_wp2_with fail
      go_roundw
      case rel => exact ⟨1, by omega, by go_num, Q7, B7⟩
      case measure => simp only [intOf]; omega
    · go_wp2_with fail
      refine (HZ.out.first wr _ (by kernel_rfl)).mono ?_
      rintro e w1 ⟨rfl, hb1, hn1⟩
      have N1 := hide hn1
      have Q1 := hide (hQ.out.keep hb1)
      have B1 := hide (hB.out.trans (hb1.mono hB.out.size))
      clear hb1 hn1
      go_wp2_with fail
      refine (HZ.out.read _ _ N1.out).mono ?_
      rintro e w2 ⟨rfl, hb2⟩
      have N2 := hide (N1.out.keep hb2)
      have Q2 := hide (Q1.out.keep hb2)
      have B2 := hide (B1.out.trans (hb2.mono B1.out.size))
      clear hb2
      have e2 := Q2.out.c2
      go_wp2_with fail
      refine (HZ.out.put _ _ _ N2.out).mono ?_
      rintro e w3 ⟨rfl, hb3⟩
      have N3 := hide (N2.out.keep hb3)
      have Q3 := hide (Q2.out.keep hb3)
      have B3 := hide (B2.out.trans (hb3.mono B2.out.size))
      clear hb3 e2
      go_wp2_with fail
      refine (HZ.out.flush _ _ N3.out).mono ?_
      rintro e w4 ⟨rfl, hb4⟩
      have N4 := hide (N3.out.keep hb4)
      have Q4 := hide (Q3.out.keep hb4)
      have B4 := hide (B3.out.trans (hb4.mono B3.out.size))
      clear hb4
      go_wp2_with fail
      refine (HZ.out.evict _ _ N4.out).mono ?_
      rintro e w5 ⟨rfl, hb5⟩
      have N5 := hide (N4.out.keep hb5)
      have Q5 := hide (Q4.out.keep hb5)
      have B5 := hide (B4.out.trans (hb5.mono B4.out.size))
      clear hb5
      go_wp2_with fail
      refine (HZ.out.inn _ _ N5.out).mono ?_
      rintro e w6 ⟨⟨a6, c6, rfl⟩, hb6⟩
      have N6 := hide (N5.out.keep hb6)
      have Q6 := hide (Q5.out.keep hb6)
      have B6 := hide (B5.out.trans (hb6.mono B5.out.size))
      clear hb6
      go_wp2_with fail
      refine (HZ.out.dirty _ _ N6.out).mono ?_
      rintro e w7 ⟨⟨a7, c7, rfl⟩, hb7⟩
      have N7 := hide (N6.out.keep hb7)
      have Q7 := hide (Q6.out.keep hb7)
      have B7 := hide (B6.out.trans (hb7.mono B6.out.size))
      clear hb7
      go_wp2_with fail
      go_roundw
      case rel => exact ⟨2, by omega, by go_num, Q7, B7⟩
      case measure => simp only [intOf]; omega
    · have HN := hide (new_any wr 1 (by omega) (by omega))
      unfold at0 at HN
      go_wp2_with fail
      refine HN.out.mono ?_
      rintro e w1 ⟨hb1, d, L1, rfl, hd1, hf1⟩
      have D1 := hide hd1
      have B1 := hide (hB.out.trans (hb1.mono hB.out.size))
      have Q1 := hide (hQ.out.keep hb1)
      clear hb1 hd1 hf1 HN
      go_wp2_with fail
      refine (HS.out.newDead w1 (.pointer none) (.inl rfl)).mono ?_
      rintro e w2 ⟨hb2, rfl⟩
      have D2 := hide (D1.out.keep hb2)
      have B2 := hide (B1.out.trans (hb2.mono B1.out.size))
      have Q2 := hide (Q1.out.keep hb2)
      clear hb2 D1 Q1
      go_wp2_with fail
      refine (HS.out.newDead _ _ (.inr ⟨_, rfl, (Addr.cell0 (heap_alloc_new w2 _)).trans rfl⟩)).mono ?_
      rintro e w3 ⟨hb3, rfl⟩
      have hA3 := (below_alloc w2 _).trans (hb3.mono (below_alloc w2 _).size)
      have D3 := hide (D2.out.keep hA3)
      have B3 := hide (B2.out.trans (hA3.mono B2.out.size))
      have Q3 := hide (Q2.out.keep hA3)
      have c3 := Q3.out.c3
      clear hb3 hA3 D2 Q2
      by_cases hN : 1 ≤ x.n ∧ x.n ≤ 64
      · obtain ⟨f, hf⟩ : ∃ f : Nat, x.n = ((f : Nat) : Int) := ⟨x.n.toNat, by omega⟩
        rw [hf] at c3 hN
        have HNW := hide (HS.out.new w3 d _ L1 1 0 f D3.out (Ds.Easy.new (by omega) (by omega)) (by show (0 : Nat) ≤ _; omega) (by omega) (by omega))
        unfold at0 at HNW
        go_wp2_with fail
        refine HNW.out.mono ?_
        rintro e w4 ⟨hb4, p, X, rfl, _, _⟩
        have B4 := hide (B3.out.trans (hb4.mono B3.out.size))
        have Q4 := hide (Q3.out.keep hb4)
        have c4 := Q4.out.c3
        rw [hf] at c4
        have i1 : (1 : Int) ≤ ((f : Nat) : Int) := by omega
        have i2 : ((f : Nat) : Int) ≤ 64 := by omega
        have hnil2 : ∀ w : World, (binOp .neq 27 (.pointer (some ⟨p, 0, none⟩)) (.pointer none)).run Try.prog w = .ok (.bool true) w := fun _ => rfl
        clear hb4 c3
        go_wp2_with fail
        refine (HAW.out _).mono ?_
        rintro e w5 ⟨rfl, hb5⟩
        have B5 := hide (B4.out.trans (hb5.mono B4.out.size))
        clear hb5
        go_wp2_with fail
        go_ret
        exact ⟨rfl, B5.out⟩
      · have HNW := hide (HS.out.newBad w3 d _ L1 1 0 x.n D3.out (Ds.Easy.new (by omega) (by omega)) (by show (0 : Nat) ≤ _; omega) hN)
        unfold at0 at HNW
        go_wp2_with fail
        refine HNW.out.mono ?_
        rintro e w4 ⟨hb4, rfl⟩
        have B4 := hide (B3.out.trans (hb4.mono B3.out.size))
        have Q4 := hide (Q3.out.keep hb4)
        have c4 := Q4.out.c3
        clear hb4 c3
        by_cases i1 : (1 : Int) ≤ x.n
        · have i2 : decide (x.n ≤ 64) = false := decide_eq_false (fun e => hN ⟨i1, e⟩)
          go_wp2_with fail
          refine (HAW.out _).mono ?_
          rintro e w5 ⟨rfl, hb5⟩
          have B5 := hide (B4.out.trans (hb5.mono B4.out.size))
          clear hb5
          go_wp2_with fail
          go_ret
          exact ⟨rfl, B5.out⟩
        · have i2 : ¬ (1 : Int) ≤ x.n := i1
          go_wp2_with fail
          refine (HAW.out _).mono ?_
          rintro e w5 ⟨rfl, hb5⟩
          have B5 := hide (B4.out.trans (hb5.mono B4.out.size))
          clear hb5
          go_wp2_with fail
          go_ret
          exact ⟨rfl, B5.out⟩

end Go.Proofs.Ytenaonnijpnnaaa
