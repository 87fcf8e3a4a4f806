/-
  The laws' own: Light, awake.
-/
import Derived.Test.YtpdkeghmpnanpaaUdJ
namespace Go.Proofs.Ytpdkeghmpnanpaa
open Go.RowKit

section
variable {ops : Array Oper} {rest : List Oper} {o : Oper} {a : Act} {Q : Exit → Act → World → Prop}
theorem wpList_make (w : World) (hgd : o.guard = none) (t : TypeId) (x y : Operand) (ho : o.op = .makeSlice t x y) (u u' v : Value) (hu : a.eval x = u) (hu' : a.eval y = u') (w' : World) (hrun : (Instr.makeSlice t u u').run Try.prog w = .ok v w') (hK : wpList Try.prog ops Q rest (a.put o.dst v) w') : wpList Try.prog ops Q (o :: rest) a w := by
  refine wpList_val w hgd v w' ?_ hK
  have e : execOp a.eval o = (do pure (.value (← Instr.makeSlice t (a.eval x) (a.eval y)))) := by
    unfold execOp
    rw [ho]
  rw [e, hu, hu']
  simp [hrun]
end

/-- What Light tells. -/
def LitP (n : Nat) (w : World) (e : Ending) (w' : World) : Prop := ∃ b, e = .returned (.bool b) ∧ (b = true → n ≤ 30) ∧ w' = w

set_option maxHeartbeats 4000000 in
set_option maxRecDepth 100000 in
theorem light_any (a : Option Addr) (n cap : Nat) (l : List Ux) (w : World) (h : Us w a n l) (hbig : n ≤ 9223372036854775807) :
    Calls Try.prog 7 #[.slice a n cap] w fun e w' => LitP n w e w' := by
  have HE := hide h
  clear h
  go_enter Try.func7, Try.ntmps7
  go_wp2_with fail
  go_loopw [3] (fun iv wr => ∃ i : Nat, i ≤ 30 ∧ i ≤ n ∧ iv = .int .i64 (i : Nat) ∧ wr = w) (fun iv _ => 30 - (intOf iv).toNat)
  case atStart => exact ⟨0, by omega, by omega, rfl, rfl⟩
  case round =>
    obtain ⟨i, hi, hin, rfl, rfl⟩ := hrel
    rcases Nat.lt_or_ge i n with hlt | hge
    · have i1 : ((i : Nat) : Int) < ((n : Nat) : Int) := by omega
      rcases Nat.lt_or_ge i 30 with hl3 | hg3
      · have i2 : ((i : Nat) : Int) < 30 := by omega
        obtain ⟨b1, off, rfl, hat⟩ := HE.out.at' i hlt
        generalize l.getD i Ux.zero = y at *
        have x8 := hat.c8
        clear hat
        by_cases hc : 20 < y.n
        · have i3 : (20 : Int) < ((y.n : Nat) : Int) := by omega
          go_wp2_with fail
          go_ret
          exact ⟨_, rfl, (fun e => by cases e), rfl⟩
        · have i3 : ¬ (20 : Int) < ((y.n : Nat) : Int) := by omega
          go_wp2_with fail
          go_roundw
          case rel => exact ⟨i + 1, by omega, by omega, by go_num, trivial⟩
          case measure => simp only [intOf]; omega
      · have i2 : ¬ ((i : Nat) : Int) < 30 := by omega
        by_cases h30 : n ≤ 30
        · have i3 : ((n : Nat) : Int) ≤ 30 := by omega
          go_wp2_with fail
          go_ret
          exact ⟨_, rfl, (fun _ => h30), rfl⟩
        · have i3 : ¬ ((n : Nat) : Int) ≤ 30 := by omega
          go_wp2_with fail
          go_ret
          exact ⟨_, rfl, (fun e => by cases e), rfl⟩
    · have i1 : ¬ ((i : Nat) : Int) < ((n : Nat) : Int) := by omega
      have h30 : n ≤ 30 := by omega
      have i3 : ((n : Nat) : Int) ≤ 30 := by omega
      go_wp2_with fail
      go_ret
      exact ⟨_, rfl, (fun _ => h30), rfl⟩

/-- The undoing of awake. -/
def uAw : Un := ⟨1, 5, 0, 1, 0, 0, zeroR⟩
def xAw : Ux := ⟨uAw, none, 0, 0⟩
def sixZ : List Un := List.replicate 6 zeroU
def sixA : List Un := sixZ.set 0 uAw
theorem six_uns : uns (List.replicate 6 Ux.zero) = sixZ := rfl
theorem uAw_fits : uAw.fits := ⟨by decide, by decide, by decide, by decide, by decide, by decide, zeroR_fits⟩
theorem six_may : MayU sixZ = true := by decide
theorem sixA_may : MayU sixA = true := by decide
theorem six_put : putU sixZ uAw = ⟨sixA, 1, 0⟩ := rfl
theorem sixA_get : (getU sixA 1 5).2 = true := by decide
theorem sixA_drop : dropU sixA 1 = (sixZ, 0) := rfl
theorem six_get : (getU sixZ 1 5).2 = false := by decide
theorem six_range {L : List Un} (h : L.length = 6) {n : Nat} (e : L.length = n) : n ≤ 1000000 := by omega

set_option maxHeartbeats 4000000 in
set_option maxRecDepth 100000 in
theorem awake_any (w : World) : Calls Try.prog 8 #[] w fun e w' => e = .returned (.bool true) ∧ Below w.heap.size w w' := by
  have HMk := hide (make_six w)
  have hu0 := Ud.six w w (Below.refl _ _)
  generalize w.alloc (.cells (cellsU (List.replicate 6 Ux.zero)).toArray 30) = W0 at *
  have HPU := hide (putL_ok _ _ 6 _ W0 hu0.us (by show 6 ≤ 1000000; decide) xAw (fs_nil _) uAw_fits (by rw [six_uns]; exact six_may))
  rw [six_uns, show xAw.u = uAw from rfl, six_put] at HPU
  simp only at HPU
  have HW0 := hide hu0.below
  clear hu0
  go_enter Try.func8, Try.ntmps8
  go_wp2_with (refine wpList_make _ rfl 22 (.const (.int .i64 6)) (.const (.int .i64 6)) rfl (.int .i64 6) (.int .i64 6) (.slice (some ⟨w.heap.size, 0, none⟩) 6 6) rfl rfl W0 HMk.out ?_)
  refine HPU.out.mono ?_
  rintro e w1 ⟨⟨sa, sl, sc⟩, rfl, hrow1, hb1⟩
  obtain ⟨l1, hus1, hl1⟩ := hrow1.row
  have hn1 : sl ≤ 1000000 := by have h1 := hus1.len; rw [← uns_len, hl1] at h1; simp only at h1; rw [← h1]; decide
  have HG1 := hide (getL_any sa sl sc l1 w1 hus1 hn1 1 5)
  rw [hl1, if_pos sixA_may, sixA_get] at HG1
  have HU1 := hide hus1
  have HL1 := hide hl1
  have HW1 := hide (rBelow HW0.out hb1)
  clear hus1 hl1 hb1 HPU HMk HW0
  simp only [Sl.val]
  go_wp2_with fail
  refine HG1.out.mono ?_
  rintro e w2 ⟨x2, rfl, _, _, hb2⟩
  obtain ⟨W3, hst3, _, hb3⟩ := box_un w2 x2
  have HST := hide hst3
  have HW3 := hide (rBelow HW1.out (rBelow hb2 hb3))
  have HD := hide (dropL_ok sa sl sc l1 W3 ((HU1.out.keep hb2 (Nat.le_refl _)).keep hb3 (Nat.le_refl _)) hn1 1 (by rw [HL1.out]; exact sixA_may))
  rw [HL1.out, sixA_drop] at HD
  simp only at HD
  clear hb2 hst3 hb3 HG1
  go_wp2_with (refine wpList_store _ rfl rfl 30 (.tmp 4) (.tmp 21) rfl (.pointer (some ⟨w2.heap.size, 0, none⟩)) x2.val rfl rfl W3 HST.out ?_)
  refine HD.out.mono ?_
  rintro e w4 ⟨⟨ta, tl, tc⟩, rfl, hrow4, hb4⟩
  obtain ⟨l4, hus4, hl4⟩ := hrow4.row
  have hn4 : tl ≤ 1000000 := by have h1 := hus4.len; rw [← uns_len, hl4] at h1; simp only at h1; rw [← h1]; decide
  have HG4 := hide (getL_any ta tl tc l4 w4 hus4 hn4 1 5)
  rw [hl4, if_pos six_may, six_get] at HG4
  have HW4 := hide (rBelow HW3.out hb4)
  clear hus4 hl4 hb4 HD HST
  simp only [Sl.val]
  go_wp2_with fail
  refine HG4.out.mono ?_
  rintro e w5 ⟨x5, rfl, _, _, hb5⟩
  obtain ⟨W6, hst6, _, hb6⟩ := box_un w5 x5
  have HST := hide hst6
  have HW6 := hide (rBelow HW4.out (rBelow hb5 hb6))
  clear hb5 hst6 hb6 HG4
  go_wp2_with (refine wpList_store _ rfl rfl 30 (.tmp 7) (.tmp 34) rfl (.pointer (some ⟨w5.heap.size, 0, none⟩)) x5.val rfl rfl W6 HST.out ?_)
  go_ret
  exact ⟨rfl, HW6.out⟩

end Go.Proofs.Ytpdkeghmpnanpaa
