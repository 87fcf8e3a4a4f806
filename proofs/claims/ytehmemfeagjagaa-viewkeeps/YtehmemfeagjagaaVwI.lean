/-
  The walk of ViewAll.
-/
import Derived.Test.YtehmemfeagjagaaVwH
namespace Go.Proofs.Ytehmemfeagjagaa
open Go.RowKit
set_option maxRecDepth 100000
set_option linter.unusedVariables false

theorem allV_step {l : List Vw} {x : Int} {i : Nat} (h : i < l.length) : allV (l.take (i + 1)) x = (allV (l.take i) x && seesA (l.getD i Vw.zero) x) := by
  unfold allV
  rw [List.take_succ_eq_append_getElem h, List.all_append]
  simp [List.getD, h]
theorem vws_len (L : List Vx) : (vws L).length = L.length := by simp [vws]
theorem vx_le {L : List Vx} (h : ∀ j, j < L.length → (L.getD j Vx.zero).s.len ≤ 200) : ∀ x ∈ L, x.s.len ≤ 200 := by
  intro x hx
  obtain ⟨j, hj, e⟩ := List.mem_iff_getElem.1 hx
  have := h j hj
  rw [← e]
  simpa [List.getD, hj] using this

set_option maxHeartbeats 8000000 in
set_option maxRecDepth 100000 in
theorem all_walk (HS : ViewS) (w : World) (a : Option Addr) (len cap : Nat) (L : List Vx) (h : InV w ⟨a, len, cap⟩ L) (x : Int) :
    Calls Try.prog 6 #[.slice a len cap, .int .i64 x] w fun e w' => e = .returned (.bool true) ∧ Below w.heap.size w w' := by
  have HH := hide HS
  have HA := hide (fun W => awakeV_any HS W)
  have hbig : len ≤ 9223372036854775807 := h.big
  have HI := hide h
  have HL : Hid (L.length = len) := h.len
  have H0 := hide (Below.refl w.heap.size w)
  clear h HS
  go_enter Try.func6, Try.ntmps6
  go_wp2_with fail
  go_loopw [5, 6] (fun av iv wr => ∃ (i : Nat) (b : Bool), i ≤ len ∧ i ≤ 20 ∧ iv = .int .i64 (i : Nat) ∧ av = .bool b ∧ Hid (b = allV ((vws L).take i) x) ∧ Hid (∀ j, j < i → (L.getD j Vx.zero).s.len ≤ 200) ∧ Hid (Below w.heap.size w wr)) (fun _ iv _ => len - (intOf iv).toNat)
  case atStart => exact ⟨0, true, Nat.zero_le _, Nat.zero_le _, rfl, rfl, rfl, fun j hj => absurd hj (Nat.not_lt_zero _), H0⟩
  case round =>
    obtain ⟨i, b, hi, hi20, rfl, rfl, hb, hsm, hbr⟩ := hrel
    clear H0
    by_cases hin : i < len ∧ i < 20
    · obtain ⟨hlt, hl20⟩ := hin
      have i1 : ((i : Nat) : Int) < ((len : Nat) : Int) := by omega
      have i2 : ((i : Nat) : Int) < 20 := by omega
      have hv := HI.out.keep hbr.out
      obtain ⟨bb, oo, ha, c0, c1, c2⟩ := hv.cell i hlt
      replace ha : a = some ⟨bb, oo, none⟩ := ha
      subst ha
      have hit := hv.it _ (vx_mem (L := L) (i := i) (by rw [HL.out]; exact hlt))
      have hat := vws_at L i
      have hst := allV_step (l := vws L) (x := x) (i := i) (by rw [vws_len, HL.out]; exact hlt)
      rw [hat, ← hb.out] at hst
      obtain ⟨y, hy⟩ : ∃ y, y = L.getD i Vx.zero := ⟨_, rfl⟩
      rw [← hy] at c0 c1 c2 hit hst
      have HY := hide hy
      have HIT := hide hit
      have HST := hide hst
      obtain ⟨⟨ys, yn, yt⟩, ⟨ya, yl, yc⟩⟩ := y
      unfold Sl.val at c2
      simp only at c0 c1 c2
      have hyl : yl ≤ 9223372036854775807 := hit.big
      clear hv hat hy hit hst
      by_cases hsl : yl ≤ 200
      · have i3 : ¬ (200 : Int) < ((yl : Nat) : Int) := by omega
        have HS2 : Hid (∀ j, j < i + 1 → (L.getD j Vx.zero).s.len ≤ 200) := by
          intro j hj
          by_cases e : j = i
          · rw [e, ← HY.out]; exact hsl
          · exact hsm.out j (by omega)
        cases b with
        | false =>
          have HB2 : Hid (false = allV ((vws L).take (i + 1)) x) := by show _ = _; rw [HST.out]; rfl
          clear hsm hb
          go_wp2_with fail
          go_roundw
          case rel => exact ⟨i + 1, false, by omega, by omega, by go_num, rfl, HB2, HS2, hbr⟩
          case measure => simp only [intOf]; omega
        | true =>
          have HSE := hide (HH.out.sees wr ⟨ya, yl, yc⟩ ⟨ys, yn, yt⟩ (HIT.out.gi (by show yl ≤ _; omega)) hsl x)
          obtain ⟨q, hq⟩ : ∃ q, q = seesA ⟨ys, yn, yt⟩ x := ⟨_, rfl⟩
          rw [← hq] at HSE
          have HB2 : Hid (q = allV ((vws L).take (i + 1)) x) := by show _ = _; rw [HST.out, hq]; rfl
          unfold vwV Sl.val at HSE
          simp only at HSE
          clear hsm hb hq
          go_wp2_with fail
          refine HSE.out.mono ?_
          rintro e w2 ⟨rfl, hb2⟩
          have HBR := hide (rBelow hbr.out hb2)
          clear hb2 HSE
          go_wp2_with fail
          go_roundw
          case rel => exact ⟨i + 1, q, by omega, by omega, by go_num, rfl, HB2, HS2, HBR⟩
          case measure => simp only [intOf]; omega
      · have i3 : (200 : Int) < ((yl : Nat) : Int) := by omega
        clear hsm hb
        go_wp2_with fail
        refine (HA.out wr).mono ?_
        rintro e w2 ⟨rfl, hb2⟩
        have HB2 := hide (rBelow hbr.out hb2)
        clear hb2
        go_wp2_with fail
        go_ret
        exact ⟨rfl, HB2.out⟩
    · have HN := hide (fun W => HH.out.all W Sl.nil [] (Gv.none W) (by show 0 ≤ 200; omega) (fun y hy => by cases hy) x)
      unfold Sl.nil Sl.val at HN
      simp only at HN
      by_cases hl20 : len ≤ 20
      · have hie : i = len := by omega
        subst hie
        have i1 : ¬ ((i : Nat) : Int) < ((i : Nat) : Int) := by omega
        have i2 : ¬ (20 : Int) < ((i : Nat) : Int) := by omega
        have hle : ∀ y ∈ L, y.s.len ≤ 200 := vx_le (fun j hj => hsm.out j (by rw [HL.out] at hj; exact hj))
        have HAL := hide (HH.out.all wr ⟨a, i, cap⟩ L ((HI.out.keep hbr.out).gv (by show i ≤ _; omega) hle) (by show i ≤ 200; omega) hle x)
        have hbb := hb.out
        rw [List.take_of_length_le (by rw [vws_len, HL.out]; exact Nat.le_refl _)] at hbb
        rw [← hbb] at HAL
        unfold Sl.val at HAL
        simp only at HAL
        clear hle hbb hsm hb hin
        go_wp2_with fail
        refine HAL.out.mono ?_
        rintro e w2 ⟨rfl, hb2⟩
        have HB2 := hide (rBelow hbr.out hb2)
        clear hb2 HAL
        have beq : (b == b) = true := beq_self_eq_true b
        go_wp2_with fail
        refine (HN.out w2).mono ?_
        rintro e w3 ⟨rfl, hb3⟩
        have HB3 := hide (rBelow HB2.out hb3)
        have hnil : allV (vws []) x = true := rfl
        rw [hnil]
        clear hb3 hnil
        go_wp2_with fail
        refine (HA.out w3).mono ?_
        rintro e w4 ⟨rfl, hb4⟩
        have HB4 := hide (rBelow HB3.out hb4)
        clear hb4
        go_wp2_with fail
        go_ret
        exact ⟨rfl, HB4.out⟩
      · have hie : i = 20 := by omega
        subst hie
        have i1 : ((20 : Nat) : Int) < ((len : Nat) : Int) := by omega
        have i2 : (20 : Int) < ((len : Nat) : Int) := by omega
        clear hsm hb hin
        go_wp2_with fail
        refine (HN.out wr).mono ?_
        rintro e w3 ⟨rfl, hb3⟩
        have HB3 := hide (rBelow hbr.out hb3)
        have hnil : allV (vws []) x = true := rfl
        rw [hnil]
        clear hb3 hnil
        go_wp2_with fail
        refine (HA.out w3).mono ?_
        rintro e w4 ⟨rfl, hb4⟩
        have HB4 := hide (rBelow HB3.out hb4)
        clear hb4
        go_wp2_with fail
        go_ret
        exact ⟨rfl, HB4.out⟩

end Go.Proofs.Ytehmemfeagjagaa
