/-
  The law of which row any bytes are: its walk.
-/
import Derived.Test.YtgckcalkdojeeaaRowR
namespace Go.Proofs.Ytgckcalkdojeeaa
open Go.RowKit

theorem ref_any (a : Option Addr) (len cap : Nat) (xs : List Nat) (w : World) (h : Came w a len cap xs) (hl : len ≤ 100000) : Calls Try.prog 15 #[.slice a len cap] w (RefTold xs w) := by
  rcases Nat.lt_or_ge len 20 with h1 | h1
  · exact refDecode_short a len cap xs w h h1
  · rcases Nat.lt_or_ge 4 (xs.getD 19 0) with h2 | h2
    · exact refDecode_many a len cap xs w h h1 h2
    · exact refDecode_any a len cap xs w h h1 h2 hl

set_option maxHeartbeats 2000000 in
theorem rowDecodes_far (a : Option Addr) (len cap : Nat) (w : World) (h1 : len ≤ 9223372036854775807) (hd : 1000 < len) :
    Calls Try.prog 4 #[.slice a len cap] w fun e w' => e = .returned (.bool true) ∧ Below w.heap.size w w' := by
  have HA := hide (awake_any w)
  have i1 : (1000 : Int) < (len : Int) := by omega
  go_enter Try.func4, Try.ntmps4
  go_wp2_with fail
  refine HA.out.mono ?_
  rintro e w' ⟨rfl, hb⟩
  go_wp2_with fail
  go_ret
  exact ⟨rfl, hb⟩

set_option maxHeartbeats 4000000 in
set_option maxRecDepth 100000 in
theorem rowDecodes_walk (a0 : Option Addr) (len0 cap0 : Nat) (xs : List Nat) (w : World) (hc : Came w a0 len0 cap0 xs) (h1 : len0 ≤ 1000) :
    Calls Try.prog 4 #[.slice a0 len0 cap0] w fun e w' => e = .returned (.bool true) ∧ Below w.heap.size w w' := by
  have hsf : ∀ (w : World) (a : Addr) (m : Mode) (x : Nat), (store a (.float .f64 x) m).run Try.prog w = stored Try.prog w a (.float .f64 x) m := fun w a m x => run_store Try.prog w a _ m rfl
  have HO := hide (own_new w)
  have HW := hide (below_alloc w (.cells #[] 5))
  have HB := hide (hc.bs.keep (below_alloc w (.cells #[] 5)) (Nat.le_refl _))
  have HC := hide hc
  have HX : Hid (Bytes xs) := hc.bs.2.1
  have HXL : Hid (xs.length = len0) := hc.bs.1
  have HN : Hid (a0 = none → cap0 = 0) := hc.nil
  have HLL : Hid (([] : List Nat).length + len0 ≤ 1000000) := by show _ ≤ _; simp; omega
  have HZS := hide zero_same
  have HAW := hide awake_any
  have i1 : ¬ (1000 : Int) < (len0 : Int) := by omega
  unfold zeroV at HZS
  clear hc
  go_enter Try.func4, Try.ntmps4
  go_wp2_with (at_builtin; refine wpList_append_bytes _ rfl (.tmp 12) (.tmp 13) rfl w.heap.size _ [] rfl HO.out _ _ _ xs rfl HB.out HN.out HLL.out HW.out.size ?_)
  intro v1 w1 ho1 hb1
  have ho1' : Owns w1 w.heap.size v1 xs := ho1
  obtain ⟨pa, pc, rfl, hcm⟩ := ho1'.cameN HX.out HXL.out (by omega)
  have HW1 := hide (HW.out.trans hb1)
  have HD := hide (decode_any pa len0 pc xs w1 hcm (by omega))
  clear ho1 ho1' hb1 hcm HO HB
  go_wp2_with fail
  refine HD.out.mono ?_
  rintro e w2 ⟨hb2, hno, hyes⟩
  have HW2 := hide (rBelow HW1.out hb2)
  cases hdec : decB xs with
  | none =>
    obtain rfl := hno hdec
    unfold zeroV
    obtain ⟨w3, hw3⟩ : ∃ w3, w3 = w2.alloc (.cells #[.float .f64 0, .bool false, .slice none 0 0, .int .i64 0, .int .i64 0, .int .i64 0] 27) := ⟨_, rfl⟩
    have hb3 : Below w2.heap.size w2 w3 := by rw [hw3]; exact below_alloc _ _
    have hx3 : RwBlk w3 w2.heap.size zeroR (.slice none 0 0) := by rw [hw3]; exact rwBlk_new w2 zeroR _
    have HW3 := hide (rBelow HW2.out hb3)
    have HX3 := hide hx3
    have HR := hide (ref_any a0 len0 cap0 xs w3 (HC.out.keep HW3.out (Nat.le_refl _)) (by omega))
    rw [hw3] at HR
    have HE3 := hide hw3
    have HDec := hide hdec
    clear hb2 hno hyes hb3 hx3 hw3 HD hdec
    go_wp2_with fail
    refine HR.out.mono ?_
    rw [← HE3.out]
    rintro e w4 ⟨hb4, hno4, _⟩
    obtain rfl := hno4 HDec.out
    unfold zeroV
    obtain ⟨w5, hw5⟩ : ∃ w5, w5 = w4.alloc (.cells #[.float .f64 0, .bool false, .slice none 0 0, .int .i64 0, .int .i64 0, .int .i64 0] 27) := ⟨_, rfl⟩
    have hb5 : Below w4.heap.size w4 w5 := by rw [hw5]; exact below_alloc _ _
    have HW5 := hide (rBelow (rBelow HW3.out hb4) hb5)
    have HX5 := hide ((HX3.out.keep hb4).keep hb5)
    have x0 := HX5.out.c0
    have x1 := HX5.out.c1
    have x2 := HX5.out.c2
    have x3 := HX5.out.c3
    have x4 := HX5.out.c4
    have x5 := HX5.out.c5
    simp only [zeroR] at x0 x1 x3 x4 x5
    rw [hw5] at x0 x1 x2 x3 x4 x5
    have HZw := hide (HZS.out w5)
    rw [hw5] at HZw
    have HE5 := hide hw5
    clear hb4 hno4 hb5 hw5 HR
    go_wp2_with fail
    refine HZw.out.mono ?_
    rw [← HE5.out]
    rintro e w6 ⟨rfl, hb6⟩
    have HW6 := hide (rBelow HW5.out hb6)
    clear hb6 x0 x1 x2 x3 x4 x5
    go_wp2_with fail
    refine (HAW.out _).mono ?_
    rintro e w7 ⟨rfl, hb7⟩
    have HW7 := hide (rBelow HW6.out hb7)
    clear hb7
    go_wp2_with fail
    go_ret
    exact ⟨by simp, HW7.out⟩
  | some R =>
    obtain ⟨_, ra, rl, rc, rfl, hfr⟩ := hyes R hdec
    obtain ⟨w3, hw3⟩ : ∃ w3, w3 = w2.alloc (.cells #[.float .f64 R.key, .bool R.dead, .slice ra rl rc, .int .i64 R.wr, .int .i64 R.cell, .int .i64 R.no] 27) := ⟨_, rfl⟩
    have hb3 : Below w2.heap.size w2 w3 := by rw [hw3]; exact below_alloc _ _
    have hx3 : RwBlk w3 w2.heap.size R (.slice ra rl rc) := by rw [hw3]; exact rwBlk_new w2 R _
    have HW3 := hide (rBelow HW2.out hb3)
    have HX3 := hide hx3
    have HF3 := hide (hfr.keep hb3 (Nat.le_refl _))
    have HR := hide (ref_any a0 len0 cap0 xs w3 (HC.out.keep HW3.out (Nat.le_refl _)) (by omega))
    rw [hw3] at HR
    have HE3 := hide hw3
    have HDec := hide hdec
    unfold Rw.val
    clear hb2 hno hyes hb3 hx3 hw3 hfr HD hdec
    go_wp2_with fail
    refine HR.out.mono ?_
    rw [← HE3.out]
    rintro e w4 ⟨hb4, _, hyes4⟩
    obtain ⟨_, qa, ql, qc, rfl, hfq⟩ := hyes4 R HDec.out
    unfold Rw.val
    obtain ⟨w5, hw5⟩ : ∃ w5, w5 = w4.alloc (.cells #[.float .f64 R.key, .bool R.dead, .slice qa ql qc, .int .i64 R.wr, .int .i64 R.cell, .int .i64 R.no] 27) := ⟨_, rfl⟩
    have hb5 : Below w4.heap.size w4 w5 := by rw [hw5]; exact below_alloc _ _
    have HW5 := hide (rBelow (rBelow HW3.out hb4) hb5)
    have HX5 := hide ((HX3.out.keep hb4).keep hb5)
    have HS := hide (refSelf_any R ra rl rc qa ql qc w5 ((HF3.out.keep hb4 (Nat.le_refl _)).keep hb5 (Nat.le_refl _)) (hfq.keep hb5 (Nat.le_refl _)))
    have x0 := HX5.out.c0
    have x1 := HX5.out.c1
    have x2 := HX5.out.c2
    have x3 := HX5.out.c3
    have x4 := HX5.out.c4
    have x5 := HX5.out.c5
    rw [hw5] at x0 x1 x2 x3 x4 x5 HS
    unfold Rw.val at HS
    have HE5 := hide hw5
    clear hb4 hyes4 hb5 hw5 hfq HR
    go_wp2_with fail
    refine HS.out.mono ?_
    rw [← HE5.out]
    rintro e w6 ⟨rfl, hb6⟩
    have HW6 := hide (rBelow HW5.out hb6)
    clear hb6 x0 x1 x2 x3 x4 x5
    go_wp2_with fail
    refine (HAW.out _).mono ?_
    rintro e w7 ⟨rfl, hb7⟩
    have HW7 := hide (rBelow HW6.out hb7)
    clear hb7
    go_wp2_with fail
    go_ret
    exact ⟨by simp, HW7.out⟩

end Go.Proofs.Ytgckcalkdojeeaa
