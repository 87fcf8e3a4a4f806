/-
  The law of which undoing any bytes are: its walk.
-/
import Derived.Test.YtgjpeeicgkkkbaaUrG
namespace Go.Proofs.Ytgjpeeicgkkkbaa
open Go.RowKit

set_option maxHeartbeats 2000000 in
theorem decodesU_far (a : Option Addr) (len cap : Nat) (w : World) (h1 : len ≤ 9223372036854775807) (hd : 1000 < len) :
    Calls Try.prog 4 #[.slice a len cap] w fun e w' => e = .returned (.bool true) ∧ Below w.heap.size w w' := by
  have HA := hide (awakeU_any w)
  have i1 : (1000 : Int) < (len : Int) := by omega
  go_enter Try.func4, Try.ntmps4
  go_wp2_with fail
  refine HA.out.mono ?_
  rintro e w' ⟨rfl, hb⟩
  go_wp2_with fail
  go_ret
  exact ⟨rfl, hb⟩

theorem zeroSame (w : World) : Calls Try.prog 13 #[zeroU.val (.slice none 0 0), .agg #[.int .i64 0, .int .i64 0, .int .i64 0, .int .i64 0, .int .i64 0, .int .i64 0, .float .f64 0, .bool false, .slice none 0 0, .int .i64 0, .int .i64 0, .int .i64 0]] w fun e w' => e = .returned (.bool true) ∧ Below w.heap.size w w' :=
  refUnSelf_any zeroU none 0 0 none 0 0 w (fs_nil w) (fs_nil w)

set_option maxHeartbeats 4000000 in
set_option maxRecDepth 100000 in
theorem decodesU_walk (a0 : Option Addr) (len0 cap0 : Nat) (xs : List Nat) (w : World) (hc : Came w a0 len0 cap0 xs) (h1 : len0 ≤ 1000) :
    Calls Try.prog 4 #[.slice a0 len0 cap0] w fun e w' => e = .returned (.bool true) ∧ Below w.heap.size w w' := by
  have HO := hide (own_new w)
  have HW := hide (below_alloc w (.cells #[] 5))
  have HB := hide (hc.bs.keep (below_alloc w (.cells #[] 5)) (Nat.le_refl _))
  have HC := hide hc
  have HX : Hid (Bytes xs) := hc.bs.2.1
  have HXL : Hid (xs.length = len0) := hc.bs.1
  have HN : Hid (a0 = none → cap0 = 0) := hc.nil
  have HLL : Hid (([] : List Nat).length + len0 ≤ 1000000) := by show _ ≤ _; simp; omega
  have HAW := hide awakeU_any
  have HZS := hide zeroSame
  have i1 : ¬ (1000 : Int) < (len0 : Int) := by omega
  clear hc
  go_enter Try.func4, Try.ntmps4
  go_wp2_with (at_builtin; refine wpList_append_bytes _ rfl (.tmp 12) (.tmp 13) rfl w.heap.size _ [] rfl HO.out _ _ _ xs rfl HB.out HN.out HLL.out HW.out.size ?_)
  intro v1 w1 ho1 hb1
  have ho1' : Owns w1 w.heap.size v1 xs := ho1
  obtain ⟨pa, pc, rfl, hcm⟩ := ho1'.cameN HX.out HXL.out (by omega)
  have HW1 := hide (HW.out.trans hb1)
  have HD := hide (decodeU_any pa len0 pc xs w1 hcm (by omega))
  clear ho1 ho1' hb1 hcm HO HB
  go_wp2_with fail
  refine HD.out.mono ?_
  rintro e w2 ⟨hb2, hno, hyes⟩
  have HW2 := hide (rBelow HW1.out hb2)
  cases hdec : decU xs with
  | none =>
    obtain rfl := hno hdec
    obtain ⟨w3, hst3, hx3, hb3⟩ := box_un w2 zeroU none 0 0
    have HST3 := hide hst3
    have HW3 := hide (rBelow HW2.out hb3)
    have HX3 := hide hx3
    have HR := hide (refDecodeU_any a0 len0 cap0 xs w3 (HC.out.keep HW3.out (Nat.le_refl _)) (by omega))
    have HDec := hide hdec
    clear hb2 hno hyes hb3 hx3 hst3 HD hdec
    go_wp2_with (first | refine wpList_alloc _ rfl 29 rfl (.pointer (some ⟨w2.heap.size, 0, none⟩)) (w2.alloc (.cells #[.int .i64 0, .int .i64 0, .int .i64 0, .int .i64 0, .int .i64 0, .int .i64 0, .float .f64 0, .bool false, .slice none 0 0, .int .i64 0, .int .i64 0, .int .i64 0] 29)) (alloc_un w2) ?_ | refine wpList_store _ rfl rfl 29 (.tmp 3) (.tmp 16) rfl (.pointer (some ⟨w2.heap.size, 0, none⟩)) (zeroU.val (.slice none 0 0)) rfl rfl w3 HST3.out ?_)
    refine HR.out.mono ?_
    rintro e w4 ⟨hb4, hno4, _⟩
    obtain rfl := hno4 HDec.out
    obtain ⟨w5, hst5, hx5, hb5⟩ := box_un w4 zeroU none 0 0
    have HST5 := hide hst5
    have HW5 := hide (rBelow (rBelow HW3.out hb4) hb5)
    have HX5 := hide ((HX3.out.keep hb4).keep hb5)
    have x0 := HX5.out.c0
    have x1 := HX5.out.c1
    have x2 := HX5.out.c2
    have x3 := HX5.out.c3
    have x4 := HX5.out.c4
    have x5 := HX5.out.c5
    have x6 := HX5.out.c6
    have x7 := HX5.out.c7
    have x8 := HX5.out.c8
    have x9 := HX5.out.c9
    have x10 := HX5.out.c10
    have x11 := HX5.out.c11
    unfold zeroU zeroR at x0 x1 x2 x3 x4 x5 x6 x7 x9 x10 x11
    simp only at x0 x1 x2 x3 x4 x5 x6 x7 x9 x10 x11
    have HZw := hide (HZS.out w5)
    unfold Un.val zeroU zeroR at HZw
    simp only at HZw
    generalize zeroU.val (.slice none 0 0) = zv at *
    clear hb4 hno4 hb5 hx5 hst5 HR
    go_wp2_with (first | refine wpList_alloc _ rfl 29 rfl (.pointer (some ⟨w4.heap.size, 0, none⟩)) (w4.alloc (.cells #[.int .i64 0, .int .i64 0, .int .i64 0, .int .i64 0, .int .i64 0, .int .i64 0, .float .f64 0, .bool false, .slice none 0 0, .int .i64 0, .int .i64 0, .int .i64 0] 29)) (alloc_un w4) ?_ | refine wpList_store _ rfl rfl 29 (.tmp 5) (.tmp 21) rfl (.pointer (some ⟨w4.heap.size, 0, none⟩)) (zv) rfl rfl w5 HST5.out ?_)
    refine HZw.out.mono ?_
    rintro e w6 ⟨rfl, hb6⟩
    have HW6 := hide (rBelow HW5.out hb6)
    clear hb6 x0 x1 x2 x3 x4 x5 x6 x7 x8 x9 x10 x11
    go_wp2_with fail
    refine (HAW.out _).mono ?_
    rintro e w7 ⟨rfl, hb7⟩
    have HW7 := hide (rBelow HW6.out hb7)
    clear hb7
    go_wp2_with fail
    go_ret
    exact ⟨by simp, HW7.out⟩
  | some R =>
    obtain ⟨_, ra, rl, rc, rfl, hfr, _⟩ := hyes R hdec
    obtain ⟨w3, hst3, hx3, hb3⟩ := box_un w2 R ra rl rc
    have HST3 := hide hst3
    have HW3 := hide (rBelow HW2.out hb3)
    have HX3 := hide hx3
    have HF3 := hide (hfr.keep hb3 (Nat.le_refl _))
    have HR := hide (refDecodeU_any a0 len0 cap0 xs w3 (HC.out.keep HW3.out (Nat.le_refl _)) (by omega))
    have HDec := hide hdec
    clear hb2 hno hyes hb3 hx3 hst3 hfr HD hdec
    go_wp2_with (first | refine wpList_alloc _ rfl 29 rfl (.pointer (some ⟨w2.heap.size, 0, none⟩)) (w2.alloc (.cells #[.int .i64 0, .int .i64 0, .int .i64 0, .int .i64 0, .int .i64 0, .int .i64 0, .float .f64 0, .bool false, .slice none 0 0, .int .i64 0, .int .i64 0, .int .i64 0] 29)) (alloc_un w2) ?_ | refine wpList_store _ rfl rfl 29 (.tmp 3) (.tmp 16) rfl (.pointer (some ⟨w2.heap.size, 0, none⟩)) (R.val (.slice ra rl rc)) rfl rfl w3 HST3.out ?_)
    refine HR.out.mono ?_
    rintro e w4 ⟨hb4, _, hyes4⟩
    obtain ⟨_, qa, ql, qc, rfl, hfq, _⟩ := hyes4 R HDec.out
    obtain ⟨w5, hst5, hx5, hb5⟩ := box_un w4 R qa ql qc
    have HST5 := hide hst5
    have HW5 := hide (rBelow (rBelow HW3.out hb4) hb5)
    have HX5 := hide ((HX3.out.keep hb4).keep hb5)
    have HS := hide (refUnSelf_any R ra rl rc qa ql qc w5 ((HF3.out.keep hb4 (Nat.le_refl _)).keep hb5 (Nat.le_refl _)) (hfq.keep hb5 (Nat.le_refl _)))
    have HY5 := hide hx5
    have x0 := HX5.out.c0
    have y0 := HY5.out.c0
    have x1 := HX5.out.c1
    have y1 := HY5.out.c1
    have x2 := HX5.out.c2
    have y2 := HY5.out.c2
    have x3 := HX5.out.c3
    have y3 := HY5.out.c3
    have x4 := HX5.out.c4
    have y4 := HY5.out.c4
    have x5 := HX5.out.c5
    have y5 := HY5.out.c5
    have x6 := HX5.out.c6
    have y6 := HY5.out.c6
    have x7 := HX5.out.c7
    have y7 := HY5.out.c7
    have x8 := HX5.out.c8
    have y8 := HY5.out.c8
    have x9 := HX5.out.c9
    have y9 := HY5.out.c9
    have x10 := HX5.out.c10
    have y10 := HY5.out.c10
    have x11 := HX5.out.c11
    have y11 := HY5.out.c11
    unfold Un.val at HS
    clear hb4 hyes4 hb5 hx5 hst5 hfq HR
    go_wp2_with (first | refine wpList_alloc _ rfl 29 rfl (.pointer (some ⟨w4.heap.size, 0, none⟩)) (w4.alloc (.cells #[.int .i64 0, .int .i64 0, .int .i64 0, .int .i64 0, .int .i64 0, .int .i64 0, .float .f64 0, .bool false, .slice none 0 0, .int .i64 0, .int .i64 0, .int .i64 0] 29)) (alloc_un w4) ?_ | refine wpList_store _ rfl rfl 29 (.tmp 5) (.tmp 21) rfl (.pointer (some ⟨w4.heap.size, 0, none⟩)) (R.val (.slice qa ql qc)) rfl rfl w5 HST5.out ?_)
    refine HS.out.mono ?_
    rintro e w6 ⟨rfl, hb6⟩
    have HW6 := hide (rBelow HW5.out hb6)
    clear hb6 x0 y0 x1 y1 x2 y2 x3 y3 x4 y4 x5 y5 x6 y6 x7 y7 x8 y8 x9 y9 x10 y10 x11 y11
    go_wp2_with fail
    refine (HAW.out _).mono ?_
    rintro e w7 ⟨rfl, hb7⟩
    have HW7 := hide (rBelow HW6.out hb7)
    clear hb7
    go_wp2_with fail
    go_ret
    exact ⟨by simp, HW7.out⟩

end Go.Proofs.Ytgjpeeicgkkkbaa
