/-
  The laws of any bytes and of pages of tables, over what the functions say.
-/
import Derived.Test.YtdbgbldmjgonjaaTbO
namespace Go.Proofs.Ytdbgbldmjgonjaa
open Go.RowKit
set_option linter.unusedVariables false

theorem Owns.cameT {w : World} {base : Nat} {v : Value} {xs : List Nat} (h : Owns w base v xs) (hx : Bytes xs) {n : Nat} (hn : xs.length = n) (hl : n ≤ 1000000) : ∃ a cap, v = .slice a n cap ∧ Came w a n cap xs := by
  rcases h.2 with ⟨hv, h0⟩ | ⟨g, cap, cur, hv, hbg, hg, hle, hr⟩
  · subst hn
    exact ⟨none, 0, by rw [h0]; exact hv, ⟨rfl, hx, fun i hi => by omega⟩, fun _ => rfl, by omega, by omega⟩
  · subst hn
    rw [hv] at h
    exact ⟨some ⟨g, 0, none⟩, cap, hv, (h.row hx).2, (fun e => by cases e), hle, by omega⟩

set_option maxHeartbeats 4000000 in
set_option maxRecDepth 100000 in
theorem decodesT_far (HA : AwakeT) (a0 : Option Addr) (len0 cap0 : Nat) (w : World) (hb : len0 ≤ 9223372036854775807) (hl : 2000 < len0) :
    Calls Try.prog 4 #[.slice a0 len0 cap0] w fun e w' => e = .returned (.bool true) ∧ Below w.heap.size w w' := by
  have HAW := hide HA
  have i1 : (2000 : Int) < (len0 : Int) := by omega
  clear HA
  go_enter Try.func4, Try.ntmps4
  go_wp2_with fail
  refine (HAW.out _).mono ?_
  rintro e w1 ⟨rfl, hb1⟩
  have HB1 := hide hb1
  clear hb1
  go_wp2_with fail
  go_ret
  exact ⟨by simp, HB1.out⟩

set_option maxHeartbeats 4000000 in
set_option maxRecDepth 100000 in
theorem decodesT_walk (HF : FirstTS) (HDec : DecTS) (HA : AwakeT) (a0 : Option Addr) (len0 cap0 : Nat) (xs : List Nat) (w : World) (hc : Came w a0 len0 cap0 xs) (hl : len0 ≤ 2000) :
    Calls Try.prog 4 #[.slice a0 len0 cap0] w fun e w' => e = .returned (.bool true) ∧ Below w.heap.size w w' := by
  have HO := hide (own_new w)
  have HW := hide (below_alloc w (.cells #[] 5))
  have HB := hide (hc.bs.keep (below_alloc w (.cells #[] 5)) (Nat.le_refl _))
  have HC := hide hc
  have HX : Hid (Bytes xs) := hc.bs.2.1
  have HXL : Hid (xs.length = len0) := hc.bs.1
  have HN : Hid (a0 = none → cap0 = 0) := hc.nil
  have HLL : Hid (([] : List Nat).length + len0 ≤ 1000000) := by show _ ≤ _; simp; omega
  have HAW := hide HA
  have HDC := hide HDec
  have HFR := hide HF
  have i1 : ¬ (2000 : Int) < (len0 : Int) := by omega
  clear hc HA HDec HF
  go_enter Try.func4, Try.ntmps4
  go_wp2_with (at_builtin; refine wpList_append_bytes _ rfl (.tmp 12) (.tmp 13) rfl w.heap.size _ [] rfl HO.out _ _ _ xs rfl HB.out HN.out HLL.out HW.out.size ?_)
  intro v1 w1 ho1 hb1
  have ho1' : Owns w1 w.heap.size v1 xs := ho1
  obtain ⟨pa, pc, rfl, hcm⟩ := ho1'.cameT HX.out HXL.out (by omega)
  have HW1 := hide (HW.out.trans hb1)
  have HD := HDC.out pa len0 pc xs w1 hcm (by omega)
  have HR : Hid (∀ w', Came w' a0 len0 cap0 xs → Calls Try.prog 18 #[.slice a0 len0 cap0] w' (TbTold (decT xs).1 w' (fun x => .tuple #[x, .int .i64 (decT xs).2]))) := fun w' h => rdecT_any a0 len0 cap0 xs w' h (by omega)
  clear ho1 ho1' hb1 hcm HO HB
  generalize (decT xs).1 = td at *
  generalize (decT xs).2 = cd at *
  have HD := hide HD
  go_wp2_with fail
  refine HD.out.mono ?_
  rintro e w2 ⟨s2, rfl, he2, hb2⟩
  obtain ⟨W3, hst3, hbk3, hb3, hsz3⟩ := boxT w2 td s2
  have HST3 := hide hst3
  have HBK3 := hide hbk3
  have HW3 := hide (rBelow (rBelow HW1.out hb2) hb3)
  have HE3 := hide (he2.keep hb3 (Nat.le_refl _))
  have HRR := hide (HR.out W3 (cameT_keep HC.out HW3.out (Nat.le_refl _)))
  clear hst3 hbk3 hb3 hsz3 he2 hb2 HD HR
  go_wp2_with (refine wpList_store _ rfl rfl 24 (.tmp 3) (.tmp 16) rfl (.pointer (some ⟨w2.heap.size, 0, none⟩)) (td.val s2) rfl rfl W3 HST3.out ?_)
  refine HRR.out.mono ?_
  rintro e w4 ⟨s4, rfl, he4, hb4⟩
  obtain ⟨W5, hst5, hbk5, hb5, hsz5⟩ := boxT w4 td s4
  have HST5 := hide hst5
  have HW5 := hide (rBelow (rBelow HW3.out hb4) hb5)
  have x0 := ((HBK3.out.keep hb4).keep hb5).c0
  have x1 := ((HBK3.out.keep hb4).keep hb5).c1
  have x2 := ((HBK3.out.keep hb4).keep hb5).c2
  have x3 := ((HBK3.out.keep hb4).keep hb5).c3
  have y0 := (hbk5).c0
  have y1 := (hbk5).c1
  have y2 := (hbk5).c2
  have y3 := (hbk5).c3
  have HSm := rsameT_any td s2 td s4 W5 ((HE3.out.keep hb4 (Nat.le_refl _)).keep hb5 (Nat.le_refl _)) (he4.keep hb5 (Nat.le_refl _))
  rw [sameT_self] at HSm
  have HSm := hide HSm
  clear hst5 hbk5 hb5 hsz5 he4 hb4 HRR HST3 HBK3 HE3
  go_wp2_with (refine wpList_store _ rfl rfl 24 (.tmp 5) (.tmp 21) rfl (.pointer (some ⟨w4.heap.size, 0, none⟩)) (td.val s4) rfl rfl W5 HST5.out ?_)
  refine HSm.out.mono ?_
  rintro e w6 ⟨rfl, hb6⟩
  have HW6 := hide (rBelow HW5.out hb6)
  clear hb6 HSm x0 x1 x2 x3 y0 y1 y2 y3
  go_wp2_with fail
  refine (HFR.out _).mono ?_
  rintro e w7 ⟨s7, rfl, he7, hb7⟩
  simp only [id]
  have HW7 := hide (rBelow HW6.out hb7)
  have HE7 := hide he7
  clear hb7 he7
  go_wp2_with fail
  refine (rfirstT_any _).mono ?_
  rintro e w8 ⟨s8, rfl, ho8, _, hb8⟩
  simp only [id]
  have HW8 := hide (rBelow HW7.out hb8)
  have HSm := rsameT_any firstT s7 firstT s8 w8 (HE7.out.keep hb8 (Nat.le_refl _)) ho8.es
  rw [sameT_self] at HSm
  have HSm := hide HSm
  clear hb8 ho8
  go_wp2_with fail
  refine HSm.out.mono ?_
  rintro e w9 ⟨rfl, hb9⟩
  have HW9 := hide (rBelow HW8.out hb9)
  clear hb9 HSm
  go_wp2_with fail
  refine (HAW.out _).mono ?_
  rintro e w10 ⟨rfl, hb10⟩
  have HW10 := hide (rBelow HW9.out hb10)
  clear hb10
  go_wp2_with fail
  go_ret
  exact ⟨by simp, HW10.out⟩

end Go.Proofs.Ytdbgbldmjgonjaa
