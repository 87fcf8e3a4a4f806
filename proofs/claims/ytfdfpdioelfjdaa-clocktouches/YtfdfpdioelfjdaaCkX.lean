/-
  Layer 7: the document's Touch, Pin and Drop.
-/
import Derived.Test.YtfdfpdioelfjdaaCkW
namespace Go.Proofs.Ytfdfpdioelfjdaa
open Go.RowKit

theorem rtouch_any {D : Nat → Prop} (w : World) (v : Sl) (h : Int) (l : List Sp) (hg : Gs D w v l) (p : Int) (hm : may l h = true) :
    Calls Try.prog 14 #[ckV v h, .int .i64 p] w fun e w' => Below w.heap.size w w' ∧ ∃ s : Sl, e = .returned (.tuple #[ckV s (touch l h p).h, .int .i64 (touch l h p).at_, .int .i64 (touch l h p).was, .int .i64 (touch l h p).e]) ∧ Gs (Old D w) w' s (touch l h p).l := by
  cases hp : isPg p with
  | false =>
    rw [touch_arg hp]
    exact rtouch_arg w v h l hg p hp
  | true =>
    rcases ixP_cases l p with ⟨h1, _⟩ | ⟨i, hi, h1, _, _⟩
    · rcases ixP_cases l (-1) with ⟨h2, _⟩ | ⟨j, hj, h2, _, _⟩
      · exact rtouch_round w v h l hg p hm hp h1 h2
      · obtain ⟨p0, p1⟩ := isPg_iff.1 hp
        have e : touch l h p = ⟨l.set j ⟨p, true, false⟩, h, ((j : Nat) : Int), -1, 0⟩ := by
          unfold touch
          rw [if_neg (by omega), if_neg (by omega), if_pos (by omega), h2]
          rfl
        rw [e]
        exact rtouch_empty w v h l hg p hp h1 j h2 hj
    · rw [touch_in hp h1]
      exact rtouch_hit w v h l hg p hp i h1 hi

set_option maxHeartbeats 8000000 in
set_option maxRecDepth 100000 in
theorem rpin_any {D : Nat → Prop} (w : World) (v : Sl) (h : Int) (l : List Sp) (hg : Gs D w v l) (p : Int) (on : Bool) :
    Calls Try.prog 15 #[ckV v h, .int .i64 p, .bool on] w fun e w' => Below w.heap.size w w' ∧ ∃ s : Sl, e = .returned (.tuple #[ckV s h, .int .i64 (pinC l p on).e]) ∧ Gs (Old D w) w' s (pinC l p on).l := by
  have hT := Tb.start (h := h) hg
  have HAT := hide (at_any _ v h l hT.g p)
  have HT := hide hT
  have c0 := hT.k2.c0
  have c1 := hT.k2.c1
  have HGO : Hid (∀ w' W : World, Below w.heap.size w w' → Frm (fun k => k = w.heap.size + 1) w' W → Gs (Old D w) W v l) := fun w' W hb f => hg.old hb f (Nat.le_succ _)
  have HLV : Hid (l.length = v.len) := hg.len
  clear hg hT
  by_cases hno : p < 0 ∨ ixP l p < 0
  · have HE := hide (pinC_no (on := on) hno)
    obtain ⟨a, len, cap⟩ := v
    have HFIN : Hid (∀ w1 : World, Tb D w w1 ⟨a, len, cap⟩ h l → ∃ W, (Instr.storeAt 24 (.pointer (some ⟨w.heap.size + 1, 0, none⟩)) (.agg #[.slice a len cap, .int .i64 h])).run Try.prog w1 = .ok () W ∧ CkBlk W (w.heap.size + 1) (.slice a len cap) h ∧ Below w.heap.size w W ∧ Gs (Old D w) W ⟨a, len, cap⟩ l) := by
      intro w1 t
      obtain ⟨W, hst, k, f, hB⟩ := t.lay ⟨a, len, cap⟩ h
      exact ⟨W, hst, k, hB, HGO.out w1 W t.e f⟩
    clear HGO
    unfold ckV Sl.val at *
    simp only at *
    by_cases h1 : p < 0
    · clear hno
      go_enter Try.func15, Try.ntmps15
      go_wp2_with fail
      refine HAT.out.mono ?_
      rintro e w1 ⟨rfl, hb1⟩
      have hT1 := HT.out.below hb1
      obtain ⟨W, hst, k, hB, hG⟩ := HFIN.out w1 hT1
      have d0 := hT1.k2.c0
      have d1 := hT1.k2.c1
      have HST := hide hst
      have HK := hide k
      have HB := hide hB
      have HG := hide hG
      clear hT1 hst k hB hG hb1 HFIN HT HAT c0 c1
      unfold Sl.val at d0
      simp only at d0
      go_wp2_with (refine wpList_store _ rfl rfl 24 (.tmp 6) (.tmp 19) rfl (.pointer (some ⟨w.heap.size + 1, 0, none⟩)) (.agg #[.slice a len cap, .int .i64 h]) rfl rfl W HST.out ?_)
      refine bodyPost_ret (ck_results1 (v := ⟨a, len, cap⟩) rfl HK.out _ rfl rfl) rfl ?_
      rw [HE.out]
      exact ⟨HB.out, ⟨a, len, cap⟩, rfl, HG.out⟩
    · have h2 : ixP l p < 0 := by omega
      clear hno
      go_enter Try.func15, Try.ntmps15
      go_wp2_with fail
      refine HAT.out.mono ?_
      rintro e w1 ⟨rfl, hb1⟩
      have hT1 := HT.out.below hb1
      obtain ⟨W, hst, k, hB, hG⟩ := HFIN.out w1 hT1
      have d0 := hT1.k2.c0
      have d1 := hT1.k2.c1
      have HST := hide hst
      have HK := hide k
      have HB := hide hB
      have HG := hide hG
      clear hT1 hst k hB hG hb1 HFIN HT HAT c0 c1
      unfold Sl.val at d0
      simp only at d0
      go_wp2_with (refine wpList_store _ rfl rfl 24 (.tmp 6) (.tmp 19) rfl (.pointer (some ⟨w.heap.size + 1, 0, none⟩)) (.agg #[.slice a len cap, .int .i64 h]) rfl rfl W HST.out ?_)
      refine bodyPost_ret (ck_results1 (v := ⟨a, len, cap⟩) rfl HK.out _ rfl rfl) rfl ?_
      rw [HE.out]
      exact ⟨HB.out, ⟨a, len, cap⟩, rfl, HG.out⟩
  · have h1 : ¬ p < 0 := by omega
    have h2 : ¬ ixP l p < 0 := by omega
    rcases ixP_cases l p with ⟨hi, _⟩ | ⟨i, hil, hi, _, _⟩
    · omega
    rw [hi] at HAT
    have hlv : i < v.len := by rw [← HLV.out]; exact hil
    have HE := hide (pinC_yes (on := on) (show 0 ≤ p by omega) hi)
    obtain ⟨a, len, cap⟩ := v
    replace hlv : i < len := hlv
    have i2 : ((i : Nat) : Int) < ((len : Nat) : Int) := by omega
    clear hno h2 hi hil HGO
    unfold ckV Sl.val at *
    simp only at *
    go_enter Try.func15, Try.ntmps15
    go_wp2_with fail
    refine HAT.out.mono ?_
    rintro e w1 ⟨rfl, hb1⟩
    have hT1 := HT.out.below hb1
    obtain ⟨bb, oo, ha, q0, q1, q2⟩ := hT1.g.cell i hlv
    replace ha : a = some ⟨bb, oo, none⟩ := ha
    subst ha
    obtain ⟨x, hx⟩ : ∃ x, x = fr l i := ⟨_, rfl⟩
    rw [← hx] at q0 q1 q2
    have HX := hide hx
    have d0 := hT1.k2.c0
    have d1 := hT1.k2.c1
    have hA := below_alloc w1 (.cells #[.int .i64 x.page, .bool x.used, .bool on] 38)
    have hT2 := hT1.below hA
    have HT2 := hide hT2
    have e0 := hT2.k2.c0
    have e1 := hT2.k2.c1
    have HRS := hide (rset_any _ ⟨some ⟨bb, oo, none⟩, len, cap⟩ h l hT2.g i hlv ⟨x.page, x.used, on⟩)
    clear hb1 hT1 hx hA hT2 HT HAT c0 c1
    unfold ckV Sl.val Sp.val at *
    simp only at *
    go_wp2_with fail
    generalize w1.alloc (.cells #[.int .i64 x.page, .bool x.used, .bool on] 38) = V2 at *
    refine HRS.out.mono ?_
    rintro e w3 ⟨hb3, s3, rfl, hg3⟩
    have hT3 := HT2.out.below hb3
    obtain ⟨W, hst, k, f, hB⟩ := hT3.lay s3 h
    have HST := hide hst
    have HK := hide k
    have HB := hide hB
    have HG : Hid (Gs (Old D w) W s3 (l.set i ⟨(fr l i).page, (fr l i).used, on⟩)) := by
      rw [← HX.out]
      exact hg3.fresh HT2.out.e.size f HT2.out.k4.lt
    clear hb3 hg3 hT3 hst k f hB HT2 HRS
    obtain ⟨a3, l3, p3⟩ := s3
    unfold ckV Sl.val at *
    simp only at *
    go_wp2_with (refine wpList_store _ rfl rfl 24 (.tmp 6) (.tmp 30) rfl (.pointer (some ⟨w.heap.size + 1, 0, none⟩)) (.agg #[.slice a3 l3 p3, .int .i64 h]) rfl rfl W HST.out ?_)
    refine bodyPost_ret (ck_results1 (v := ⟨a3, l3, p3⟩) rfl HK.out _ rfl rfl) rfl ?_
    rw [HE.out]
    exact ⟨HB.out, ⟨a3, l3, p3⟩, rfl, HG.out⟩

set_option maxHeartbeats 8000000 in
set_option maxRecDepth 100000 in
theorem rdrop_any {D : Nat → Prop} (w : World) (v : Sl) (h : Int) (l : List Sp) (hg : Gs D w v l) (p : Int) :
    Calls Try.prog 16 #[ckV v h, .int .i64 p] w fun e w' => Below w.heap.size w w' ∧ ∃ s : Sl, e = .returned (.tuple #[ckV s h, .int .i64 (dropC l p).e]) ∧ Gs (Old D w) w' s (dropC l p).l := by
  have hT := Tb.start (h := h) hg
  have HAT := hide (at_any _ v h l hT.g p)
  have HT := hide hT
  have c0 := hT.k2.c0
  have c1 := hT.k2.c1
  have HGO : Hid (∀ w' W : World, Below w.heap.size w w' → Frm (fun k => k = w.heap.size + 1) w' W → Gs (Old D w) W v l) := fun w' W hb f => hg.old hb f (Nat.le_succ _)
  have HLV : Hid (l.length = v.len) := hg.len
  clear hg hT
  by_cases hno : p < 0 ∨ ixP l p < 0
  · have HE := hide (dropC_no hno)
    obtain ⟨a, len, cap⟩ := v
    have HFIN : Hid (∀ w1 : World, Tb D w w1 ⟨a, len, cap⟩ h l → ∃ W, (Instr.storeAt 24 (.pointer (some ⟨w.heap.size + 1, 0, none⟩)) (.agg #[.slice a len cap, .int .i64 h])).run Try.prog w1 = .ok () W ∧ CkBlk W (w.heap.size + 1) (.slice a len cap) h ∧ Below w.heap.size w W ∧ Gs (Old D w) W ⟨a, len, cap⟩ l) := by
      intro w1 t
      obtain ⟨W, hst, k, f, hB⟩ := t.lay ⟨a, len, cap⟩ h
      exact ⟨W, hst, k, hB, HGO.out w1 W t.e f⟩
    clear HGO
    unfold ckV Sl.val at *
    simp only at *
    by_cases h1 : p < 0
    · clear hno
      go_enter Try.func16, Try.ntmps16
      go_wp2_with fail
      refine HAT.out.mono ?_
      rintro e w1 ⟨rfl, hb1⟩
      have hT1 := HT.out.below hb1
      obtain ⟨W, hst, k, hB, hG⟩ := HFIN.out w1 hT1
      have d0 := hT1.k2.c0
      have d1 := hT1.k2.c1
      have HST := hide hst
      have HK := hide k
      have HB := hide hB
      have HG := hide hG
      clear hT1 hst k hB hG hb1 HFIN HT HAT c0 c1
      unfold Sl.val at d0
      simp only at d0
      go_wp2_with (refine wpList_store _ rfl rfl 24 (.tmp 4) (.tmp 16) rfl (.pointer (some ⟨w.heap.size + 1, 0, none⟩)) (.agg #[.slice a len cap, .int .i64 h]) rfl rfl W HST.out ?_)
      refine bodyPost_ret (ck_results1 (v := ⟨a, len, cap⟩) rfl HK.out _ rfl rfl) rfl ?_
      rw [HE.out]
      exact ⟨HB.out, ⟨a, len, cap⟩, rfl, HG.out⟩
    · have h2 : ixP l p < 0 := by omega
      clear hno
      go_enter Try.func16, Try.ntmps16
      go_wp2_with fail
      refine HAT.out.mono ?_
      rintro e w1 ⟨rfl, hb1⟩
      have hT1 := HT.out.below hb1
      obtain ⟨W, hst, k, hB, hG⟩ := HFIN.out w1 hT1
      have d0 := hT1.k2.c0
      have d1 := hT1.k2.c1
      have HST := hide hst
      have HK := hide k
      have HB := hide hB
      have HG := hide hG
      clear hT1 hst k hB hG hb1 HFIN HT HAT c0 c1
      unfold Sl.val at d0
      simp only at d0
      go_wp2_with (refine wpList_store _ rfl rfl 24 (.tmp 4) (.tmp 16) rfl (.pointer (some ⟨w.heap.size + 1, 0, none⟩)) (.agg #[.slice a len cap, .int .i64 h]) rfl rfl W HST.out ?_)
      refine bodyPost_ret (ck_results1 (v := ⟨a, len, cap⟩) rfl HK.out _ rfl rfl) rfl ?_
      rw [HE.out]
      exact ⟨HB.out, ⟨a, len, cap⟩, rfl, HG.out⟩
  · have h1 : ¬ p < 0 := by omega
    have h2 : ¬ ixP l p < 0 := by omega
    rcases ixP_cases l p with ⟨hi, _⟩ | ⟨i, hil, hi, _, _⟩
    · omega
    rw [hi] at HAT
    have hlv : i < v.len := by rw [← HLV.out]; exact hil
    obtain ⟨a, len, cap⟩ := v
    replace hlv : i < len := hlv
    have i2 : ((i : Nat) : Int) < ((len : Nat) : Int) := by omega
    cases hpn : (fr l i).pin with
    | true =>
      have HE := hide (dropC_pin (show 0 ≤ p by omega) hi hpn)
      have HPN := hide hpn
      clear hno h2 hi hil hpn
      unfold ckV Sl.val at *
      simp only at *
      go_enter Try.func16, Try.ntmps16
      go_wp2_with fail
      refine HAT.out.mono ?_
      rintro e w1 ⟨rfl, hb1⟩
      have hT1 := HT.out.below hb1
      obtain ⟨W, hst, k, f, hB⟩ := hT1.lay ⟨a, len, cap⟩ h
      have hG := HGO.out w1 W hT1.e f
      have HG := hide hG
      obtain ⟨bb, oo, ha, q0, q1, q2⟩ := hT1.g.cell i hlv
      replace ha : a = some ⟨bb, oo, none⟩ := ha
      subst ha
      rw [HPN.out] at q2
      have d0 := hT1.k2.c0
      have d1 := hT1.k2.c1
      have HST := hide hst
      have HK := hide k
      have HB := hide hB
      clear hb1 hT1 hst k f hB hG HT HAT c0 c1 HGO
      unfold ckV Sl.val at *
      simp only at *
      go_wp2_with (refine wpList_store _ rfl rfl 24 (.tmp 4) (.tmp 23) rfl (.pointer (some ⟨w.heap.size + 1, 0, none⟩)) (.agg #[.slice (some ⟨bb, oo, none⟩) len cap, .int .i64 h]) rfl rfl W HST.out ?_)
      refine bodyPost_ret (ck_results1 (v := ⟨some ⟨bb, oo, none⟩, len, cap⟩) rfl HK.out _ rfl rfl) rfl ?_
      rw [HE.out]
      exact ⟨HB.out, ⟨some ⟨bb, oo, none⟩, len, cap⟩, rfl, HG.out⟩
    | false =>
      have HE := hide (dropC_yes (show 0 ≤ p by omega) hi hpn)
      have HPN := hide hpn
      clear hno h2 hi hil HGO hpn
      unfold ckV Sl.val at *
      simp only at *
      go_enter Try.func16, Try.ntmps16
      go_wp2_with fail
      refine HAT.out.mono ?_
      rintro e w1 ⟨rfl, hb1⟩
      have hT1 := HT.out.below hb1
      obtain ⟨bb, oo, ha, q0, q1, q2⟩ := hT1.g.cell i hlv
      replace ha : a = some ⟨bb, oo, none⟩ := ha
      subst ha
      rw [HPN.out] at q2
      have HT1 := hide hT1
      have d0 := hT1.k2.c0
      have d1 := hT1.k2.c1
      have HRS := hide (rset_any _ ⟨some ⟨bb, oo, none⟩, len, cap⟩ h l hT1.g i hlv Sp.none)
      clear hb1 hT1 HT HAT c0 c1
      unfold ckV Sl.val Sp.val at *
      simp only [Sp.none] at HRS
      simp only at *
      go_wp2_with fail
      refine HRS.out.mono ?_
      rintro e w3 ⟨hb3, s3, rfl, hg3⟩
      have hT3 := HT1.out.below hb3
      obtain ⟨W, hst, k, f, hB⟩ := hT3.lay s3 h
      have HST := hide hst
      have HK := hide k
      have HB := hide hB
      have HG : Hid (Gs (Old D w) W s3 (l.set i Sp.none)) := Gs.fresh hg3 HT1.out.e.size f HT1.out.k4.lt
      clear hb3 hg3 hT3 hst k f hB HT1 HRS
      obtain ⟨a3, l3, p3⟩ := s3
      unfold ckV Sl.val at *
      simp only at *
      go_wp2_with (refine wpList_store _ rfl rfl 24 (.tmp 4) (.tmp 27) rfl (.pointer (some ⟨w.heap.size + 1, 0, none⟩)) (.agg #[.slice a3 l3 p3, .int .i64 h]) rfl rfl W HST.out ?_)
      refine bodyPost_ret (ck_results1 (v := ⟨a3, l3, p3⟩) rfl HK.out _ rfl rfl) rfl ?_
      rw [HE.out]
      exact ⟨HB.out, ⟨a3, l3, p3⟩, rfl, HG.out⟩

end Go.Proofs.Ytfdfpdioelfjdaa
