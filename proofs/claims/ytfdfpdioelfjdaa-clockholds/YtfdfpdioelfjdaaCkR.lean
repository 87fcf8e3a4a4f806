/-
  Layer 7: Pin and Drop.
-/
import Derived.Test.YtfdfpdioelfjdaaCkK
namespace Go.Proofs.Ytfdfpdioelfjdaa
open Go.RowKit

theorem frm_cases {l : List Sp} {h : Int} (hm : may l h = true) (p : Int) : (frm l p = -1 ∧ (p < 0 ∨ ixP l p < 0)) ∨ ∃ i, i < l.length ∧ frm l p = ((i : Nat) : Int) ∧ ixP l p = ((i : Nat) : Int) ∧ 0 ≤ p ∧ p < 64 := by
  obtain ⟨_, _, _, _, mg⟩ := may_iff.1 hm
  cases hp : isPg p with
  | false =>
    refine .inl ⟨if_neg (by rw [hp]; decide), ?_⟩
    rcases Int.lt_or_le p 0 with h1 | h1
    · exact .inl h1
    · rcases ixP_cases l p with ⟨h2, _⟩ | ⟨i, hi, h2, h3, _⟩
      · exact .inr (by omega)
      · have := (mg i hi).bound
        rw [isPg_iff.2 ⟨h1, by omega⟩] at hp
        cases hp
  | true =>
    have e : frm l p = ixP l p := if_pos hp
    obtain ⟨p0, p1⟩ := isPg_iff.1 hp
    rcases ixP_cases l p with ⟨h2, _⟩ | ⟨i, hi, h2, h3, _⟩
    · exact .inl ⟨e.trans h2, .inr (by omega)⟩
    · exact .inr ⟨i, hi, e.trans h2, h2, p0, p1⟩
theorem pinC_no {l : List Sp} {p : Int} {on : Bool} (h : p < 0 ∨ ixP l p < 0) : pinC l p on = ⟨l, 3⟩ := if_pos h
theorem pinC_yes {l : List Sp} {p : Int} {on : Bool} {i : Nat} (h : 0 ≤ p) (hi : ixP l p = ((i : Nat) : Int)) : pinC l p on = ⟨l.set i ⟨(fr l i).page, (fr l i).used, on⟩, 0⟩ := by
  unfold pinC
  rw [if_neg (by omega), hi]
  rfl
theorem dropC_no {l : List Sp} {p : Int} (h : p < 0 ∨ ixP l p < 0) : dropC l p = ⟨l, 3⟩ := if_pos h
theorem dropC_pin {l : List Sp} {p : Int} {i : Nat} (h : 0 ≤ p) (hi : ixP l p = ((i : Nat) : Int)) (hp : (fr l i).pin = true) : dropC l p = ⟨l, 1⟩ := by
  unfold dropC
  rw [if_neg (by omega), hi]
  simp [hp]
theorem dropC_yes {l : List Sp} {p : Int} {i : Nat} (h : 0 ≤ p) (hi : ixP l p = ((i : Nat) : Int)) (hp : (fr l i).pin = false) : dropC l p = ⟨l.set i Sp.none, 0⟩ := by
  unfold dropC
  rw [if_neg (by omega), hi]
  simp [hp]
theorem Bx.pin {w wr : World} {g b o len cap : Nat} {l : List Sp} {h : Nat} (x : Bx w wr g b o len cap l h) (hne : g ≠ b) (i : Nat) (hi : i < len) (u : Bool) : ∃ W, (Instr.storeAt 4 (.pointer (some ⟨b, o + i * 3 + 2, none⟩)) (.bool u)).run Try.prog wr = .ok () W ∧ Bx w W g b o len cap (l.set i ⟨(fr l i).page, (fr l i).used, u⟩) h := by
  obtain ⟨W, hst, k, f⟩ := st_pin wr b o len cap l x.own i hi u
  exact ⟨W, hst, x.ck.off f hne, k, x.frm.trans f (fun _ _ e => .inr e)⟩

set_option maxHeartbeats 8000000 in
set_option maxRecDepth 100000 in
theorem pin_bad {D : Nat → Prop} (w : World) (v : Sl) (h : Int) (l : List Sp) (hg : Gs D w v l) (p : Int) (on : Bool) (hm : may l h = false) :
    Calls Try.prog 9 #[ckV v h, .int .i64 p, .bool on] w fun e w' => Below w.heap.size w w' ∧ e = .returned (.tuple #[ckV Sl.nil 0, .int .i64 1]) := by
  have hT := Tb.start (h := h) hg
  have HC := hide (check_any _ v h l hT.g)
  rw [chk_no hm] at HC
  have HT := hide hT
  clear hg hT
  obtain ⟨a, len, cap⟩ := v
  unfold ckV Sl.val at *
  simp only at *
  go_enter Try.func9, Try.ntmps9
  go_wp2_with fail
  refine HC.out.mono ?_
  rintro e w1 ⟨rfl, hb1⟩
  have hT1 := HT.out.below hb1
  obtain ⟨W, hst, k, f, hB⟩ := hT1.lay Sl.nil 0
  have HST := hide hst
  have HK := hide k
  have HB := hide hB
  clear hT1 hst k f hB hb1
  unfold ckV Sl.val Sl.nil at *
  simp only at *
  go_wp2_with (refine wpList_store _ rfl rfl 24 (.tmp 6) (.tmp 15) rfl (.pointer (some ⟨w.heap.size + 1, 0, none⟩)) (.agg #[.slice none 0 0, .int .i64 0]) rfl rfl W HST.out ?_)
  refine bodyPost_ret (ck_results1 (v := Sl.nil) rfl HK.out _ rfl rfl) rfl ?_
  exact ⟨HB.out, rfl⟩

set_option maxHeartbeats 8000000 in
set_option maxRecDepth 100000 in
theorem pin_any {D : Nat → Prop} (w : World) (v : Sl) (h : Int) (l : List Sp) (hg : Gs D w v l) (p : Int) (on : Bool) (hm : may l h = true) :
    Calls Try.prog 9 #[ckV v h, .int .i64 p, .bool on] w fun e w' => Below w.heap.size w w' ∧ ∃ s : Sl, e = .returned (.tuple #[ckV s h, .int .i64 (pinC l p on).e]) ∧ Gs (fun k => w.heap.size ≤ k) w' s (pinC l p on).l := by
  obtain ⟨hl1, hl64, h0, hh0, _⟩ := may_iff.1 hm
  obtain ⟨n, rfl⟩ := Int.eq_ofNat_of_zero_le h0
  have HFC := hide (frm_cases hm p)
  have hT := Tb.start (h := ((n : Nat) : Int)) hg
  have HC := hide (check_any _ v ((n : Nat) : Int) l hT.g)
  rw [chk_ok hm] at HC
  have HT := hide hT
  have HFO : Hid (∀ W, Gs D W v l → Calls Try.prog 21 #[ckV v ((n : Nat) : Int), .int .i64 p] W fun e w' => e = .returned (.int .i64 (frm l p)) ∧ Below W.heap.size W w') := fun W hW => frameOf_any W v ((n : Nat) : Int) l hW p
  have HCP : Hid (∀ W, Tb D w W v ((n : Nat) : Int) l → Calls Try.prog 20 #[ckV v ((n : Nat) : Int)] W fun e w' => Below W.heap.size W w' ∧ ∃ s : Sl, e = .returned (ckV s ((n : Nat) : Int)) ∧ OwnS w' s l ∧ s.len = v.len ∧ ∀ k, s.blk = some k → W.heap.size ≤ k) := fun W hW => copyOf_any W v _ l hW.g
  have hbig : v.len ≤ 1000000 := hg.big
  have hv1 : 1 ≤ v.len := by rw [← hg.len]; exact hl1
  have HLV : Hid (l.length = v.len) := hg.len
  clear hg hT hm h0 hl1 hl64 hh0
  obtain ⟨a, len, cap⟩ := v
  unfold ckV Sl.val at *
  simp only at *
  go_enter Try.func9, Try.ntmps9
  go_wp2_with fail
  refine HC.out.mono ?_
  rintro e w1 ⟨rfl, hb1⟩
  have hT1 := HT.out.below hb1
  have c0 := hT1.k2.c0
  have c1 := hT1.k2.c1
  have HT1 := hide hT1
  clear hT1 hb1 HT
  unfold Sl.val at c0
  simp only at c0
  go_wp2_with fail
  refine (HCP.out _ HT1.out).mono ?_
  rintro e w2 ⟨hb2, s, rfl, ho, hl, hk⟩
  obtain ⟨b, o, ha⟩ := ho.pos (by rw [hl]; omega)
  obtain ⟨sa, sl, sc⟩ := s
  replace ha : sa = some ⟨b, o, none⟩ := ha
  replace hl : sl = len := hl
  subst ha
  subst hl
  have hbb : w1.heap.size ≤ b := hk b rfl
  obtain ⟨hx, hne⟩ := Bx.start ho n
  have hA := below_alloc w2 (.cells #[.slice (some ⟨b, o, none⟩) sl sc, .int .i64 ((n : Nat) : Int)] 24)
  have hb3 := rBelow hb2 hA
  have hT3 := HT1.out.below hb3
  have d0 := hT3.k2.c0
  have d1 := hT3.k2.c1
  have HT3 := hide hT3
  have HX := hide hx
  have HB3 := hide hb3
  have HS2 := hide hb2.size
  clear hb2 ho hk hx hA hb3 hT3
  unfold ckV Sl.val at *
  simp only at *
  go_wp2_with fail
  generalize w2.alloc (.cells #[.slice (some ⟨b, o, none⟩) sl sc, .int .i64 ((n : Nat) : Int)] 24) = W3 at *
  have HFR := hide (HFO.out _ HT3.out.g)
  rcases HFC.out with ⟨hf, hno⟩ | ⟨i, hil, hf, hi, hp0, hp1⟩
  · rw [hf] at HFR
    have HE := hide (pinC_no (on := on) hno)
    clear hf hno HFC
    refine HFR.out.mono ?_
    rintro e w4 ⟨rfl, hb4⟩
    have hx4 := HX.out.below hb4
    have hE4 := hx4.to HB3.out (Nat.le_trans HS2.out (by have := HX.out.ck.lt; omega)) HS2.out hbb
    have hT4 := HT1.out.below hE4
    obtain ⟨W6, hst6, k6, f6, hB6⟩ := hT4.lay ⟨some ⟨b, o, none⟩, sl, sc⟩ ((n : Nat) : Int)
    have HST6 := hide hst6
    have HK6 := hide k6
    have HB6 := hide hB6
    have hsz := HT1.out.k4.lt
    have HG := hide (((hx4.own.gs (D := fun k => w1.heap.size ≤ k) (fun k hk => by have e : some b = some k := hk; cases e; exact hbb) hbig).off f6 hsz).mono (fun k hk _ => (by have := HT1.out.e.size; omega : w.heap.size ≤ k)))
    have g0 := hx4.ck.c0
    have g1 := hx4.ck.c1
    clear hx4 hE4 hT4 hst6 k6 f6 hB6 hsz hb4 HT3 HX HB3 HS2 HT1 HCP HFO HFR
    unfold ckV Sl.val at *
    simp only at *
    go_wp2_with (refine wpList_store _ rfl rfl 24 (.tmp 6) (.tmp 24) rfl (.pointer (some ⟨w.heap.size + 1, 0, none⟩)) (.agg #[.slice (some ⟨b, o, none⟩) sl sc, .int .i64 ((n : Nat) : Int)]) rfl rfl W6 HST6.out ?_)
    refine bodyPost_ret (ck_results1 (v := ⟨some ⟨b, o, none⟩, sl, sc⟩) rfl HK6.out _ rfl rfl) rfl ?_
    rw [HE.out]
    exact ⟨HB6.out, ⟨some ⟨b, o, none⟩, sl, sc⟩, rfl, HG.out⟩
  · rw [hf] at HFR
    have HE := hide (pinC_yes (on := on) hp0 hi)
    have hlv : i < sl := by have := HLV.out; omega
    clear hf hil hi hp0 hp1 HFC
    refine HFR.out.mono ?_
    rintro e w4 ⟨rfl, hb4⟩
    have hx4 := HX.out.below hb4
    obtain ⟨W5, hst5, hx5⟩ := hx4.pin hne i hlv on
    have hE5 := hx5.to HB3.out (Nat.le_trans HS2.out (by have := HX.out.ck.lt; omega)) HS2.out hbb
    have hT5 := HT1.out.below hE5
    obtain ⟨W6, hst6, k6, f6, hB6⟩ := hT5.lay ⟨some ⟨b, o, none⟩, sl, sc⟩ ((n : Nat) : Int)
    have HST5 := hide hst5
    have HST6 := hide hst6
    have HK6 := hide k6
    have HB6 := hide hB6
    have hsz := HT1.out.k4.lt
    have HG := hide (((hx5.own.gs (D := fun k => w1.heap.size ≤ k) (fun k hk => by have e : some b = some k := hk; cases e; exact hbb) hbig).off f6 hsz).mono (fun k hk _ => (by have := HT1.out.e.size; omega : w.heap.size ≤ k)))
    have e0 := hx4.ck.c0
    have g0 := hx5.ck.c0
    have g1 := hx5.ck.c1
    have i2 : ((i : Nat) : Int) < ((sl : Nat) : Int) := by omega
    clear hx4 hx5 hE5 hT5 hst5 hst6 k6 f6 hB6 hsz hb4 HT3 HX HB3 HS2 HT1 HCP HFO HFR
    unfold ckV Sl.val at *
    simp only at *
    go_wp2_with (first | refine wpList_store _ rfl rfl 4 (.tmp 30) (.tmp 28) rfl (.pointer (some ⟨b, o + i * 3 + 2, none⟩)) (.bool on) rfl rfl W5 HST5.out ?_ | refine wpList_store _ rfl rfl 24 (.tmp 6) (.tmp 31) rfl (.pointer (some ⟨w.heap.size + 1, 0, none⟩)) (.agg #[.slice (some ⟨b, o, none⟩) sl sc, .int .i64 ((n : Nat) : Int)]) rfl rfl W6 HST6.out ?_)
    refine bodyPost_ret (ck_results1 (v := ⟨some ⟨b, o, none⟩, sl, sc⟩) rfl HK6.out _ rfl rfl) rfl ?_
    rw [HE.out]
    exact ⟨HB6.out, ⟨some ⟨b, o, none⟩, sl, sc⟩, rfl, HG.out⟩

set_option maxHeartbeats 8000000 in
set_option maxRecDepth 100000 in
theorem drop_bad {D : Nat → Prop} (w : World) (v : Sl) (h : Int) (l : List Sp) (hg : Gs D w v l) (p : Int) (hm : may l h = false) :
    Calls Try.prog 10 #[ckV v h, .int .i64 p] w fun e w' => Below w.heap.size w w' ∧ e = .returned (.tuple #[ckV Sl.nil 0, .int .i64 1]) := by
  have hT := Tb.start (h := h) hg
  have HC := hide (check_any _ v h l hT.g)
  rw [chk_no hm] at HC
  have HT := hide hT
  clear hg hT
  obtain ⟨a, len, cap⟩ := v
  unfold ckV Sl.val at *
  simp only at *
  go_enter Try.func10, Try.ntmps10
  go_wp2_with fail
  refine HC.out.mono ?_
  rintro e w1 ⟨rfl, hb1⟩
  have hT1 := HT.out.below hb1
  obtain ⟨W, hst, k, f, hB⟩ := hT1.lay Sl.nil 0
  have HST := hide hst
  have HK := hide k
  have HB := hide hB
  clear hT1 hst k f hB hb1
  unfold ckV Sl.val Sl.nil at *
  simp only at *
  go_wp2_with (refine wpList_store _ rfl rfl 24 (.tmp 4) (.tmp 13) rfl (.pointer (some ⟨w.heap.size + 1, 0, none⟩)) (.agg #[.slice none 0 0, .int .i64 0]) rfl rfl W HST.out ?_)
  refine bodyPost_ret (ck_results1 (v := Sl.nil) rfl HK.out _ rfl rfl) rfl ?_
  exact ⟨HB.out, rfl⟩

set_option maxHeartbeats 8000000 in
set_option maxRecDepth 100000 in
theorem drop_any {D : Nat → Prop} (w : World) (v : Sl) (h : Int) (l : List Sp) (hg : Gs D w v l) (p : Int) (hm : may l h = true) :
    Calls Try.prog 10 #[ckV v h, .int .i64 p] w fun e w' => Below w.heap.size w w' ∧ ∃ s : Sl, e = .returned (.tuple #[ckV s h, .int .i64 (dropC l p).e]) ∧ Gs (fun k => w.heap.size ≤ k) w' s (dropC l p).l := by
  obtain ⟨hl1, hl64, h0, hh0, _⟩ := may_iff.1 hm
  obtain ⟨n, rfl⟩ := Int.eq_ofNat_of_zero_le h0
  have HFC := hide (frm_cases hm p)
  have hT := Tb.start (h := ((n : Nat) : Int)) hg
  have HC := hide (check_any _ v ((n : Nat) : Int) l hT.g)
  rw [chk_ok hm] at HC
  have HT := hide hT
  have HFO : Hid (∀ W, Gs D W v l → Calls Try.prog 21 #[ckV v ((n : Nat) : Int), .int .i64 p] W fun e w' => e = .returned (.int .i64 (frm l p)) ∧ Below W.heap.size W w') := fun W hW => frameOf_any W v ((n : Nat) : Int) l hW p
  have HCP : Hid (∀ W, Tb D w W v ((n : Nat) : Int) l → Calls Try.prog 20 #[ckV v ((n : Nat) : Int)] W fun e w' => Below W.heap.size W w' ∧ ∃ s : Sl, e = .returned (ckV s ((n : Nat) : Int)) ∧ OwnS w' s l ∧ s.len = v.len ∧ ∀ k, s.blk = some k → W.heap.size ≤ k) := fun W hW => copyOf_any W v _ l hW.g
  have hbig : v.len ≤ 1000000 := hg.big
  have hv1 : 1 ≤ v.len := by rw [← hg.len]; exact hl1
  have HLV : Hid (l.length = v.len) := hg.len
  clear hg hT hm h0 hl1 hl64 hh0
  obtain ⟨a, len, cap⟩ := v
  unfold ckV Sl.val at *
  simp only at *
  go_enter Try.func10, Try.ntmps10
  go_wp2_with fail
  refine HC.out.mono ?_
  rintro e w1 ⟨rfl, hb1⟩
  have hT1 := HT.out.below hb1
  have c0 := hT1.k2.c0
  have c1 := hT1.k2.c1
  have HT1 := hide hT1
  clear hT1 hb1 HT
  unfold Sl.val at c0
  simp only at c0
  go_wp2_with fail
  refine (HCP.out _ HT1.out).mono ?_
  rintro e w2 ⟨hb2, s, rfl, ho, hl, hk⟩
  obtain ⟨b, o, ha⟩ := ho.pos (by rw [hl]; omega)
  obtain ⟨sa, sl, sc⟩ := s
  replace ha : sa = some ⟨b, o, none⟩ := ha
  replace hl : sl = len := hl
  subst ha
  subst hl
  have hbb : w1.heap.size ≤ b := hk b rfl
  obtain ⟨hx, hne⟩ := Bx.start ho n
  have hA := below_alloc w2 (.cells #[.slice (some ⟨b, o, none⟩) sl sc, .int .i64 ((n : Nat) : Int)] 24)
  have hb3 := rBelow hb2 hA
  have hT3 := HT1.out.below hb3
  have d0 := hT3.k2.c0
  have d1 := hT3.k2.c1
  have HT3 := hide hT3
  have HX := hide hx
  have HB3 := hide hb3
  have HS2 := hide hb2.size
  clear hb2 ho hk hx hA hb3 hT3
  unfold ckV Sl.val at *
  simp only at *
  go_wp2_with fail
  generalize w2.alloc (.cells #[.slice (some ⟨b, o, none⟩) sl sc, .int .i64 ((n : Nat) : Int)] 24) = W3 at *
  have HFR := hide (HFO.out _ HT3.out.g)
  rcases HFC.out with ⟨hf, hno⟩ | ⟨i, hil, hf, hi, hp0, hp1⟩
  · rw [hf] at HFR
    have HE := hide (dropC_no hno)
    clear hf hno HFC
    refine HFR.out.mono ?_
    rintro e w4 ⟨rfl, hb4⟩
    have hx4 := HX.out.below hb4
    have hE4 := hx4.to HB3.out (Nat.le_trans HS2.out (by have := HX.out.ck.lt; omega)) HS2.out hbb
    have hT4 := HT1.out.below hE4
    obtain ⟨W6, hst6, k6, f6, hB6⟩ := hT4.lay ⟨some ⟨b, o, none⟩, sl, sc⟩ ((n : Nat) : Int)
    have HST6 := hide hst6
    have HK6 := hide k6
    have HB6 := hide hB6
    have hsz := HT1.out.k4.lt
    have HG := hide (((hx4.own.gs (D := fun k => w1.heap.size ≤ k) (fun k hk => by have e : some b = some k := hk; cases e; exact hbb) hbig).off f6 hsz).mono (fun k hk _ => (by have := HT1.out.e.size; omega : w.heap.size ≤ k)))
    have g0 := hx4.ck.c0
    have g1 := hx4.ck.c1
    clear hx4 hE4 hT4 hst6 k6 f6 hB6 hsz hb4 HT3 HX HB3 HS2 HT1 HCP HFO HFR
    unfold ckV Sl.val at *
    simp only at *
    go_wp2_with (refine wpList_store _ rfl rfl 24 (.tmp 4) (.tmp 22) rfl (.pointer (some ⟨w.heap.size + 1, 0, none⟩)) (.agg #[.slice (some ⟨b, o, none⟩) sl sc, .int .i64 ((n : Nat) : Int)]) rfl rfl W6 HST6.out ?_)
    refine bodyPost_ret (ck_results1 (v := ⟨some ⟨b, o, none⟩, sl, sc⟩) rfl HK6.out _ rfl rfl) rfl ?_
    rw [HE.out]
    exact ⟨HB6.out, ⟨some ⟨b, o, none⟩, sl, sc⟩, rfl, HG.out⟩
  · rw [hf] at HFR
    have hlv : i < sl := by have := HLV.out; omega
    have i2 : ((i : Nat) : Int) < ((sl : Nat) : Int) := by omega
    cases hpn : (fr l i).pin with
    | true =>
      have HE := hide (dropC_pin hp0 hi hpn)
      have HPN := hide hpn
      clear hf hil hi hp0 hp1 HFC hpn
      refine HFR.out.mono ?_
      rintro e w4 ⟨rfl, hb4⟩
      have hx4 := HX.out.below hb4
      have hE4 := hx4.to HB3.out (Nat.le_trans HS2.out (by have := HX.out.ck.lt; omega)) HS2.out hbb
      have hT4 := HT1.out.below hE4
      obtain ⟨vb, vo, ha, q0, q1, q2⟩ := hT4.g.cell i hlv
      replace ha : a = some ⟨vb, vo, none⟩ := ha
      subst ha
      rw [HPN.out] at q2
      have r0 := hT4.k2.c0
      obtain ⟨W6, hst6, k6, f6, hB6⟩ := hT4.lay ⟨some ⟨b, o, none⟩, sl, sc⟩ ((n : Nat) : Int)
      have HST6 := hide hst6
      have HK6 := hide k6
      have HB6 := hide hB6
      have hsz := HT1.out.k4.lt
      have HG := hide (((hx4.own.gs (D := fun k => w1.heap.size ≤ k) (fun k hk => by have e : some b = some k := hk; cases e; exact hbb) hbig).off f6 hsz).mono (fun k hk _ => (by have := HT1.out.e.size; omega : w.heap.size ≤ k)))
      have g0 := hx4.ck.c0
      have g1 := hx4.ck.c1
      clear hx4 hE4 hT4 hst6 k6 f6 hB6 hsz hb4 HT3 HX HB3 HS2 HT1 HCP HFO HFR
      unfold ckV Sl.val at *
      simp only at *
      go_wp2_with (refine wpList_store _ rfl rfl 24 (.tmp 4) (.tmp 29) rfl (.pointer (some ⟨w.heap.size + 1, 0, none⟩)) (.agg #[.slice (some ⟨b, o, none⟩) sl sc, .int .i64 ((n : Nat) : Int)]) rfl rfl W6 HST6.out ?_)
      refine bodyPost_ret (ck_results1 (v := ⟨some ⟨b, o, none⟩, sl, sc⟩) rfl HK6.out _ rfl rfl) rfl ?_
      rw [HE.out]
      exact ⟨HB6.out, ⟨some ⟨b, o, none⟩, sl, sc⟩, rfl, HG.out⟩
    | false =>
      have HE := hide (dropC_yes hp0 hi hpn)
      have HPN := hide hpn
      clear hf hil hi hp0 hp1 HFC hpn
      refine HFR.out.mono ?_
      rintro e w4 ⟨rfl, hb4⟩
      have hx4 := HX.out.below hb4
      have hE4 := hx4.to HB3.out (Nat.le_trans HS2.out (by have := HX.out.ck.lt; omega)) HS2.out hbb
      have hT4 := HT1.out.below hE4
      obtain ⟨vb, vo, ha, q0, q1, q2⟩ := hT4.g.cell i hlv
      replace ha : a = some ⟨vb, vo, none⟩ := ha
      subst ha
      rw [HPN.out] at q2
      have r0 := hT4.k2.c0
      have HX4 := hide hx4
      have HSZ4 : Hid (w1.heap.size ≤ w4.heap.size) := hE4.size
      have HE4 := hide hE4
      clear hx4 hE4 hT4 hb4 HT3 HX HB3 HCP HFO HFR
      unfold ckV Sl.val at *
      simp only at *
      go_wp2_with fail
      refine Pl.region_is (ops := Pl.find 10 ((Try.f10.body).getD .skip)) (by kernel_rfl) ?_
      refine drop10 _ w2.heap.size b o sl sc i ((n : Nat) : Int) l HX4.out.ck HX4.out.own hlv hne (by rfl) rfl (by rfl) (by rfl) ?_
      intro u w5 ⟨k5, o5, f5⟩
      simp only [Act.put, List.setIfInBounds_toArray, List.set_cons_zero, List.set_cons_succ]
      have hE5 : Below w1.heap.size w1 w5 := Below.more HE4.out f5 HSZ4.out hbb
      have hT5 := HT1.out.below hE5
      obtain ⟨W6, hst6, k6, f6, hB6⟩ := hT5.lay ⟨some ⟨b, o, none⟩, sl, sc⟩ ((n : Nat) : Int)
      have HST6 := hide hst6
      have HK6 := hide k6
      have HB6 := hide hB6
      have hsz := HT1.out.k4.lt
      have HG := hide (((o5.gs (D := fun k => w1.heap.size ≤ k) (fun k hk => by have e : some b = some k := hk; cases e; exact hbb) hbig).off f6 hsz).mono (fun k hk _ => (by have := HT1.out.e.size; omega : w.heap.size ≤ k)))
      have g0 := k5.c0
      have g1 := k5.c1
      clear k5 o5 f5 hE5 hT5 hst6 k6 f6 hB6 hsz HX4 HE4 HSZ4 HT1 HS2
      unfold ckV Sl.val at *
      simp only at *
      go_wp2_with (refine wpList_store _ rfl rfl 24 (.tmp 4) (.tmp 35) rfl (.pointer (some ⟨w.heap.size + 1, 0, none⟩)) (.agg #[.slice (some ⟨b, o, none⟩) sl sc, .int .i64 ((n : Nat) : Int)]) rfl rfl W6 HST6.out ?_)
      refine bodyPost_ret (ck_results1 (v := ⟨some ⟨b, o, none⟩, sl, sc⟩) rfl HK6.out _ rfl rfl) rfl ?_
      rw [HE.out]
      exact ⟨HB6.out, ⟨some ⟨b, o, none⟩, sl, sc⟩, rfl, HG.out⟩

end Go.Proofs.Ytfdfpdioelfjdaa
