/-
  Layer 7: Touch of a page that has a frame, and of one for which one is found.
-/
import Derived.Test.YtfdfpdioelfjdaaCkJ
namespace Go.Proofs.Ytfdfpdioelfjdaa
open Go.RowKit

theorem Bx.start {w3 : World} {b o len cap : Nat} {l : List Sp} (ho : OwnS w3 ⟨some ⟨b, o, none⟩, len, cap⟩ l) (h : Nat) : Bx (w3.alloc (.cells #[.slice (some ⟨b, o, none⟩) len cap, .int .i64 ((h : Nat) : Int)] 24)) (w3.alloc (.cells #[.slice (some ⟨b, o, none⟩) len cap, .int .i64 ((h : Nat) : Int)] 24)) w3.heap.size b o len cap l h ∧ w3.heap.size ≠ b := by
  refine ⟨⟨ckBlk_new w3 _ _, ho.below (below_alloc w3 _), Frm.refl _ _⟩, ?_⟩
  have := Own.lt ho (k := b) rfl
  omega
theorem Bx.to {B : Nat} {w w' wr : World} {g b o len cap : Nat} {l : List Sp} {h : Nat} (x : Bx w' wr g b o len cap l h) (hb : Below B w w') (hB : B ≤ w'.heap.size) (hg : B ≤ g) (hb' : B ≤ b) : Below B w wr :=
  hb.trans (x.frm.below hB (fun k hk => by rcases hk with e | e <;> rw [e] <;> assumption))
theorem Bx.sp {w wr : World} {g b o len cap : Nat} {l : List Sp} {h : Nat} (x : Bx w wr g b o len cap l h) (hne : g ≠ b) (i : Nat) (hi : i < len) (y : Sp) : ∃ W, (Instr.storeAt 38 (.pointer (some ⟨b, o + i * 3, none⟩)) y.val).run Try.prog wr = .ok () W ∧ Bx w W g b o len cap (l.set i y) h := by
  obtain ⟨W, hst, k, f⟩ := st_sp wr b o len cap l x.own i hi y
  exact ⟨W, hst, x.ck.off f hne, k, x.frm.trans f (fun _ _ e => .inr e)⟩
theorem frm_in {l : List Sp} {p : Int} (hp : isPg p = true) : frm l p = ixP l p := if_pos hp

theorem rnd_at : ∀ (k : Nat) (l : List Sp) (h : Nat), (rnd k l h).at_ = -1 ∨ ∃ q : Nat, (rnd k l h).at_ = ((q : Nat) : Int)
  | 0, _, _ => .inl rfl
  | k + 1, l, h => by
    unfold rnd
    split
    · exact rnd_at k _ _
    · split
      · exact rnd_at k _ _
      · exact .inr ⟨h, rfl⟩
theorem fnd_at (l : List Sp) (h : Nat) : (fnd l h).at_ = -1 ∨ ∃ q : Nat, (fnd l h).at_ = ((q : Nat) : Int) := by
  unfold fnd
  split
  · rename_i hn
    exact .inr ⟨(ixN l).toNat, (Int.toNat_of_nonneg hn).symm⟩
  · exact rnd_at _ _ _
theorem Bx.again {w wr : World} {g b o len cap : Nat} {l : List Sp} {h : Nat} (x : Bx w wr g b o len cap l h) : Bx wr wr g b o len cap l h := ⟨x.ck, x.own, Frm.refl _ _⟩

set_option maxHeartbeats 8000000 in
set_option maxRecDepth 100000 in
theorem touch_hit {D : Nat → Prop} (w : World) (v : Sl) (h : Int) (l : List Sp) (hg : Gs D w v l) (p : Int) (hm : may l h = true) (hp : isPg p = true) (i : Nat) (hi : ixP l p = ((i : Nat) : Int)) (hil : i < l.length) :
    Calls Try.prog 8 #[ckV v h, .int .i64 p] w fun e w' => Below w.heap.size w w' ∧ ∃ s : Sl, e = .returned (.tuple #[ckV s h, .int .i64 ((i : Nat) : Int), .int .i64 (-1), .int .i64 0]) ∧ Gs (fun k => w.heap.size ≤ k) w' s (l.set i ⟨(fr l i).page, true, (fr l i).pin⟩) := by
  obtain ⟨_, _, h0, _, _⟩ := may_iff.1 hm
  obtain ⟨n, rfl⟩ := Int.eq_ofNat_of_zero_le h0
  have hT := Tb.start (h := ((n : Nat) : Int)) hg
  have HC := hide (check_any _ v ((n : Nat) : Int) l hT.g)
  rw [chk_ok hm] at HC
  have HT := hide hT
  have HP := hide (isPage_any p)
  have HFO : Hid (∀ W, Gs D W v l → Calls Try.prog 21 #[ckV v ((n : Nat) : Int), .int .i64 p] W fun e w' => e = .returned (.int .i64 ((i : Nat) : Int)) ∧ Below W.heap.size W w') := fun W hW => by have := frameOf_any W v ((n : Nat) : Int) l hW p; rwa [frm_in hp, hi] at this
  rw [hp] at HP
  have HCP : Hid (∀ W, Tb D w W v ((n : Nat) : Int) l → Calls Try.prog 20 #[ckV v ((n : Nat) : Int)] W fun e w' => Below W.heap.size W w' ∧ ∃ s : Sl, e = .returned (ckV s ((n : Nat) : Int)) ∧ OwnS w' s l ∧ s.len = v.len ∧ ∀ k, s.blk = some k → W.heap.size ≤ k) := fun W hW => copyOf_any W v _ l hW.g
  have hbig : v.len ≤ 1000000 := hg.big
  have hlv : i < v.len := by rw [← hg.len]; exact hil
  clear hg hT hp hi hil hm h0
  obtain ⟨a, len, cap⟩ := v
  unfold ckV Sl.val at *
  simp only at *
  go_enter Try.func8, Try.ntmps8
  go_wp2_with fail
  refine HC.out.mono ?_
  rintro e w1 ⟨rfl, hb1⟩
  have hT1 := HT.out.below hb1
  have c0 := hT1.k2.c0
  have c1 := hT1.k2.c1
  have HT1 := hide hT1
  clear hT1 hb1 HT
  unfold Sl.val at c0
  simp only at c0
  go_wp2_with fail
  refine (HP.out _).mono ?_
  rintro e w2 ⟨rfl, hw2⟩
  obtain rfl := hw2.symm
  go_wp2_with fail
  refine (HCP.out _ HT1.out).mono ?_
  rintro e w2 ⟨hb2, s, rfl, ho, hl, hk⟩
  obtain ⟨b, o, ha⟩ := ho.pos (by rw [hl]; omega)
  obtain ⟨sa, sl, sc⟩ := s
  replace ha : sa = some ⟨b, o, none⟩ := ha
  replace hl : sl = len := hl
  subst ha
  subst hl
  have hbb : w1.heap.size ≤ b := hk b rfl
  obtain ⟨hx, hne⟩ := Bx.start ho n
  have hA := below_alloc w2 (.cells #[.slice (some ⟨b, o, none⟩) sl sc, .int .i64 ((n : Nat) : Int)] 24)
  have hb3 := rBelow hb2 hA
  have hT3 := HT1.out.below hb3
  have d0 := hT3.k2.c0
  have d1 := hT3.k2.c1
  have HT3 := hide hT3
  have HX := hide hx
  have HB3 := hide hb3
  have HS2 := hide hb2.size
  clear hb2 ho hk hx hA hb3 hT3
  unfold ckV Sl.val at *
  simp only at *
  go_wp2_with fail
  generalize w2.alloc (.cells #[.slice (some ⟨b, o, none⟩) sl sc, .int .i64 ((n : Nat) : Int)] 24) = W3 at *
  refine (HFO.out _ HT3.out.g).mono ?_
  rintro e w4 ⟨rfl, hb4⟩
  have hx4 := HX.out.below hb4
  obtain ⟨W5, hst5, hx5⟩ := hx4.use hne i hlv true
  have hE5 := hx5.to HB3.out (Nat.le_trans HS2.out (by have := HX.out.ck.lt; omega)) HS2.out hbb
  have hT5 := HT1.out.below hE5
  obtain ⟨W6, hst6, k6, f6, hB6⟩ := hT5.lay ⟨some ⟨b, o, none⟩, sl, sc⟩ ((n : Nat) : Int)
  have HST5 := hide hst5
  have HST6 := hide hst6
  have HK6 := hide k6
  have HB6 := hide hB6
  have hsz := HT1.out.k4.lt
  have HG := hide (((hx5.own.gs (D := fun k => w1.heap.size ≤ k) (fun k hk => by have e : some b = some k := hk; cases e; exact hbb) hbig).off f6 hsz).mono (fun k hk _ => (by have := HT1.out.e.size; omega : w.heap.size ≤ k)))
  have e0 := hx4.ck.c0
  have g0 := hx5.ck.c0
  have g1 := hx5.ck.c1
  have i2 : ((i : Nat) : Int) < ((sl : Nat) : Int) := by omega
  clear hx4 hx5 hE5 hT5 hst5 hst6 k6 f6 hB6 hsz hb4 HT3 HX HB3 HS2 HT1 HCP HFO HP
  unfold ckV Sl.val at *
  simp only at *
  go_wp2_with (first | refine wpList_store _ rfl rfl 4 (.tmp 35) (.const (.bool true)) rfl (.pointer (some ⟨b, o + i * 3 + 1, none⟩)) (.bool true) rfl rfl W5 HST5.out ?_ | refine wpList_store _ rfl rfl 24 (.tmp 4) (.tmp 36) rfl (.pointer (some ⟨w.heap.size + 1, 0, none⟩)) (.agg #[.slice (some ⟨b, o, none⟩) sl sc, .int .i64 ((n : Nat) : Int)]) rfl rfl W6 HST6.out ?_)
  refine bodyPost_ret (ck_results3 (v := ⟨some ⟨b, o, none⟩, sl, sc⟩) rfl HK6.out _ rfl rfl rfl rfl) rfl ?_
  exact ⟨HB6.out, ⟨some ⟨b, o, none⟩, sl, sc⟩, rfl, HG.out⟩
set_option maxHeartbeats 8000000 in
set_option maxRecDepth 100000 in
theorem touch_miss {D : Nat → Prop} (w : World) (v : Sl) (h : Int) (l : List Sp) (hg : Gs D w v l) (p : Int) (hm : may l h = true) (hp : isPg p = true) (hi : ixP l p = -1) :
    Calls Try.prog 8 #[ckV v h, .int .i64 p] w fun e w' => Below w.heap.size w w' ∧ ∃ s : Sl, e = .returned (.tuple #[ckV s (touch l h p).h, .int .i64 (touch l h p).at_, .int .i64 (touch l h p).was, .int .i64 (touch l h p).e]) ∧ Gs (fun k => w.heap.size ≤ k) w' s (touch l h p).l := by
  obtain ⟨hl1, hl64, h0, hh0, _⟩ := may_iff.1 hm
  obtain ⟨n, rfl⟩ := Int.eq_ofNat_of_zero_le h0
  have HTF := hide (touch_find hm hp hi)
  simp only [Int.toNat_natCast] at HTF
  have hT := Tb.start (h := ((n : Nat) : Int)) hg
  have HC := hide (check_any _ v ((n : Nat) : Int) l hT.g)
  rw [chk_ok hm] at HC
  have HT := hide hT
  have HP := hide (isPage_any p)
  have HFO : Hid (∀ W, Gs D W v l → Calls Try.prog 21 #[ckV v ((n : Nat) : Int), .int .i64 p] W fun e w' => e = .returned (.int .i64 (-1)) ∧ Below W.heap.size W w') := fun W hW => by have := frameOf_any W v ((n : Nat) : Int) l hW p; rwa [frm_in hp, hi] at this
  rw [hp] at HP
  have HCP : Hid (∀ W, Tb D w W v ((n : Nat) : Int) l → Calls Try.prog 20 #[ckV v ((n : Nat) : Int)] W fun e w' => Below W.heap.size W w' ∧ ∃ s : Sl, e = .returned (ckV s ((n : Nat) : Int)) ∧ OwnS w' s l ∧ s.len = v.len ∧ ∀ k, s.blk = some k → W.heap.size ≤ k) := fun W hW => copyOf_any W v _ l hW.g
  have hbig : v.len ≤ 1000000 := hg.big
  have hv1 : 1 ≤ v.len := by rw [← hg.len]; exact hl1
  have hv64 : v.len ≤ 64 := by rw [← hg.len]; exact hl64
  have hn : n < v.len := by rw [← hg.len]; omega
  clear hg hT hp hi hm h0 hl1 hl64 hh0
  obtain ⟨a, len, cap⟩ := v
  unfold ckV Sl.val at *
  simp only at *
  go_enter Try.func8, Try.ntmps8
  go_wp2_with fail
  refine HC.out.mono ?_
  rintro e w1 ⟨rfl, hb1⟩
  have hT1 := HT.out.below hb1
  have c0 := hT1.k2.c0
  have c1 := hT1.k2.c1
  have HT1 := hide hT1
  clear hT1 hb1 HT
  unfold Sl.val at c0
  simp only at c0
  go_wp2_with fail
  refine (HP.out _).mono ?_
  rintro e w2 ⟨rfl, hw2⟩
  obtain rfl := hw2.symm
  go_wp2_with fail
  refine (HCP.out _ HT1.out).mono ?_
  rintro e w2 ⟨hb2, s, rfl, ho, hl, hk⟩
  obtain ⟨b, o, ha⟩ := ho.pos (by rw [hl]; omega)
  obtain ⟨sa, sl, sc⟩ := s
  replace ha : sa = some ⟨b, o, none⟩ := ha
  replace hl : sl = len := hl
  subst ha
  subst hl
  have hbb : w1.heap.size ≤ b := hk b rfl
  obtain ⟨hx, hne⟩ := Bx.start ho n
  have hA := below_alloc w2 (.cells #[.slice (some ⟨b, o, none⟩) sl sc, .int .i64 ((n : Nat) : Int)] 24)
  have hb3 := rBelow hb2 hA
  have hT3 := HT1.out.below hb3
  have d0 := hT3.k2.c0
  have d1 := hT3.k2.c1
  have HT3 := hide hT3
  have HX := hide hx
  have HB3 := hide hb3
  have HS2 := hide hb2.size
  clear hb2 ho hk hx hA hb3 hT3
  unfold ckV Sl.val at *
  simp only at *
  go_wp2_with fail
  generalize w2.alloc (.cells #[.slice (some ⟨b, o, none⟩) sl sc, .int .i64 ((n : Nat) : Int)] 24) = W3 at *
  refine (HFO.out _ HT3.out.g).mono ?_
  rintro e w4 ⟨rfl, hb4⟩
  have hx4 := (HX.out.below hb4).again
  have HFD := hide (find_any w4 w2.heap.size b o sl sc l n hx4 hne hv1 hv64 hn)
  have hE4 := rBelow HB3.out hb4
  have HE4 := hide hE4
  have HG4 : Hid (w1.heap.size ≤ w4.heap.size) := hE4.size
  clear hx4 hE4 hb4 HX HB3 HFO HP
  rcases fnd_at l n with hat | ⟨q, hat⟩
  · rw [hat] at HFD
    have e : touch l ((n : Nat) : Int) p = ⟨l, ((n : Nat) : Int), -1, -1, 11⟩ := by rw [HTF.out, if_pos (by rw [hat]; decide)]
    have HE := hide e
    clear e hat HTF
    go_wp2_with fail
    refine HFD.out.mono ?_
    rintro e w5 ⟨rfl, hx5, _, _, _⟩
    have hE5 := hx5.to HE4.out HG4.out HS2.out hbb
    have hT5 := HT1.out.below hE5
    have d0 := hT5.k2.c0
    have d1 := hT5.k2.c1
    have HT5 := hide hT5
    clear hx5 hE5 hT5 HFD HE4 HG4
    unfold Sl.val at d0
    simp only at d0
    go_wp2_with fail
    refine (HCP.out _ HT5.out).mono ?_
    rintro e w6 ⟨hb6, s, rfl, ho, hl, hk⟩
    have hT6 := HT5.out.below hb6
    obtain ⟨W, hst, k, f, hB⟩ := hT6.lay s ((n : Nat) : Int)
    have HST := hide hst
    have HK := hide k
    have HB := hide hB
    have hsz := HT5.out.k4.lt
    have HG := hide (((ho.gs (D := fun k => w5.heap.size ≤ k) hk (by omega)).off f hsz).mono (fun k hk _ => (by have := HT5.out.e.size; omega : w.heap.size ≤ k)))
    clear hT6 hst k f hB hb6 ho hk hsz
    obtain ⟨ra, rl, rc⟩ := s
    unfold ckV Sl.val at *
    simp only at *
    go_wp2_with (refine wpList_store _ rfl rfl 24 (.tmp 4) (.tmp 42) rfl (.pointer (some ⟨w.heap.size + 1, 0, none⟩)) (.agg #[.slice ra rl rc, .int .i64 ((n : Nat) : Int)]) rfl rfl W HST.out ?_)
    refine bodyPost_ret (ck_results3 (v := ⟨ra, rl, rc⟩) rfl HK.out _ rfl rfl rfl rfl) rfl ?_
    rw [HE.out]
    exact ⟨HB.out, ⟨ra, rl, rc⟩, rfl, HG.out⟩
  · rw [hat] at HFD
    have e : touch l ((n : Nat) : Int) p = ⟨(fnd l n).l.set q ⟨p, true, false⟩, ((fnd l n).h : Int), ((q : Nat) : Int), (fr (fnd l n).l q).page, 0⟩ := by rw [HTF.out, if_neg (by rw [hat]; omega), hat]; rfl
    have HE := hide e
    clear e hat HTF
    generalize fnd l n = R at *
    obtain ⟨rl, rh, ra⟩ := R
    simp only at *
    go_wp2_with fail
    refine HFD.out.mono ?_
    rintro e w5 ⟨rfl, hx5, hrl, hrh, hq⟩
    have hqs : q < sl := by omega
    obtain ⟨W6, hst6, hx6⟩ := hx5.sp hne q hqs ⟨p, true, false⟩
    have hE6 := hx6.to HE4.out HG4.out HS2.out hbb
    have hT6 := HT1.out.below hE6
    obtain ⟨W7, hst7, k7, f7, hB7⟩ := hT6.lay ⟨some ⟨b, o, none⟩, sl, sc⟩ ((rh : Nat) : Int)
    have HST6 := hide hst6
    have HST7 := hide hst7
    have HK7 := hide k7
    have HB7 := hide hB7
    have hsz := HT1.out.k4.lt
    have HG := hide (((hx6.own.gs (D := fun k => w1.heap.size ≤ k) (fun k hk => by have e : some b = some k := hk; cases e; exact hbb) hbig).off f7 hsz).mono (fun k hk _ => (by have := HT1.out.e.size; omega : w.heap.size ≤ k)))
    have e0 := hx5.ck.c0
    obtain ⟨q0, q1, q2⟩ := hx5.own.cells rfl hqs
    have g0 := hx6.ck.c0
    have g1 := hx6.ck.c1
    have i2 : ((q : Nat) : Int) < ((sl : Nat) : Int) := by omega
    have i3 : ¬ ((q : Nat) : Int) = -1 := by omega
    clear hx5 hx6 hE6 hT6 hst6 hst7 k7 f7 hB7 hsz HT3 HS2 HT1 HCP HFD HE4 HG4 hrl
    unfold ckV Sl.val Sp.val at *
    simp only at *
    go_wp2_with (first | refine wpList_store _ rfl rfl 38 (.tmp 54) (.tmp 53) rfl (.pointer (some ⟨b, o + q * 3, none⟩)) (.agg #[.int .i64 p, .bool true, .bool false]) rfl rfl W6 HST6.out ?_ | refine wpList_store _ rfl rfl 24 (.tmp 4) (.tmp 55) rfl (.pointer (some ⟨w.heap.size + 1, 0, none⟩)) (.agg #[.slice (some ⟨b, o, none⟩) sl sc, .int .i64 ((rh : Nat) : Int)]) rfl rfl W7 HST7.out ?_)
    refine bodyPost_ret (ck_results3 (v := ⟨some ⟨b, o, none⟩, sl, sc⟩) rfl HK7.out _ rfl rfl rfl rfl) rfl ?_
    rw [HE.out]
    exact ⟨HB7.out, ⟨some ⟨b, o, none⟩, sl, sc⟩, rfl, HG.out⟩

/-- Touch, of any clock that may be. -/
theorem touch_any {D : Nat → Prop} (w : World) (v : Sl) (h : Int) (l : List Sp) (hg : Gs D w v l) (p : Int) (hm : may l h = true) :
    Calls Try.prog 8 #[ckV v h, .int .i64 p] w fun e w' => Below w.heap.size w w' ∧ ∃ s : Sl, e = .returned (.tuple #[ckV s (touch l h p).h, .int .i64 (touch l h p).at_, .int .i64 (touch l h p).was, .int .i64 (touch l h p).e]) ∧ Gs (fun k => w.heap.size ≤ k) w' s (touch l h p).l := by
  cases hp : isPg p with
  | false =>
    rw [touch_arg hp]
    exact touch_one w v h l hg p hm hp
  | true =>
    rcases ixP_cases l p with ⟨h1, _⟩ | ⟨i, hi, h1, _, _⟩
    · exact touch_miss w v h l hg p hm hp h1
    · rw [touch_in hp h1]
      exact touch_hit w v h l hg p hm hp i h1 hi
end Go.Proofs.Ytfdfpdioelfjdaa
