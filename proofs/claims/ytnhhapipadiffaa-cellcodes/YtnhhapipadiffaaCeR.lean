/-
  Layer 10, the landed cell: Decode.
-/
import Derived.Test.YtnhhapipadiffaaCeQ
namespace Go.Proofs.Ytnhhapipadiffaa
open Go.RowKit Go.Shelf

attribute [local go_sem] Oper.semAt_some

theorem zeros_nul {xs : List Nat} (h : xs.length = 512) : zerosB xs = true ↔ xs = nul512 := by
  constructor
  · intro hz
    have := all_zero (zerosB_iff.1 hz)
    rw [h] at this
    exact this
  · rintro rfl
    exact zerosB_iff.2 (fun x hx => (List.mem_replicate.1 hx).2)

set_option maxHeartbeats 4000000 in
set_option maxRecDepth 100000 in
theorem decC_arg (a : Option Addr) (len cap : Nat) (xs : List Nat) (w : World) (hc : Came w a len cap xs) (h : len ≠ 512) :
    Calls Try.prog 10 #[.slice a len cap] w (CeTold xs w) := by
  have HP : Hid (PgSays xs (uns []) 1) := PgSays.arg (by rw [hc.bs.1]; exact h)
  have i1 : (((len : Nat) : Int) != 512) = true := by simp; omega
  have i2 : ¬ ((len : Nat) : Int) = 512 := by omega
  have HB := hide (rBelow (below_alloc w (.cells #[.slice none 0 0] 22)) (below_alloc _ (.cells #[.int .i64 1] 33)))
  clear hc
  go_enter Try.func10, Try.ntmps10
  go_wp2_with fail
  refine bodyPost_ret (v := .tuple #[.slice none 0 0, .int .i64 1]) (by simp [results, Try.f10, go_sem]) rfl ?_
  exact ⟨Sl.nil, [], 1, rfl, Ud.nil _ _ HB.out, HP.out⟩

/-- Decode's two boxes for what it tells. -/
structure Two (w W : World) : Prop where
  below : Below w.heap.size w W
  b2 : Box1 W w.heap.size 22 (.slice none 0 0)
  b3 : Box1 W (w.heap.size + 1) 33 (.int .i64 0)

theorem Two.new (w : World) : Two w ((w.alloc (.cells #[.slice none 0 0] 22)).alloc (.cells #[.int .i64 0] 33)) := by
  have s1 : (w.alloc (.cells #[.slice none 0 0] 22)).heap.size = w.heap.size + 1 := by simp
  refine ⟨rBelow (below_alloc _ _) (below_alloc _ _), (Box1.new w _ _).keep (below_alloc _ _), ?_⟩
  have := Box1.new (w.alloc (.cells #[.slice none 0 0] 22)) 33 (.int .i64 0)
  rw [s1] at this
  exact this
theorem Two.keep {w W W' : World} (h : Two w W) (hb : Below W.heap.size W W') : Two w W' := ⟨rBelow h.below hb, h.b2.keep hb, h.b3.keep hb⟩
theorem Two.size {w W : World} (h : Two w W) : w.heap.size + 2 ≤ W.heap.size := h.b3.lt

/-- Both are written. -/
theorem Two.told {w W : World} (h : Two w W) (a : Option Addr) (n c : Nat) (k : Int) : ∃ w2 w3, (Instr.storeAt 22 (.pointer (some ⟨w.heap.size, 0, none⟩)) (.slice a n c)).run Try.prog W = .ok () w2 ∧ (Instr.storeAt 33 (.pointer (some ⟨w.heap.size + 1, 0, none⟩)) (.int .i64 k)).run Try.prog w2 = .ok () w3 ∧
    Box1 w3 w.heap.size 22 (.slice a n c) ∧ Box1 w3 (w.heap.size + 1) 33 (.int .i64 k) ∧ Frm (fun k => k = w.heap.size) W w2 ∧ Frm (fun k => k = w.heap.size + 1) w2 w3 ∧ Below w.heap.size w w3 ∧ Box1 w2 (w.heap.size + 1) 33 (.int .i64 0) ∧ W.heap.size = w2.heap.size ∧ w2.heap.size = w3.heap.size := by
  obtain ⟨w2, hst2, b2, hf2, hs2⟩ := h.b2.undos a n c
  have b3 := h.b3.other hf2 (by omega)
  obtain ⟨w3, hst3, b3', hf3, hs3⟩ := b3.errno k
  refine ⟨w2, w3, hst2, hst3, b2.other hf3 (by omega), b3', hf2, hf3, ?_, b3, hs2.symm, hs3.symm⟩
  exact (h.below.trans (hf2.below h.below.size (fun k hk => by omega))).trans (hf3.below (by rw [hs2]; exact h.below.size) (fun k hk => by omega))

/-- The end: what both boxes hold is told. -/
theorem two_results {W : World} {g : Nat} {a : Option Addr} {n c : Nat} {k : Int} (h2 : Box1 W g 22 (.slice a n c)) (h3 : Box1 W (g + 1) 33 (.int .i64 k)) (tmps : Array Value) (t2 : tmps.getD 2 undef = .pointer (some ⟨g, 0, none⟩)) (t3 : tmps.getD 3 undef = .pointer (some ⟨g + 1, 0, none⟩)) :
    (results Try.f10 tmps).run Try.prog W = .ok (.tuple #[.slice a n c, .int .i64 k]) W := by
  have c2 := h2.cell
  have c3 := h3.cell
  rw [Array.getD_eq_getD_getElem?] at t2 t3
  simp [results, Try.f10, go_sem, t2, t3, c2, c3]

set_option maxHeartbeats 4000000 in
set_option maxRecDepth 100000 in
theorem decC_zero (a : Option Addr) (cap : Nat) (xs : List Nat) (w : World) (hc : Came w a 512 cap xs) (hz : xs = nul512) :
    Calls Try.prog 10 #[.slice a 512 cap] w (CeTold xs w) := by
  have HT := hide (Two.new w)
  have hno := noughtsC_any _ a 512 cap xs (hc.keep HT.out.below (Nat.le_refl _)).bs (by decide)
  rw [(zeros_nul hc.bs.1).2 hz] at hno
  have HNo := hide hno
  have HP : Hid (PgSays xs (uns (List.replicate 6 Ux.zero)) 0) := PgSays.none hz
  clear hno hc hz
  generalize hW2 : (w.alloc (.cells #[.slice none 0 0] 22)).alloc (.cells #[.int .i64 0] 33) = W2 at *
  have hmk := make_six W2
  have hud := Ud.six w W2 HT.out.below
  have ht3 := HT.out.keep (below_alloc W2 (.cells (cellsU (List.replicate 6 Ux.zero)).toArray 30))
  generalize W2.alloc (.cells (cellsU (List.replicate 6 Ux.zero)).toArray 30) = W3 at *
  obtain ⟨w4, w5, hst4, hst5, b2, b3, f4, f5, hB5, hb34, hs4, hs5⟩ := ht3.told (some ⟨W2.heap.size, 0, none⟩) 6 6 0
  have hu4 := hud.other ht3.b2 (Nat.le_refl _) (by decide) f4
  have hu5 := hu4.other hb34 (by omega) (by decide) f5
  have HMk := hide hmk
  have HST4 := hide hst4
  have HST5 := hide hst5
  have HU := hide hu5
  have HB2 := hide b2
  have HB3 := hide b3
  clear hmk hud ht3 hst4 hst5 b2 b3 f4 f5 hB5 hb34 hs4 hs5 hu4 hu5
  go_enter Try.func10, Try.ntmps10
  go_wp2_with fail
  refine HNo.out.mono ?_
  rintro e w3 ⟨rfl, hw⟩
  obtain rfl := hw
  go_wp2_with (first | refine wpList_make _ rfl 22 (.const (.int .i64 6)) (.const (.int .i64 6)) rfl (.int .i64 6) (.int .i64 6) (.slice (some ⟨w3.heap.size, 0, none⟩) 6 6) rfl rfl W3 HMk.out ?_ | refine wpList_store _ rfl rfl 22 (.tmp 2) (.tmp 14) rfl (.pointer (some ⟨w.heap.size, 0, none⟩)) (.slice (some ⟨w3.heap.size, 0, none⟩) 6 6) rfl rfl w4 HST4.out ?_ | refine wpList_store _ rfl rfl 33 (.tmp 3) (.const (.int .i64 0)) rfl (.pointer (some ⟨w.heap.size + 1, 0, none⟩)) (.int .i64 0) rfl rfl w5 HST5.out ?_)
  refine bodyPost_ret (two_results HB2.out HB3.out _ rfl rfl) rfl ?_
  exact ⟨⟨some ⟨w3.heap.size, 0, none⟩, 6, 6⟩, _, 0, rfl, HU.out, HP.out⟩

theorem Two.drew {w W : World} (h : Two w W) : Two w W.drew := ⟨h.below.drew, h.b2, h.b3⟩

theorem not_nul {xs : List Nat} (h : xs.length = 512) (hz : xs ≠ nul512) : zerosB xs = false := by
  cases hb : zerosB xs
  · rfl
  · exact absurd ((zeros_nul h).1 hb) hz

set_option maxHeartbeats 4000000 in
set_option maxRecDepth 100000 in
theorem decC_sum (a : Option Addr) (cap : Nat) (xs : List Nat) (w : World) (hc : Came w a 512 cap xs) (hz : xs ≠ nul512) (hs : ¬ Sealed xs) :
    Calls Try.prog 10 #[.slice a 512 cap] w (CeTold xs w) := by
  have HT := hide (Two.new w)
  obtain ⟨b, off, rfl, _⟩ := hc.bs.2.2 0 (by decide)
  have hc2 := hc.keep HT.out.below (Nat.le_refl _)
  have hno := noughtsC_any _ (some ⟨b, off, none⟩) 512 cap xs hc2.bs (by decide)
  rw [not_nul hc.bs.1 hz] at hno
  have HNo := hide hno
  have HOp := hide (open_no b off 512 cap xs _ hc2.bs (by decide) hc.le (by decide) hs)
  have HP : Hid (PgSays xs (uns []) 5) := PgSays.sum hc.bs.1 hz hs
  clear hno hc hc2 hz hs
  generalize hW2 : (w.alloc (.cells #[.slice none 0 0] 22)).alloc (.cells #[.int .i64 0] 33) = W2 at *
  go_enter Try.func10, Try.ntmps10
  go_wp2_with fail
  refine HNo.out.mono ?_
  rintro e w2 ⟨rfl, hw⟩
  obtain rfl := hw
  go_wp2_with fail
  refine HOp.out.mono ?_
  rintro e w3 ⟨rfl, hb3⟩
  have hT3 := (HT.out.keep hb3).keep (below_alloc w3 (.cells #[.int .i64 5] 33))
  have hE3 := Box1.new w3 33 (.int .i64 5)
  have hsz := HT.out.size
  have hsz3 := hb3.size
  obtain ⟨w5, w6, hst5, hst6, b2, b3, f5, f6, hB6, hb35, hs5, hs6⟩ := hT3.drew.told none 0 0 5
  have hE3' : Box1 (w3.alloc (.cells #[.int .i64 5] 33)).drew w3.heap.size 33 (.int .i64 5) := hE3
  have hE5 := hE3'.other f5 (by omega)
  have hE6 := hE5.other f6 (by omega)
  have C3 := hide hE3.cell
  have C5 := hide hE5.cell
  have C6 := hide hE6.cell
  have HST5 := hide hst5
  have HST6 := hide hst6
  have HB2 := hide b2
  have HB3 := hide b3
  have HB6 := hide hB6
  clear hb3 hT3 hE3 hsz hsz3 hst5 hst6 b2 b3 f5 f6 hB6 hb35 hs5 hs6 hE3' hE5 hE6 HNo HOp
  go_wp2_with fail
  refine Pl.region_is (ops := Pl.find 7 ((Try.f10.body).getD .skip)) (by kernel_rfl) ?_
  refine dc7 _ w5 w6 w3.heap.size w.heap.size (w.heap.size + 1) 5 C3.out C5.out C6.out HST5.out HST6.out (by rfl) (by rfl) (by rfl) (by rfl) (by rfl) ?_
  simp only [Act.put, List.setIfInBounds_toArray, List.set_cons_zero, List.set_cons_succ]
  go_wp2_with fail
  refine bodyPost_ret (two_results HB2.out HB3.out _ rfl rfl) rfl ?_
  exact ⟨Sl.nil, [], 5, rfl, Ud.nil _ _ HB6.out, HP.out⟩

theorem Owns.own {w : World} {base : Nat} {v : Value} {xs : List Nat} (h : Owns w base v xs) (h0 : 0 < xs.length) : ∃ g c, v = .slice (some ⟨g, 0, none⟩) xs.length c ∧ base ≤ g ∧ xs.length ≤ c ∧ Own 5 1 w ⟨some ⟨g, 0, none⟩, xs.length, c⟩ (vals xs) := by
  obtain ⟨h1, h2⟩ := h
  rcases h2 with ⟨_, hn⟩ | ⟨g, cap, cur, hv, hbg, hg, hle, hmx, hcs, ht⟩
  · omega
  · exact ⟨g, cap, hv, hbg, hle, h1, .inr ⟨g, 0, cur, rfl, hg, by show 0 + cap * 1 ≤ _; omega, hle, hmx, by rw [List.drop_zero]; exact ht⟩⟩

set_option maxHeartbeats 8000000 in
set_option maxRecDepth 100000 in
theorem decC_sealed (a : Option Addr) (cap : Nat) (xs : List Nat) (w : World) (hc : Came w a 512 cap xs) (hz : xs ≠ nul512) (hs : Sealed xs) :
    Calls Try.prog 10 #[.slice a 512 cap] w (CeTold xs w) := by
  have HT := hide (Two.new w)
  obtain ⟨b, off, rfl, _⟩ := hc.bs.2.2 0 (by decide)
  have hc2 := hc.keep HT.out.below (Nat.le_refl _)
  have hno := noughtsC_any _ (some ⟨b, off, none⟩) 512 cap xs hc2.bs (by decide)
  rw [not_nul hc.bs.1 hz] at hno
  have HNo := hide hno
  have HOp := hide (open_yes b off 512 cap xs _ hc2.bs (by decide) hc.le (by decide) hs)
  have HX512 := hide hc.bs.1
  have HXZ := hide hz
  have HXS := hide hs
  obtain ⟨t, ht⟩ : ∃ t, t = xs.drop 4 := ⟨_, rfl⟩
  have HTX := hide ht
  have HTL : Hid (t.length = 508) := by show _ = _; rw [ht, List.length_drop, hc.bs.1]
  have HTB : Hid (Bytes t) := by show Bytes t; rw [ht]; exact fun x hx => hc.bs.2.1 x (List.mem_of_mem_drop hx)
  rw [← ht] at HOp
  clear hno hc hc2 hz hs ht
  generalize hW2 : (w.alloc (.cells #[.slice none 0 0] 22)).alloc (.cells #[.int .i64 0] 33) = W2 at *
  refine (callsIn_wide (n := 3)).1 (callsIn_of_wp_marks Try.func10 rfl trivial (wpIn_wide.2 ?_) rfl)
  simp only [Try.ntmps10, List.size_toArray, List.length_cons, List.length_nil, Nat.reduceAdd, Nat.reduceSub, Array.replicate_succ, Array.replicate_zero, List.push_toArray, List.append_toArray, List.nil_append, List.cons_append]
  go_wp2_with fail
  refine HNo.out.mono ?_
  rintro e w2 ⟨rfl, hw⟩
  obtain rfl := hw
  go_wp2_with fail
  refine HOp.out.mono ?_
  rintro e w3 ⟨v, rfl, hown, hb3⟩
  obtain ⟨g, c, rfl, hg3, hc508, hown3⟩ := hown.own (by rw [HTL.out]; decide)
  rw [HTL.out] at hown3 hc508 ⊢
  have hB4 := below_alloc w3 (.cells #[.int .i64 0] 33)
  have hT4 := (HT.out.keep hb3).keep hB4
  have hE4 := Box1.new w3 33 (.int .i64 0)
  have hO4 : Own 5 1 (w3.alloc (.cells #[.int .i64 0] 33)) ⟨some ⟨g, 0, none⟩, 508, c⟩ (vals t) := hown3.frame (fun k hk => hB4.block k (hown3.lt hk))
  have hglt : g < w3.heap.size := hown3.lt rfl
  have hn3 : w.heap.size + 2 ≤ w3.heap.size := Nat.le_trans HT.out.size hb3.size
  have hs4 : (w3.alloc (.cells #[.int .i64 0] 33)).heap.size = w3.heap.size + 1 := by simp
  have HT4 := hide hT4
  have HE4 := hide hE4
  have HO4 := hide hO4
  have HGL := hide hglt
  have HN3 := hide hn3
  have HS4 := hide hs4
  have HC508 := hide hc508
  clear hown hown3 hb3 hB4 hT4 hE4 hO4 hglt hn3 hs4 HNo HOp hg3
  obtain ⟨W4, hW4⟩ : ∃ W4, W4 = w3.alloc (.cells #[.int .i64 0] 33) := ⟨_, rfl⟩
  rw [← hW4] at HT4 HE4 HO4 HS4
  have hc0 := (HO4.out.came HTB.out).bs.at 0 (by show 0 < 508; decide)
  obtain ⟨m, hm⟩ : ∃ m, m = t.getD 0 0 := ⟨_, rfl⟩
  have hc0' : (w3.alloc (.cells #[.int .i64 0] 33)).cell? ⟨g, 0, none⟩ = some (.int .u8 ((m : Nat) : Int)) := by rw [hm, ← hW4]; exact hc0
  have HM0 := hide hm
  have HW4 := hide hW4
  clear hc0 hm hW4
  by_cases hmk : m = 85
  · have j1 : ((m : Nat) : Int) = 85 := by omega
    go_wp2_with fail
    rw [← HW4.out]
    have hbs : Bs W4 (some ⟨g, 433, none⟩) 75 (t.drop 433) := by
      have hb := (HO4.out.came HTB.out).bs
      refine ⟨by rw [List.length_drop, HTL.out], fun x hx => HTB.out x (List.mem_of_mem_drop hx), fun i hi => ⟨g, 433, rfl, ?_⟩⟩
      have hi' : 433 + i < 508 := by omega
      have := hb.at (433 + i) hi'
      rw [Nat.zero_add] at this
      rw [this]
      simp [List.getD]
    have HNo := hide (noughtsC_any W4 (some ⟨g, 433, none⟩) 75 (c - 433) (t.drop 433) hbs (by decide))
    clear hbs hc0' HW4
    generalize w3.heap.size = n at *
    cases hzt : zerosB (t.drop 433)
    · rw [hzt] at HNo
      have HP : Hid (PgSays xs (uns []) 4) := PgSays.text HX512.out HXZ.out HXS.out (fun L hL => by
        have := zerosB_iff.2 hL.tail
        rw [← HTX.out, hzt] at this
        cases this)
      obtain ⟨w5, w6, hst5, hst6, b2, b3, f5, f6, hB6, hb35, hs5, hs6⟩ := HT4.out.told none 0 0 4
      have HST5 := hide hst5
      have HST6 := hide hst6
      have HB2 := hide b2
      have HB3 := hide b3
      have HB6 := hide hB6
      clear hst5 hst6 b2 b3 f5 f6 hB6 hb35 hs5 hs6 hzt
      refine HNo.out.mono ?_
      rintro e w4 ⟨rfl, hw⟩
      obtain rfl := hw
      go_wp2_with (first | refine wpList_store _ rfl rfl 22 (.tmp 2) (.const (.slice none 0 0)) rfl (.pointer (some ⟨w.heap.size, 0, none⟩)) (.slice none 0 0) rfl rfl w5 HST5.out ?_ | refine wpList_store _ rfl rfl 33 (.tmp 3) (.const (.int .i64 4)) rfl (.pointer (some ⟨w.heap.size + 1, 0, none⟩)) (.int .i64 4) rfl rfl w6 HST6.out ?_)
      exact ⟨_, two_results HB2.out HB3.out _ rfl rfl, ⟨Sl.nil, [], 4, rfl, Ud.nil _ _ HB6.out, HP.out⟩⟩
    · rw [hzt] at HNo
      have HZT := hide hzt
      refine HNo.out.mono ?_
      rintro e w4 ⟨rfl, hw⟩
      obtain rfl := hw
      have hmk6 := make_six w4
      have hud5 := Ud.six w w4 HT4.out.below
      have B5 := below_alloc w4 (.cells (cellsU (List.replicate 6 Ux.zero)).toArray 30)
      have s5 : (w4.alloc (.cells (cellsU (List.replicate 6 Ux.zero)).toArray 30)).heap.size = n + 2 := by simp [HS4.out]
      rw [HS4.out] at hmk6 hud5
      generalize w4.alloc (.cells (cellsU (List.replicate 6 Ux.zero)).toArray 30) = W5 at *
      have B6 := below_alloc W5 (.cells #[.slice (some ⟨n + 1, 0, none⟩) 6 6] 22)
      have lb6 := Box1.new W5 22 (.slice (some ⟨n + 1, 0, none⟩) 6 6)
      have s6 : (W5.alloc (.cells #[.slice (some ⟨n + 1, 0, none⟩) 6 6] 22)).heap.size = n + 3 := by simp [s5]
      rw [s5] at lb6
      have B7 := below_alloc (W5.alloc (.cells #[.slice (some ⟨n + 1, 0, none⟩) 6 6] 22)) (.cells #[.slice (some ⟨g, 0, none⟩) 508 c] 32)
      have bx7 : BoxS ((W5.alloc (.cells #[.slice (some ⟨n + 1, 0, none⟩) 6 6] 22)).alloc (.cells #[.slice (some ⟨g, 0, none⟩) 508 c] 32)) _ (.slice (some ⟨g, 0, none⟩) 508 c) := heap_alloc_new _ _
      have s7 : ((W5.alloc (.cells #[.slice (some ⟨n + 1, 0, none⟩) 6 6] 22)).alloc (.cells #[.slice (some ⟨g, 0, none⟩) 508 c] 32)).heap.size = n + 4 := by simp [s5]
      rw [s6] at bx7
      have hR := rooms_any (some ⟨g, 0, none⟩) 508 c (W5.alloc (.cells #[.slice (some ⟨n + 1, 0, none⟩) 6 6] 22))
      rw [s6] at hR
      have T7 := (((HT4.out.keep B5).keep B6).keep B7)
      have O7 : Own 5 1 ((W5.alloc (.cells #[.slice (some ⟨n + 1, 0, none⟩) 6 6] 22)).alloc (.cells #[.slice (some ⟨g, 0, none⟩) 508 c] 32)) ⟨some ⟨g, 0, none⟩, 508, c⟩ (vals t) := by
        have o5 : Own 5 1 W5 ⟨some ⟨g, 0, none⟩, 508, c⟩ (vals t) := HO4.out.frame (fun k hk => B5.block k (HO4.out.lt hk))
        have o6 := o5.frame (fun k hk => B6.block k (o5.lt hk))
        exact o6.frame (fun k hk => B7.block k (o6.lt hk))
      have HI0 : Hid (DeI w n g c t [] ((W5.alloc (.cells #[.slice (some ⟨n + 1, 0, none⟩) 6 6] 22)).alloc (.cells #[.slice (some ⟨g, 0, none⟩) 508 c] 32))) :=
        ⟨T7.below, T7.b2, T7.b3, O7, ((HE4.out.keep B5).keep B6).keep B7, lb6.keep B7, bx7, _, rfl, (hud5.keep B6).keep B7, fun y hy => by cases hy⟩
      have HMk := hide hmk6
      have HR := hide hR
      have HS7 := hide s7
      clear hmk6 hud5 B5 B6 B7 lb6 s6 bx7 s7 hR T7 O7 hzt HNo
      generalize (W5.alloc (.cells #[.slice (some ⟨n + 1, 0, none⟩) 6 6] 22)).alloc (.cells #[.slice (some ⟨g, 0, none⟩) 508 c] 32) = W7 at *
      go_wp2_with (refine wpList_make _ rfl 22 (.const (.int .i64 6)) (.const (.int .i64 6)) rfl (.int .i64 6) (.int .i64 6) (.slice (some ⟨n + 1, 0, none⟩) 6 6) rfl rfl W5 HMk.out ?_)
      refine HR.out.mono ?_
      rintro e w7 ⟨rfl, rfl⟩
      go_wp2_with fail
      refine (wpIn_wide (n := 3)).1 ?_
      have hn3 := HN3.out
      refine wpIn_rangeFunc_ownG (Kp := KeptBox (n + 3)) rfl (by decide) (gf := 30) (lb := #[.pointer (some ⟨n + 3, 0, none⟩)]) rfl trivial (enters_of Try.func30 (by kernel_rfl) rfl)
        (rooms_stops (3 - 1) (n + 3) g c HC508.out w7 HI0.out.bx) keptBox_t (keptBox_b (by rw [HS7.out]; omega)) (Below.refl _ _) (fun _ => rfl)
        (DeI w n g c t) (DeX w t) (DeI.own (by rw [HS7.out]; omega)) (DeX.own (by rw [HS7.out]; omega)) HI0.out
        (fun x => { tmps := #[.slice (some ⟨b, off, none⟩) 512 cap, undef, .pointer (some ⟨w.heap.size, 0, none⟩), .pointer (some ⟨w.heap.size + 1, 0, none⟩), .slice (some ⟨g, 0, none⟩) 508 c, .pointer (some ⟨n, 0, none⟩), .pointer (some ⟨n + 2, 0, none⟩), .int .i64 ((x.1 : Nat) : Int), .slice (some ⟨g, 1 + 72 * x.1, none⟩) 72 (c - (1 + 72 * x.1)), .slice (some ⟨b, off, none⟩) 512 cap, .int .i64 512, .bool false, .slice (some ⟨b, off, none⟩) 512 cap, .bool false, undef, .tuple #[.slice (some ⟨g, 0, none⟩) 508 c, .int .i64 0], .slice (some ⟨b, off, none⟩) 512 cap, .tuple #[.slice (some ⟨g, 0, none⟩) 508 c, .int .i64 0], .slice (some ⟨g, 0, none⟩) 508 c, .int .i64 0, .int .i64 0, .bool false, undef, .slice (some ⟨g, 0, none⟩) 508 c, .pointer (some ⟨g, 0, none⟩), .int .u8 85, .bool false, .bool false, .slice (some ⟨g, 0, none⟩) 508 c, .slice (some ⟨g, 433, none⟩) 75 (c - 433), .bool true, .bool false, .bool false, .slice (some ⟨n + 1, 0, none⟩) 6 6, .slice (some ⟨g, 0, none⟩) 508 c, .func (.func 30) #[] #[.pointer (some ⟨n + 3, 0, none⟩)], .int .i64 ((x.1 : Nat) : Int), .slice (some ⟨g, 1 + 72 * x.1, none⟩) 72 (c - (1 + 72 * x.1)), undef, undef, undef, undef, undef, undef, undef, undef, undef, undef, undef, undef], defers := [] }) ?assign ?body ?done ?stop
      case assign =>
        intro lp x W K hK
        unfold roomV
        gi_wp2
        exact hK
      case body =>
        intro lp pre x W hI _
        have hx6 := x.2
        have hgl := HGL.out
        obtain ⟨mm, h6, hu, hmm⟩ := hI.row
        have hd : Below W.heap.size W W.drew := (Below.refl _ W).drew
        have hcm : Came W.drew (some ⟨g, 1 + 72 * x.1, none⟩) 72 (c - (1 + 72 * x.1)) (pieceC t x.1) := by
          have hb := (hI.txt.came HTB.out).bs
          refine ⟨⟨piece_len HTL.out x.1 hx6, piece_bytes HTB.out x.1, fun i hi => ⟨g, 1 + 72 * x.1, rfl, ?_⟩⟩, (fun e => by cases e), by have := HC508.out; omega, by decide⟩
          have hi' : 1 + 72 * x.1 + i < 508 := by omega
          have := hb.at (1 + 72 * x.1 + i) hi'
          rw [Nat.zero_add] at this
          show W.cell? _ = _
          rw [this]
          unfold pieceC
          simp [List.getD, hi]
        have htk := takeC_any g (1 + 72 * x.1) (c - (1 + 72 * x.1)) (pieceC t x.1) W.drew hcm (by have := HC508.out; omega)
        refine wpIn_block (wpIn_seq ?_)
        refine Pl.region_isR (ops := Pl.findR 14 ((Try.f10.body).getD .skip)) (by kernel_rfl) ?_
        refine dc14 lp _ W (n + 2) n (n + 1) x.1 hx6 _ hI.lb.cell (by rfl) (by rfl) (by rfl) (by rfl) (by rfl) (by rfl) (fun _ _ h => h) (htk.mono ?_)
        have step : ∀ (w1 : World) (y : Ux) (k : Int), Below W.drew.heap.size W.drew w1 → Col w w1 y → y.u.fits → ∃ w2 w3, (Instr.storeAt 30 (.pointer (some ⟨n + 1, 0 + x.1 * 12, none⟩)) y.val).run Try.prog w1 = .ok () w2 ∧ (Instr.storeAt 33 (.pointer (some ⟨n, 0, none⟩)) (.int .i64 k)).run Try.prog w2 = .ok () w3 ∧
            Box1 w1 (n + 2) 22 (.slice (some ⟨n + 1, 0, none⟩) 6 6) ∧ Box1 w2 (n + 2) 22 (.slice (some ⟨n + 1, 0, none⟩) 6 6) ∧ Box1 w3 (n + 2) 22 (.slice (some ⟨n + 1, 0, none⟩) 6 6) ∧ Box1 w3 n 33 (.int .i64 k) ∧ Two w w3 ∧ Ud w w3 ⟨some ⟨n + 1, 0, none⟩, 6, 6⟩ (mm.set x.1 y) ∧ Frm (fun k => k = n ∨ k = n + 1) W w3 := by
          intro w1 y k hb1 hcol hfit
          have hW1 : Below W.heap.size W w1 := rBelow hd hb1
          have hu1 := hu.keep hW1
          obtain ⟨w2, hst2, hu2, f2⟩ := hu1.set (g := n + 1) (off := 0) rfl x.1 (by omega) y hcol hfit
          have lb1 := hI.lb.keep hW1
          have lb2 := lb1.other f2 (by omega)
          have eb2 := (hI.eb.keep hW1).other f2 (by omega)
          obtain ⟨w3, hst3, eb3, f3, s3⟩ := eb2.errno k
          have hu3 := hu2.other eb2 (by omega) (by decide) f3
          refine ⟨w2, w3, hst2, hst3, lb1, lb2, lb2.other f3 (by omega), eb3, ⟨hu3.below, ((hI.b2.keep hW1).other f2 (by omega)).other f3 (by omega), ((hI.b3.keep hW1).other f2 (by omega)).other f3 (by omega)⟩, hu3, ?_⟩
          exact ((Frm.ofBelow hW1).trans (f2.mono (G := fun k => k = n ∨ k = n + 1) (fun _ _ h => .inr h)) (fun _ _ h => h)).trans (f3.mono (G := fun k => k = n ∨ k = n + 1) (fun _ _ h => .inl h)) (fun _ _ h => h)
        have hrow : ∃ C tt fr, W.heap[n + 1]? = some (Obj.cells C tt fr) := by
          obtain ⟨cur, hcur⟩ := hu.own.kind (k := n + 1) rfl
          exact ⟨_, _, _, hcur⟩
        rintro e w1 ⟨hb1, ⟨hno, rfl⟩ | ⟨y, hyes, hfit, rfl, hcol⟩⟩
        · obtain ⟨w2, w3, hst2, hst3, lb1, lb2, lb3, eb3, T3, hu3, hF3⟩ := step w1 Ux.zero 4 hb1 (Col.zero _ _) zeroU_fits
          obtain ⟨w4, w5, hst4, hst5, b2, b3, f4, f5, hB5, hb34, hs4, hs5⟩ := T3.drew.told none 0 0 4
          have eb3' : Box1 w3.drew n 33 (.int .i64 4) := eb3
          have eb4 := eb3'.other f4 (by omega)
          have eb5 := eb4.other f5 (by omega)
          have hF5 : Frm (fun k => (k = n ∨ k = n + 1) ∨ k = w.heap.size ∨ k = w.heap.size + 1) W w5 :=
            (((hF3.mono (G := fun k => (k = n ∨ k = n + 1) ∨ k = w.heap.size ∨ k = w.heap.size + 1) (fun _ _ h => .inl h)).drew).trans (f4.mono (G := fun k => (k = n ∨ k = n + 1) ∨ k = w.heap.size ∨ k = w.heap.size + 1) (fun _ _ h => .inr (.inl h))) (fun _ _ h => h)).trans (f5.mono (G := fun k => (k = n ∨ k = n + 1) ∨ k = w.heap.size ∨ k = w.heap.size + 1) (fun _ _ h => .inr (.inr h))) (fun _ _ h => h)
          have HE : Hid (KeepsFrom w7.heap.size W w5 ∧ DeX w t .ret (pre ++ [x]) w5) := by
            refine ⟨(hF5.keeps (fun k _ hk => ?_)).from _, rfl, hB5, b2, b3, x, hno⟩
            rcases hk with (rfl | rfl) | rfl | rfl
            · exact ⟨_, _, _, hI.eb⟩
            · exact hrow
            · exact ⟨_, _, _, hI.b2⟩
            · exact ⟨_, _, _, hI.b3⟩
          have HST4 := hide hst4
          have HST5 := hide hst5
          have C3 := hide eb3.cell
          have C4 := hide eb4.cell
          have C5 := hide eb5.cell
          refine ⟨Ux.zero, 4, w2, w3, rfl, lb1.cell, hst2, lb2.cell, hst3, lb3.cell, fun u => ?_⟩
          simp only [Act.put, List.setIfInBounds_toArray, List.set_cons_zero, List.set_cons_succ]
          have c3 := C3.out
          clear hst2 hst3 lb1 lb2 lb3 eb3 T3 hu3 hF3 hst4 hst5 b2 b3 f4 f5 hB5 hb34 hs4 hs5 eb3' eb4 eb5 hF5 step hrow htk hcm hu hmm h6 hb1 hd hI hno
          refine wpIn_seq (lit_round (by kernel_rfl) (fun _ _ h => h) ?_)
          go_wp2_with fail
          refine wpIn_cond_true rfl (wpIn_seq ?_)
          refine Pl.region_isR (ops := Pl.findR 16 ((Try.f10.body).getD .skip)) (by kernel_rfl) ?_
          refine dc16 lp _ w3 w4 w5 n w.heap.size (w.heap.size + 1) 4 C3.out C4.out C5.out HST4.out HST5.out (by rfl) (by rfl) (by rfl) (by rfl) (by rfl) (fun _ _ h => h) ?_
          exact wpIn_ret HE.out
        · obtain ⟨w2, w3, hst2, hst3, lb1, lb2, lb3, eb3, T3, hu3, hF3⟩ := step w1 y 0 hb1 (hcol w) hfit
          have HE : Hid (KeepsFrom w7.heap.size W w3 ∧ KeptBox (n + 3) W w3 ∧ DeI w n g c t (pre ++ [x]) w3) := by
            have hbx := hF3.block (n + 3) (Array.getElem?_eq_some_iff.1 hI.bx).1 (by omega)
            refine ⟨(hF3.keeps (fun k _ hk => ?_)).from _, hbx, T3.below, T3.b2, T3.b3, hI.txt.frame (fun k hk => hF3.block k (hI.txt.lt hk) ?_), eb3, lb3, hbx.trans hI.bx, mm.set x.1 y, by rw [List.length_set, h6], hu3, fun z hz => ?_⟩
            · rcases hk with rfl | rfl
              · exact ⟨_, _, _, hI.eb⟩
              · exact hrow
            · have e : g = k := by simpa [Sl.blk] using hk
              omega
            · by_cases hzx : z.1 = x.1
              · rw [hzx, hyes]
                have : x.1 < mm.length := by omega
                simp [List.getD, this]
              · have hz' : z ∈ pre := by
                  rcases List.mem_append.1 hz with k | k
                  · exact k
                  · exact absurd (congrArg Subtype.val (List.mem_singleton.1 k)) hzx
                rw [hmm z hz']
                have hne : x.1 ≠ z.1 := fun e => hzx e.symm
                simp [List.getD, hne]
          have c3 := eb3.cell
          refine ⟨y, 0, w2, w3, rfl, lb1.cell, hst2, lb2.cell, hst3, lb3.cell, fun u => ?_⟩
          simp only [Act.put, List.setIfInBounds_toArray, List.set_cons_zero, List.set_cons_succ]
          clear hst2 hst3 lb1 lb2 lb3 eb3 T3 hu3 hF3 step hrow htk hcm hu hmm h6 hb1 hd hI hyes hfit hcol
          refine wpIn_seq (lit_round (by kernel_rfl) (fun _ _ h => h) ?_)
          go_wp2_with fail
          exact wpIn_cond_false rfl (wpIn_skip HE.out)
      case done =>
        intro D ys W hD hys hI hK
        subst hys
        obtain ⟨mm, h6, hu, hmm⟩ := hI.row
        have hD4 : n + 4 ≤ D := by rw [← HS7.out]; exact hD
        have HLb := hI.lb.cell
        have hT : Two w W := ⟨hI.below, hI.b2, hI.b3⟩
        obtain ⟨w8, w9, hst8, hst9, b2, b3, f8, f9, hB9, hb38, hs8, hs9⟩ := hT.told (some ⟨n + 1, 0, none⟩) 6 6 0
        have hu8 := hu.other hI.b2 (Nat.le_refl _) (by decide) f8
        have hu9 := hu8.other hb38 (by omega) (by decide) f9
        have hDlt : D < W.heap.size := (Array.getElem?_eq_some_iff.1 hK).1
        have hK9 : w9.heap[D]? = some (.deferred (some [])) := (f9.block D (by omega) (by omega)).trans ((f8.block D hDlt (by omega)).trans hK)
        have hu10 : Ud w (w9.putObj D (.deferred none)) ⟨some ⟨n + 1, 0, none⟩, 6, 6⟩ mm := hu9.grown (grownBy_putObj' w9 D (.deferred none)) (fun r e => by cases e; exact ⟨by omega, _, hK9, rfl⟩)
        have b2' : Box1 (w9.putObj D (.deferred none)) w.heap.size 22 (.slice (some ⟨n + 1, 0, none⟩) 6 6) := (put_other _ _ _ _ (by omega)).trans b2
        have b3' : Box1 (w9.putObj D (.deferred none)) (w.heap.size + 1) 33 (.int .i64 0) := (put_other _ _ _ _ (by omega)).trans b3
        have HP : Hid (PgSays xs (uns mm) 0) := PgSays.some HX512.out HXZ.out HXS.out (uns mm) (by
          rw [← HTX.out]
          refine ⟨by rw [uns_len, h6], by rw [← HM0.out, hmk], fun i hi => ?_, zerosB_iff.1 HZT.out⟩
          rw [hmm ⟨i, hi⟩ (uptoC_mem _), uns_get])
        have HST8 := hide hst8
        have HST9 := hide hst9
        have HB2 := hide b2'
        have HB3 := hide b3'
        have HU := hide hu10
        have HK := hide hK9
        clear hu hmm h6 hI hT hst8 hst9 b2 b3 f8 f9 hB9 hb38 hs8 hs9 hu8 hu9 hDlt hK9 hu10 b2' b3' hK hD hD4
        go_wp2_with (first | refine wpList_store _ rfl rfl 22 (.tmp 2) (.tmp 49) rfl (.pointer (some ⟨w.heap.size, 0, none⟩)) (.slice (some ⟨n + 1, 0, none⟩) 6 6) rfl rfl w8 HST8.out ?_ | refine wpList_store _ rfl rfl 33 (.tmp 3) (.const (.int .i64 0)) rfl (.pointer (some ⟨w.heap.size + 1, 0, none⟩)) (.int .i64 0) rfl rfl w9 HST9.out ?_)
        refine ⟨by simp, .inl ⟨_, _, rfl, run_takeDeferred HK.out, ?_⟩⟩
        exact ⟨_, two_results HB2.out HB3.out _ rfl rfl, ⟨⟨some ⟨n + 1, 0, none⟩, 6, 6⟩, mm, 0, rfl, HU.out, HP.out⟩⟩
      case stop =>
        intro D cd pre W hD _ hX hK
        obtain rfl := hX.ret
        have hD4 : n + 4 ≤ D := by rw [← HS7.out]; exact hD
        have b2' : Box1 (W.putObj D (.deferred none)) w.heap.size 22 (.slice none 0 0) := (put_other _ _ _ _ (by omega)).trans hX.b2
        have b3' : Box1 (W.putObj D (.deferred none)) (w.heap.size + 1) 33 (.int .i64 4) := (put_other _ _ _ _ (by omega)).trans hX.b3
        obtain ⟨y, hy⟩ := hX.no
        have HP : Hid (PgSays xs (uns []) 4) := PgSays.text HX512.out HXZ.out HXS.out (fun L hL => by
          have := hL.cell y.1 y.2
          rw [← HTX.out, hy] at this
          cases this)
        refine wpIn_ret ?_
        refine ⟨by simp, .inl ⟨_, _, rfl, run_takeDeferred hK, ?_⟩⟩
        exact ⟨_, two_results b2' b3' _ rfl rfl, ⟨Sl.nil, [], 4, rfl, Ud.nil _ _ (hX.below.trans (belowK_b (w := w) (Nat.le_refl _) W D _ _ (by omega) hK rfl rfl)), HP.out⟩⟩
  · have j1 : ¬ ((m : Nat) : Int) = 85 := by omega
    have HP : Hid (PgSays xs (uns []) 4) := PgSays.text HX512.out HXZ.out HXS.out (fun L hL => by
      have := hL.mark
      rw [← HTX.out, ← HM0.out] at this
      exact hmk this)
    obtain ⟨w5, w6, hst5, hst6, b2, b3, f5, f6, hB6, hb35, hs5, hs6⟩ := HT4.out.told none 0 0 4
    rw [HW4.out] at hst5
    have HST5 := hide hst5
    have HST6 := hide hst6
    have HB2 := hide b2
    have HB3 := hide b3
    have HB6 := hide hB6
    clear hst5 hst6 b2 b3 f5 f6 hB6 hb35 hs5 hs6 hmk
    go_wp2_with (first | refine wpList_store _ rfl rfl 22 (.tmp 2) (.const (.slice none 0 0)) rfl (.pointer (some ⟨w.heap.size, 0, none⟩)) (.slice none 0 0) rfl rfl w5 HST5.out ?_ | refine wpList_store _ rfl rfl 33 (.tmp 3) (.const (.int .i64 4)) rfl (.pointer (some ⟨w.heap.size + 1, 0, none⟩)) (.int .i64 4) rfl rfl w6 HST6.out ?_)
    exact ⟨_, two_results HB2.out HB3.out _ rfl rfl, ⟨Sl.nil, [], 4, rfl, Ud.nil _ _ HB6.out, HP.out⟩⟩

theorem decC_holds : DecC := by
  intro a len cap xs w hc _
  by_cases h : len = 512
  · subst h
    by_cases hz : xs = nul512
    · exact decC_zero a cap xs w hc hz
    · by_cases hs : Sealed xs
      · exact decC_sealed a cap xs w hc hz hs
      · exact decC_sum a cap xs w hc hz hs
  · exact decC_arg a len cap xs w hc h

end Go.Proofs.Ytnhhapipadiffaa
