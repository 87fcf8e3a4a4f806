/-
  The walks of the law on what is opened: bytes too few, bytes that are not sealed, bytes that are; each way through the law's own text.
-/
import Derived.Test.YtjoapceffgibcaaRegs
import Derived.Deep.RegionWith
namespace Go.Proofs.Ytjoapceffgibcaa.tallyOpens
open Go.RowKit

theorem from_four {b off cap : Nat} (h : ¬ cap = 4) : fromA (some ⟨b, off, none⟩) cap 4 = some ⟨b, off + 4, none⟩ := by
  unfold fromA
  rw [if_neg h]
  simp only [Option.map_some, Nat.mul_one, Addr.add_lit]

set_option maxHeartbeats 400000 in
theorem walk_big (a : Option Addr) (len cap : Nat) (w : World) (hl : 3000 < len) (hbig : len ≤ 9223372036854775807) :
    Calls Try.prog 4 #[.slice a len cap] w fun e w' => e = .returned (.bool true) ∧ Below w.heap.size w w' := by
  have hi : (3000 : Int) < (len : Int) := by omega
  have H7 := hide (awake_any w)
  go_enter Try.func4, Try.ntmps4
  go_wp2_with fail
  refine H7.out.mono ?_
  rintro e w' ⟨rfl, hb⟩
  go_wp2_with fail
  go_ret
  exact ⟨rfl, hb⟩

set_option maxHeartbeats 400000 in
theorem walk_short (a : Option Addr) (len cap : Nat) (xs : List Nat) (w : World) (h : Came w a len cap xs) (hl : len < 4) :
    Calls Try.prog 4 #[.slice a len cap] w fun e w' => e = .returned (.bool true) ∧ Below w.heap.size w w' := by
  have hi : ¬ (3000 : Int) < (len : Int) := by omega
  have hj : (len : Int) < 4 := by omega
  have HO := hide (own_new w)
  have HW := hide (below_alloc w (.cells #[] 5))
  have HB := hide (h.bs.keep HW.out (Nat.le_refl _))
  have HN := hide h.nil
  have hX := h.bs.2.1
  have hxl := h.bs.1
  clear h
  go_enter Try.func4, Try.ntmps4
  go_wp2_with (at_builtin; refine wpList_append_bytes _ rfl (.tmp 10) (.tmp 11) rfl _ _ [] rfl HO.out a len cap xs rfl HB.out HN.out (by show 0 + len ≤ 1000000; omega) HW.out.size ?_)
  intro v1 w1 ho hb
  obtain ⟨a1, cap1, rfl, _, _⟩ := ho.bs hX
  have HW1 := hide (HW.out.trans hb)
  have H9 := hide (open_short a1 ([] ++ xs).length cap1 w1 (by simpa [hxl] using hl))
  have H7 := hide (awake_any w1)
  clear ho hb hX hxl
  go_wp2_with fail
  refine H9.out.mono ?_
  rintro e w' ⟨rfl, hw⟩
  obtain rfl := hw.symm
  go_wp2_with fail
  refine H7.out.mono ?_
  rintro e w' ⟨rfl, hb⟩
  go_wp2_with fail
  go_ret
  exact ⟨rfl, HW1.out.trans (hb.mono HW1.out.size)⟩

set_option maxHeartbeats 2000000 in
theorem walk_bad (b off len cap : Nat) (xs : List Nat) (w : World) (h : Came w (some ⟨b, off, none⟩) len cap xs) (h4 : 4 ≤ len) (hl : len ≤ 3000) (hc4 : ¬ cap = 4) (hd : ¬ Sealed xs) :
    Calls Try.prog 4 #[.slice (some ⟨b, off, none⟩) len cap] w fun e w' => e = .returned (.bool true) ∧ Below w.heap.size w w' := by
  have i1 : ¬ (3000 : Int) < (len : Int) := by omega
  have i2 : ¬ (len : Int) < 4 := by omega
  have hcap : len ≤ cap := h.le
  have HO := hide (own_new w)
  have HW := hide (below_alloc w (.cells #[] 5))
  have HT : Hid (Bs w (some ⟨b, off + 4, none⟩) (len - 4) (xs.drop 4)) := h.bs.drop4 h4
  have HBS := hide h.bs
  have HB := hide (h.bs.keep HW.out (Nat.le_refl _))
  have HD := hide hd
  obtain ⟨S, hS⟩ : ∃ S, S = bstr xs := ⟨_, rfl⟩
  obtain ⟨R, hR⟩ : ∃ R, R = bstr (fourB (Ta.sum (xs.drop 4)) ++ xs.drop 4) := ⟨_, rfl⟩
  have htest : (!(R.toList == S.toList)) = true := by
    rw [hR, hS, str_ne ?_ h.bs.2.1 hd]
    · rfl
    · exact sealed_bytes HT.out.2.1
  clear h hd
  go_enter Try.func4, Try.ntmps4
  go_wp2_with (at_builtin; refine wpList_append_bytes _ rfl (.tmp 10) (.tmp 11) rfl _ _ [] rfl HO.out _ len cap xs rfl HB.out (fun e => by cases e) (by show 0 + len ≤ 1000000; omega) HW.out.size ?_)
  intro v1 w1 ho hb
  have hxl := HBS.out.1
  obtain ⟨g, cap1, rfl, _, _, hle⟩ := Owns.pos (xs := xs) ho (by omega)
  have hb1 := (Owns.row (xs := xs) ho HBS.out.2.1).2
  rw [hxl] at hb1 hle ⊢
  have HW1 := hide (HW.out.trans hb)
  have H9 := hide (open_no g 0 len cap1 xs w1 hb1 (by omega) hle (by omega) HD.out)
  clear ho hb hb1 hle hxl
  go_wp2_with fail
  refine H9.out.mono ?_
  rintro e w2 ⟨rfl, hb2⟩
  have HW2 := hide (HW1.out.trans (hb2.mono HW1.out.size))
  clear hb2
  have H13 : Hid (∀ wr, Below w2.heap.size w2 wr → ∀ cp, Calls Try.prog 13 #[.slice (some ⟨b, off + 4, none⟩) (len - 4) cp] wr fun e w' => ∃ g c, e = .returned (.slice (some ⟨g, 0, none⟩) len c) ∧ (convert 22 9 (.slice (some ⟨g, 0, none⟩) len c)).run Try.prog w' = .ok (.string R) w' ∧
      (convert 22 9 (.slice (some ⟨b, off, none⟩) len cap)).run Try.prog w' = .ok (.string S) w' ∧ Below w2.heap.size w2 w') := by
    intro wr hb cp
    have := rseal_str w2 (some ⟨b, off, none⟩) len cap xs (HBS.out.keep HW2.out (Nat.le_refl _)) _ _ _ (HT.out.keep HW2.out (Nat.le_refl _)) (by omega) wr hb cp (fun e => by cases e)
    rw [show 4 + (len - 4) = len by omega, ← hR, ← hS] at this
    exact this
  have HWd := hide ((Below.refl w2.heap.size w2).drew)
  have hs0 := run_string_of cap ((HBS.out.keep HW2.out (Nat.le_refl _)).keep HWd.out (Nat.le_refl _))
  rw [← hS] at hs0
  have HR := hide hR
  have HS := hide hS
  clear hR hS
  go_wp2_with fail
  go_region_with (go_at_call 13; refine (H13.out _ HWd.out _).mono ?_; rintro e w3 ⟨g3, c3, rfl, hs3, hsb, hb3⟩; have HW3 := hide hb3; clear hb3)
  all_goals
    have H7 := hide (awake_any w3)
    go_wp2_with fail
    refine H7.out.mono ?_
    rintro e w4 ⟨rfl, hb4⟩
    go_wp2_with fail
    go_ret
    have hb5 := HW2.out.trans (HW3.out.mono HW2.out.size)
    exact ⟨rfl, hb5.trans (hb4.mono hb5.size)⟩

set_option maxHeartbeats 2000000 in
theorem walk_bad4 (b off : Nat) (xs : List Nat) (w : World) (h : Came w (some ⟨b, off, none⟩) 4 4 xs) (hd : ¬ Sealed xs) :
    Calls Try.prog 4 #[.slice (some ⟨b, off, none⟩) 4 4] w fun e w' => e = .returned (.bool true) ∧ Below w.heap.size w w' := by
  have HO := hide (own_new w)
  have HW := hide (below_alloc w (.cells #[] 5))
  have HT : Hid (Bs w (some ⟨b, off, none⟩) 0 (xs.drop 4)) := drop_all h.bs
  have HBS := hide h.bs
  have HB := hide (h.bs.keep HW.out (Nat.le_refl _))
  have HD := hide hd
  obtain ⟨S, hS⟩ : ∃ S, S = bstr xs := ⟨_, rfl⟩
  obtain ⟨R, hR⟩ : ∃ R, R = bstr (fourB (Ta.sum (xs.drop 4)) ++ xs.drop 4) := ⟨_, rfl⟩
  have htest : (!(R.toList == S.toList)) = true := by
    rw [hR, hS, str_ne ?_ h.bs.2.1 hd]
    · rfl
    · exact sealed_bytes HT.out.2.1
  clear h hd
  go_enter Try.func4, Try.ntmps4
  go_wp2_with (at_builtin; refine wpList_append_bytes _ rfl (.tmp 10) (.tmp 11) rfl _ _ [] rfl HO.out _ 4 4 xs rfl HB.out (fun e => by cases e) (by show 0 + 4 ≤ 1000000; omega) HW.out.size ?_)
  intro v1 w1 ho hb
  have hxl := HBS.out.1
  obtain ⟨g, cap1, rfl, _, _, hle⟩ := Owns.pos (xs := xs) ho (by omega)
  have hb1 := (Owns.row (xs := xs) ho HBS.out.2.1).2
  rw [hxl] at hb1 hle ⊢
  have HW1 := hide (HW.out.trans hb)
  have H9 := hide (open_no g 0 4 cap1 xs w1 hb1 (by omega) hle (by omega) HD.out)
  clear ho hb hb1 hle hxl
  go_wp2_with fail
  refine H9.out.mono ?_
  rintro e w2 ⟨rfl, hb2⟩
  have HW2 := hide (HW1.out.trans (hb2.mono HW1.out.size))
  clear hb2
  have H13 : Hid (∀ wr, Below w2.heap.size w2 wr → ∀ cp, Calls Try.prog 13 #[.slice (some ⟨b, off, none⟩) 0 cp] wr fun e w' => ∃ g c, e = .returned (.slice (some ⟨g, 0, none⟩) 4 c) ∧ (convert 22 9 (.slice (some ⟨g, 0, none⟩) 4 c)).run Try.prog w' = .ok (.string R) w' ∧
      (convert 22 9 (.slice (some ⟨b, off, none⟩) 4 4)).run Try.prog w' = .ok (.string S) w' ∧ Below w2.heap.size w2 w') := by
    intro wr hb cp
    have := rseal_str w2 (some ⟨b, off, none⟩) 4 4 xs (HBS.out.keep HW2.out (Nat.le_refl _)) _ _ _ (HT.out.keep HW2.out (Nat.le_refl _)) (by omega) wr hb cp (fun e => by cases e)
    rw [← hR, ← hS] at this
    exact this
  have HWd := hide ((Below.refl w2.heap.size w2).drew)
  have hs0 := run_string_of 4 ((HBS.out.keep HW2.out (Nat.le_refl _)).keep HWd.out (Nat.le_refl _))
  rw [← hS] at hs0
  have HR := hide hR
  have HS := hide hS
  clear hR hS
  go_wp2_with fail
  go_region_with (go_at_call 13; refine (H13.out _ HWd.out _).mono ?_; rintro e w3 ⟨g3, c3, rfl, hs3, hsb, hb3⟩; have HW3 := hide hb3; clear hb3)
  all_goals
    have H7 := hide (awake_any w3)
    go_wp2_with fail
    refine H7.out.mono ?_
    rintro e w4 ⟨rfl, hb4⟩
    go_wp2_with fail
    go_ret
    have hb5 := HW2.out.trans (HW3.out.mono HW2.out.size)
    exact ⟨rfl, hb5.trans (hb4.mono hb5.size)⟩

set_option maxHeartbeats 2000000 in
theorem walk_good (b off len cap : Nat) (xs : List Nat) (w : World) (h : Came w (some ⟨b, off, none⟩) len cap xs) (h4 : 4 ≤ len) (hl : len ≤ 3000) (hc4 : ¬ cap = 4) (hd : Sealed xs) :
    Calls Try.prog 4 #[.slice (some ⟨b, off, none⟩) len cap] w fun e w' => e = .returned (.bool true) ∧ Below w.heap.size w w' := by
  have i1 : ¬ (3000 : Int) < (len : Int) := by omega
  have i2 : ¬ (len : Int) < 4 := by omega
  have hcap : len ≤ cap := h.le
  have HO := hide (own_new w)
  have HW := hide (below_alloc w (.cells #[] 5))
  have HT : Hid (Bs w (some ⟨b, off + 4, none⟩) (len - 4) (xs.drop 4)) := h.bs.drop4 h4
  have HBS := hide h.bs
  have HB := hide (h.bs.keep HW.out (Nat.le_refl _))
  have HD := hide hd
  obtain ⟨S, hS⟩ : ∃ S, S = bstr xs := ⟨_, rfl⟩
  have hR : S = bstr (fourB (Ta.sum (xs.drop 4)) ++ xs.drop 4) := by rw [hS]; exact congrArg bstr hd.symm
  obtain ⟨X, hX⟩ : ∃ X, X = bstr (xs.drop 4) := ⟨_, rfl⟩
  clear h hd
  go_enter Try.func4, Try.ntmps4
  go_wp2_with (at_builtin; refine wpList_append_bytes _ rfl (.tmp 10) (.tmp 11) rfl _ _ [] rfl HO.out _ len cap xs rfl HB.out (fun e => by cases e) (by show 0 + len ≤ 1000000; omega) HW.out.size ?_)
  intro v1 w1 ho hb
  have hxl := HBS.out.1
  obtain ⟨g, cap1, rfl, _, _, hle⟩ := Owns.pos (xs := xs) ho (by omega)
  have hb1 := (Owns.row (xs := xs) ho HBS.out.2.1).2
  rw [hxl] at hb1 hle ⊢
  have HW1 := hide (HW.out.trans hb)
  have H9 := hide (open_yes g 0 len cap1 xs w1 hb1 (by omega) hle (by omega) HD.out)
  clear ho hb hb1 hle hxl
  go_wp2_with fail
  refine H9.out.mono ?_
  rintro e w2 ⟨v2, rfl, ho2, hb2⟩
  have HW2 := hide (HW1.out.trans (hb2.mono HW1.out.size))
  obtain ⟨a2, cap2, rfl, hbs2, _⟩ := ho2.bs HT.out.2.1
  have hx2 := HT.out.1
  rw [hx2] at hbs2 ⊢
  have HB2 := hide hbs2
  clear hb2 ho2 hbs2 hx2
  have H13 : Hid (∀ wr, Below w2.heap.size w2 wr → ∀ cp, Calls Try.prog 13 #[.slice (some ⟨b, off + 4, none⟩) (len - 4) cp] wr fun e w' => ∃ g c, e = .returned (.slice (some ⟨g, 0, none⟩) len c) ∧ (convert 22 9 (.slice (some ⟨g, 0, none⟩) len c)).run Try.prog w' = .ok (.string S) w' ∧
      (convert 22 9 (.slice (some ⟨b, off, none⟩) len cap)).run Try.prog w' = .ok (.string S) w' ∧ Below w2.heap.size w2 w') := by
    intro wr hb cp
    have := rseal_str w2 (some ⟨b, off, none⟩) len cap xs (HBS.out.keep HW2.out (Nat.le_refl _)) _ _ _ (HT.out.keep HW2.out (Nat.le_refl _)) (by omega) wr hb cp (fun e => by cases e)
    rw [show 4 + (len - 4) = len by omega, ← hR, ← hS] at this
    exact this
  have HWd := hide ((Below.refl w2.heap.size w2).drew)
  have hs0 := run_string_of cap ((HBS.out.keep HW2.out (Nat.le_refl _)).keep HWd.out (Nat.le_refl _))
  rw [← hS] at hs0
  have HR := hide hR
  have HS := hide hS
  clear hR hS
  have HX := hide hX
  clear hX
  go_wp2_with fail
  go_region_with (go_at_call 13; refine (H13.out _ HWd.out _).mono ?_; rintro e w3 ⟨g3, c3, rfl, hs3, hsb, hb3⟩; have HW3 := hide hb3; clear hb3)
  all_goals
    have HX3 := hide (HB2.out.keep HW3.out (Nat.le_refl _))
    have HT3 := hide ((HT.out.keep HW2.out (Nat.le_refl _)).keep HW3.out (Nat.le_refl _))
    clear hs3 hsb hs0
    go_wp2_with fail
    refine Pl.region_is (ops := Pl.find 8 ((Try.f4.body).getD .skip)) (by kernel_rfl) ?_
    refine opens8 (some ⟨b, off, none⟩) a2 len cap cap2 (xs.drop 4) w3 (by omega) HX3.out (by rw [from_four hc4]; exact HT3.out) (by rfl) (by rfl) (by rfl) (by rfl) (by rfl) ?_
    intro A' w4 hd hv hb4
    go_wp2_with fail
    refine bodyPost_ret (results_tmp rfl _ _ _) hd ?_
    rw [hv]
    have hb5 := HW2.out.trans (HW3.out.mono HW2.out.size)
    exact ⟨rfl, hb5.trans (hb4.mono hb5.size)⟩

set_option maxHeartbeats 2000000 in
theorem walk_good4 (b off : Nat) (xs : List Nat) (w : World) (h : Came w (some ⟨b, off, none⟩) 4 4 xs) (hd : Sealed xs) :
    Calls Try.prog 4 #[.slice (some ⟨b, off, none⟩) 4 4] w fun e w' => e = .returned (.bool true) ∧ Below w.heap.size w w' := by
  have HO := hide (own_new w)
  have HW := hide (below_alloc w (.cells #[] 5))
  have HT : Hid (Bs w (some ⟨b, off, none⟩) 0 (xs.drop 4)) := drop_all h.bs
  have HBS := hide h.bs
  have HB := hide (h.bs.keep HW.out (Nat.le_refl _))
  have HD := hide hd
  obtain ⟨S, hS⟩ : ∃ S, S = bstr xs := ⟨_, rfl⟩
  have hR : S = bstr (fourB (Ta.sum (xs.drop 4)) ++ xs.drop 4) := by rw [hS]; exact congrArg bstr hd.symm
  obtain ⟨X, hX⟩ : ∃ X, X = bstr (xs.drop 4) := ⟨_, rfl⟩
  clear h hd
  go_enter Try.func4, Try.ntmps4
  go_wp2_with (at_builtin; refine wpList_append_bytes _ rfl (.tmp 10) (.tmp 11) rfl _ _ [] rfl HO.out _ 4 4 xs rfl HB.out (fun e => by cases e) (by show 0 + 4 ≤ 1000000; omega) HW.out.size ?_)
  intro v1 w1 ho hb
  have hxl := HBS.out.1
  obtain ⟨g, cap1, rfl, _, _, hle⟩ := Owns.pos (xs := xs) ho (by omega)
  have hb1 := (Owns.row (xs := xs) ho HBS.out.2.1).2
  rw [hxl] at hb1 hle ⊢
  have HW1 := hide (HW.out.trans hb)
  have H9 := hide (open_yes g 0 4 cap1 xs w1 hb1 (by omega) hle (by omega) HD.out)
  clear ho hb hb1 hle hxl
  go_wp2_with fail
  refine H9.out.mono ?_
  rintro e w2 ⟨v2, rfl, ho2, hb2⟩
  have HW2 := hide (HW1.out.trans (hb2.mono HW1.out.size))
  obtain ⟨a2, cap2, rfl, hbs2, _⟩ := ho2.bs HT.out.2.1
  have hx2 := HT.out.1
  rw [hx2] at hbs2 ⊢
  have HB2 := hide hbs2
  clear hb2 ho2 hbs2 hx2
  have H13 : Hid (∀ wr, Below w2.heap.size w2 wr → ∀ cp, Calls Try.prog 13 #[.slice (some ⟨b, off, none⟩) 0 cp] wr fun e w' => ∃ g c, e = .returned (.slice (some ⟨g, 0, none⟩) 4 c) ∧ (convert 22 9 (.slice (some ⟨g, 0, none⟩) 4 c)).run Try.prog w' = .ok (.string S) w' ∧
      (convert 22 9 (.slice (some ⟨b, off, none⟩) 4 4)).run Try.prog w' = .ok (.string S) w' ∧ Below w2.heap.size w2 w') := by
    intro wr hb cp
    have := rseal_str w2 (some ⟨b, off, none⟩) 4 4 xs (HBS.out.keep HW2.out (Nat.le_refl _)) _ _ _ (HT.out.keep HW2.out (Nat.le_refl _)) (by omega) wr hb cp (fun e => by cases e)
    rw [← hR, ← hS] at this
    exact this
  have HWd := hide ((Below.refl w2.heap.size w2).drew)
  have hs0 := run_string_of 4 ((HBS.out.keep HW2.out (Nat.le_refl _)).keep HWd.out (Nat.le_refl _))
  rw [← hS] at hs0
  have HR := hide hR
  have HS := hide hS
  clear hR hS
  have HX := hide hX
  clear hX
  go_wp2_with fail
  go_region_with (go_at_call 13; refine (H13.out _ HWd.out _).mono ?_; rintro e w3 ⟨g3, c3, rfl, hs3, hsb, hb3⟩; have HW3 := hide hb3; clear hb3)
  all_goals
    have HX3 := hide (HB2.out.keep HW3.out (Nat.le_refl _))
    have HT3 := hide ((HT.out.keep HW2.out (Nat.le_refl _)).keep HW3.out (Nat.le_refl _))
    clear hs3 hsb hs0
    go_wp2_with fail
    refine Pl.region_is (ops := Pl.find 8 ((Try.f4.body).getD .skip)) (by kernel_rfl) ?_
    refine opens8 (some ⟨b, off, none⟩) a2 4 4 cap2 (xs.drop 4) w3 (by omega) HX3.out HT3.out (by rfl) (by rfl) (by rfl) (by rfl) (by rfl) ?_
    intro A' w4 hd hv hb4
    go_wp2_with fail
    refine bodyPost_ret (results_tmp rfl _ _ _) hd ?_
    rw [hv]
    have hb5 := HW2.out.trans (HW3.out.mono HW2.out.size)
    exact ⟨rfl, hb5.trans (hb4.mono hb5.size)⟩
end Go.Proofs.Ytjoapceffgibcaa.tallyOpens
