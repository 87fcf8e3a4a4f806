/-
  The law of rows of items one behind the other: its walk.
-/
import Derived.Test.YtkgdnmffponnjaaPackN
import Derived.Test.YtkgdnmffponnjaaVals
namespace Go.Proofs.Ytkgdnmffponnjaa
open Go.RowKit

theorem oneInt : One 31 3 (.int .i64 0) 8 := ⟨Try.underlying31, by kernel_rfl, by kernel_rfl, by decide⟩

theorem ks_of_vs {w : World} {a : Option Addr} {len : Nat} {ks : List Int} (h : Vs w a len (kVals ks)) : Ks w a len ks := by
  have hl : ks.length = len := by have := h.1; simpa [kVals] using this
  refine ⟨hl, fun j hj => ?_⟩
  obtain ⟨b, off, ha, hc⟩ := h.2.2 j hj
  refine ⟨b, off, ha, ?_⟩
  have hj' : j < ks.length := by omega
  rw [hc]
  simp [kVals, List.getD, hj']

theorem all_may_kind {l : List It} (h : ∀ i ∈ l, i.may = true) : (l.map It.kind).all (fun k => decide (1 ≤ k) && decide (k ≤ 5)) = true := by
  rw [List.all_eq_true]
  intro k hk
  obtain ⟨i, hi, rfl⟩ := List.mem_map.1 hk
  have hm := h i hi
  unfold It.may at hm
  split at hm
  · rename_i e; rw [e]; decide
  split at hm
  · rename_i e; rw [e]; decide
  split at hm
  · rename_i e; rw [e]; decide
  split at hm
  · rename_i e; rw [e]; decide
  split at hm
  · rename_i e; rw [e]; decide
  · cases hm

theorem takeOut_put {l : List It} (h : ∀ i ∈ l, i.may = true) (hf : ∀ i ∈ l, i.fits) (r : List Nat) : takeOut (putB l ++ r) (l.map It.kind) = (l.map It.valued, (putB l).length, 0) := by
  unfold takeOut
  rw [if_pos (all_may_kind h), tks_put l (putB l ++ r) r [] 0 (fun i hi => ⟨h i hi, (hf i hi).2.2.1⟩) rfl]
  simp

theorem putB_append (l m : List It) : putB (l ++ m) = putB l ++ putB m := by simp [putB]

theorem bstr_append (xs ys : List Nat) : (bstr (xs ++ ys)).toList = (bstr xs ++ bstr ys).toList := by
  rw [ByteArray.toList_eq, ByteArray.toList_eq]
  simp only [ByteArray.data_append, Array.toList_append]
  unfold bstr
  rw [strOfNums_data, strOfNums_data, strOfNums_data]
  simp

theorem light_len {l : List It} (h : lightB l = true) : l.length ≤ 60 := by
  unfold lightB at h
  simp at h
  exact h.2

set_option maxHeartbeats 2000000 in
theorem packJoins_dark (a0 : Option Addr) (len0 cap0 : Nat) (la : List It) (a1 : Option Addr) (len1 cap1 : Nat) (lb : List It) (w : World) (h0 : Is w a0 len0 la) (h1 : Is w a1 len1 lb) (m0 : len0 ≤ 9223372036854775807) (m1 : len1 ≤ 9223372036854775807) (hd : lightB la = false ∨ lightB lb = false) :
    Calls Try.prog 6 #[.slice a0 len0 cap0, .slice a1 len1 cap1] w fun e w' => e = .returned (.bool true) ∧ Below w.heap.size w w' := by
  have HA := hide (awake_any w)
  have HL0 := hide (light_any a0 len0 cap0 la w h0 m0)
  have HL1 := hide (light_any a1 len1 cap1 lb w h1 m1)
  clear h0 h1
  cases hx : lightB la
  · rw [hx] at HL0
    go_enter Try.func6, Try.ntmps6
    go_wp2_with fail
    refine HL0.out.mono ?_
    rintro e w' ⟨rfl, hw⟩
    obtain rfl := hw.symm
    go_wp2_with fail
    refine HA.out.mono ?_
    rintro e w' ⟨rfl, hbw⟩
    go_wp2_with fail
    go_ret
    exact ⟨rfl, hbw⟩
  · have hy : lightB lb = false := by rcases hd with h | h; · rw [hx] at h; cases h
                                      · exact h
    rw [hx] at HL0
    rw [hy] at HL1
    go_enter Try.func6, Try.ntmps6
    go_wp2_with fail
    refine HL0.out.mono ?_
    rintro e w' ⟨rfl, hw⟩
    obtain rfl := hw.symm
    go_wp2_with fail
    refine HL1.out.mono ?_
    rintro e w' ⟨rfl, hw⟩
    obtain rfl := hw.symm
    go_wp2_with fail
    refine HA.out.mono ?_
    rintro e w' ⟨rfl, hbw⟩
    go_wp2_with fail
    go_ret
    exact ⟨rfl, hbw⟩

theorem Owns.cameN {w : World} {base : Nat} {v : Value} {xs : List Nat} {n : Nat} (h : Owns w base v xs) (hx : Bytes xs) (hn : xs.length = n) (hm : n ≤ 1000000) : ∃ a cap, v = .slice a n cap ∧ Came w a n cap xs := by
  subst hn
  obtain ⟨a, cap, hv, hbs, hn⟩ := h.bs hx
  refine ⟨a, cap, hv, hbs, hn, ?_, by omega⟩
  rcases h.2 with ⟨hv', h0'⟩ | ⟨g, cp, cur, hv', _, _, hle, _⟩
  · rw [h0']; exact Nat.zero_le _
  · rw [hv] at hv'
    simp only [Value.slice.injEq] at hv'
    rw [hv'.2.2]; exact hle

theorem Came.keep {w w' : World} {B : Nat} {a : Option Addr} {len cap : Nat} {xs : List Nat} (h : Came w a len cap xs) (hb : Below B w w') (hB : w.heap.size ≤ B) : Came w' a len cap xs := ⟨h.bs.keep hb hB, h.nil, h.le, h.big⟩

theorem Owns.came {w : World} {base : Nat} {v : Value} {xs : List Nat} (h : Owns w base v xs) (hx : Bytes xs) (hm : xs.length ≤ 1000000) : ∃ a cap, v = .slice a xs.length cap ∧ Came w a xs.length cap xs := by
  obtain ⟨a, cap, hv, hbs, hn⟩ := h.bs hx
  refine ⟨a, cap, hv, hbs, hn, ?_, by omega⟩
  rcases h.2 with ⟨hv', h0'⟩ | ⟨g, cp, cur, hv', _, _, hle, _⟩
  · rw [h0']; exact Nat.zero_le _
  · rw [hv] at hv'
    simp only [Value.slice.injEq] at hv'
    rw [hv'.2.2]; exact hle

set_option maxHeartbeats 4000000 in
set_option maxRecDepth 100000 in
theorem packJoins_walk (a0 : Option Addr) (len0 cap0 : Nat) (la : List It) (a1 : Option Addr) (len1 cap1 : Nat) (lb : List It) (w : World) (h0 : Is w a0 len0 la) (h1 : Is w a1 len1 lb) (n0 : a0 = none → cap0 = 0) (n1 : a1 = none → cap1 = 0) (hla : lightB la = true) (hlb : lightB lb = true) :
    Calls Try.prog 6 #[.slice a0 len0 cap0, .slice a1 len1 cap1] w fun e w' => e = .returned (.bool true) ∧ Below w.heap.size w w' := by
  have m0 : len0 ≤ 60 := by rw [← h0.1]; exact light_len hla
  have m1 : len1 ≤ 60 := by rw [← h1.1]; exact light_len hlb
  have HL0 := hide (light_any a0 len0 cap0 la w h0 (by omega))
  have HL1 := hide (light_any a1 len1 cap1 lb w h1 (by omega))
  rw [hla] at HL0
  rw [hlb] at HL1
  have HI0 := hide h0
  have HI1 := hide h1
  have HN0 := hide n0
  have HN1 := hide n1
  have HP0 := hide (put_any a0 len0 cap0 la w h0 (by omega))
  have hall : (la ++ lb).all It.may = (la.all It.may && lb.all It.may) := List.all_append
  have HALL := hide hall
  clear hall h0 h1 n0 n1 hla hlb
  go_enter Try.func6, Try.ntmps6
  go_wp2_with fail
  refine HL0.out.mono ?_
  rintro e w' ⟨rfl, hw⟩
  obtain rfl := hw.symm
  go_wp2_with fail
  refine HL1.out.mono ?_
  rintro e w' ⟨rfl, hw⟩
  obtain rfl := hw.symm
  go_wp2_with fail
  refine HP0.out.mono ?_
  rintro e w1 ⟨v1, rfl, hb1, ho1, hn1⟩
  have HW1 := hide hb1
  have HP1 := hide (put_any a1 len1 cap1 lb w1 (HI1.out.keep hb1 (Nat.le_refl _)) (by omega))
  have HO1 := hide ho1
  have HE1 := hide hn1
  clear hb1 ho1 hn1 HL0 HL1 HP0
  go_wp2_with fail
  refine HP1.out.mono ?_
  rintro e w2 ⟨v2, rfl, hb2, ho2, hn2⟩
  have HW2 := hide (HW1.out.trans (hb2.mono HW1.out.size))
  have HK2 := hide hb2
  have HO2 := hide ho2
  have HE2 := hide hn2
  have HO := hide (OwnsI.new w2)
  have HWN := hide (below_alloc w2 (.cells #[] 35))
  have HB0 := hide (HI0.out.keep (HW2.out.trans (HWN.out.mono HW2.out.size)) (Nat.le_refl _))
  have HB1 := hide (HI1.out.keep (HW2.out.trans (HWN.out.mono HW2.out.size)) (Nat.le_refl _))
  have HLL : Hid (([] : List It).length + len0 ≤ 1000000) := by show _ ≤ _; simp; omega
  clear hb2 ho2 hn2 HP1
  go_wp2_with (at_builtin; refine wpList_append_items _ rfl (.tmp 36) (.tmp 37) rfl w2.heap.size _ [] rfl HO.out _ _ _ la rfl HB0.out HN0.out HLL.out HWN.out.size ?_)
  intro v3 w3 ho3 hb3 _
  have HW3 := hide (HWN.out.trans hb3)
  have HO3 : Hid (OwnsI w3 w2.heap.size v3 la) := ho3
  have HB3 := hide (HI1.out.keep (HW2.out.trans (HW3.out.mono HW2.out.size)) (Nat.le_refl _))
  have HL3 : Hid (la.length + len1 ≤ 1000000) := by show _ ≤ _; rw [HI0.out.1]; omega
  clear ho3 hb3
  go_wp2_with (at_builtin; refine wpList_append_items _ rfl (.tmp 38) (.tmp 39) rfl w2.heap.size _ la rfl HO3.out _ _ _ lb rfl HB3.out HN1.out HL3.out HW3.out.size ?_)
  intro v4 w4 ho4 hb4 _
  have HW4 := hide (HW3.out.trans hb4)
  obtain ⟨a4, c4, hv4, is4, _⟩ := ho4.is (by
    intro i hi
    rcases List.mem_append.1 hi with h | h
    · exact HI0.out.2.1 i h
    · exact HI1.out.2.1 i h)
  have hl4 : (la ++ lb).length ≤ 200 := by rw [List.length_append, HI0.out.1, HI1.out.1]; omega
  obtain ⟨n4, hn4⟩ : ∃ n, (la ++ lb).length = n := ⟨_, rfl⟩
  rw [hn4] at hv4 is4 hl4
  subst hv4
  have HP4 := hide (put_any a4 n4 c4 (la ++ lb) w4 is4 hl4)
  rw [HALL.out] at HP4
  clear ho4 hb4 is4 hn4 hl4 HO3 HB3 HL3 HO HB0 HB1 HLL
  go_wp2_with fail
  refine HP4.out.mono ?_
  rintro e w5 ⟨v5, rfl, hb5, ho5, _⟩
  have HW5' := hide (HW4.out.trans (hb5.mono HW4.out.size))
  have HW5 := hide (HW2.out.trans (HW5'.out.mono HW2.out.size))
  have HO5 := hide ho5
  have HA5 := hide (awake_any w5)
  clear hb5 ho5 HP4 HW3 HW4
  cases hA : la.all It.may
  · clear HO1 HE1 HO2 HE2 HO5
    unfold chk
    cases hB : lb.all It.may
    all_goals
      simp only [Bool.false_and]
      go_wp2_with fail
      refine HA5.out.mono ?_
      rintro e w6 ⟨rfl, hb6⟩
      go_wp2_with fail
      go_ret
      exact ⟨rfl, HW5.out.trans (hb6.mono HW5.out.size)⟩
  cases hB : lb.all It.may
  · clear HO1 HE1 HO2 HE2 HO5
    unfold chk
    simp only [Bool.true_and]
    go_wp2_with fail
    refine HA5.out.mono ?_
    rintro e w6 ⟨rfl, hb6⟩
    go_wp2_with fail
    go_ret
    exact ⟨rfl, HW5.out.trans (hb6.mono HW5.out.size)⟩
  have hmA : ∀ i ∈ la, i.may = true := List.all_eq_true.1 hA
  have hmB : ∀ i ∈ lb, i.may = true := List.all_eq_true.1 hB
  have hmC : ∀ i ∈ la ++ lb, i.may = true := fun i hi => (List.mem_append.1 hi).elim (hmA i) (hmB i)
  have xA := putB_len hmA
  have xB := putB_len hmB
  have xC := putB_len hmC
  have oA := HO1.out hA
  have oB := HO2.out hB
  have oC := HO5.out (by rw [hA, hB]; rfl)
  have HT := hide (takeOut_put hmA HI0.out.2.1 (putB lb))
  obtain ⟨sA, hsA⟩ : ∃ s, s = putB la := ⟨_, rfl⟩
  obtain ⟨sB, hsB⟩ : ∃ s, s = putB lb := ⟨_, rfl⟩
  obtain ⟨sC, hsC⟩ : ∃ s, s = putB (la ++ lb) := ⟨_, rfl⟩
  have HSC : Hid (sC = sA ++ sB) := by show _ = _; rw [hsC, hsA, hsB, putB_append]
  rw [← hsA] at xA oA
  rw [← hsB] at xB oB
  rw [← hsC] at xC oC
  rw [← hsA, ← hsB, ← HSC.out] at HT
  obtain ⟨nA, hnA⟩ : ∃ n, sA.length = n := ⟨_, rfl⟩
  obtain ⟨nB, hnB⟩ : ∃ n, sB.length = n := ⟨_, rfl⟩
  obtain ⟨nC, hnC⟩ : ∃ n, sC.length = n := ⟨_, rfl⟩
  have bA : nA ≤ 20000 := by rw [← hnA]; have := xA.1; rw [HI0.out.1] at this; omega
  have bB : nB ≤ 20000 := by rw [← hnB]; have := xB.1; rw [HI1.out.1] at this; omega
  have bC : nC ≤ 40000 := by rw [← hnC, HSC.out, List.length_append]; omega
  obtain ⟨pA, qA, rfl, cA⟩ := oA.cameN xA.2 hnA (by omega)
  obtain ⟨pB, qB, rfl, cB⟩ := oB.cameN xB.2 hnB (by omega)
  obtain ⟨pC, qC, rfl, cC⟩ := oC.cameN xC.2 hnC (by omega)
  have HCA := hide ((cA.keep HK2.out (Nat.le_refl _)).keep HW5'.out (Nat.le_refl _))
  have HCB := hide (cB.keep HW5'.out (Nat.le_refl _))
  have HCC := hide cC
  have HNA := hide hnA
  rw [hnA] at HT
  have HK0 : Hid (OwnsV 3 (w5.alloc (.cells #[] 3)) w5.heap.size (.slice (some ⟨w5.heap.size, 0, none⟩) 0 0) []) := OwnsV.lit 3 w5 _ [] (Nat.le_refl _) (by simp)
  have HKW := hide (below_alloc w5 (.cells #[] 3))
  have HII := hide (HI0.out.keep HW5.out (Nat.le_refl _))
  have HLA := hide HI0.out.1
  have bC' := hide bC
  clear hmA hmB hmC xA xB xC oA oB oC HO1 HO2 HO5 HE1 HE2 hsA hsB hsC hnA hnB hnC bA bB bC cA cB cC hA hB HALL HI1 HN0 HN1 HWN HW1 HW2 HK2 HA5
  unfold chk
  simp only [Bool.true_and]
  go_wp2_with fail
  go_loopw [11, 12] (fun v i wr => ∃ k : Nat, k ≤ len0 ∧ i = .int .i64 k ∧ Hid (OwnsV 3 wr w5.heap.size v (kVals ((la.map It.kind).take k))) ∧ Hid (Below w5.heap.size w5 wr)) (fun _ i _ => len0 - (intOf i).toNat)
  case atStart => exact ⟨0, by omega, rfl, HK0, HKW⟩
  case round =>
    obtain ⟨k, hk, rfl, hown, hWr⟩ := hrel
    rcases Nat.lt_or_ge k len0 with hlt | hge
    · obtain ⟨b, off, rfl, c0, _⟩ := (HII.out.keep hWr.out (Nat.le_refl _)).2.2 k hlt
      obtain ⟨kd, hkd⟩ : ∃ kd, kd = (la.getD k itD).kind := ⟨_, rfl⟩
      rw [← hkd] at c0
      have HKD := hide hkd
      have HOk := hide (hown.out.keep (below_alloc wr (.cells #[.int .i64 kd] 3)) (Nat.le_refl _))
      have HWk := hide (hWr.out.trans ((below_alloc wr (.cells #[.int .i64 kd] 3)).mono hWr.out.size))
      have HV := hide (vs_one 3 wr (.int .i64 kd) rfl)
      have HLEN : Hid ((kVals ((la.map It.kind).take k)).length + 1 ≤ 1000000) := by show _ ≤ _; simp [kVals]; omega
      clear hkd
      go_wp2_with (at_builtin; refine wpList_append_vals oneInt _ rfl (.tmp 63) (.tmp 69) rfl w5.heap.size _ _ rfl HOk.out _ _ _ [.int .i64 kd] rfl HV.out (fun h => by cases h) HLEN.out HWk.out.size ?_)
      intro v6 w6 ho6 hb6 _
      have HO6 := hide ho6
      have HB6 := hide (HWk.out.trans hb6)
      clear ho6 hb6
      go_wp2
      go_roundw
      case rel =>
        have hk' : k < la.length := by rw [HLA.out]; exact hlt
        refine ⟨k + 1, by omega, by go_num, ?_, HB6⟩
        have e : kVals ((la.map It.kind).take (k + 1)) = kVals ((la.map It.kind).take k) ++ [.int .i64 kd] := by
          rw [List.take_succ_eq_append_getElem (by simpa using hk'), HKD.out]
          simp [kVals, List.getD, hk']
        rw [e]
        exact HO6
      case measure => simp only [intOf]; omega
    · have htk : (la.map It.kind).take k = la.map It.kind := List.take_of_length_le (by rw [List.length_map, HLA.out]; omega)
      rw [htk] at hown
      obtain ⟨ka, kc, hkv, hvs, _⟩ := hown.out.vs (kVals_one _)
      have hkl : (kVals (la.map It.kind)).length = len0 := by simp [kVals, HLA.out]
      rw [hkl] at hkv hvs
      subst hkv
      have HTK := hide (take_any pC nC qC sC ka len0 kc (la.map It.kind) wr (HCC.out.keep hWr.out (Nat.le_refl _)) (ks_of_vs hvs) (by have := bC'.out; omega) (by omega))
      unfold Told at HTK
      rw [HT.out] at HTK
      clear htk hvs hkl hown
      go_wp2_with fail
      refine HTK.out.mono ?_
      rintro e w7 ⟨v7, rfl, hb7, _, _⟩
      have HW7 := hide (hWr.out.trans (hb7.mono hWr.out.size))
      have hcC : (convert 25 9 (.slice pC nC qC)).run Try.prog w7 = .ok (.string (bstr sC)) w7 := run_string_of qC (HCC.out.bs.keep HW7.out (Nat.le_refl _))
      have hcA : (convert 25 9 (.slice pA nA qA)).run Try.prog w7 = .ok (.string (bstr sA)) w7 := run_string_of qA (HCA.out.bs.keep HW7.out (Nat.le_refl _))
      have hcB : (convert 25 9 (.slice pB nB qB)).run Try.prog w7 = .ok (.string (bstr sB)) w7 := run_string_of qB (HCB.out.bs.keep HW7.out (Nat.le_refl _))
      have HAW := hide (awake_any w7)
      clear hb7
      have hsz : ¬ 9223372036854775807 < (bstr sA).size + (bstr sB).size := by
        rw [bstr_size, bstr_size]
        have h1 := bC'.out
        have h2 := HCC.out.bs.1
        rw [HSC.out, List.length_append] at h2
        omega
      have hstr : (bstr sC).toList = (bstr sA ++ bstr sB).toList := by rw [HSC.out]; exact bstr_append sA sB
      go_wp2_with fail
      refine HAW.out.mono ?_
      rintro e w8 ⟨rfl, hb8⟩
      have HW8 := hide (HW5.out.trans ((HW7.out.trans (hb8.mono HW7.out.size)).mono HW5.out.size))
      clear hb8
      go_wp2_with fail
      go_ret
      exact ⟨by simp, HW8.out⟩

end Go.Proofs.Ytkgdnmffponnjaa
