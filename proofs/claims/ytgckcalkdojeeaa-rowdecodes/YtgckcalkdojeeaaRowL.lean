/-
  What is encoded is decoded; and a row is made, and read back.
-/
import Derived.Test.YtgckcalkdojeeaaRowK
namespace Go.Proofs.Ytgckcalkdojeeaa
open Go.RowKit

theorem key_val {k : Nat} (h : k = Fl.key k) : Fl.val k = k := by
  unfold Fl.key at h
  split at h
  · rename_i e
    rw [e] at h
    cases h
  · exact h.symm

theorem vals_same {xs : List Nat} (h : ∀ x ∈ xs, x = Fl.val x) : xs.map Fl.val = xs := by
  have : xs.map Fl.val = xs.map id := List.map_congr_left (fun x hx => (h x hx).symm)
  rw [this, List.map_id]

theorem putB_append (l m : List It) : putB (l ++ m) = putB l ++ putB m := by simp [putB]

theorem head_kinds (r : Rw) : r.head.map It.kind = headK := rfl
theorem num_kinds (xs : List Nat) : (xs.map numI).map It.kind = List.replicate xs.length 4 := by
  rw [List.map_map]
  apply List.ext_getElem
  · simp
  · intro i h1 h2
    simp [numI]

theorem dec_bytes {r : Rw} (hm : r.may = true) (hf : r.fits) : decB r.bytes = some r := by
  have hp := Rw.may_parts hm
  have hall := List.all_eq_true.1 (items_may hm)
  have hfits := items_fits hf hp.2.1
  have hh : ∀ i ∈ r.head, i.may = true ∧ i.x < 18446744073709551616 := fun i hi => ⟨hall i (by unfold Rw.items; simp [hi]), (hfits i (by unfold Rw.items; simp [hi])).2.2.1⟩
  have hc : ∀ i ∈ r.xs.map numI, i.may = true ∧ i.x < 18446744073709551616 := fun i hi => ⟨hall i (by unfold Rw.items; exact List.mem_append_right _ hi), (hfits i (by unfold Rw.items; exact List.mem_append_right _ hi)).2.2.1⟩
  have eb : r.bytes = putB r.head ++ putB (r.xs.map numI) := putB_append _ _
  have t1 := tks_put r.head r.bytes (putB (r.xs.map numI)) [] 0 hh eb
  rw [head_kinds, List.nil_append, Nat.zero_add] at t1
  have t2 := tks_put (r.xs.map numI) (r.bytes.drop (putB r.head).length) [] [] 0 hc (by rw [eb]; simp)
  rw [num_kinds, List.nil_append, Nat.zero_add] at t2
  have hv : (r.xs.map numI).map It.valued = r.xs.map numI := by
    rw [List.map_map]
    apply List.map_congr_left
    intro x hx
    have := hp.2.2.2.1 x hx
    simp only [Function.comp, It.valued, numI, ← this]
  rw [hv] at t2
  have hrow : rowOf (r.head.map It.valued) (r.xs.map numI) = r := by
    obtain ⟨key, dead, xs, wr, cell, no⟩ := r
    have hk := key_val hp.1
    simp only at hk
    unfold rowOf
    have e1 : (Rw.head ⟨key, dead, xs, wr, cell, no⟩).map It.valued = [⟨1, if dead then 1 else 0, 0, noS⟩, ⟨4, 0, key, noS⟩, ⟨3, wr, 0, noS⟩, ⟨2, cell, 0, noS⟩, ⟨3, no, 0, noS⟩, ⟨1, xs.length, 0, noS⟩] := by
      simp [Rw.head, It.valued, hk, val_zero]
    rw [e1]
    have e2 : (xs.map numI).map It.x = xs := by
      rw [List.map_map]
      have : (It.x ∘ numI) = id := by funext x; rfl
      rw [this, List.map_id]
    simp only [e2]
    cases dead <;> rfl
  have hn5 : ((r.head.map It.valued).getD 5 itD).n.toNat = r.xs.length := by
    show ((r.xs.length : Nat) : Int).toNat = _
    simp
  have hn0 : ¬ 1 < ((r.head.map It.valued).getD 0 itD).n := by
    show ¬ (1 : Int) < if r.dead = true then 1 else 0
    cases r.dead <;> decide
  unfold decB
  rw [t1]
  simp only
  rw [hn5, t2]
  simp only
  rw [if_neg, hrow]
  rintro (h | h | h)
  · rw [eb, List.length_append] at h
    omega
  · exact hn0 h
  · rw [hrow, hm] at h
    cases h

theorem Owns.cameN {w : World} {base : Nat} {v : Value} {xs : List Nat} {n : Nat} (h : Owns w base v xs) (hx : Bytes xs) (hn : xs.length = n) (hm : n ≤ 1000000) : ∃ a cap, v = .slice a n cap ∧ Came w a n cap xs := by
  subst hn
  obtain ⟨a, cap, hv, hbs, hn⟩ := h.bs hx
  refine ⟨a, cap, hv, hbs, hn, ?_, by omega⟩
  rcases h.2 with ⟨hv', h0'⟩ | ⟨g, cp, cur, hv', _, _, hle, _⟩
  · rw [h0']; exact Nat.zero_le _
  · rw [hv] at hv'
    simp only [Value.slice.injEq] at hv'
    rw [hv'.2.2]; exact hle

def twoSeven : Rw := ⟨4611686018427387904, false, [4619567317775286272], 0, 0, 0⟩
theorem twoSeven_of : ofR 4611686018427387904 [4619567317775286272] = twoSeven := by
  have h1 : Fl.key 4611686018427387904 = 4611686018427387904 := by decide
  have h2 : Fl.val 4619567317775286272 = 4619567317775286272 := by decide
  simp only [ofR, List.map_cons, List.map_nil, h1, h2]
  rfl
theorem twoSeven_may : twoSeven.may = true := by decide
theorem twoSeven_fits : twoSeven.fits := ⟨by decide, by decide, by decide, by decide, by decide⟩

set_option maxHeartbeats 4000000 in
set_option maxRecDepth 100000 in
theorem awake_any (w : World) : Calls Try.prog 8 #[] w fun e w' => e = .returned (.bool true) ∧ Below w.heap.size w w' := by
  have hsf : ∀ (w : World) (a : Addr) (m : Mode) (x : Nat), (store a (.float .f64 x) m).run Try.prog w = stored Try.prog w a (.float .f64 x) m := fun w a m x => run_store Try.prog w a _ m rfl
  have hfs : Fs (w.alloc (.cells #[.float .f64 4619567317775286272] 22)) (some ⟨w.heap.size, 0, none⟩) 1 1 [4619567317775286272] := ⟨vs_one 22 w _ rfl, by decide, (fun h => by cases h), by decide, by decide⟩
  have HOf := hide (of_any 4611686018427387904 (by decide) _ 1 1 _ _ hfs (by decide))
  rw [twoSeven_of] at HOf
  have HW := hide (below_alloc w (.cells #[.float .f64 4619567317775286272] 22))
  clear hfs
  go_enter Try.func8, Try.ntmps8
  go_wp2_with fail
  refine HOf.out.mono ?_
  rintro e w1 ⟨hb1, ca, cc, rfl, hf1⟩
  have HW1 := hide (rBelow HW.out hb1)
  have HF1 := hide hf1
  have HX1 := hide (rwBlk_new w1 twoSeven (.slice ca 1 cc))
  have HB1 := hide (below_alloc w1 (.cells #[.float .f64 4611686018427387904, .bool false, .slice ca 1 cc, .int .i64 0, .int .i64 0, .int .i64 0] 27))
  have HE := hide (encode_any twoSeven ca 1 cc (w1.alloc (.cells #[.float .f64 4611686018427387904, .bool false, .slice ca 1 cc, .int .i64 0, .int .i64 0, .int .i64 0] 27)) (hf1.keep HB1.out (Nat.le_refl _)) twoSeven_fits)
  rw [twoSeven_may] at HE
  unfold chk at HE
  unfold Rw.val twoSeven at HE
  unfold Rw.val twoSeven
  simp only at HE ⊢
  clear hb1 hf1 HOf
  go_wp2_with fail
  refine HE.out.mono ?_
  rintro e w2 ⟨v2, rfl, hb2, ho2, _⟩
  have HW2 := hide (rBelow (rBelow HW1.out HB1.out) hb2)
  have HX2 := hide (HX1.out.keep hb2)
  have HF2 := hide ((HF1.out.keep HB1.out (Nat.le_refl _)).keep hb2 (Nat.le_refl _))
  have ho3 : Owns w2 _ v2 twoSeven.bytes := ho2 (by trivial)
  obtain ⟨pa, pc, rfl, hcm⟩ := ho3.cameN (bytes_bytes twoSeven_may) (bytes_len twoSeven) (by decide)
  have HD := hide (decode_any pa 28 pc twoSeven.bytes w2 hcm (by decide))
  clear hb2 ho2 ho3 hcm HE
  go_wp2_with fail
  refine HD.out.mono ?_
  rintro e w3 ⟨hb3, _, hd⟩
  obtain ⟨_, xa, xl, xc, rfl, hfx⟩ := hd twoSeven (dec_bytes twoSeven_may twoSeven_fits)
  have HW3 := hide (rBelow HW2.out hb3)
  have HB3 := hide (below_alloc w3 (.cells #[.float .f64 4611686018427387904, .bool false, .slice xa xl xc, .int .i64 0, .int .i64 0, .int .i64 0] 27))
  have HW4 := hide (rBelow HW3.out HB3.out)
  have HX4 := hide ((HX2.out.keep hb3).keep HB3.out)
  have HS := hide (rowSame_any twoSeven twoSeven xa xl xc ca 1 cc _ (hfx.keep HB3.out (Nat.le_refl _)) ((HF2.out.keep hb3 (Nat.le_refl _)).keep HB3.out (Nat.le_refl _)))
  rw [Rw.same_self] at HS
  have x0 := HX4.out.c0
  have x1 := HX4.out.c1
  have x2 := HX4.out.c2
  have x3 := HX4.out.c3
  have x4 := HX4.out.c4
  have x5 := HX4.out.c5
  unfold twoSeven at x0 x1 x3 x4 x5
  unfold Rw.val twoSeven at HS
  unfold Rw.val twoSeven
  simp only at HS x0 x1 x3 x4 x5 ⊢
  clear hb3 hd hfx HD
  go_wp2_with fail
  refine HS.out.mono ?_
  rintro e w5 ⟨rfl, hb5⟩
  have HW5 := hide (rBelow HW4.out hb5)
  clear hb5
  go_wp2_with fail
  go_ret
  exact ⟨by simp, HW5.out⟩

end Go.Proofs.Ytgckcalkdojeeaa
