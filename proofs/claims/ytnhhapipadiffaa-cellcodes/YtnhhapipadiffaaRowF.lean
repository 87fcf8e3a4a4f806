/-
  The columns of bytes: row's own takeColumns.
-/
import Derived.Test.YtnhhapipadiffaaRowE
namespace Go.Proofs.Ytnhhapipadiffaa
open Go.RowKit

theorem tks_le {xs : List Nat} (hx : Bytes xs) (hl : xs.length ≤ 1000000) : ∀ (ks : List Int) (l : List It) (q : Nat) (r : List It × Nat), (∀ k ∈ ks, 1 ≤ k ∧ k ≤ 5) → q ≤ xs.length → tks xs ks l q = some r → r.2 ≤ xs.length
  | [], l, q, r, _, hq, h => by
    simp only [tks, Option.some.injEq] at h
    rw [← h]
    exact hq
  | k :: ks, l, q, r, hk, hq, h => by
    simp only [tks] at h
    split at h
    · cases h
    · rename_i i n hi
      have hb : Bytes (xs.drop q) := fun x hh => hx x (List.mem_of_mem_drop hh)
      have := (tk_fits hb (by rw [List.length_drop]; omega) (hk k (by simp)) hi).2
      rw [List.length_drop] at this
      exact tks_le hx hl ks _ _ r (fun k' h' => hk k' (by simp [h'])) (by omega) h

theorem tks_fits {xs : List Nat} (hx : Bytes xs) (hl : xs.length ≤ 1000000) : ∀ (ks : List Int) (l : List It) (q : Nat) (r : List It × Nat), (∀ k ∈ ks, 1 ≤ k ∧ k ≤ 5) → q ≤ xs.length → (∀ i ∈ l, i.fits) → tks xs ks l q = some r → ∀ i ∈ r.1, i.fits
  | [], l, q, r, _, _, hf, h => by
    simp only [tks, Option.some.injEq] at h
    rw [← h]
    exact hf
  | k :: ks, l, q, r, hk, hq, hf, h => by
    simp only [tks] at h
    split at h
    · cases h
    · rename_i i n hi
      have hb : Bytes (xs.drop q) := fun x hh => hx x (List.mem_of_mem_drop hh)
      have := tk_fits hb (by rw [List.length_drop]; omega) (hk k (by simp)) hi
      rw [List.length_drop] at this
      refine tks_fits hx hl ks _ _ r (fun k' h' => hk k' (by simp [h'])) (by omega) ?_ h
      intro j hj
      rcases List.mem_append.1 hj with h1 | h1
      · exact hf j h1
      · simp at h1
        rw [h1]
        exact this.1

theorem tks_len (xs : List Nat) : ∀ (ks : List Int) (l : List It) (q : Nat) (r : List It × Nat), tks xs ks l q = some r → r.1.length = l.length + ks.length
  | [], l, q, r, h => by
    simp only [tks, Option.some.injEq] at h
    rw [← h]
    simp
  | k :: ks, l, q, r, h => by
    simp only [tks] at h
    split at h
    · cases h
    · have := tks_len xs ks _ _ r h
      rw [this]
      simp
      omega

theorem rep_kinds (n : Nat) : ∀ t, t < (List.replicate n (4 : Int)).length → 1 ≤ (List.replicate n (4 : Int)).getD t 0 ∧ (List.replicate n (4 : Int)).getD t 0 ≤ 5 := by
  intro t ht
  rw [List.length_replicate] at ht
  simp [List.getD, ht]

theorem ks_of_vs {w : World} {a : Option Addr} {len : Nat} {ks : List Int} (h : Vs w a len (kVals ks)) : Ks w a len ks := by
  have hl : ks.length = len := by have := h.1; simpa [kVals] using this
  refine ⟨hl, fun j hj => ?_⟩
  obtain ⟨b, off, ha, hc⟩ := h.2.2 j hj
  refine ⟨b, off, ha, ?_⟩
  have hj' : j < ks.length := by omega
  rw [hc]
  simp [kVals, List.getD, hj']

set_option maxHeartbeats 2000000 in
set_option maxRecDepth 100000 in
theorem cols10 (w0 w : World) (v : Value) (a : Option Addr) (len cap q : Nat) (hq : q ≤ len) (hW : Below w0.heap.size w0 w)
    {Q : Exit → Act → World → Prop} {A : Act} (hsz : A.tmps.size = 42) (hdf : A.defers = []) (s0 : A.tmps.getD 0 undef = .slice a len cap) (s8 : A.tmps.getD 8 undef = .int .i64 (q : Nat)) (s10 : A.tmps.getD 10 undef = v)
    (hend : ∀ (u : Nat → Value) w', (w' = w.drew) → Q .normal ((((((((A).put (some 38) (u 38)).put (some 39) (u 39)).put (some 40) (u 40)).put (some 41) (u 41)).put (some 4) (v)).put (some 5) (.slice (fromA a cap q) (len - q) (cap - q))).put (some 6) (.int .i64 0)) w') :
    (Code.region 10 (Pl.find 10 ((Try.f84.body).getD .skip)) true).wp Try.prog Q A w := by
  have hS0 : Below w0.heap.size w0 w.drew := hW.drew
  have hA := Pl.At.same (v := v) (d := 10) (Pl.At.same (v := .int .i64 (q : Nat)) (d := 8) (Pl.At.same (v := .slice a len cap) (d := 0) (Pl.At.here hsz hdf) s0) s8) s10
  refine Pl.H.start (S := fun w' => Below w0.heap.size w0 w') (by kernel_rfl) hA hS0 ?_
  rw [show (Pl.find 10 ((Try.f84.body).getD .skip)).size = 7 by kernel_rfl]
  refine Pl.H.take 0 38 (v) (by kernel_rfl) (by kernel_rfl) (by kernel_rfl) (Pl.free 0 (by kernel_rfl)) (Pl.move 0 (.tmp 10) (by kernel_rfl) (by decide)) hS0 ?_
  refine Pl.H.take 1 39 (.slice a len cap) (by kernel_rfl) (by kernel_rfl) (by kernel_rfl) (Pl.free 1 (by kernel_rfl)) (Pl.move 1 (.tmp 0) (by kernel_rfl) (by decide)) hS0 ?_
  refine Pl.H.take 2 40 (.int .i64 (q : Nat)) (by kernel_rfl) (by kernel_rfl) (by kernel_rfl) (Pl.free 2 (by kernel_rfl)) (Pl.move 2 (.tmp 8) (by kernel_rfl) (by decide)) hS0 ?_
  refine Pl.H.take 3 41 (.slice (fromA a cap q) (len - q) (cap - q)) (by kernel_rfl) (by kernel_rfl) (by kernel_rfl) (Pl.free 3 (by kernel_rfl)) (Pl.slice 3 32 (.tmp 39) (some (.tmp 40)) none _ (by kernel_rfl) (by decide) (by decide) (by decide) (fun w => slice_from a len cap q hq w)) hS0 ?_
  refine Pl.H.take 4 4 (v) (by kernel_rfl) (by kernel_rfl) (by kernel_rfl) (Pl.free 4 (by kernel_rfl)) (Pl.assign 4 (.tmp 38) (by kernel_rfl) (by decide)) hS0 ?_
  refine Pl.H.take 5 5 (.slice (fromA a cap q) (len - q) (cap - q)) (by kernel_rfl) (by kernel_rfl) (by kernel_rfl) (Pl.free 5 (by kernel_rfl)) (Pl.assign 5 (.tmp 41) (by kernel_rfl) (by decide)) hS0 ?_
  refine Pl.H.take 6 6 (.int .i64 0) (by kernel_rfl) (by kernel_rfl) (by kernel_rfl) (Pl.free 6 (by kernel_rfl)) (Pl.assign 6 (.const (.int .i64 0)) (by kernel_rfl) (by decide)) hS0 ?_
  refine Pl.H.done (by kernel_rfl) (fun A' hA' => ?_)
  rw [Pl.At.ext hA' (((((((hA.put 38 _).put 39 _).put 40 _).put 41 _).put 4 _).put 5 _).put 6 _)]
  exact hend (fun d => if d = 38 then v else if d = 39 then .slice a len cap else if d = 40 then .int .i64 (q : Nat) else if d = 41 then .slice (fromA a cap q) (len - q) (cap - q) else undef) _ rfl

set_option maxHeartbeats 4000000 in
set_option maxRecDepth 100000 in
theorem takeCols_any (a : Option Addr) (len cap n : Nat) (xs : List Nat) (w : World) (h : Came w a len cap xs) (hl : len ≤ 100000) (hn : n ≤ 255) :
    Calls Try.prog 84 #[.slice a len cap, .int .i64 (n : Nat)] w fun e w' => Below w.heap.size w w' ∧
      (tks xs (List.replicate n 4) [] 0 = none → e = .returned (.tuple #[.slice none 0 0, .slice none 0 0, .int .i64 4])) ∧
      (∀ l q, tks xs (List.replicate n 4) [] 0 = some (l, q) → q ≤ len ∧ (∀ i ∈ l, i.fits) ∧ ∃ v, e = .returned (.tuple #[v, .slice (fromA a cap q) (len - q) (cap - q), .int .i64 0]) ∧ OwnsV 23 w' w.heap.size v (fVals (l.map It.x))) := by
  have H := hide h
  have HR := hide (repeat_any w.heap.size n (w.alloc (.cells #[.int .i64 4] 3)) (by
    have := heap_alloc_new w (.cells #[.int .i64 4] 3)
    simp only [World.cell?, this]
    rfl) hn)
  have HW := hide (below_alloc w (.cells #[.int .i64 4] 3))
  have HLL := hide hl
  have HXL := hide h.bs.1
  have HXB := hide h.bs.2.1
  clear h hl
  go_enter Try.func84, Try.ntmps84
  go_wp2_with fail
  refine HR.out.mono ?_
  rintro e w1 ⟨v1, rfl, ho1, hb1⟩
  have HW1 := hide (rBelow HW.out hb1)
  obtain ⟨ka, kc, hkv, hvs, _⟩ := ho1.vs (fours_one n)
  rw [fours_len] at hkv hvs
  subst hkv
  have HT := hide (take_any a len cap xs ka n kc (List.replicate n 4) w1 ⟨H.out.bs.keep HW1.out (Nat.le_refl _), H.out.nil, H.out.le, H.out.big⟩ (ks_of_vs hvs) HLL.out (by omega))
  unfold TookIs at HT
  rw [out_good (rep_kinds n)] at HT
  clear ho1 hb1 hvs HR
  cases hT : tks xs (List.replicate n 4) [] 0 with
  | none =>
    rw [hT] at HT
    simp only at HT
    have HTN := hide hT
    clear hT
    go_wp2_with fail
    refine HT.out.mono ?_
    rintro e w2 ⟨v2, rfl, hb2, _, _⟩
    have HW2 := hide (rBelow HW1.out hb2)
    clear hb2
    go_wp2_with fail
    go_ret3
    exact ⟨HW2.out, fun _ => rfl, fun l q h => by rw [HTN.out] at h; cases h⟩
  | some lq =>
    obtain ⟨l, q⟩ := lq
    rw [hT] at HT
    simp only at HT
    have hq : q ≤ len := by
      have := tks_le HXB.out (by rw [HXL.out]; have := HLL.out; omega) _ _ _ _ (fun k hk => by rw [(List.mem_replicate.1 hk).2]; decide) (Nat.zero_le _) hT
      rw [HXL.out] at this
      exact this
    have HQ := hide hq
    have HTT := hide hT
    clear hT hq
    go_wp2_with fail
    refine HT.out.mono ?_
    rintro e w2 ⟨v2, rfl, hb2, ho2, hf2⟩
    have HW2 := hide (rBelow HW1.out hb2)
    obtain ⟨p2, q2, hv2, is2, _⟩ := ho2.is hf2
    obtain ⟨nl, hnl⟩ : ∃ nl, l.length = nl := ⟨_, rfl⟩
    rw [hnl] at hv2 is2
    subst hv2
    have HIS := hide is2
    have HF2 := hide hf2
    have HNL := hide hnl
    have HV0 : Hid (OwnsV 23 (w2.alloc (.cells #[] 23)) w2.heap.size (.slice (some ⟨w2.heap.size, 0, none⟩) 0 0) (fVals [])) := OwnsV.lit 23 w2 _ [] (Nat.le_refl _) (by simp)
    have HB0 := hide (below_alloc w2 (.cells #[] 23))
    clear hb2 ho2 hf2 is2 hnl HT
    have hsf : ∀ (w : World) (a : Addr) (m : Mode) (x : Nat), (store a (.float .f64 x) m).run Try.prog w = stored Try.prog w a (.float .f64 x) m := fun w a m x => run_store Try.prog w a _ m rfl
    go_wp2_with fail
    go_loopw [10, 28] (fun v i wr' => ∃ k : Nat, k ≤ nl ∧ i = .int .i64 k ∧ Hid (OwnsV 23 wr' w2.heap.size v (fVals ((l.map It.x).take k))) ∧ Hid (Below w2.heap.size w2 wr')) (fun _ i _ => nl - (intOf i).toNat)
    case atStart => exact ⟨0, by omega, rfl, HV0, HB0⟩
    case round =>
      obtain ⟨k, hk, rfl, hown, hWr⟩ := hrel
      have HNL3 : Hid (nl ≤ 255) := by
        have := tks_len _ _ _ _ _ HTT.out
        show nl ≤ 255
        rw [← HNL.out]
        simp at this
        omega
      have hnl3 : nl ≤ 255 := HNL3.out
      rcases Nat.lt_or_ge k nl with hlt | hge
      · obtain ⟨b, off, rfl, c0, c1, c2, c3⟩ := (HIS.out.keep hWr.out (Nat.le_refl _)).2.2 k hlt
        obtain ⟨x, hx⟩ : ∃ x, x = l.getD k itD := ⟨_, rfl⟩
        rw [← hx] at c0 c1 c2 c3
        have HX := hide hx
        obtain ⟨xk, hxk⟩ : ∃ n, n = x.kind := ⟨_, rfl⟩
        obtain ⟨xn, hxn⟩ : ∃ n, n = x.n := ⟨_, rfl⟩
        obtain ⟨xx, hxx⟩ : ∃ n, n = x.x := ⟨_, rfl⟩
        obtain ⟨xs', hxs⟩ : ∃ n, n = x.s := ⟨_, rfl⟩
        rw [← hxk] at c0
        rw [← hxn] at c1
        rw [← hxx] at c2
        rw [← hxs] at c3
        have HXX := hide hxx
        have HOk := hide ((hown.out.keep (below_alloc wr (.cells #[.int .i64 xk, .int .i64 xn, .float .f64 xx, .string xs'] 73)) (Nat.le_refl _)).keep (below_alloc _ (.cells #[.float .f64 xx] 23)) (Nat.le_refl _))
        have HWk := hide (rBelow hWr.out (below_two wr (.cells #[.int .i64 xk, .int .i64 xn, .float .f64 xx, .string xs'] 73) (.cells #[.float .f64 xx] 23)))
        have HVk : Hid (Vs ((wr.alloc (.cells #[.int .i64 xk, .int .i64 xn, .float .f64 xx, .string xs'] 73)).alloc (.cells #[.float .f64 xx] 23)) (some ⟨wr.heap.size + 1, 0, none⟩) 1 [.float .f64 xx]) := by
          have := vs_one 23 (wr.alloc (.cells #[.int .i64 xk, .int .i64 xn, .float .f64 xx, .string xs'] 73)) (.float .f64 xx) rfl
          exact hide (by simpa using this)
        have HLEN : Hid ((fVals ((l.map It.x).take k)).length + 1 ≤ 1000000) := by
          show _ ≤ _
          have := HNL3.out
          simp [fVals]
          omega
        clear hx hxk hxn hxx hxs
        go_wp2_with (at_builtin; refine wpList_append_vals oneFlt _ rfl (.tmp 32) (.tmp 35) rfl w2.heap.size _ _ rfl HOk.out _ _ _ [.float .f64 xx] rfl HVk.out (fun h => by cases h) HLEN.out HWk.out.size ?_)
        intro v6 w6 ho6 hb6 _
        have HO6 := hide ho6
        have HB6 := hide (HWk.out.trans hb6)
        clear ho6 hb6 HOk HVk
        go_wp2
        go_roundw
        case rel =>
          have hk' : k < l.length := by rw [HNL.out]; exact hlt
          refine ⟨k + 1, by omega, by go_num, ?_, HB6⟩
          have e : fVals ((l.map It.x).take (k + 1)) = fVals ((l.map It.x).take k) ++ [.float .f64 xx] := by
            rw [List.take_succ_eq_append_getElem (by simpa using hk'), HXX.out, HX.out]
            simp [fVals, List.getD, hk']
          rw [e]
          exact HO6
        case measure => simp only [intOf]; omega
      · have htk : (l.map It.x).take k = l.map It.x := List.take_of_length_le (by rw [List.length_map, HNL.out]; omega)
        rw [htk] at hown
        have HWF := hide (HW2.out.trans (hWr.out.mono HW2.out.size))
        have HOF := hide ((hown.out.keep (Below.refl wr.heap.size wr).drew (Nat.le_refl _)).lower HW2.out.size)
        clear htk
        go_wp2_with fail
        refine Pl.region_is (ops := Pl.find 10 ((Try.f84.body).getD .skip)) (by kernel_rfl) ?_
        refine cols10 wr wr _ a len cap q HQ.out (Below.refl _ _) (by rfl) (by rfl) (by rfl) (by rfl) (by rfl) ?_
        intro u w5 hw5
        subst hw5
        simp only [Act.put, List.setIfInBounds_toArray, List.set_cons_zero, List.set_cons_succ]
        go_wp2_with fail
        go_ret3
        refine ⟨HWF.out.drew, (fun h => by rw [HTT.out] at h; cases h), fun l' q' h => ?_⟩
        rw [HTT.out] at h
        simp only [Option.some.injEq, Prod.mk.injEq] at h
        obtain ⟨rfl, rfl⟩ := h
        exact ⟨HQ.out, HF2.out, _, rfl, HOF.out⟩

end Go.Proofs.Ytnhhapipadiffaa
