/-
  Layer 8, the landed leaf: lay.
-/
import Derived.Test.YtgieigpbbkeonaaLgG
namespace Go.Proofs.Ytgieigpbbkeonaa
open Go.RowKit

/-- One slot more, empty: append, cut, laid into the copy's box. -/
theorem Nx.grow {w W : World} {g : Nat} {u v u' v' : Sl} {t' : List Int} {l' : List Sb} (h : Nx w W g u v u' v' t' l') (hl : v'.len ≤ 1000) :
    ∃ (a1 : Option Addr) (c1 : Nat) (W1 W2 : World), (∀ ty, (Builtin.append_ #[23, 23] ty #[v'.val, .slice (some ⟨W.heap.size, 0, none⟩) 1 1]).run Try.prog (W.alloc (.cells #[.slice none 0 0] 28)) = .ok (.slice a1 (v'.len + 1) c1) W1) ∧ v'.len + 1 ≤ c1 ∧
      LfBlk W1 g u'.val v'.val ∧ (Instr.storeAt 23 (.pointer (some ⟨g, 1, none⟩)) (.slice a1 (v'.len + 1) (v'.len + 1))).run Try.prog W1 = .ok () W2 ∧ Nx w W2 g u v u' ⟨a1, v'.len + 1, v'.len + 1⟩ t' (l' ++ [Sb.zero]) := by
  have hA := below_alloc W (.cells #[.slice none 0 0] 28)
  have h1 := h.below hA
  have hs : Src Try.prog 1 23 (.slice (some ⟨W.heap.size, 0, none⟩) 1 1) 1 (cellsB [Sb.zero]) (W.alloc (.cells #[.slice none 0 0] 28)) := by
    refine Src.ofSlice _ Try.underlying23 _ 1 1 (cellsB [Sb.zero]) rfl (fun j u hj => ?_) (cellsB_one _)
    cases j with
    | zero =>
      have e : Value.slice none 0 0 = u := Option.some.inj hj
      subst e
      have hn := heap_alloc_new W (.cells #[.slice none 0 0] 28)
      rw [Addr.add_lit]
      simp only [World.cell?]
      rw [hn]
      rfl
    | succ j => simp [cellsB] at hj
  obtain ⟨v1, W1, hrun, ho, hlen, hf, hbk⟩ := own_append Try.underlying23 infoBs1 rfl (by decide) _ v' (cellsB l') h1.ob (cellsB_one l') _ 1 _ hs (by omega) 0
  have ho' : OwnB W1 v1 (l' ++ [Sb.zero]) := by
    have e : cellsB (l' ++ [Sb.zero]) = cellsB l' ++ cellsB [Sb.zero] := by simp [cellsB]
    unfold OwnB
    rw [e]
    exact ho
  have ho2 : OwnB W1 ⟨v1.a, v'.len + 1, v'.len + 1⟩ (l' ++ [Sb.zero]) := by
    have := Own.cut ho' (n := v'.len + 1) (by omega)
    rw [List.take_of_length_le (by rw [cellsB_length, OwnB.len ho']; omega)] at this
    exact this
  have k9 : LfBlk W1 g u'.val v'.val := hf.lf h1.k9 (fun e => Own.unbox h1.ob h1.k9 (by decide) e)
  have hoi : OwnN W1 u' t' := Own.frame h1.oi (fun k hk => hf.block k (Own.lt h1.oi hk) (Own.apart h1.oi h1.ob (by decide) k hk))
  have hv2 : ∀ k, Sl.blk ⟨v1.a, v'.len + 1, v'.len + 1⟩ = some k → w.heap.size + 2 ≤ k := by
    intro k hk
    have hk' : v1.blk = some k := hk
    rcases hbk with e | ⟨e, _⟩
    · rw [e] at hk'; exact h1.vi k hk'
    · rw [e] at hk'; cases hk'; have := h1.k2.lt; omega
  have hcm : ∀ x ∈ l' ++ [Sb.zero], Cm (fun k => Off (w.heap.size + 2) u' ⟨v1.a, v'.len + 1, v'.len + 1⟩ k ∧ k ≠ g) W1 x.s x.bs ∧ x.bs.length ≤ 1000 := by
    intro x hx
    rcases List.mem_append.1 hx with hx | hx
    · refine ⟨((h1.bs x hx).1.mono (E := fun k => (Off (w.heap.size + 2) u' ⟨v1.a, v'.len + 1, v'.len + 1⟩ k ∧ k ≠ g) ∧ v'.blk ≠ some k) (fun k hk hl => ⟨⟨⟨hk.1.1, hk.1.2.1, fun e => ?_⟩, hk.2⟩, hk.1.2.2⟩)).keep (Kept.frm hf (fun k hk => hk.2)) |>.wide (fun k hk => hk.1), (h1.bs x hx).2⟩
      have e' : v1.blk = some k := e
      rcases hbk with e2 | ⟨e2, _⟩
      · rw [e2] at e'; exact hk.1.2.2 e'
      · rw [e2] at e'; cases e'; omega
    · rw [List.mem_singleton] at hx
      subst hx
      exact ⟨Cm.none W1, Nat.zero_le _⟩
  have hB : Below w.heap.size w W1 := h1.e.trans (hf.below h1.e.size (fun k hk => by have := h1.vi k hk; omega))
  obtain ⟨W2, hst, k2', f2⟩ := st_slots W1 g _ _ k9 ⟨v1.a, v'.len + 1, v'.len + 1⟩
  have hg := h.gi
  have hne : ∀ k, k < w.heap.size + 2 → v'.blk ≠ some k := fun k hk e => by have := h1.vi k e; omega
  refine ⟨v1.a, v1.cap, W1, W2, fun ty => ?_, by have := Own.lecap ho; omega, k9, hst, ?_⟩
  · have : (Builtin.append_ #[23, 23] ty #[v'.val, .slice (some ⟨W.heap.size, 0, none⟩) 1 1]).run Try.prog (W.alloc (.cells #[.slice none 0 0] 28)) = .ok v1.val W1 := hrun
    rw [this]
    unfold Sl.val
    rw [hlen]
  · exact ⟨(hf.lf h1.k1 (hne _ (by omega))).off f2 (by omega), (hf.lf h1.k2 (hne _ (by omega))).off f2 (by omega), k2', Own.kept hoi f2 (Own.unbox hoi k9 (by decide)), Own.kept ho2 f2 (Own.unbox ho2 k9 (by decide)), h1.ui, hv2, fun x hx => ⟨(hcm x hx).1.keep (Kept.frm f2 (fun k hk => hk.2)), (hcm x hx).2⟩, h.gi, hB.trans (f2.below hB.size (fun k hk => by omega))⟩

section
variable {ops : Array Oper} {rest : List Oper} {o : Oper} {a : Act} {Q : Exit → Act → World → Prop}
theorem wpList_append_run (w : World) (hgd : o.guard = none) (S : TypeId) (s y : Operand) (ho : o.op = .call { callee := .builtin .append, args := #[s, y], argTypes := #[S, S] }) (x1 x2 v : Value) (hs : a.eval s = x1) (hy : a.eval y = x2) (w' : World) (hrun : ∀ ty, (Builtin.append_ #[S, S] ty #[x1, x2]).run Try.prog w = .ok v w')
    (hK : wpList Try.prog ops Q rest (a.put o.dst v) w') : wpList Try.prog ops Q (o :: rest) a w := by
  refine wpList_plain hgd fun K hK' => ?_
  unfold Oper.wp
  simp [execOp, ho, resolve, invoke, builtin, hs, hy, hrun, Result.andThen]
  exact hK' _ _ hK
end

/-- The slots with a row in one of them, or in one more. -/
def layS (s : List (List Nat)) (k : Nat) (r : List Nat) : List (List Nat) := if k = s.length then s ++ [r] else s.set k r

set_option maxHeartbeats 8000000 in
set_option maxRecDepth 100000 in
/-- How lay ends, once the row stands in the copy. -/
theorem lay_any {D : Nat → Prop} (w : World) (u v : Sl) (t : List Int) (l : List Sb) (hi : Gi D w u t) (hg : Gb D w v l) (hm : MayL ⟨t, bss l⟩) (k : Nat) (hk : k ≤ v.len) (x : Sb) (hx : Cm D w x.s x.bs) (hx2 : x.bs.length ≤ 255) (X : Ans) (hX0 : MayL ⟨t, layS (bss l) k x.bs⟩ → X = ⟨layS (bss l) k x.bs, 0⟩) (hX7 : ¬ MayL ⟨t, layS (bss l) k x.bs⟩ → X = ⟨bss l, 7⟩) :
    Calls Try.prog 44 #[lfV u v, .int .i64 ((k : Nat) : Int), x.s.val] w fun e w' => Told w t X.s (mk2 X.e) e w' := by
  have hT := Tb.start u hg
  have HT := hide hT
  have HCP : Hid (∀ W, Below w.heap.size w W → Calls Try.prog 39 #[lfV u v] W fun e w' => CpSays W t l e w') := fun W hW => copyOf_any W u v t l (hi.below hW (Nat.le_refl _)) (hg.below hW (Nat.le_refl _))
  have HU : Hid (∀ W, Below w.heap.size w W → Calls Try.prog 62 #[x.s.val] W fun e w' => Below W.heap.size W w' ∧ ∃ s : Sl, e = .returned s.val ∧ Own 5 1 w' s (vals x.bs) ∧ s.len = x.s.len ∧ s.cap = x.s.len ∧ ∀ k, s.blk = some k → W.heap.size ≤ k) := fun W hW => own_bytes W _ _ (hx.keep (Kept.all hW (Nat.le_refl _))) (by have := hx.len; omega)
  have HTL : Hid (t.length = 4) := hm.itl.1
  have HLL : Hid (l.length ≤ 64) := by have := hm.slots.1; rw [bss_length] at this; exact this
  have HL := hide hg.len
  have HXB := hide hx.came.bs.2.1
  have HXL := hide hx.len.symm
  have HX0 := hide hX0
  have HX7 := hide hX7
  have hlen : v.len ≤ 64 := by have := hm.slots.1; have := hg.len; rw [bss_length] at *; omega
  have HE : Hid (∀ (W : World) (g : Nat) (u' v' : Sl) (l' : List Sb), Nx w W g u v u' v' t l' → bss l' = layS (bss l) k x.bs → l'.length ≤ 1000 → Calls Try.prog 12 #[lfV u' v'] W fun e w' => CkSays t (layS (bss l) k x.bs) e ∧ Below W.heap.size W w') := by
    intro W g u' v' l' nx hb hl
    rw [← hb]
    exact check_says W u' v' t l' (D := fun _ => True) (OwnN.gi nx.oi (fun _ _ => trivial) (by have := OwnN.len nx.oi; have := hm.itl.1; simp only at *; omega)) (OwnB.gb nx.ob (fun x hx => ⟨(nx.bs x hx).1.wide (fun _ _ => trivial), (nx.bs x hx).2⟩) (fun _ _ => trivial) (by have := OwnB.len nx.ob; omega))
  clear hT hi hg hm hx hX0 hX7
  obtain ⟨a, len, cap⟩ := v
  obtain ⟨ua, ul, uc⟩ := u
  obtain ⟨⟨xa, xl, xc⟩, xs⟩ := x
  unfold lfV Sl.val at *
  simp only at *
  go_enter Try.func44, Try.ntmps44
  go_wp2_with fail
  refine (HCP.out _ HT.out.e).mono ?_
  rintro e w2 ⟨hb2, ⟨a2, n2, k2⟩, ⟨a5, n5, k5⟩, l', rfl, lw, hbs⟩
  obtain ⟨W3, hst3, nx⟩ := Nx.start HT.out hb2 lw
  have HST3 := hide hst3
  have HBS := hide hbs
  have hn5 : n5 = len := by have h1 := OwnB.len lw.ob; have h2 := HL.out; rw [bss_len hbs] at h1; show n5 = len; simp only at h1 h2; omega
  subst hn5
  have c0 := nx.k9.c0
  have c1 := nx.k9.c1
  have d0 := nx.k1.c0
  have d1 := nx.k1.c1
  have HNX := hide nx
  clear lw hb2 hbs nx hst3 HT
  unfold lfV Sl.val at *
  simp only at *
  by_cases hkl : k = n5
  · subst hkl
    obtain ⟨a6, c6, W4, W5, hap, hc6, k4, hst5, nx5⟩ := HNX.out.grow (by show k ≤ 1000; omega)
    have HAP := hide hap
    have HST5 := hide hst5
    have HNX5 := hide nx5
    have HCUT := hide (cut_slots W4 a6 (k + 1) c6 (k + 1) hc6)
    have ek : ((k + 1 : Nat) : Int) = ((k : Nat) : Int) + 1 := by omega
    rw [ek] at HCUT
    have e0 := k4.c0
    have e1 := k4.c1
    clear hap k4 hst5 nx5 ek
    unfold Sl.val at *
    simp only at *
    go_wp2_with (first | refine wpList_alloc _ rfl 25 rfl (.pointer (some ⟨w2.heap.size, 0, none⟩)) (w2.alloc (.cells #[.slice none 0 0, .slice none 0 0] 25)) (alloc_lf w2) ?_ | refine wpList_store _ rfl rfl 25 (.tmp 8) (.tmp 10) rfl (.pointer (some ⟨w2.heap.size, 0, none⟩)) (.agg #[.slice a2 n2 k2, .slice a5 k k5]) rfl rfl W3 HST3.out ?_ | (at_builtin; refine wpList_append_run _ rfl 23 (.tmp 17) (.tmp 18) rfl (.slice a5 k k5) (.slice (some ⟨W3.heap.size, 0, none⟩) 1 1) (.slice a6 (k + 1) c6) rfl rfl W4 HAP.out ?_))
    refine HCUT.out.mono ?_
    rintro e w4 ⟨rfl, hw⟩
    obtain rfl := hw
    clear HCUT HAP HST3 HNX c0 c1 d0 d1
    go_wp2_with (refine wpList_store _ rfl rfl 23 (.tmp 23) (.tmp 22) rfl (.pointer (some ⟨w2.heap.size, 1, none⟩)) (.slice a6 (k + 1) (k + 1)) rfl rfl W5 HST5.out ?_)
    clear e0 e1 HST5
    obtain ⟨b6, o6, ha6⟩ := OwnB.pos HNX5.out.ob (by show 0 < k + 1; omega)
    replace ha6 : a6 = some ⟨b6, o6, none⟩ := ha6
    subst ha6
    obtain ⟨l6, hl6⟩ : ∃ l6, l6 = l' ++ [Sb.zero] := ⟨_, rfl⟩
    have HL6 : Hid (l6.length ≤ 1000) := by show _ ≤ _; rw [hl6, List.length_append, bss_len HBS.out, HL.out]; show k + 1 ≤ 1000; omega
    have HB6 : Hid (∀ s7 : Sl, bss (l6.set k ⟨s7, xs⟩) = layS (bss l) k xs) := by
      intro s7
      have h1 : (bss l).length = k := by rw [bss_length]; exact HL.out
      have h2 : bss l6 = bss l ++ [[]] := by rw [hl6, ← HBS.out]; simp [bss, Sb.zero]
      unfold layS
      rw [bss_set, h2, if_pos h1.symm, ← h1, List.set_append_right _ _ (Nat.le_refl _)]
      simp
    rw [← hl6] at HNX5
    clear hl6
    have hk6 : k < k + 1 := Nat.lt_succ_self k
    obtain ⟨WX, hWX⟩ : ∃ W, W = W5 := ⟨_, rfl⟩
    rw [← hWX] at HNX5
    rw [← hWX]
    clear hWX
    refine Pl.region_is (ops := Pl.find 4 ((Try.f44.body).getD .skip)) (by kernel_rfl) ?_
    refine lay4 WX w2.heap.size b6 o6 (k + 1) (k + 1) k ⟨a2, n2, k2⟩ ⟨xa, xl, xc⟩ l6 xs hk6 HXL.out HNX5.out.k9 HNX5.out.ob (fun W hW => HU.out W (rBelow HNX5.out.e hW)) (by rfl) rfl (by rfl) (by rfl) (by rfl) ?_
    intro q w7 s7 ly
    have nx7 := HNX5.out.setR ly HXB.out (by omega)
    have hl7 : (l6.set k ⟨s7, xs⟩).length ≤ 1000 := by rw [List.length_set]; exact HL6.out
    have hb7 := HB6.out s7
    have f0 := nx7.k9.c0
    have f1 := nx7.k9.c1
    have g0 := nx7.k1.c0
    have g1 := nx7.k1.c1
    have HCK := hide (HE.out w7 _ _ _ _ nx7 hb7 hl7)
    have HNX7 := hide nx7
    have HB7 := hide hb7
    have HL7 := hide hl7
    clear ly nx7 hb7 hl7 HE HNX5 HL6 HB6 HU HXB
    simp only [Act.put, List.setIfInBounds_toArray, List.set_cons_zero, List.set_cons_succ]
    unfold Sl.val at *
    simp only at *
    go_wp2_with fail
    refine HCK.out.mono ?_
    rintro e w8 ⟨hc, hb8⟩
    have nx8 := HNX7.out.below hb8
    have m0 := nx8.k9.c0
    have m1 := nx8.k9.c1
    have p0 := nx8.k1.c0
    have p1 := nx8.k1.c1
    clear f0 f1 g0 g1 hb8 HNX7 HCK
    rcases hc with ⟨hm, rfl⟩ | ⟨hm, rfl⟩
    · obtain ⟨W9, hst9, k9, hf9⟩ := nx8.fin (by rw [HTL.out]; decide) HL7.out
      have HF : Hid (Told w t X.s (mk2 X.e) (.returned (mk2 0 (lfV ⟨a2, n2, k2⟩ ⟨some ⟨b6, o6, none⟩, k + 1, k + 1⟩))) W9) := by rw [HX0.out hm, ← HB7.out]; exact hf9 (mk2 0)
      have HST9 := hide hst9
      have HK9 := hide k9
      clear hst9 k9 hf9 nx8 HX0 HX7 hm HCP
      unfold lfV Sl.val at *
      simp only at *
      go_wp2_with (refine wpList_store _ rfl rfl 25 (.tmp 6) (.tmp 35) rfl (.pointer (some ⟨w.heap.size + 1, 0, none⟩)) (.agg #[.slice a2 n2 k2, .slice (some ⟨b6, o6, none⟩) (k + 1) (k + 1)]) rfl rfl W9 HST9.out ?_)
      refine bodyPost_ret (lf_results1 (u := ⟨a2, n2, k2⟩) (v := ⟨some ⟨b6, o6, none⟩, k + 1, k + 1⟩) rfl HK9.out _ rfl rfl) rfl ?_
      exact HF.out
    · have HXE := hide (HX7.out hm)
      have HCP8 := hide (HCP.out w8 nx8.e)
      have HNX8 := hide nx8
      clear nx8 HX0 HX7 hm HCP
      unfold Sl.val at *
      simp only at *
      go_wp2_with fail
      refine HCP8.out.mono ?_
      rintro e w9 ⟨hb9, ⟨a8, n8, k8⟩, ⟨a9, n9, k9⟩, l9, rfl, lw9, hbs9⟩
      have nx9 := HNX8.out.below hb9
      have hw8 : w.heap.size + 2 ≤ w8.heap.size + 2 := by have := HNX8.out.k2.lt; omega
      obtain ⟨W9, hst9, kk9, hf9⟩ := fin_lf nx9.k2 nx9.e ((lw9.gi (by rw [HTL.out]; decide)).wide (fun k hk => Nat.le_trans hw8 hk)) ((lw9.gb (by rw [bss_len hbs9]; have := HLL.out; omega)).wide (fun k hk => Nat.le_trans hw8 hk))
      have HF : Hid (Told w t X.s (mk2 X.e) (.returned (mk2 7 (lfV ⟨a8, n8, k8⟩ ⟨a9, n9, k9⟩))) W9) := by rw [HXE.out, ← hbs9]; exact hf9 (mk2 7)
      have HST9 := hide hst9
      have HK9 := hide kk9
      clear hst9 kk9 hf9 nx9 lw9 hbs9 hw8 hb9 HXE HCP8 HNX8
      unfold lfV Sl.val at *
      simp only at *
      go_wp2_with (refine wpList_store _ rfl rfl 25 (.tmp 6) (.tmp 34) rfl (.pointer (some ⟨w.heap.size + 1, 0, none⟩)) (.agg #[.slice a8 n8 k8, .slice a9 n9 k9]) rfl rfl W9 HST9.out ?_)
      refine bodyPost_ret (lf_results1 (u := ⟨a8, n8, k8⟩) (v := ⟨a9, n9, k9⟩) rfl HK9.out _ rfl rfl) rfl ?_
      exact HF.out
  · have hkl2 : k < n5 := by omega
    have i1 : ¬ ((k : Nat) : Int) = ((n5 : Nat) : Int) := by omega
    have i2 : (((k : Nat) : Int) == ((n5 : Nat) : Int)) = false := by simp; omega
    go_wp2_with (first | refine wpList_alloc _ rfl 25 rfl (.pointer (some ⟨w2.heap.size, 0, none⟩)) (w2.alloc (.cells #[.slice none 0 0, .slice none 0 0] 25)) (alloc_lf w2) ?_ | refine wpList_store _ rfl rfl 25 (.tmp 8) (.tmp 10) rfl (.pointer (some ⟨w2.heap.size, 0, none⟩)) (.agg #[.slice a2 n2 k2, .slice a5 n5 k5]) rfl rfl W3 HST3.out ?_)
    clear HST3 c0 c1 d0 d1
    obtain ⟨b6, o6, ha6⟩ := OwnB.pos HNX.out.ob (by show 0 < n5; omega)
    replace ha6 : a5 = some ⟨b6, o6, none⟩ := ha6
    subst ha6
    obtain ⟨l6, hl6⟩ : ∃ l6, l6 = l' := ⟨_, rfl⟩
    have HL6 : Hid (l6.length ≤ 1000) := by show _ ≤ _; rw [hl6, bss_len HBS.out, HL.out]; show n5 ≤ 1000; omega
    have HB6 : Hid (∀ s7 : Sl, bss (l6.set k ⟨s7, xs⟩) = layS (bss l) k xs) := by
      intro s7
      have h1 : (bss l).length = n5 := by rw [bss_length]; exact HL.out
      unfold layS
      rw [bss_set, hl6, HBS.out, if_neg (by rw [h1]; omega)]
    rw [← hl6] at HNX
    clear hl6
    have hk6 : k < n5 := hkl2
    obtain ⟨WX, hWX⟩ : ∃ W, W = W3 := ⟨_, rfl⟩
    rw [← hWX] at HNX
    rw [← hWX]
    clear hWX i1 i2
    refine Pl.region_is (ops := Pl.find 4 ((Try.f44.body).getD .skip)) (by kernel_rfl) ?_
    refine lay4 WX w2.heap.size b6 o6 (n5) (k5) k ⟨a2, n2, k2⟩ ⟨xa, xl, xc⟩ l6 xs hk6 HXL.out HNX.out.k9 HNX.out.ob (fun W hW => HU.out W (rBelow HNX.out.e hW)) (by rfl) rfl (by rfl) (by rfl) (by rfl) ?_
    intro q w7 s7 ly
    have nx7 := HNX.out.setR ly HXB.out (by omega)
    have hl7 : (l6.set k ⟨s7, xs⟩).length ≤ 1000 := by rw [List.length_set]; exact HL6.out
    have hb7 := HB6.out s7
    have f0 := nx7.k9.c0
    have f1 := nx7.k9.c1
    have g0 := nx7.k1.c0
    have g1 := nx7.k1.c1
    have HCK := hide (HE.out w7 _ _ _ _ nx7 hb7 hl7)
    have HNX7 := hide nx7
    have HB7 := hide hb7
    have HL7 := hide hl7
    clear ly nx7 hb7 hl7 HE HNX HL6 HB6 HU HXB
    simp only [Act.put, List.setIfInBounds_toArray, List.set_cons_zero, List.set_cons_succ]
    unfold Sl.val at *
    simp only at *
    go_wp2_with fail
    refine HCK.out.mono ?_
    rintro e w8 ⟨hc, hb8⟩
    have nx8 := HNX7.out.below hb8
    have m0 := nx8.k9.c0
    have m1 := nx8.k9.c1
    have p0 := nx8.k1.c0
    have p1 := nx8.k1.c1
    clear f0 f1 g0 g1 hb8 HNX7 HCK
    rcases hc with ⟨hm, rfl⟩ | ⟨hm, rfl⟩
    · obtain ⟨W9, hst9, k9, hf9⟩ := nx8.fin (by rw [HTL.out]; decide) HL7.out
      have HF : Hid (Told w t X.s (mk2 X.e) (.returned (mk2 0 (lfV ⟨a2, n2, k2⟩ ⟨some ⟨b6, o6, none⟩, n5, k5⟩))) W9) := by rw [HX0.out hm, ← HB7.out]; exact hf9 (mk2 0)
      have HST9 := hide hst9
      have HK9 := hide k9
      clear hst9 k9 hf9 nx8 HX0 HX7 hm HCP
      unfold lfV Sl.val at *
      simp only at *
      go_wp2_with (refine wpList_store _ rfl rfl 25 (.tmp 6) (.tmp 35) rfl (.pointer (some ⟨w.heap.size + 1, 0, none⟩)) (.agg #[.slice a2 n2 k2, .slice (some ⟨b6, o6, none⟩) (n5) (k5)]) rfl rfl W9 HST9.out ?_)
      refine bodyPost_ret (lf_results1 (u := ⟨a2, n2, k2⟩) (v := ⟨some ⟨b6, o6, none⟩, n5, k5⟩) rfl HK9.out _ rfl rfl) rfl ?_
      exact HF.out
    · have HXE := hide (HX7.out hm)
      have HCP8 := hide (HCP.out w8 nx8.e)
      have HNX8 := hide nx8
      clear nx8 HX0 HX7 hm HCP
      unfold Sl.val at *
      simp only at *
      go_wp2_with fail
      refine HCP8.out.mono ?_
      rintro e w9 ⟨hb9, ⟨a8, n8, k8⟩, ⟨a9, n9, k9⟩, l9, rfl, lw9, hbs9⟩
      have nx9 := HNX8.out.below hb9
      have hw8 : w.heap.size + 2 ≤ w8.heap.size + 2 := by have := HNX8.out.k2.lt; omega
      obtain ⟨W9, hst9, kk9, hf9⟩ := fin_lf nx9.k2 nx9.e ((lw9.gi (by rw [HTL.out]; decide)).wide (fun k hk => Nat.le_trans hw8 hk)) ((lw9.gb (by rw [bss_len hbs9]; have := HLL.out; omega)).wide (fun k hk => Nat.le_trans hw8 hk))
      have HF : Hid (Told w t X.s (mk2 X.e) (.returned (mk2 7 (lfV ⟨a8, n8, k8⟩ ⟨a9, n9, k9⟩))) W9) := by rw [HXE.out, ← hbs9]; exact hf9 (mk2 7)
      have HST9 := hide hst9
      have HK9 := hide kk9
      clear hst9 kk9 hf9 nx9 lw9 hbs9 hw8 hb9 HXE HCP8 HNX8
      unfold lfV Sl.val at *
      simp only at *
      go_wp2_with (refine wpList_store _ rfl rfl 25 (.tmp 6) (.tmp 34) rfl (.pointer (some ⟨w.heap.size + 1, 0, none⟩)) (.agg #[.slice a8 n8 k8, .slice a9 n9 k9]) rfl rfl W9 HST9.out ?_)
      refine bodyPost_ret (lf_results1 (u := ⟨a8, n8, k8⟩) (v := ⟨a9, n9, k9⟩) rfl HK9.out _ rfl rfl) rfl ?_
      exact HF.out
end Go.Proofs.Ytgieigpbbkeonaa
