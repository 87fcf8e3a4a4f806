/-
  Layer 8, the landed leaf: what is told, in memory; Join.
-/
import Derived.Test.YtgieigpbbkeonaaLgF
namespace Go.Proofs.Ytgieigpbbkeonaa
open Go.RowKit

/-- A leaf that is told, all of it new. -/
def Told (w : World) (t : List Int) (s : List (List Nat)) (mk : Value → Value) (e : Ending) (w' : World) : Prop :=
  Below w.heap.size w w' ∧ ∃ (u' v' : Sl) (l' : List Sb), e = .returned (mk (lfV u' v')) ∧ Gi (fun k => w.heap.size ≤ k) w' u' t ∧ Gb (fun k => w.heap.size ≤ k) w' v' l' ∧ bss l' = s
theorem Gi.none {D : Nat → Prop} (w : World) : Gi D w Sl.nil [] := ⟨rfl, fun _ => rfl, Nat.le_refl _, Nat.zero_le _, fun _ h => (by cases h), fun _ h => absurd h (Nat.not_lt_zero _)⟩
theorem Gb.none {D : Nat → Prop} (w : World) : Gb D w Sl.nil [] := ⟨rfl, fun _ => rfl, Nat.le_refl _, Nat.zero_le _, fun _ h => (by cases h), fun _ h => absurd h (Nat.not_lt_zero _), fun _ h => (by cases h)⟩
/-- The answer is laid into its box. -/
theorem fin_lf {w w1 : World} {x y : Value} (k : LfBlk w1 (w.heap.size + 1) x y) (e : Below w.heap.size w w1) {u' v' : Sl} {t : List Int} {l' : List Sb} (gi : Gi (fun k => w.heap.size + 2 ≤ k) w1 u' t) (gb : Gb (fun k => w.heap.size + 2 ≤ k) w1 v' l') :
    ∃ W, (Instr.storeAt 25 (.pointer (some ⟨w.heap.size + 1, 0, none⟩)) (lfV u' v')).run Try.prog w1 = .ok () W ∧ LfBlk W (w.heap.size + 1) u'.val v'.val ∧ ∀ mk, Told w t (bss l') mk (.returned (mk (lfV u' v'))) W := by
  obtain ⟨W, hst, k', f⟩ := st_lf w1 _ _ _ k u' v'
  have hk : Kept (fun k => w.heap.size + 2 ≤ k) w1 W := Kept.frm f (fun k hk e => by omega)
  refine ⟨W, hst, k', fun mk => ⟨e.trans (f.below e.size (fun k hk => by rw [hk]; exact Nat.le_succ _)), u', v', l', rfl, (gi.keep hk).wide (fun k h => by omega), (gb.keep hk).wide (fun k h => by omega), rfl⟩⟩
theorem fin_zero {w w1 : World} {x y : Value} (k : LfBlk w1 (w.heap.size + 1) x y) (e : Below w.heap.size w w1) :
    ∃ W, (Instr.storeAt 25 (.pointer (some ⟨w.heap.size + 1, 0, none⟩)) (lfV Sl.nil Sl.nil)).run Try.prog w1 = .ok () W ∧ LfBlk W (w.heap.size + 1) (Sl.val Sl.nil) (Sl.val Sl.nil) ∧ ∀ mk, Told w [] [] mk (.returned (mk (lfV Sl.nil Sl.nil))) W :=
  fin_lf k e (Gi.none w1) (Gb.none w1)
theorem Lw.gi {B : Nat} {w : World} {u v : Sl} {t : List Int} {l : List Sb} (h : Lw B w u v t l) (hl : t.length ≤ 1000000) : Gi (fun k => B ≤ k) w u t := OwnN.gi h.oi h.ui (by have := OwnN.len h.oi; omega)
theorem Lw.gb {B : Nat} {w : World} {u v : Sl} {t : List Int} {l : List Sb} (h : Lw B w u v t l) (hl : l.length ≤ 1000) : Gb (fun k => B ≤ k) w v l := OwnB.gb h.ob (fun x hx => ⟨(h.bs x hx).1.wide (fun k hk => hk.1), (h.bs x hx).2⟩) h.vi (by have := OwnB.len h.ob; omega)
theorem bss_len {l l' : List Sb} (h : bss l' = bss l) : l'.length = l.length := by rw [← bss_length, h, bss_length]

/-- A copy in a box of its own, beside a leaf's box and the answer's. -/
structure Nx (w W : World) (g : Nat) (u v u' v' : Sl) (t' : List Int) (l' : List Sb) : Prop where
  k1 : LfBlk W w.heap.size u.val v.val
  k2 : LfBlk W (w.heap.size + 1) (.slice none 0 0) (.slice none 0 0)
  k9 : LfBlk W g u'.val v'.val
  oi : OwnN W u' t'
  ob : OwnB W v' l'
  ui : ∀ k, u'.blk = some k → w.heap.size + 2 ≤ k
  vi : ∀ k, v'.blk = some k → w.heap.size + 2 ≤ k
  bs : ∀ x ∈ l', Cm (fun k => Off (w.heap.size + 2) u' v' k ∧ k ≠ g) W x.s x.bs ∧ x.bs.length ≤ 1000
  gi : w.heap.size + 2 ≤ g
  e : Below w.heap.size w W
theorem Nx.below {w W W' : World} {g : Nat} {u v u' v' : Sl} {t' : List Int} {l' : List Sb} (h : Nx w W g u v u' v' t' l') (hb : Below W.heap.size W W') : Nx w W' g u v u' v' t' l' :=
  ⟨h.k1.below hb, h.k2.below hb, h.k9.below hb, Own.below h.oi hb, Own.below h.ob hb, h.ui, h.vi, fun x hx => ⟨(h.bs x hx).1.keep (Kept.all hb (Nat.le_refl _)), (h.bs x hx).2⟩, h.gi, rBelow h.e hb⟩
theorem Nx.start {D : Nat → Prop} {w W1 W2 : World} {u v u' v' : Sl} {t : List Int} {l l' : List Sb} (T : Tb D w W1 u v l) (hb : Below W1.heap.size W1 W2) (lw : Lw (W1.heap.size + 2) W2 u' v' t l') :
    ∃ W3, (Instr.storeAt 25 (.pointer (some ⟨W2.heap.size, 0, none⟩)) (lfV u' v')).run Try.prog (W2.alloc (.cells #[.slice none 0 0, .slice none 0 0] 25)) = .ok () W3 ∧ Nx w W3 W2.heap.size u v u' v' t l' := by
  have T2 := T.below hb
  have hA := below_alloc W2 (.cells #[.slice none 0 0, .slice none 0 0] 25)
  have hs := T.sz
  have kn := lfBlk_new W2 (.slice none 0 0) (.slice none 0 0)
  obtain ⟨W3, hst, k', f⟩ := st_lf _ _ _ _ kn u' v'
  have s2 := T2.sz
  have hB : Below W2.heap.size W2 W3 := hA.trans (f.below hA.size (fun k hk => by omega))
  refine ⟨W3, hst, T2.k1.below hB, T2.k2.below hB, k', Own.below lw.oi hB, Own.below lw.ob hB, fun k hk => by have := lw.ui k hk; omega, fun k hk => by have := lw.vi k hk; omega, fun x hx => ⟨?_, (lw.bs x hx).2⟩, T2.sz, rBelow T2.e hB⟩
  refine ((lw.bs x hx).1.mono (fun k hk hl => ?_)).keep (Kept.all hB (Nat.le_refl _))
  exact ⟨⟨by have := hk.1; omega, hk.2⟩, by omega⟩
theorem Nx.fin {w W : World} {g : Nat} {u v u' v' : Sl} {t' : List Int} {l' : List Sb} (h : Nx w W g u v u' v' t' l') (ht : t'.length ≤ 1000000) (hl : l'.length ≤ 1000) :
    ∃ W', (Instr.storeAt 25 (.pointer (some ⟨w.heap.size + 1, 0, none⟩)) (lfV u' v')).run Try.prog W = .ok () W' ∧ LfBlk W' (w.heap.size + 1) u'.val v'.val ∧ ∀ mk, Told w t' (bss l') mk (.returned (mk (lfV u' v'))) W' :=
  fin_lf h.k2 h.e (OwnN.gi h.oi h.ui (by have := OwnN.len h.oi; omega)) (OwnB.gb h.ob (fun x hx => ⟨(h.bs x hx).1.wide (fun k hk => hk.1.1), (h.bs x hx).2⟩) h.vi (by have := OwnB.len h.ob; omega))
/-- A part of the copy turns. -/
theorem Nx.setI {w W : World} {g b o n c : Nat} {u v v' : Sl} {t' : List Int} {l' : List Sb} (h : Nx w W g u v ⟨some ⟨b, o, none⟩, n, c⟩ v' t' l') (i : Nat) (hi : i < n) (x : Int) :
    ∃ W', (Instr.storeAt 3 (.pointer (some ⟨b, o + i, none⟩)) (.int .i64 x)).run Try.prog W = .ok () W' ∧ Nx w W' g u v ⟨some ⟨b, o, none⟩, n, c⟩ v' (t'.set i x) l' := by
  obtain ⟨W', hst, o', f⟩ := st_num W b o n c t' h.oi i hi x
  have hb := h.ui b rfl
  refine ⟨W', hst, h.k1.off f (by omega), h.k2.off f (by omega), h.k9.off f (fun e => Own.unbox h.oi h.k9 (by decide) (by rw [e]; rfl)), o', Own.kept h.ob f (fun e => Own.apart h.oi h.ob (by decide) b rfl e), h.ui, h.vi, fun x hx => ⟨(h.bs x hx).1.keep (Kept.frm f (fun k hk e => hk.1.2.1 (by rw [e]; rfl))), (h.bs x hx).2⟩, h.gi, h.e.trans (f.below h.e.size (fun k hk => by omega))⟩
/-- A slot of the copy is emptied. -/
theorem Nx.setE {w W : World} {g b o n c : Nat} {u v u' : Sl} {t' : List Int} {l' : List Sb} (h : Nx w W g u v u' ⟨some ⟨b, o, none⟩, n, c⟩ t' l') (i : Nat) (hi : i < n) :
    ∃ W', (Instr.storeAt 28 (.pointer (some ⟨b, o + i, none⟩)) (.slice none 0 0)).run Try.prog W = .ok () W' ∧ Nx w W' g u v u' ⟨some ⟨b, o, none⟩, n, c⟩ t' (l'.set i Sb.zero) := by
  obtain ⟨W', hst, o', f⟩ := st_slot W b o n c l' h.ob i hi Sb.zero
  have hb := h.vi b rfl
  refine ⟨W', hst, h.k1.off f (by omega), h.k2.off f (by omega), h.k9.off f (fun e => Own.unbox h.ob h.k9 (by decide) (by rw [e]; rfl)), Own.kept h.oi f (fun e => Own.apart h.oi h.ob (by decide) b e rfl), o', h.ui, h.vi, fun x hx => ?_, h.gi, h.e.trans (f.below h.e.size (fun k hk => by omega))⟩
  rcases List.mem_or_eq_of_mem_set hx with hx | rfl
  · exact ⟨(h.bs x hx).1.keep (Kept.frm f (fun k hk e => hk.1.2.2 (by rw [e]; rfl))), (h.bs x hx).2⟩
  · exact ⟨Cm.none W', Nat.zero_le _⟩
/-- A row stands in a slot of the copy. -/
theorem Nx.setR {w W W' : World} {g : Nat} {u v u' v' : Sl} {t' : List Int} {l' : List Sb} (h : Nx w W g u v u' v' t' l') {i : Nat} {xs : List Nat} {s : Sl} (y : Ly W W' g u' v' l' i xs s) (hx : Bytes xs) (hl : xs.length ≤ 1000) : Nx w W' g u v u' v' t' (l'.set i ⟨s, xs⟩) := by
  have hoi : OwnN W' u' t' := Own.frame h.oi (fun k hk => y.f.block k (Own.lt h.oi hk) (Own.apart h.oi h.ob (by decide) k hk))
  refine ⟨y.f.lf h.k1 (fun e => by have := h.vi _ e; omega), y.f.lf h.k2 (fun e => by have := h.vi _ e; omega), y.k, hoi, y.ob, h.ui, h.vi, fun x hx' => ?_, h.gi, h.e.trans (y.f.below h.e.size (fun k hk => by have := h.vi k hk; omega))⟩
  rcases List.mem_or_eq_of_mem_set hx' with hx' | rfl
  · exact ⟨(h.bs x hx').1.keep (Kept.frm y.f (fun k hk => hk.1.2.2)), (h.bs x hx').2⟩
  · have hc := Own.offs y.os hx (B := W.heap.size) y.si hoi y.ob
    refine ⟨hc.wide (fun k hk => ⟨⟨?_, hk.2⟩, ?_⟩), hl⟩
    · have := hk.1
      have := h.e.size
      have := h.k2.lt
      omega
    · have := hk.1
      have := h.k9.lt
      omega
/-- The copy's box has other slots. -/
theorem Nx.slots {w W : World} {g : Nat} {u v u' v' v2 : Sl} {t' : List Int} {l' l2 : List Sb} (h : Nx w W g u v u' v' t' l') (ob : OwnB W v2 l2) (hv : ∀ k, v2.blk = some k → w.heap.size + 2 ≤ k) (hb : ∀ x ∈ l2, Cm (fun k => Off (w.heap.size + 2) u' v2 k ∧ k ≠ g) W x.s x.bs ∧ x.bs.length ≤ 1000) :
    ∃ W', (Instr.storeAt 23 (.pointer (some ⟨g, 1, none⟩)) v2.val).run Try.prog W = .ok () W' ∧ Nx w W' g u v u' v2 t' l2 := by
  obtain ⟨W', hst, k', f⟩ := st_slots W g _ _ h.k9 v2
  have hg := h.gi
  refine ⟨W', hst, h.k1.off f (by omega), h.k2.off f (by omega), k', Own.kept h.oi f (Own.unbox h.oi h.k9 (by decide)), Own.kept ob f (Own.unbox ob h.k9 (by decide)), h.ui, hv, fun x hx => ⟨(hb x hx).1.keep (Kept.frm f (fun k hk => hk.2)), (hb x hx).2⟩, h.gi, h.e.trans (f.below h.e.size (fun k hk => by omega))⟩
/-- The code beside a leaf. -/
def mk2 (c : Int) (x : Value) : Value := .tuple #[x, .int .i64 c]

set_option maxHeartbeats 8000000 in
set_option maxRecDepth 100000 in
theorem join_no {D : Nat → Prop} (w : World) (u v : Sl) (t : List Int) (l : List Sb) (hi : Gi D w u t) (hg : Gb D w v l) (hm : ¬ MayL ⟨t, bss l⟩) (p : Int) (r : Sl) :
    Calls Try.prog 19 #[lfV u v, .int .i64 p, r.val] w fun e w' => Told w [] [] (mk2 1) e w' := by
  have hT := Tb.start u hg
  have HT := hide hT
  have HCK := hide (check_no _ u v t l (hi.below hT.e (Nat.le_refl _)) hT.g hm)
  clear hT hi hg hm
  obtain ⟨a, len, cap⟩ := v
  obtain ⟨ua, ul, uc⟩ := u
  obtain ⟨ra, rl, rc⟩ := r
  unfold lfV Sl.val at *
  simp only at *
  go_enter Try.func19, Try.ntmps19
  go_wp2_with fail
  refine HCK.out.mono ?_
  rintro e w1 ⟨rfl, hb⟩
  have T1 := HT.out.below hb
  obtain ⟨W9, hst9, k9, hf9⟩ := fin_zero T1.k2 T1.e
  have HST9 := hide hst9
  have HK9 := hide k9
  have HF := hide (hf9 (mk2 1))
  clear hb T1 hst9 k9 hf9 HT HCK
  unfold lfV Sl.val Sl.nil at *
  simp only at *
  go_wp2_with (refine wpList_store _ rfl rfl 25 (.tmp 6) (.tmp 15) rfl (.pointer (some ⟨w.heap.size + 1, 0, none⟩)) (.agg #[.slice none 0 0, .slice none 0 0]) rfl rfl W9 HST9.out ?_)
  refine bodyPost_ret (lf_results1 (u := Sl.nil) (v := Sl.nil) rfl HK9.out _ rfl rfl) rfl ?_
  exact HF.out

set_option maxHeartbeats 8000000 in
set_option maxRecDepth 100000 in
theorem join_on {D : Nat → Prop} (w : World) (u v : Sl) (t : List Int) (l : List Sb) (hi : Gi D w u t) (hg : Gb D w v l) (hm : MayL ⟨t, bss l⟩) (p : Int) (r : Sl) (live : List Int) (hr : Gi D w r live) (X : Js) (hX1 : p < 1 ∨ 2147483647 < p → X = ⟨t, 1⟩) (hX0 : 1 ≤ p → p ≤ 2147483647 → t.contains p = true → X = ⟨t, 0⟩) (hX8 : 1 ≤ p → p ≤ 2147483647 → t.contains p = false → freeI t live = -1 → X = ⟨t, 8⟩) (hXs : 1 ≤ p → p ≤ 2147483647 → t.contains p = false → ∀ f : Nat, freeI t live = ((f : Nat) : Int) → X = ⟨t.set f p, 0⟩) :
    Calls Try.prog 19 #[lfV u v, .int .i64 p, r.val] w fun e w' => Told w X.t (bss l) (mk2 X.e) e w' := by
  have hT := Tb.start u hg
  have HT := hide hT
  have HCK := hide (check_yes _ u v t l (hi.below hT.e (Nat.le_refl _)) hT.g hm)
  have HCP : Hid (∀ W, Below w.heap.size w W → Calls Try.prog 39 #[lfV u v] W fun e w' => CpSays W t l e w') := fun W hW => copyOf_any W u v t l (hi.below hW (Nat.le_refl _)) (hg.below hW (Nat.le_refl _))
  have HCT : Hid (∀ W, Below w.heap.size w W → Calls Try.prog 40 #[u.val, .int .i64 p] W fun e w' => e = .returned (.bool (t.contains p)) ∧ w' = W) := fun W hW => contains_any W u t (hi.below hW (Nat.le_refl _)) p
  have HFP : Hid (∀ W, Below w.heap.size w W → Calls Try.prog 41 #[u.val, r.val] W fun e w' => e = .returned (.int .i64 (freeI t live)) ∧ Below W.heap.size W w') := fun W hW => freePart_any W u t (hi.below hW (Nat.le_refl _)) r live (hr.below hW (Nat.le_refl _))
  have HTL : Hid (t.length = 4) := hm.itl.1
  have HLL : Hid (l.length ≤ 1000) := by have := hg.len; have := hg.big; show _ ≤ _; omega
  have HFR := hide (freeI_lt (t := t) live)
  have HX1 := hide hX1
  have HX0 := hide hX0
  have HX8 := hide hX8
  have HXs := hide hXs
  clear hT hi hg hm hr hX1 hX0 hX8 hXs
  obtain ⟨a, len, cap⟩ := v
  obtain ⟨ua, ul, uc⟩ := u
  obtain ⟨ra, rl, rc⟩ := r
  unfold lfV Sl.val at *
  simp only at *
  go_enter Try.func19, Try.ntmps19
  go_wp2_with fail
  refine HCK.out.mono ?_
  rintro e w1 ⟨rfl, hb⟩
  have T1 := HT.out.below hb
  have c0 := T1.k1.c0
  have c1 := T1.k1.c1
  have HT1 := hide T1
  clear hb T1 HT HCK
  unfold Sl.val at *
  simp only at *
  go_wp2_with fail
  refine (HCP.out w1 HT1.out.e).mono ?_
  rintro e w2 ⟨hb2, ⟨a2, n2, k2⟩, ⟨a5, n5, k5⟩, l', rfl, lw, hbs⟩
  obtain ⟨W3, hst3, nx⟩ := Nx.start HT1.out hb2 lw
  have HST3 := hide hst3
  have HBS := hide hbs
  have hlen : l'.length ≤ 1000 := by rw [bss_len hbs]; exact HLL.out
  obtain ⟨W9, hst9, k9, hf9⟩ := nx.fin (by rw [HTL.out]; decide) hlen
  have HST9 := hide hst9
  have HK9 := hide k9
  have c0 := nx.k9.c0
  have c1 := nx.k9.c1
  have d0 := nx.k1.c0
  have d1 := nx.k1.c1
  have HNX := hide nx
  clear lw hb2 hbs nx HT1 HCP hst3 hst9 k9 hlen
  unfold lfV Sl.val at *
  simp only at *
  by_cases hp1 : p < 1
  · have HXE := hide (HX1.out (.inl hp1))
    have HF : Hid (Told w X.t (bss l) (mk2 X.e) (.returned (mk2 1 (lfV ⟨a2, n2, k2⟩ ⟨a5, n5, k5⟩))) W9) := by rw [HXE.out, ← HBS.out]; exact hf9 (mk2 1)
    clear hf9 HXE
    go_wp2_with (first | refine wpList_alloc _ rfl 25 rfl (.pointer (some ⟨w2.heap.size, 0, none⟩)) (w2.alloc (.cells #[.slice none 0 0, .slice none 0 0] 25)) (alloc_lf w2) ?_ | refine wpList_store _ rfl rfl 25 (.tmp 9) (.tmp 18) rfl (.pointer (some ⟨w2.heap.size, 0, none⟩)) (.agg #[.slice a2 n2 k2, .slice a5 n5 k5]) rfl rfl W3 HST3.out ?_ | refine wpList_store _ rfl rfl 25 (.tmp 6) (.tmp 25) rfl (.pointer (some ⟨w.heap.size + 1, 0, none⟩)) (.agg #[.slice a2 n2 k2, .slice a5 n5 k5]) rfl rfl W9 HST9.out ?_)
    refine bodyPost_ret (lf_results1 (u := ⟨a2, n2, k2⟩) (v := ⟨a5, n5, k5⟩) rfl HK9.out _ rfl rfl) rfl ?_
    exact HF.out
  · by_cases hp2 : 2147483647 < p
    · have HXE := hide (HX1.out (.inr hp2))
      have HF : Hid (Told w X.t (bss l) (mk2 X.e) (.returned (mk2 1 (lfV ⟨a2, n2, k2⟩ ⟨a5, n5, k5⟩))) W9) := by rw [HXE.out, ← HBS.out]; exact hf9 (mk2 1)
      clear hf9 HXE
      go_wp2_with (first | refine wpList_alloc _ rfl 25 rfl (.pointer (some ⟨w2.heap.size, 0, none⟩)) (w2.alloc (.cells #[.slice none 0 0, .slice none 0 0] 25)) (alloc_lf w2) ?_ | refine wpList_store _ rfl rfl 25 (.tmp 9) (.tmp 18) rfl (.pointer (some ⟨w2.heap.size, 0, none⟩)) (.agg #[.slice a2 n2 k2, .slice a5 n5 k5]) rfl rfl W3 HST3.out ?_ | refine wpList_store _ rfl rfl 25 (.tmp 6) (.tmp 25) rfl (.pointer (some ⟨w.heap.size + 1, 0, none⟩)) (.agg #[.slice a2 n2 k2, .slice a5 n5 k5]) rfl rfl W9 HST9.out ?_)
      refine bodyPost_ret (lf_results1 (u := ⟨a2, n2, k2⟩) (v := ⟨a5, n5, k5⟩) rfl HK9.out _ rfl rfl) rfl ?_
      exact HF.out
    · have q1 : 1 ≤ p := by omega
      have q2 : p ≤ 2147483647 := by omega
      have HC3 := hide (HCT.out W3 HNX.out.e)
      clear HCT
      cases hct : t.contains p with
      | true =>
        rw [hct] at HC3
        have HXE := hide (HX0.out q1 q2 hct)
        have HF : Hid (Told w X.t (bss l) (mk2 X.e) (.returned (mk2 0 (lfV ⟨a2, n2, k2⟩ ⟨a5, n5, k5⟩))) W9) := by rw [HXE.out, ← HBS.out]; exact hf9 (mk2 0)
        clear hf9 HXE hct
        go_wp2_with (first | refine wpList_alloc _ rfl 25 rfl (.pointer (some ⟨w2.heap.size, 0, none⟩)) (w2.alloc (.cells #[.slice none 0 0, .slice none 0 0] 25)) (alloc_lf w2) ?_ | refine wpList_store _ rfl rfl 25 (.tmp 9) (.tmp 18) rfl (.pointer (some ⟨w2.heap.size, 0, none⟩)) (.agg #[.slice a2 n2 k2, .slice a5 n5 k5]) rfl rfl W3 HST3.out ?_)
        refine HC3.out.mono ?_
        rintro e w4 ⟨rfl, hw⟩
        obtain rfl := hw
        go_wp2_with (first | refine wpList_store _ rfl rfl 25 (.tmp 6) (.tmp 30) rfl (.pointer (some ⟨w.heap.size + 1, 0, none⟩)) (.agg #[.slice a2 n2 k2, .slice a5 n5 k5]) rfl rfl W9 HST9.out ?_)
        refine bodyPost_ret (lf_results1 (u := ⟨a2, n2, k2⟩) (v := ⟨a5, n5, k5⟩) rfl HK9.out _ rfl rfl) rfl ?_
        exact HF.out
      | false =>
        rw [hct] at HC3
        have HX8' := hide (HX8.out q1 q2 hct)
        have HXs' := hide (HXs.out q1 q2 hct)
        clear HX8 HXs HX1 HX0 hct hf9 HST9 HK9
        go_wp2_with (first | refine wpList_alloc _ rfl 25 rfl (.pointer (some ⟨w2.heap.size, 0, none⟩)) (w2.alloc (.cells #[.slice none 0 0, .slice none 0 0] 25)) (alloc_lf w2) ?_ | refine wpList_store _ rfl rfl 25 (.tmp 9) (.tmp 18) rfl (.pointer (some ⟨w2.heap.size, 0, none⟩)) (.agg #[.slice a2 n2 k2, .slice a5 n5 k5]) rfl rfl W3 HST3.out ?_)
        refine HC3.out.mono ?_
        rintro e w4 ⟨rfl, hw⟩
        obtain rfl := hw
        have HF4 := hide (HFP.out w4 HNX.out.e)
        clear HFP HC3
        go_wp2_with fail
        refine HF4.out.mono ?_
        rintro e w5 ⟨rfl, hb5⟩
        have nx5 := HNX.out.below hb5
        have c0 := nx5.k9.c0
        have c1 := nx5.k9.c1
        have HNX5 := hide nx5
        clear hb5 nx5 HF4 HNX
        unfold Sl.val at *
        simp only at *
        obtain ⟨z, hz⟩ : ∃ z, z = freeI t live := ⟨_, rfl⟩
        rw [← hz] at HX8' HXs' HFR
        rw [← hz]
        clear hz
        by_cases h8 : z = -1
        · subst h8
          obtain ⟨W9, hst9, k9, hf9⟩ := HNX5.out.fin (by rw [HTL.out]; decide) (by rw [bss_len HBS.out]; exact HLL.out)
          have HF : Hid (Told w X.t (bss l) (mk2 X.e) (.returned (mk2 8 (lfV ⟨a2, n2, k2⟩ ⟨a5, n5, k5⟩))) W9) := by rw [HX8'.out rfl, ← HBS.out]; exact hf9 (mk2 8)
          have HST9 := hide hst9
          have HK9 := hide k9
          clear hst9 k9 hf9 HX8' HXs'
          unfold lfV Sl.val at *
          simp only at *
          go_wp2_with (first | refine wpList_store _ rfl rfl 25 (.tmp 6) (.tmp 37) rfl (.pointer (some ⟨w.heap.size + 1, 0, none⟩)) (.agg #[.slice a2 n2 k2, .slice a5 n5 k5]) rfl rfl W9 HST9.out ?_)
          refine bodyPost_ret (lf_results1 (u := ⟨a2, n2, k2⟩) (v := ⟨a5, n5, k5⟩) rfl HK9.out _ rfl rfl) rfl ?_
          exact HF.out
        · have hfr := HFR.out
          rw [HTL.out] at hfr
          obtain ⟨f, rfl⟩ := Int.eq_ofNat_of_zero_le (by omega : 0 ≤ z)
          have hf4 : f < 4 := by omega
          have h82 : (((f : Nat) : Int) == -1) = false := by simp
          have hn4 : n2 = 4 := by have := OwnN.len HNX5.out.oi; rw [HTL.out] at this; exact this.symm
          subst hn4
          obtain ⟨b2, o2, ha2⟩ := OwnN.pos HNX5.out.oi (by show 0 < 4; omega)
          replace ha2 : a2 = some ⟨b2, o2, none⟩ := ha2
          subst ha2
          have i1 : ((f : Nat) : Int) < 4 := by omega
          obtain ⟨W6, hst6, nx6⟩ := HNX5.out.setI f hf4 p
          obtain ⟨W9, hst9, k9, hf9⟩ := nx6.fin (by rw [List.length_set, HTL.out]; decide) (by rw [bss_len HBS.out]; exact HLL.out)
          have HF : Hid (Told w X.t (bss l) (mk2 X.e) (.returned (mk2 0 (lfV ⟨some ⟨b2, o2, none⟩, 4, k2⟩ ⟨a5, n5, k5⟩))) W9) := by rw [HXs'.out f rfl, ← HBS.out]; exact hf9 (mk2 0)
          have HST6 := hide hst6
          have HST9 := hide hst9
          have HK9 := hide k9
          have e0 := nx6.k9.c0
          have e1 := nx6.k9.c1
          clear hst9 k9 hf9 HX8' HXs' hst6 nx6 hfr HNX5 HFR
          unfold lfV Sl.val at *
          simp only at *
          go_wp2_with (first | refine wpList_store _ rfl rfl 3 (.tmp 42) (.tmp 41) rfl (.pointer (some ⟨b2, o2 + f, none⟩)) (.int .i64 p) rfl rfl W6 HST6.out ?_ | refine wpList_store _ rfl rfl 25 (.tmp 6) (.tmp 43) rfl (.pointer (some ⟨w.heap.size + 1, 0, none⟩)) (.agg #[.slice (some ⟨b2, o2, none⟩) 4 k2, .slice a5 n5 k5]) rfl rfl W9 HST9.out ?_)
          refine bodyPost_ret (lf_results1 (u := ⟨some ⟨b2, o2, none⟩, 4, k2⟩) (v := ⟨a5, n5, k5⟩) rfl HK9.out _ rfl rfl) rfl ?_
          exact HF.out
theorem join_any {D : Nat → Prop} (w : World) (u v : Sl) (t : List Int) (l : List Sb) (hi : Gi D w u t) (hg : Gb D w v l) (hm : MayL ⟨t, bss l⟩) (p : Int) (r : Sl) (live : List Int) (hr : Gi D w r live) :
    Calls Try.prog 19 #[lfV u v, .int .i64 p, r.val] w fun e w' => Told w (joinI t p live).t (bss l) (mk2 (joinI t p live).e) e w' := by
  refine join_on w u v t l hi hg hm p r live hr _ (fun h => ?_) (fun h1 h2 h3 => ?_) (fun h1 h2 h3 h4 => ?_) (fun h1 h2 h3 f h4 => ?_)
  · unfold joinI; rw [if_pos h]
  · unfold joinI; rw [if_neg (by omega), if_pos h3]
  · unfold joinI; rw [if_neg (by omega), if_neg (by rw [h3]; decide), if_pos (by rw [h4]; decide)]
  · unfold joinI; rw [if_neg (by omega), if_neg (by rw [h3]; decide), if_neg (by rw [h4]; omega), h4, Int.toNat_natCast]
end Go.Proofs.Ytgieigpbbkeonaa
