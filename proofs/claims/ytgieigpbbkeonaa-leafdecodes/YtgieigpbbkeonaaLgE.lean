/-
  Layer 8, the landed leaf: copyOf.
-/
import Derived.Test.YtgieigpbbkeonaaLgD
namespace Go.Proofs.Ytgieigpbbkeonaa
open Go.RowKit

/-- The blocks from B on that are neither row's. -/
def Off (B : Nat) (u v : Sl) : Nat → Prop := fun k => B ≤ k ∧ u.blk ≠ some k ∧ v.blk ≠ some k
/-- A leaf of the call's own. -/
structure Lw (B : Nat) (w : World) (u v : Sl) (t : List Int) (l : List Sb) : Prop where
  oi : OwnN w u t
  ob : OwnB w v l
  ui : ∀ k, u.blk = some k → B ≤ k
  vi : ∀ k, v.blk = some k → B ≤ k
  bs : ∀ x ∈ l, Cm (Off B u v) w x.s x.bs ∧ x.bs.length ≤ 1000
theorem Frm.lf {F : Nat → Prop} {w w' : World} {p : Nat} {u v : Value} (f : Frm F w w') (k : LfBlk w p u v) (hp : ¬ F p) : LfBlk w' p u v := (f.block p k.lt hp).trans k
theorem getD_set_sameB {l : List Sb} {i : Nat} (h : i < l.length) (x : Sb) : (l.set i x).getD i Sb.zero = x := by simp [List.getD, h]
theorem getD_set_otherB {l : List Sb} {i j : Nat} (h : i ≠ j) (x : Sb) : (l.set i x).getD j Sb.zero = l.getD j Sb.zero := by simp [List.getD, h]
theorem mem_atB {l : List Sb} {x : Sb} (h : x ∈ l) : ∃ i, i < l.length ∧ l.getD i Sb.zero = x := by
  obtain ⟨i, hi, e⟩ := List.mem_iff_getElem.1 h
  exact ⟨i, hi, by simp [List.getD, hi, e]⟩
/-- How far the copying is. -/
structure Co (w wr : World) (g : Nat) (u v : Sl) (t : List Int) (l m : List Sb) (i : Nat) : Prop where
  k3 : LfBlk wr g u.val v.val
  k2 : LfBlk wr (w.heap.size + 1) (.slice none 0 0) (.slice none 0 0)
  oi : OwnN wr u t
  ob : OwnB wr v m
  ui : ∀ k, u.blk = some k → w.heap.size + 2 ≤ k
  vi : ∀ k, v.blk = some k → w.heap.size + 2 ≤ k
  len : m.length = l.length
  same : bss m = bss l
  new : ∀ j, j < i → Cm (Off (w.heap.size + 2) u v) wr (m.getD j Sb.zero).s (m.getD j Sb.zero).bs
  old : ∀ j, i ≤ j → m.getD j Sb.zero = l.getD j Sb.zero
  e : Below w.heap.size w wr
  sz : w.heap.size + 2 ≤ wr.heap.size
theorem Own.offs {w : World} {B : Nat} {s u v : Sl} {xs : List Nat} {t : List Int} {l : List Sb} (h : Own 5 1 w s (vals xs)) (hx : Bytes xs) (hk : ∀ k, s.blk = some k → B ≤ k) (oi : OwnN w u t) (ob : OwnB w v l) : Cm (Off B u v) w s xs := by
  refine ⟨h.came hx, fun ad ha _ => ?_⟩
  have hb : s.blk = some ad.block := by rw [Sl.blk, ha]; rfl
  exact ⟨hk _ hb, Own.apart h oi (by decide) _ hb, Own.apart h ob (by decide) _ hb⟩
theorem Co.step {w wr w' : World} {g : Nat} {u v : Sl} {t : List Int} {l m : List Sb} {i : Nat} (c : Co w wr g u v t l m i) (hi : i < l.length) (hx : Bytes (l.getD i Sb.zero).bs) {s : Sl} (y : Ly wr w' g u v m i (l.getD i Sb.zero).bs s) : Co w w' g u v t l (m.set i ⟨s, (l.getD i Sb.zero).bs⟩) (i + 1) := by
  have hsz := c.sz
  have hoi : OwnN w' u t := Own.frame c.oi (fun k hk => y.f.block k (Own.lt c.oi hk) (Own.apart c.oi c.ob (by decide) k hk))
  refine ⟨y.k, y.f.lf c.k2 (fun e => Own.unbox c.ob c.k2 (by decide) e), hoi, y.ob, c.ui, c.vi, by rw [List.length_set]; exact c.len, ?_, fun j hj => ?_, fun j hj => ?_, ?_, Nat.le_trans hsz y.f.size⟩
  · rw [bss_set, ← c.same]
    have hm : i < m.length := by rw [c.len]; exact hi
    have : (l.getD i Sb.zero).bs = (bss m)[i]'(by rw [bss_length]; exact hm) := by
      rw [← c.old i (Nat.le_refl _)]
      simp [bss, List.getD, hm]
    rw [this]
    exact List.set_getElem_self _
  · by_cases e : i = j
    · subst e
      rw [getD_set_sameB (by rw [c.len]; exact hi)]
      exact Own.offs y.os hx (fun k hk => Nat.le_trans hsz (y.si k hk)) hoi y.ob
    · rw [getD_set_otherB e]
      exact (c.new j (by omega)).keep (Kept.frm y.f (fun k hk => hk.2.2))
  · rw [getD_set_otherB (by omega)]
    exact c.old j (by omega)
  · exact c.e.trans (y.f.below c.e.size (fun k hk => by have := c.vi k hk; omega))

/-- What copyOf tells. -/
def CpSays (w : World) (t : List Int) (l : List Sb) (e : Ending) (w' : World) : Prop := Below w.heap.size w w' ∧ ∃ (u' v' : Sl) (l' : List Sb), e = .returned (lfV u' v') ∧ Lw (w.heap.size + 2) w' u' v' t l' ∧ bss l' = bss l

set_option maxHeartbeats 8000000 in
set_option maxRecDepth 100000 in
theorem copyOf_any {D : Nat → Prop} (w : World) (u v : Sl) (t : List Int) (l : List Sb) (hi : Gi D w u t) (hg : Gb D w v l) :
    Calls Try.prog 39 #[lfV u v] w fun e w' => CpSays w t l e w' := by
  have hT := Tb.start u hg
  have HT := hide hT
  have HI := hide hi
  have HG := hide hg
  have HL := hide hg.len
  have hbig := hg.big
  clear hT hi hg
  obtain ⟨a, len, cap⟩ := v
  obtain ⟨ua, ul, uc⟩ := u
  unfold lfV Sl.val at *
  simp only at *
  go_enter Try.func39, Try.ntmps39
  go_wp2_with fail
  generalize (w.alloc (.cells #[.slice ua ul uc, .slice a len cap] 25)).alloc (.cells #[.slice none 0 0, .slice none 0 0] 25) = W at *
  refine Pl.region_is (ops := Pl.find 1 ((Try.f39.body).getD .skip)) (by kernel_rfl) ?_
  refine copy1 W w.heap.size ⟨ua, ul, uc⟩ ⟨a, len, cap⟩ t l HT.out.k1 (fun W' hW => own_int W' _ t (HI.out.below (rBelow HT.out.e hW) (Nat.le_refl _))) (fun W' hW => own_slots W' _ l (HG.out.below (rBelow HT.out.e hW) (Nat.le_refl _))) (by rfl) rfl (by rfl) ?_
  intro q w1 g3 s2 s5 cp
  obtain ⟨a2, n2, c2⟩ := s2
  obtain ⟨a5, n5, c5⟩ := s5
  have hn5 : n5 = len := by have := OwnB.len cp.ob; rw [HL.out] at this; exact this.symm
  subst hn5
  have HCO : Hid (Co w w1 g3 ⟨a2, n2, c2⟩ ⟨a5, n5, c5⟩ t l l 0) := ⟨cp.k, HT.out.k2.below cp.e, cp.oi, cp.ob, fun k hk => Nat.le_trans HT.out.sz (cp.ui k hk), fun k hk => Nat.le_trans HT.out.sz (cp.vi k hk), rfl, rfl, fun _ h => absurd h (Nat.not_lt_zero _), fun _ _ => rfl, rBelow HT.out.e cp.e, Nat.le_trans HT.out.sz cp.e.size⟩
  have c0 := cp.k.c0
  have c1 := cp.k.c1
  have HGE : Hid (w.heap.size + 2 ≤ g3) := Nat.le_trans HT.out.sz cp.gi
  clear cp
  simp only [Act.put, List.setIfInBounds_toArray, List.set_cons_zero, List.set_cons_succ]
  unfold Sl.val at *
  simp only at *
  go_wp2_with fail
  go_loopw [16] (fun iv wr => ∃ i : Nat, i ≤ n5 ∧ iv = .int .i64 (i : Nat) ∧ Hid (∃ m, Co w wr g3 ⟨a2, n2, c2⟩ ⟨a5, n5, c5⟩ t l m i)) (fun iv _ => n5 - (intOf iv).toNat)
  case atStart => exact ⟨0, Nat.zero_le _, rfl, ⟨l, HCO.out⟩⟩
  case round =>
    obtain ⟨i, hi, rfl, hco⟩ := hrel
    obtain ⟨m, co⟩ := hco.out
    rcases Nat.lt_or_ge i n5 with hlt | hge
    · have i1 : ((i : Nat) : Int) < ((n5 : Nat) : Int) := by omega
      obtain ⟨b5, o5, ha5⟩ := OwnB.pos co.ob (by show 0 < n5; omega)
      replace ha5 : a5 = some ⟨b5, o5, none⟩ := ha5
      subst ha5
      have ci := OwnB.cellAt co.ob rfl hlt
      rw [co.old i (Nat.le_refl _)] at ci
      have hcm := HG.out.bs _ (getD_memB (l := l) (i := i) (by rw [HL.out]; exact hlt))
      have HU : Hid (∀ W', Below wr.heap.size wr W' → Calls Try.prog 62 #[(l.getD i Sb.zero).s.val] W' fun e w' => Below W'.heap.size W' w' ∧ ∃ s : Sl, e = .returned s.val ∧ Own 5 1 w' s (vals (l.getD i Sb.zero).bs) ∧ s.len = (l.getD i Sb.zero).s.len ∧ s.cap = (l.getD i Sb.zero).s.len ∧ ∀ k, s.blk = some k → W'.heap.size ≤ k) := fun W' hW => own_bytes W' _ _ (hcm.1.keep (Kept.all (rBelow co.e hW) (Nat.le_refl _))) (by have := hcm.1.len; have := hcm.2; omega)
      have HX := hide hcm.1.came.bs.2.1
      have HXL := hide hcm.1.len.symm
      have HCO2 := hide co
      clear co hco hcm
      obtain ⟨x, hx⟩ : ∃ x, x = l.getD i Sb.zero := ⟨_, rfl⟩
      rw [← hx] at ci HU HX HXL
      have HXE := hide hx
      clear hx
      obtain ⟨⟨xa, xl, xc⟩, xs⟩ := x
      unfold Sl.val at ci HU
      simp only at *
      go_wp2_with fail
      refine Pl.region_is (ops := Pl.find 5 ((Try.f39.body).getD .skip)) (by kernel_rfl) ?_
      refine copy5 wr g3 b5 o5 n5 c5 i ⟨a2, n2, c2⟩ ⟨xa, xl, xc⟩ m xs hlt HXL.out HCO2.out.k3 HCO2.out.ob HU.out (by rfl) rfl (by rfl) (by rfl) (by rfl) ?_
      intro q w2 s4 ly
      have HST : Hid (∃ m, Co w w2 g3 ⟨a2, n2, c2⟩ ⟨some ⟨b5, o5, none⟩, n5, c5⟩ t l m (i + 1)) := by
        have hbs : xs = (l.getD i Sb.zero).bs := by rw [← HXE.out]
        rw [hbs] at ly
        have hb2 : Bytes (l.getD i Sb.zero).bs := by rw [← hbs]; exact HX.out
        exact ⟨_, HCO2.out.step (by rw [HL.out]; exact hlt) hb2 ly⟩
      clear ly HXE HX HXL HU HCO2
      simp only [Act.put, List.setIfInBounds_toArray, List.set_cons_zero, List.set_cons_succ]
      go_wp2_with fail
      go_roundw
      case rel => exact ⟨i + 1, by omega, by go_num, HST⟩
      case measure => simp only [intOf]; omega
    · have i1 : ¬ ((i : Nat) : Int) < ((n5 : Nat) : Int) := by omega
      have e0 : i = n5 := by omega
      subst e0
      have d0 := co.k3.c0
      have d1 := co.k3.c1
      obtain ⟨W9, hst9, k9, f9⟩ := st_lf wr _ _ _ co.k2 ⟨a2, n2, c2⟩ ⟨a5, i, c5⟩
      have HST9 := hide hst9
      have HK9 := hide k9
      have HF : Hid (CpSays w t l (.returned (lfV ⟨a2, n2, c2⟩ ⟨a5, i, c5⟩)) W9) := by
        refine ⟨co.e.trans (f9.below co.e.size (fun k hk => by rw [hk]; exact Nat.le_succ _)), ⟨a2, n2, c2⟩, ⟨a5, i, c5⟩, m, rfl, ⟨Own.kept co.oi f9 (Own.unbox co.oi co.k2 (by decide)), Own.kept co.ob f9 (Own.unbox co.ob co.k2 (by decide)), co.ui, co.vi, fun x hx => ?_⟩, co.same⟩
        obtain ⟨j, hj, rfl⟩ := mem_atB hx
        have hjl : j < l.length := by rw [← co.len]; exact hj
        have hb2 : (m.getD j Sb.zero).bs = (l.getD j Sb.zero).bs := by
          have h1 := bss_sl m j
          have h2 := bss_sl l j
          rw [co.same, h2] at h1
          exact h1.symm
        have hji : j < i := by have := HL.out; omega
        refine ⟨(co.new j hji).keep (Kept.frm f9 (fun k hk e => by rw [e] at hk; have := hk.1; omega)), ?_⟩
        rw [hb2]
        exact (HG.out.bs _ (getD_memB hjl)).2
      clear co hst9 k9 f9 hco
      unfold Sl.val at *
      simp only at *
      go_wp2_with (refine wpList_store _ rfl rfl 25 (.tmp 2) (.tmp 28) rfl (.pointer (some ⟨w.heap.size + 1, 0, none⟩)) (.agg #[.slice a2 n2 c2, .slice a5 i c5]) rfl rfl W9 HST9.out ?_)
      refine bodyPost_ret (lf_results (u := ⟨a2, n2, c2⟩) (v := ⟨a5, i, c5⟩) rfl HK9.out _ rfl) rfl ?_
      exact HF.out
end Go.Proofs.Ytgieigpbbkeonaa
