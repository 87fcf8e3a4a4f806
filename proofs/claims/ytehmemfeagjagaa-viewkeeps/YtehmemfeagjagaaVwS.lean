/-
  slices.Sort and slices.Compact of numbers of one's own. (Of use where the landed view calls them.)
-/
import Derived.Test.YtehmemfeagjagaaVwG
import Derived.Test.YtehmemfeagjagaaUdLy
namespace Go.Proofs.Ytehmemfeagjagaa
open Go.RowKit Go.Sort Go.Lib
set_option linter.unusedVariables false

def srt (ks : List Int) : List Int := ks.mergeSort fun x y => decide (x ≤ y)
theorem srt_perm (ks : List Int) : (srt ks).Perm ks := List.mergeSort_perm _ _
theorem srt_len (ks : List Int) : (srt ks).length = ks.length := (srt_perm ks).length_eq
theorem srt_up (ks : List Int) : (srt ks).Pairwise (· ≤ ·) := by
  have h : (srt ks).Pairwise (fun a b => decide (a ≤ b) = true) := List.pairwise_mergeSort (fun a b c h1 h2 => by simp only [decide_eq_true_eq] at *; exact Int.le_trans h1 h2) (fun a b => by simp only [Bool.or_eq_true, decide_eq_true_eq]; omega) ks
  exact h.imp (fun e => of_decide_eq_true e)
/-- Each once. -/
def cmpct (t : List Int) : List Int := compactUpTo t.toArray t.length
theorem keeps_at (d : List Int) (j : Nat) (hj : j < d.length) : keeps d.toArray j = true ↔ j = 0 ∨ d.getD j 0 ≠ d.getD (j - 1) 0 := by
  unfold keeps
  rw [decide_eq_true_eq, getElem!_pos d.toArray j (by simpa using hj), getElem!_pos d.toArray (j - 1) (by simp; omega)]
  have e : j - 1 < d.length := by omega
  simp [List.getD, hj, e]
theorem cmpct_mem {t : List Int} {x : Int} : x ∈ cmpct t ↔ ∃ j, j < t.length ∧ keeps t.toArray j = true ∧ t.getD j 0 = x := by
  unfold cmpct compactUpTo
  simp only [List.mem_map, List.mem_filter, List.mem_range]
  constructor
  · rintro ⟨j, ⟨h1, h2⟩, h3⟩
    refine ⟨j, h1, h2, ?_⟩
    rw [← h3, getElem!_pos t.toArray j (by simpa using h1)]
    simp [List.getD, h1]
  · rintro ⟨j, h1, h2, h3⟩
    refine ⟨j, ⟨h1, h2⟩, ?_⟩
    rw [← h3, getElem!_pos t.toArray j (by simpa using h1)]
    simp [List.getD, h1]
theorem le_getD {t : List Int} (h : t.Pairwise (· ≤ ·)) {i j : Nat} (hij : i ≤ j) (hj : j < t.length) : t.getD i 0 ≤ t.getD j 0 := by
  by_cases e : i = j
  · rw [e]; exact Int.le_refl _
  · have hi : i < t.length := by omega
    have := List.pairwise_iff_getElem.1 h i j hi hj (by omega)
    simpa [List.getD, hi, hj] using this
theorem cmpct_same {t : List Int} (h : t.Pairwise (· ≤ ·)) {x : Int} : x ∈ cmpct t ↔ x ∈ t := by
  rw [cmpct_mem]
  constructor
  · rintro ⟨j, h1, _, h3⟩
    rw [← h3]
    exact mem_getD0 h1
  · intro hx
    obtain ⟨j, hj, e⟩ := List.mem_iff_getElem.1 hx
    have e2 : t.getD j 0 = x := by simpa [List.getD, hj] using e
    clear e
    induction j with
    | zero => exact ⟨0, hj, (keeps_at t 0 hj).2 (.inl rfl), e2⟩
    | succ j ih =>
      by_cases hk : t.getD (j + 1) 0 = t.getD j 0
      · exact ih (by omega) (hk ▸ e2)
      · exact ⟨j + 1, hj, (keeps_at t (j + 1) hj).2 (.inr hk), e2⟩
theorem cmpct_up {t : List Int} (h : t.Pairwise (· ≤ ·)) : Up (cmpct t) := by
  unfold cmpct compactUpTo Up
  refine List.pairwise_map.2 ?_
  have hr : ((List.range t.length).filter (keeps t.toArray)).Pairwise (fun a b => a < b ∧ (b < t.length ∧ keeps t.toArray b = true)) := by
    have h1 : (List.range t.length).Pairwise (· < ·) := List.pairwise_lt_range
    have h2 := h1.filter (keeps t.toArray)
    refine h2.imp_of_mem ?_
    intro a b ha hb hab
    have := List.mem_filter.1 hb
    exact ⟨hab, List.mem_range.1 this.1, this.2⟩
  refine hr.imp ?_
  rintro a b ⟨hab, hb, hk⟩
  have hk2 := (keeps_at t b hb).1 hk
  have ha : a < t.length := by omega
  rw [getElem!_pos t.toArray a (by simpa using ha), getElem!_pos t.toArray b (by simpa using hb)]
  have e1 : t.toArray[a]'(by simpa using ha) = t.getD a 0 := by simp [List.getD, ha]
  have e2 : t.toArray[b]'(by simpa using hb) = t.getD b 0 := by simp [List.getD, hb]
  rw [e1, e2]
  have l1 := le_getD h (i := a) (j := b - 1) (by omega) (by omega)
  have l2 := le_getD h (i := b - 1) (j := b) (by omega) hb
  rcases hk2 with h0 | h0
  · omega
  · omega
theorem cmpct_len (t : List Int) : (cmpct t).length ≤ t.length := by
  unfold cmpct compactUpTo
  rw [List.length_map]
  exact Nat.le_trans (List.length_filter_le _ _) (by simp)
/-- Sorted and compacted: the view's row, whatever the order was. -/
theorem sorted_acts {me next : Int} {live t : List Int} (h : ∀ x, x ∈ t ↔ x ∈ live ∧ x < next ∧ x ≠ me) : cmpct (srt t) = actsV me next live :=
  actsV_is (cmpct_up (srt_up t)) (fun x => by rw [cmpct_same (srt_up t), (srt_perm t).mem_iff, h x])

/-- Numbers in a block made behind w0: read as the library has them. -/
structure Hd (w0 w : World) (s : Sl) (t : List Int) : Prop where
  len : t.length = s.len
  le : s.len ≤ s.cap
  below : Below w0.heap.size w0 w
  at_ : (s.a = none ∧ s.cap = 0) ∨ ∃ g off, s.a = some ⟨g, off, none⟩ ∧ w0.heap.size ≤ g ∧ g < w.heap.size ∧ Holds (Value.int .i64) w g off t.toArray
theorem holds_at {w : World} {g off : Nat} {t : List Int} (h : Holds (Value.int .i64) w g off t.toArray) {i : Nat} (hi : i < t.length) : w.cell? ⟨g, off + i, none⟩ = some (.int .i64 (t.getD i 0)) := by
  have := (h i (by simpa using hi)).1
  rw [this, getElem!_pos t.toArray i (by simpa using hi)]
  simp [List.getD, hi]
theorem Nq.hd {w0 w : World} {s : Sl} {t : List Int} (h : Nq w0 w s t) : Hd w0 w s t := by
  refine ⟨h.own.len, Own.lecap h.own, h.below, ?_⟩
  cases ha : s.a with
  | none => exact .inl ⟨rfl, Own.nilcap h.own ha⟩
  | some q =>
    rcases h.own.2 with ⟨h0, _⟩ | ⟨g, off, cur, ha2, _⟩
    · rw [h0] at ha; cases ha
    · rw [ha2] at ha
      cases ha
      have hb : s.blk = some g := by rw [Sl.blk, ha2]; rfl
      refine .inr ⟨g, off, rfl, h.home g hb, Own.lt h.own hb, fun j hj => ?_⟩
      have hj' : j < t.length := by simpa using hj
      refine ⟨?_, OwnN.frozen h.own ha2 _⟩
      rw [OwnN.cellAt h.own ha2 (by rw [← h.own.len]; exact hj'), getElem!_pos t.toArray j hj]
      simp [List.getD, hj']
theorem Hd.gi {w0 w : World} {s : Sl} {t : List Int} (h : Hd w0 w s t) (hl : s.len ≤ 1000000) : Gi (fun k => w0.heap.size ≤ k) w s t := by
  refine ⟨h.len, fun e => ?_, h.le, hl, fun ad ha _ => ?_, fun i hi => ?_⟩
  · rcases h.at_ with ⟨_, h2⟩ | ⟨g, off, ha, _⟩
    · exact h2
    · rw [ha] at e; cases e
  · rcases h.at_ with ⟨h1, _⟩ | ⟨g, off, ha2, h2, _⟩
    · rw [h1] at ha; cases ha
    · rw [ha2] at ha; cases ha; exact h2
  · rcases h.at_ with ⟨_, h2⟩ | ⟨g, off, ha, _, _, hh⟩
    · have := h.le; omega
    · exact ⟨g, off, ha, holds_at hh (by rw [h.len]; exact hi)⟩
theorem put_below {w w0 : World} {g off n : Nat} {os : Array Obj} (d : Array Int) (hg : w0.heap.size ≤ g) (h : Below w0.heap.size w0 w) : Below w0.heap.size w0 (grow (putRow (Value.int .i64) (Sort.ahead w n) g off d) os) := by
  refine h.trans ⟨rfl, rfl, rfl, by simp, fun k hk => ?_⟩
  have hs := h.size
  rw [heap_grow_old _ _ (by simp; omega)]
  have : g ≠ k := by omega
  simp [putRow, mapBlock, Sort.ahead, Array.getElem?_modify, this]

set_option maxHeartbeats 2000000 in
theorem sortN_any {w0 : World} (w : World) (s : Sl) (t : List Int) (h : Hd w0 w s t) (hl : s.len ≤ 1000000) :
    Calls Try.prog 19 #[s.val] w fun e w' => e = .returned (.tuple #[]) ∧ Hd w0 w' s (srt t) := by
  obtain ⟨a, len, cap⟩ := s
  have hlen : t.length = len := h.len
  rcases h.at_ with ⟨h1, h2⟩ | ⟨g, off, ha, hg, hgl, hh⟩
  · obtain rfl : a = none := h1
    obtain rfl : cap = 0 := h2
    have hle : len ≤ 0 := h.le
    obtain rfl : len = 0 := by omega
    obtain rfl : t = [] := List.eq_nil_of_length_eq_zero hlen
    have hs := Go.Proofs.AnyM.slices_Sort_int_none sortA none 0 w
    change Calls Try.prog 19 _ _ _ at hs
    refine hs.mono ?_
    rintro e w' ⟨rfl, rfl⟩
    exact ⟨rfl, ⟨srt_len [], Nat.le_refl _, h.below, .inl ⟨rfl, rfl⟩⟩⟩
  · obtain rfl : a = some ⟨g, off, none⟩ := ha
    subst hlen
    have hs := Go.Proofs.AnyM.slices_Sort_int sortA g off cap t w hh hgl (by have : t.length ≤ 1000000 := hl; omega)
    change Calls Try.prog 19 _ _ _ at hs
    refine hs.mono ?_
    rintro e w' ⟨rfl, n, os, rfl⟩
    have hb := put_below (n := n) (os := os) (off := off) (srt t).toArray hg h.below
    refine ⟨rfl, ⟨srt_len t, h.le, hb, .inr ⟨g, off, rfl, hg, ?_, ?_⟩⟩⟩
    · show g < (grow _ os).heap.size
      simp
      omega
    · exact holds_grow _ _ _ _ _ _ (by simpa using hgl) (holds_putRow _ _ _ _ t.toArray _ (holds_ahead _ _ _ _ _ _ hh) (by simp))

set_option maxHeartbeats 2000000 in
set_option maxRecDepth 100000 in
theorem compactN_any {w0 : World} (w : World) (s : Sl) (t : List Int) (h : Hd w0 w s t) (hl : s.len ≤ 1000000) :
    Calls Try.prog 20 #[s.val] w fun e w' => ∃ s', e = .returned s'.val ∧ s'.len ≤ s.len ∧ Hd w0 w' s' (cmpct t) := by
  obtain ⟨a, len, cap⟩ := s
  have hlen : t.length = len := h.len
  rcases h.at_ with ⟨h1, h2⟩ | ⟨g, off, ha, hg, hgl, hh⟩
  · obtain rfl : a = none := h1
    obtain rfl : cap = 0 := h2
    have hle : len ≤ 0 := h.le
    obtain rfl : len = 0 := by omega
    obtain rfl : t = [] := List.eq_nil_of_length_eq_zero hlen
    have HB : Hid (Hd w0 w Sl.nil (cmpct [])) := ⟨rfl, Nat.le_refl _, h.below, .inl ⟨rfl, rfl⟩⟩
    clear h hlen hl hle
    unfold Sl.val
    simp only
    go_enter Try.func20, Try.ntmps20
    go_wp2_with fail
    go_ret
    exact ⟨Sl.nil, rfl, Nat.le_refl _, HB.out⟩
  · obtain rfl : a = some ⟨g, off, none⟩ := ha
    subst hlen
    have hle : t.length ≤ cap := h.le
    have hsz : t.toArray.size = t.length := by simp
    have hc := Go.Proofs.AnyE.slices_Compact compactA (Value.int .i64) (fun _ => rfl) (EqlAt.intD _ _ .i64) (NeqAt.intD _ _ .i64) 0 Try.zeroValue3 g off cap t.toArray w hh (by rw [hsz]; have : t.length ≤ 1000000 := hl; omega) (by rw [hsz]; exact hle)
    change Calls Try.prog 20 _ _ _ at hc
    rw [hsz] at hc
    refine hc.mono ?_
    rintro e w' ⟨rfl, q, rfl⟩
    have hcl := cmpct_len t
    have hb := put_below (n := q) (os := #[]) (off := off) (cmpct t ++ List.replicate (t.length - (cmpct t).length) 0).toArray hg h.below
    rw [grow_empty] at hb
    refine ⟨⟨some ⟨g, off, none⟩, (cmpct t).length, cap⟩, rfl, hcl, ⟨rfl, by show (cmpct t).length ≤ cap; omega, hb, .inr ⟨g, off, rfl, hg, ?_, fun j hj => ?_⟩⟩⟩
    · have := hb.size
      simp [putRow, mapBlock, Sort.ahead]
      omega
    · have hj' : j < (cmpct t).length := by simpa using hj
      have hp := holds_putRow (Value.int .i64) _ g off t.toArray (cmpct t ++ List.replicate (t.length - (cmpct t).length) 0).toArray (holds_ahead _ _ q _ _ _ hh) (by simp; omega)
      have := hp j (by simp; omega)
      refine ⟨this.1.trans ?_, this.2⟩
      rw [getElem!_pos _ j (by simp; omega), getElem!_pos (cmpct t).toArray j hj]
      simp [hj']

end Go.Proofs.Ytehmemfeagjagaa
