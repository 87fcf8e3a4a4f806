/-
  Layer 8: the document's Set.
-/
import Derived.Test.YtgieigpbbkeonaaLfF
namespace Go.Proofs.Ytgieigpbbkeonaa
open Go.RowKit

def Old (D : Nat → Prop) (w : World) : Nat → Prop := fun k => D k ∨ w.heap.size ≤ k
theorem Cm.wide {D E : Nat → Prop} {w : World} {s : Sl} {xs : List Nat} (h : Cm D w s xs) (hE : ∀ k, D k → E k) : Cm E w s xs := h.mono (fun k hk _ => hE k hk)
theorem Gb.wide {D E : Nat → Prop} {w : World} {v : Sl} {l : List Sb} (h : Gb D w v l) (hE : ∀ k, D k → E k) : Gb E w v l :=
  ⟨h.len, h.nil, h.le, h.big, fun ad ha hl => hE _ (h.home ad ha hl), h.cell, fun x hx => ⟨(h.bs x hx).1.wide hE, (h.bs x hx).2⟩⟩
theorem Gi.wide {D E : Nat → Prop} {w : World} {v : Sl} {t : List Int} (h : Gi D w v t) (hE : ∀ k, D k → E k) : Gi E w v t :=
  ⟨h.len, h.nil, h.le, h.big, fun ad ha hl => hE _ (h.home ad ha hl), h.cell⟩
theorem Gb.old {D : Nat → Prop} {w W : World} {v : Sl} {l : List Sb} (h : Gb D w v l) (hb : Below w.heap.size w W) : Gb (Old D w) W v l := (h.below hb (Nat.le_refl _)).wide (fun _ hk => .inl hk)
theorem Gi.old {D : Nat → Prop} {w W : World} {v : Sl} {t : List Int} (h : Gi D w v t) (hb : Below w.heap.size w W) : Gi (Old D w) W v t := (h.below hb (Nat.le_refl _)).wide (fun _ hk => .inl hk)
/-- What was there, and what lies behind the two boxes. -/
def New (D : Nat → Prop) (w : World) : Nat → Prop := fun k => (D k ∧ k < w.heap.size) ∨ w.heap.size + 2 ≤ k
theorem Gb.told {D : Nat → Prop} {w w1 W : World} {v : Sl} {l : List Sb} (h : Gb (New D w) w1 v l) (f : Frm (fun k => k = w.heap.size + 1) w1 W) : Gb (Old D w) W v l :=
  (h.keep (Kept.frm f (fun k hk e => by rcases hk with h | h <;> omega))).wide (fun k hk => by
    rcases hk with h | h
    · exact .inl h.1
    · exact .inr (by omega))
/-- What Set, Drop and Insert tell: the slots, the code. -/
structure Ans where
  s : List (List Nat)
  e : Int
def setA (s : List (List Nat)) (i : Int) (r : List Nat) : Ans :=
  if standsB s i = false then ⟨s, 3⟩ else if r.length < 1 ∨ 255 < r.length then ⟨s, 1⟩ else if 508 < need (s.set i.toNat r) then ⟨s, 7⟩ else ⟨s.set i.toNat r, 0⟩
theorem setA_none {s : List (List Nat)} {i : Int} {r : List Nat} (h : standsB s i = false) : setA s i r = ⟨s, 3⟩ := if_pos h
theorem setA_arg {s : List (List Nat)} {i : Int} {r : List Nat} (h : standsB s i = true) (h1 : r.length < 1 ∨ 255 < r.length) : setA s i r = ⟨s, 1⟩ := by
  unfold setA
  rw [if_neg (by simp [h]), if_pos h1]
theorem setA_page {s : List (List Nat)} {i : Int} {r : List Nat} (h : standsB s i = true) (h1 : 1 ≤ r.length) (h2 : r.length ≤ 255) (h3 : 508 < need (s.set i.toNat r)) : setA s i r = ⟨s, 7⟩ := by
  unfold setA
  rw [if_neg (by simp [h]), if_neg (by omega), if_pos h3]
theorem setA_ok {s : List (List Nat)} {i : Int} {r : List Nat} (h : standsB s i = true) (h1 : 1 ≤ r.length) (h2 : r.length ≤ 255) (h3 : ¬ 508 < need (s.set i.toNat r)) : setA s i r = ⟨s.set i.toNat r, 0⟩ := by
  unfold setA
  rw [if_neg (by simp [h]), if_neg (by omega), if_neg h3]
theorem standsB_is {s : List (List Nat)} {i : Int} (h : standsB s i = true) : ∃ k : Nat, i = ((k : Nat) : Int) ∧ k < s.length := by
  unfold standsB at h
  simp only [Bool.and_eq_true, decide_eq_true_eq] at h
  obtain ⟨k, rfl⟩ := Int.eq_ofNat_of_zero_le h.1
  exact ⟨k, rfl, by omega⟩
/-- What is told, in memory. -/
def AnsIs (D : Nat → Prop) (w : World) (u : Sl) (x : Ans) (e : Ending) (w' : World) : Prop := Below w.heap.size w w' ∧ ∃ (v' : Sl) (l' : List Sb), e = .returned (.tuple #[lfV u v', .int .i64 x.e]) ∧ Gb (Old D w) w' v' l' ∧ bss l' = x.s
/-- A leaf's box, and the answer's box behind it. -/
structure Tb (D : Nat → Prop) (w w1 : World) (u v : Sl) (l : List Sb) : Prop where
  k1 : LfBlk w1 w.heap.size u.val v.val
  k2 : LfBlk w1 (w.heap.size + 1) (.slice none 0 0) (.slice none 0 0)
  g : Gb D w1 v l
  e : Below w.heap.size w w1
  sz : w.heap.size + 2 ≤ w1.heap.size
theorem Tb.below {D : Nat → Prop} {w w1 w2 : World} {u v : Sl} {l : List Sb} (t : Tb D w w1 u v l) (hb : Below w1.heap.size w1 w2) : Tb D w w2 u v l :=
  ⟨t.k1.below hb, t.k2.below hb, t.g.below hb (Nat.le_refl _), rBelow t.e hb, Nat.le_trans t.sz hb.size⟩
theorem Tb.start {D : Nat → Prop} {w : World} {v : Sl} {l : List Sb} (u : Sl) (hg : Gb D w v l) : Tb D w ((w.alloc (.cells #[u.val, v.val] 25)).alloc (.cells #[.slice none 0 0, .slice none 0 0] 25)) u v l := by
  have hA1 := below_alloc w (.cells #[u.val, v.val] 25)
  have hA2 := below_alloc (w.alloc (.cells #[u.val, v.val] 25)) (.cells #[.slice none 0 0, .slice none 0 0] 25)
  have hk2 := lfBlk_new (w.alloc (.cells #[u.val, v.val] 25)) (.slice none 0 0) (.slice none 0 0)
  rw [alloc_size] at hk2
  exact ⟨(lfBlk_new w u.val v.val).below hA2, hk2, hg.below (rBelow hA1 hA2) (Nat.le_refl _), rBelow hA1 hA2, by rw [alloc_size, alloc_size]; exact Nat.le_refl _⟩
/-- The answer is laid. -/
theorem Tb.lay {D : Nat → Prop} {w w1 : World} {u v : Sl} {l : List Sb} (t : Tb D w w1 u v l) (s : Sl) : ∃ W, (Instr.storeAt 25 (.pointer (some ⟨w.heap.size + 1, 0, none⟩)) (lfV u s)).run Try.prog w1 = .ok () W ∧ LfBlk W (w.heap.size + 1) u.val s.val ∧ Frm (fun k => k = w.heap.size + 1) w1 W ∧ Below w.heap.size w W := by
  obtain ⟨W, hst, k, f⟩ := st_lf w1 _ _ _ t.k2 u s
  exact ⟨W, hst, k, f, t.e.trans (f.below t.e.size (fun k hk => by rw [hk]; exact Nat.le_succ _))⟩

/-- A row of slots of the call's own, one slot laid there, as it stands beside the boxes. -/
theorem Tb.mine {D : Nat → Prop} {w w1 w2 : World} {u v : Sl} {l : List Sb} (t : Tb D w w1 u v l) (hg : Gb D w v l) (hb : Below w1.heap.size w1 w2) {b o len cap : Nat} (ho : OwnB w2 ⟨some ⟨b, o, none⟩, len, cap⟩ l) (hw : w1.heap.size ≤ b) (hl : len ≤ 1000) (k : Nat) (hk : k < len) (x : Sb) (hx : Cm D w x.s x.bs) (hx2 : x.bs.length ≤ 1000) : ∃ W, (Instr.storeAt 28 (.pointer (some ⟨b, o + k, none⟩)) x.s.val).run Try.prog w2 = .ok () W ∧ Tb D w W u v l ∧ Gb (New D w) W ⟨some ⟨b, o, none⟩, len, cap⟩ (l.set k x) := by
  obtain ⟨W, hst, o2, f⟩ := st_slot w2 b o len cap l ho k hk x
  have hb2 : Below w1.heap.size w1 W := hb.trans (f.below hb.size (fun k hk => by rw [hk]; exact hw))
  have t2 := t.below hb2
  have hK : Kept (New D w) w W := Kept.all t2.e (Nat.le_refl _)
  refine ⟨W, hst, t2, o2.gb (fun y hy => ?_) (fun k hk => ?_) hl⟩
  · rcases List.mem_or_eq_of_mem_set hy with h | rfl
    · exact ⟨((hg.bs y h).1.mono (fun _ hk hl => .inl ⟨hk, hl⟩)).keep hK, (hg.bs y h).2⟩
    · exact ⟨(hx.mono (fun _ hk hl => .inl ⟨hk, hl⟩)).keep hK, hx2⟩
  · have e : some b = some k := hk
    cases e
    exact .inr (Nat.le_trans t.sz hw)

end Go.Proofs.Ytgieigpbbkeonaa
