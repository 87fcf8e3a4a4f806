/-
  Lemmas.
-/
import Derived.Test.YtdojdcncncgncaaGreatKsap
import Derived.Test.YtdojdcncncgncaaGreatKsan
namespace Go.Proofs.YtdojdcncncgncaaGreat
open Go.RowKit
set_option linter.unusedVariables false
set_option maxRecDepth 100000
set_option maxHeartbeats 4000000
variable {l:List Lf}{r:Rw}{i k:Nat}{xs y:List Nat}{s:List (List Nat)}
theorem ZhH {n : Nat} (h : ∀ j, j < n → (sl s j).length ≠ 0) (hn : n = s.length ∨ n < s.length ∧ (sl s n).length = 0) : atE s = n := by
 rcases ZbX s with ⟨e, hall⟩ | ⟨hlt, h0, hall⟩
 · rcases hn with rfl | ⟨h1, h2⟩
   · exact e
   · exact absurd h2 (hall n h1)
 · rcases Nat.lt_trichotomy (atE s) n with h1 | h1 | h1
   · exact absurd h0 (h _ h1)
   · exact h1
   · rcases hn with rfl | ⟨_, h2⟩
     · omega
     · exact absurd h2 (hall n h1)
section
variable {ops : Array Oper} {rest : List Oper} {o : Oper} {a : Act} {Q : Exit → Act → World → Prop}
end
structure An3 where
  s : List (List Nat)
  at_ : Int
  e : Int
def insA (s : List (List Nat)) (r : List Nat) : An3 :=
  if r.length < 1 ∨ 255 < r.length then ⟨s, -1, 1⟩ else if 64 < (insS s r).length ∨ 508 < need (insS s r) then ⟨s, -1, 7⟩ else ⟨insS s r, ((atE s : Nat) : Int), 0⟩
theorem Zbq {fn:Func}{x y z:Nat}(hr:fn.results=#[.cell x 67,.tmp y,.tmp z]){W:World}{g:Nat}{u v:Sl}(k:LfBlk W g u.val v.val)(tmps:Array Value)(ht:tmps.getD x undef=.pointer (some ⟨g,0,none⟩)){p q:Value}(hy:tmps.getD y undef=p)(hz:tmps.getD z undef=q):(results fn tmps).run Tryz.prog W=.ok (.tuple #[lfV u v,p,q]) W:=by
 have c0:=k.c0
 have c1:=k.c1
 unfold lfV Sl.val at *
 have ht2:tmps[x]?.getD undef=.pointer (some ⟨g,0,none⟩):=by simpa using ht
 have hy2:tmps[y]?.getD undef=p:=by simpa using hy
 have hz2:tmps[z]?.getD undef=q:=by simpa using hz
 simp [results,hr,ht2,hy2,hz2,go_sem,c0,c1]
theorem ZdY (h : decB xs = some r) : r.may = true := by
 unfold decB at h
 split at h
 · cases h
 · split at h
   · cases h
   · split at h
     · cases h
     · rename_i hn
       simp only [Option.some.injEq] at h
       subst h
       cases hm : (rowOf _ _).may
       · exact absurd (.inr (.inr hm)) hn
       · rfl
theorem ZjJ (hx : Bytes xs) (hl : xs.length ≤ 1000000) (h : decB xs = some r) : r.fits := by
 unfold decB at h
 split at h
 · cases h
 · rename_i l q h1
   split at h
   · cases h
   · rename_i m q2 h2
     split at h
     · cases h
     · simp only [Option.some.injEq] at h
       subst h
       have hb : Bytes (xs.drop q) := fun x hh => hx x (List.mem_of_mem_drop hh)
       refine Zfp ?_ ?_ ?_
       · exact Zee hx hl _ _ _ _ Zdc (Nat.zero_le _) (fun i hi => by cases hi) h1
       · have := Zct _ _ _ _ _ h1
         simpa [headK] using this
       · exact Zee hb (by rw [List.length_drop]; omega) _ _ _ _ (fun k hk => by rw [(List.mem_replicate.1 hk).2]; decide) (Nat.zero_le _) (fun i hi => by cases hi) h2
def hpB (r : Rw) : List Nat := r.bytes ++ List.replicate (52 - r.bytes.length) 0
theorem Zhe (h : r.may = true) : (hpB r).length = 52 := by
 have h1 := Zb4 r
 have h2 := (Rw.may_parts h).2.1
 unfold hpB
 rw [List.length_append, List.length_replicate]
 omega
theorem Zbp (h : r.may = true) : Bytes (hpB r) := by
 intro x hx
 rcases List.mem_append.1 hx with hx | hx
 · exact Zbn h x hx
 · rw [(List.mem_replicate.1 hx).2]; decide
theorem Zl9 (r : Rw) : (hpB r).take (20 + 8 * r.xs.length) = r.bytes := by
 unfold hpB
 rw [← Zb4 r, List.take_left]
theorem Zlr (h : r.may = true) : r.bytes.getD 19 0 = r.xs.length := by
 have h4 := (Rw.may_parts h).2.1
 have e : r.bytes = (putB [⟨1, if r.dead then 1 else 0, 0, noS⟩, ⟨4, 0, r.key, noS⟩, ⟨3, r.wr, 0, noS⟩, ⟨2, r.cell, 0, noS⟩, ⟨3, r.no, 0, noS⟩]) ++ (putB [⟨1, r.xs.length, 0, noS⟩] ++ putB (r.xs.map numI)) := by
  unfold Rw.bytes Rw.items Rw.head
  rw [← ZbO, ← ZbO]
  rfl
 have hl : (putB [⟨1, if r.dead then 1 else 0, 0, noS⟩, ⟨4, 0, r.key, noS⟩, ⟨3, r.wr, 0, noS⟩, ⟨2, r.cell, 0, noS⟩, ⟨3, r.no, 0, noS⟩]).length = 19 := by
  simp [putB, It.bytes, Zal]
 have hx : putB [⟨1, r.xs.length, 0, noS⟩] = [r.xs.length] := by
  have : r.xs.length = 0 ∨ r.xs.length = 1 ∨ r.xs.length = 2 ∨ r.xs.length = 3 ∨ r.xs.length = 4 := by omega
  rcases this with e | e | e | e | e <;> rw [e] <;> rfl
 rw [e, hx]
 simp [List.getD, hl]
theorem Zke (h : r.may = true) : (hpB r).getD 19 0 = r.xs.length := by
 have hl := Zb4 r
 rw [← Zlr h]
 unfold hpB
 simp only [List.getD]
 rw [List.getElem?_append_left (by omega)]
def decH (xs : List Nat) : Option Rw :=
  if xs.length = 52 ∧ xs.getD 19 0 ≤ 4 then
    match decB (xs.take (20 + 8 * xs.getD 19 0)) with
    | some r => if hpB r = xs then some r else none
    | none => none
  else none
theorem ZcX (h : decH xs = some r) : xs.length = 52 ∧ xs.getD 19 0 ≤ 4 ∧ decB (xs.take (20 + 8 * xs.getD 19 0)) = some r ∧ hpB r = xs := by
 unfold decH at h
 split at h
 · rename_i hc
   split at h
   · rename_i q hq
     split at h
     · rename_i he
       simp only [Option.some.injEq] at h
       subst h
       exact ⟨hc.1, hc.2, hq, he⟩
     · cases h
   · cases h
 · cases h
theorem Zlt {xs : List Nat} {r : Rw} (h : decH xs = some r) : r.may = true := ZdY (ZcX h).2.2.1
theorem ZjK (hx : Bytes xs) (h : decH xs = some r) : r.fits := by
 obtain ⟨h1, _, h3, _⟩ := ZcX h
 exact ZjJ (fun x hh => hx x (List.mem_of_mem_take hh)) (by rw [List.length_take]; omega) h3
theorem ZhQ (hm : r.may = true) (hf : r.fits) : decH (hpB r) = some r := by
 have h4 := (Rw.may_parts hm).2.1
 unfold decH
 rw [if_pos ⟨Zhe hm, by rw [Zke hm]; exact h4⟩, Zke hm, Zl9, Zgk hm hf]
 exact if_pos rfl
theorem ZcW : decH [] = none := by unfold decH; rw [if_neg (by decide)]
theorem ZhR (h : decH xs = some r) : xs ≠ [] := by
 intro e
 rw [e, ZcW] at h
 cases h
structure Hr where
  r : Rw
  i : Nat
  k : Nat
def rowsS (i : Nat) : List (List Nat) → Nat → List Hr
  | [], _ => []
  | x :: s, k => (match decH x with | some r => [⟨r, i, k⟩] | none => []) ++ rowsS i s (k + 1)
def rowsH : List Lf → Nat → List Hr
  | [], _ => []
  | f :: l, i => rowsS i f.slots 0 ++ rowsH l (i + 1)
def allH (l : List Lf) : List Hr := rowsH l 0
theorem ZdR (i : Nat) : ∀ (s t : List (List Nat)) (k : Nat), rowsS i (s ++ t) k = rowsS i s k ++ rowsS i t (k + s.length)
  | [], t, k => by simp [rowsS]
  | x :: s, t, k => by
    have := ZdR i s t (k + 1)
    simp only [List.cons_append, rowsS, this, List.append_assoc, List.length_cons]
    rw [show k + 1 + s.length = k + (s.length + 1) by omega]
theorem ZdQ : ∀ (l m : List Lf) (i : Nat), rowsH (l ++ m) i = rowsH l i ++ rowsH m (i + l.length)
  | [], m, i => by simp [rowsH]
  | f :: l, m, i => by
    have := ZdQ l m (i + 1)
    simp only [List.cons_append, rowsH, this, List.append_assoc, List.length_cons]
    rw [show i + 1 + l.length = i + (l.length + 1) by omega]
theorem Zfs (h : k < s.length) : rowsS i (s.take (k + 1)) 0 = rowsS i (s.take k) 0 ++ (match decH (sl s k) with | some r => [⟨r, i, k⟩] | none => []) := by
 have e : s.take (k + 1) = s.take k ++ [sl s k] := by rw [List.take_succ_eq_append_getElem h, ZcH h]
 rw [e, ZdR, List.length_take, Nat.min_eq_left (Nat.le_of_lt h), Nat.zero_add]
 simp [rowsS]
def lf (l : List Lf) (i : Nat) : Lf := l.getD i Lf.zero
theorem Zdk {l : List Lf} {i : Nat} (h : i < l.length) : lf l i = l[i] := by simp [lf, List.getD, h]
theorem Zbw {l : List Lf} {i : Nat} (h : i < l.length) : lf l i ∈ l := by rw [Zdk h]; exact List.getElem_mem h
theorem Zfq (h : i < l.length) : rowsH (l.take (i + 1)) 0 = rowsH (l.take i) 0 ++ rowsS i (lf l i).slots 0 := by
 have e : l.take (i + 1) = l.take i ++ [lf l i] := by rw [List.take_succ_eq_append_getElem h, Zdk h]
 rw [e, ZdQ, List.length_take, Nat.min_eq_left (Nat.le_of_lt h), Nat.zero_add]
 simp [rowsH]
theorem Zdm {h : Hr} : ∀ {s : List (List Nat)} {k : Nat}, h ∈ rowsS i s k ↔ h.i = i ∧ k ≤ h.k ∧ h.k < k + s.length ∧ decH (sl s (h.k - k)) = some h.r
 | [], k => by
  constructor
  · intro hh; cases hh
  · rintro ⟨_, h1, h2, _⟩
    simp only [List.length_nil, Nat.add_zero] at h2
    omega
 | x :: s, k => by
  have hx : (h ∈ (match decH x with | some r => [(⟨r, i, k⟩ : Hr)] | none => [])) ↔ h.i = i ∧ h.k = k ∧ decH x = some h.r := by
   cases hd : decH x with
   | none => simp
   | some r =>
    simp only [List.mem_singleton, Option.some.injEq]
    constructor
    · rintro rfl; exact ⟨rfl, rfl, rfl⟩
    · obtain ⟨r', i', k'⟩ := h
      rintro ⟨rfl, rfl, rfl⟩
      rfl
  rw [rowsS, List.mem_append, hx, Zdm (s := s) (k := k + 1)]
  constructor
  · rintro (⟨h1, h2, h3⟩ | ⟨h1, h2, h3, h4⟩)
    · refine ⟨h1, by omega, by rw [List.length_cons]; omega, ?_⟩
      rw [h2, Nat.sub_self]
      exact h3
    · refine ⟨h1, by omega, by rw [List.length_cons]; omega, ?_⟩
      rw [show h.k - k = (h.k - (k + 1)) + 1 by omega]
      exact h4
  · rintro ⟨h1, h2, h3, h4⟩
    rw [List.length_cons] at h3
    rcases Nat.lt_or_ge k h.k with hk | hk
    · refine .inr ⟨h1, hk, by omega, ?_⟩
      rw [show h.k - k = (h.k - (k + 1)) + 1 by omega] at h4
      exact h4
    · have e : h.k = k := by omega
      refine .inl ⟨h1, e, ?_⟩
      rw [e, Nat.sub_self] at h4
      exact h4
theorem Ze0 {h : Hr} : ∀ {l : List Lf} {i : Nat}, h ∈ rowsH l i ↔ i ≤ h.i ∧ h.i < i + l.length ∧ h.k < (lf l (h.i - i)).slots.length ∧ decH (sl (lf l (h.i - i)).slots h.k) = some h.r
  | [], i => by
    constructor
    · intro hh; cases hh
    · rintro ⟨h1, h2, _⟩
      simp only [List.length_nil, Nat.add_zero] at h2
      omega
  | f :: l, i => by
    rw [rowsH, List.mem_append, Zdm, Ze0 (l := l) (i := i + 1)]
    simp only [Nat.zero_le, true_and, Nat.zero_add, Nat.sub_zero]
    constructor
    · rintro (⟨h1, h2, h3⟩ | ⟨h1, h2, h3, h4⟩)
      · rw [h1, Nat.sub_self]
        exact ⟨Nat.le_refl _, by rw [List.length_cons]; omega, h2, h3⟩
      · refine ⟨by omega, by rw [List.length_cons]; omega, ?_⟩
        rw [show h.i - i = (h.i - (i + 1)) + 1 by omega]
        exact ⟨h3, h4⟩
    · rintro ⟨h1, h2, h3, h4⟩
      rw [List.length_cons] at h2
      rcases Nat.lt_or_ge i h.i with hk | hk
      · rw [show h.i - i = (h.i - (i + 1)) + 1 by omega] at h3 h4
        exact .inr ⟨hk, by omega, h3, h4⟩
      · have e : h.i = i := by omega
        rw [e, Nat.sub_self] at h3 h4
        exact .inl ⟨e, h3, h4⟩
theorem Zea {h : Hr} : h ∈ allH l ↔ h.i < l.length ∧ h.k < (lf l h.i).slots.length ∧ decH (sl (lf l h.i).slots h.k) = some h.r := by
 unfold allH
 rw [Ze0]
 simp
def fillS : List (List Nat) → Nat
  | [] => 0
  | x :: s => (if 0 < x.length then 1 else 0) + fillS s
def fillH : List Lf → Nat
  | [] => 0
  | f :: l => fillS f.slots + fillH l
theorem ZdM : ∀ s t : List (List Nat), fillS (s ++ t) = fillS s + fillS t
  | [], t => by simp [fillS]
  | x :: s, t => by simp only [List.cons_append, fillS, ZdM s t]; omega
theorem ZdL : ∀ s t : List Lf, fillH (s ++ t) = fillH s + fillH t
  | [], t => by simp [fillH]
  | x :: s, t => by simp only [List.cons_append, fillH, ZdL s t]; omega
theorem ZiE (h : k < s.length) : fillS (s.take (k + 1)) = fillS (s.take k) + (if 0 < (sl s k).length then 1 else 0) := by
 rw [List.take_succ_eq_append_getElem h, ← ZcH h, ZdM]
 simp [fillS]
theorem ZiD (h : i < l.length) : fillH (l.take (i + 1)) = fillH (l.take i) + fillS (lf l i).slots := by
 rw [List.take_succ_eq_append_getElem h, ← Zdk h, ZdL]
 simp [fillH]
theorem Zfr (i : Nat) : ∀ (s : List (List Nat)) (k : Nat), (rowsS i s k).length ≤ fillS s ∧ ((rowsS i s k).length = fillS s ↔ ∀ x ∈ s, x ≠ [] → decH x ≠ none)
  | [], k => by simp [rowsS, fillS]
  | x :: s, k => by
    have ih := Zfr i s (k + 1)
    simp only [rowsS, fillS, List.length_append]
    cases hd : decH x with
    | none =>
      by_cases hx : x = []
      · subst hx
        refine ⟨by simpa using ih.1, ?_⟩
        simp only [List.length_nil, Nat.zero_add, Nat.lt_irrefl, if_false, List.mem_cons, forall_eq_or_imp, ne_eq, not_true_eq_false, false_imp_iff, true_and]
        exact ih.2
      · have hp : 0 < x.length := List.length_pos_iff.2 hx
        simp only [if_pos hp, List.length_nil, List.mem_cons, forall_eq_or_imp, ne_eq, hd, not_true_eq_false]
        refine ⟨by omega, ?_⟩
        constructor
        · intro e; omega
        · rintro ⟨h1, _⟩
          exact absurd (h1 hx) (by simp)
    | some r =>
      have hp : 0 < x.length := List.length_pos_iff.2 (ZhR hd)
      simp only [if_pos hp, List.length_cons, List.length_nil, List.mem_cons, forall_eq_or_imp, ne_eq, hd, reduceCtorEq, not_false_eq_true, implies_true, true_and]
      refine ⟨by omega, ?_⟩
      rw [← ih.2]
      constructor <;> intro e <;> omega
theorem ZdG : ∀ (l : List Lf) (i : Nat), (rowsH l i).length ≤ fillH l ∧ ((rowsH l i).length = fillH l ↔ ∀ f ∈ l, ∀ x ∈ f.slots, x ≠ [] → decH x ≠ none)
  | [], i => by simp [rowsH, fillH]
  | f :: l, i => by
    have ih := ZdG l (i + 1)
    have is := Zfr i f.slots 0
    simp only [rowsH, fillH, List.length_append, List.mem_cons, forall_eq_or_imp]
    refine ⟨by omega, ?_⟩
    rw [← ih.2, ← is.2]
    constructor
    · intro e; constructor <;> omega
    · rintro ⟨h1, h2⟩; omega
def Zbs (l : List Hr) : Prop := l.Pairwise fun a b => a.r.key ≠ b.r.key
structure MayH (l : List Lf) : Prop where
  leaf : ∀ f ∈ l, MayL f
  rows : ∀ f ∈ l, ∀ x ∈ f.slots, x ≠ [] → decH x ≠ none
  keys : Zbs (allH l)
  pos : 1 ≤ l.length
  few : l.length ≤ 62
theorem Zfh : (fillH l = (allH l).length) ↔ ∀ f ∈ l, ∀ x ∈ f.slots, x ≠ [] → decH x ≠ none := by
 rw [← (ZdG l 0).2]
 exact eq_comm
theorem ZdX {h : Hr} (hh : h ∈ allH l) : Fl.key h.r.key = h.r.key ∧ h.r.may = true := by
 have hm := Zlt (Zea.1 hh).2.2
 exact ⟨(Rw.may_parts hm).1.symm, hm⟩
def cellH (l : List Lf) (a b : Nat) : List Nat := sl (lf l a).slots b
theorem ZhN {a b : Nat} (h : cellH l a b ≠ []) : a < l.length ∧ b < (lf l a).slots.length := by
 have hb := Zoh h
 refine ⟨?_, hb⟩
 rcases Nat.lt_or_ge a l.length with h1 | h1
 · exact h1
 · have e : lf l a = Lf.zero := by simp [lf, List.getD, List.getElem?_eq_none h1]
   rw [e] at hb
   exact absurd hb (Nat.not_lt_zero _)
theorem Zc6 {h : Hr} : h ∈ allH l ↔ decH (cellH l h.i h.k) = some h.r := by
 rw [Zea]
 constructor
 · exact fun hh => hh.2.2
 · intro hh
   have := ZhN (ZhR hh)
   exact ⟨this.1, this.2, hh⟩
def Zmt (a b : Hr) : Prop := a.i < b.i ∨ a.i = b.i ∧ a.k < b.k
theorem Ze5 (i : Nat) : ∀ (s : List (List Nat)) (k : Nat), (rowsS i s k).Pairwise Zmt
  | [], _ => List.Pairwise.nil
  | x :: s, k => by
    unfold rowsS
    refine List.pairwise_append.2 ⟨?_, Ze5 i s (k + 1), fun a ha b hb => ?_⟩
    · cases decH x with
      | none => exact List.Pairwise.nil
      | some r => exact List.pairwise_singleton _ _
    · have hb' := Zdm.1 hb
      cases hd : decH x with
      | none => rw [hd] at ha; cases ha
      | some r =>
        rw [hd] at ha
        simp only [List.mem_singleton] at ha
        subst ha
        exact .inr ⟨hb'.1.symm, by show k < b.k; omega⟩
theorem Ze4 : ∀ (l : List Lf) (i : Nat), (rowsH l i).Pairwise Zmt
  | [], _ => List.Pairwise.nil
  | f :: l, i => by
    unfold rowsH
    refine List.pairwise_append.2 ⟨Ze5 i _ _, Ze4 l (i + 1), fun a ha b hb => ?_⟩
    have ha' := Zdm.1 ha
    have hb' := Ze0.1 hb
    exact .inl (by omega)
theorem Zjb :Zbs (allH l)↔∀g∈allH l,∀h∈allH l,g.r.key=h.r.key→g.i=h.i∧g.k=h.k:=by
 have ho:=Ze4 l 0
 unfold Zbs
 constructor
 · intro hk g hg h hh e
   obtain⟨x,hx,rfl⟩:=List.getElem_of_mem hg
   obtain⟨y,hy,rfl⟩:=List.getElem_of_mem hh
   rw [List.pairwise_iff_getElem] at hk
   rcases Nat.lt_trichotomy x y with h1 | h1 | h1
   · exact absurd e (hk x y hx hy h1)
   · subst h1;exact ⟨rfl,rfl⟩
   · exact absurd e.symm (hk y x hy hx h1)
 · intro hk
   unfold allH at hk ⊢
   refine List.Pairwise.imp_of_mem ?_ ho
   intro a b ha hb hab e
   have:=hk a ha b hb e
   rcases hab with h1 | ⟨_,h1⟩ <;> omega
def KeyC (l : List Lf) : Prop := ∀ a b a' b' r r', decH (cellH l a b) = some r → decH (cellH l a' b') = some r' → r.key = r'.key → a = a' ∧ b = b'
theorem Ze2 : Zbs (allH l) ↔ KeyC l := by
 rw [Zjb]
 constructor
 · intro h a b a' b' r r' h1 h2 e
   exact h ⟨r, a, b⟩ (Zc6.2 h1) ⟨r', a', b'⟩ (Zc6.2 h2) e
 · intro h g hg k hk e
   exact h _ _ _ _ _ _ (Zc6.1 hg) (Zc6.1 hk) e
def RowC (l : List Lf) : Prop := ∀ a b, cellH l a b ≠ [] → decH (cellH l a b) ≠ none
theorem ZgN : (∀ f ∈ l, ∀ x ∈ f.slots, x ≠ [] → decH x ≠ none) ↔ RowC l := by
 constructor
 · intro h a b hn
   obtain ⟨h1, h2⟩ := ZhN hn
   refine h _ (Zbw h1) _ ?_ hn
   show sl (lf l a).slots b ∈ _
   rw [ZcH h2]
   exact List.getElem_mem h2
 · intro h f hf x hx hn
   obtain ⟨a, ha, rfl⟩ := List.getElem_of_mem hf
   obtain ⟨b, hb, rfl⟩ := List.getElem_of_mem hx
   have e : cellH l a b = l[a].slots[b] := by
    unfold cellH
    rw [Zdk ha, ZcH hb]
   rw [← e] at hn ⊢
   exact h a b hn
theorem Zey {l : List Lf} : MayH l ↔ (∀ f ∈ l, MayL f) ∧ RowC l ∧ KeyC l ∧ 1 ≤ l.length ∧ l.length ≤ 62 :=
  ⟨fun h => ⟨h.leaf, ZgN.1 h.rows, Ze2.1 h.keys, h.pos, h.few⟩, fun h => ⟨h.1, ZgN.2 h.2.1, Ze2.2 h.2.2.1, h.2.2.2.1, h.2.2.2.2⟩⟩
def findH (l : List Lf) (k : Nat) : Option Hr := (allH l).find? fun h => Fl.key h.r.key == Fl.key k
theorem ZeW : findH l k = none ↔ ∀ a b r, decH (cellH l a b) = some r → r.key ≠ Fl.key k := by
 unfold findH
 rw [List.find?_eq_none]
 constructor
 · intro h a b r hd e
   have hm : (⟨r, a, b⟩ : Hr) ∈ allH l := Zc6.2 hd
   have := h _ hm
   simp only [beq_iff_eq] at this
   refine this ?_
   rw [(ZdX hm).1]
   exact e
 · intro h x hx
   simp only [beq_iff_eq]
   rw [(ZdX hx).1]
   exact h _ _ _ (Zc6.1 hx)
def getH (l : List Lf) (b : Int × Int) : Option Rw := ((allH l).find? fun h => ((h.i : Int) == b.1) && ((h.k : Int) == b.2)).map Hr.r
structure Zj5 (l l' : List Lf) (i k : Nat) (y : List Nat) : Prop where
  len : l'.length = l.length
  here : cellH l' i k = y
  other : ∀ a b, ¬ (a = i ∧ b = k) → cellH l' a b = cellH l a b
theorem Zet {l : List Lf} {i : Nat} (h : i < l.length) (f : Lf) : lf (l.set i f) i = f := by simp [lf, List.getD, h]
theorem Zg4 {l : List Lf} {i j : Nat} (h : i ≠ j) (f : Lf) : lf (l.set i f) j = lf l j := by simp [lf, List.getD, List.getElem?_set_ne h]
theorem Zj5.of (hi:i<l.length){f:Lf}(h:∀b,b≠k→sl f.slots b=sl (lf l i).slots b):Zj5 l (l.set i f) i k (sl f.slots k):=by
 refine⟨by simp,by unfold cellH;rw [Zet hi],fun a b hab=>?_⟩
 unfold cellH
 by_cases ha:i=a
 · subst ha
   rw [Zet hi]
   exact h b (fun e=>hab ⟨rfl,e⟩)
 · rw [Zg4 ha]
theorem Zoi (hk : k < s.length) (y : List Nat) (b : Nat) : sl (s.set k y) b = if b = k then y else sl s b := by
 by_cases e : b = k
 · subst e
   rw [if_pos rfl, ZcN hk]
 · rw [if_neg e, Zcs (fun h => e h.symm)]
theorem Zm5 (s : List (List Nat)) (y : List Nat) (b : Nat) : sl (insS s y) b = if b = atE s then y else sl s b := by
 unfold insS
 rcases ZbX s with ⟨h1, _⟩ | ⟨h1, _, _⟩
 · rw [if_pos h1, h1]
   by_cases e : b = s.length
   · rw [if_pos e, e, ZcO]
   · rw [if_neg e]
     rcases Nat.lt_or_ge b s.length with h | h
     · exact Ze7 h y
     · rw [ZkY (by rw [List.length_append]; simp only [List.length_cons, List.length_nil]; omega), ZkY h]
 · rw [if_neg (by omega), Zoi h1]
theorem MayH.turn {l':List Lf}(h:MayH l)(t:Zj5 l l' i k y)(hl:∀f∈l',MayL f)(hy:y=[]∨∃r,decH y=some r∧∀a b r',¬(a=i∧b=k)→decH (cellH l a b)=some r'→r'.key≠r.key):MayH l':=by
 obtain⟨_,h2,h3,h4,h5⟩:=Zey.1 h
 refine Zey.2 ⟨hl,fun a b hn=>?_,fun a b a' b' r r' hr hr' e=>?_,by rw [t.len];exact h4,by rw [t.len];exact h5⟩
 · by_cases hab:a=i∧b=k
   · rw [hab.1,hab.2,t.here] at hn ⊢
     rcases hy with rfl | ⟨r,hr,_⟩
     · exact absurd rfl hn
     · rw [hr];simp
   · rw [t.other a b hab] at hn ⊢
     exact h2 a b hn
 · by_cases hab:a=i∧b=k
   · by_cases hab':a'=i∧b'=k
     · omega
     · rw [hab.1,hab.2,t.here] at hr
       rw [t.other _ _ hab'] at hr'
       rcases hy with rfl | ⟨q,hq,ho⟩
       · rw [ZcW] at hr;cases hr
       · rw [hq] at hr
         cases hr
         exact absurd e.symm (ho _ _ _ hab' hr')
   · rw [t.other _ _ hab] at hr
     by_cases hab':a'=i∧b'=k
     · rw [hab'.1,hab'.2,t.here] at hr'
       rcases hy with rfl | ⟨q,hq,ho⟩
       · rw [ZcW] at hr';cases hr'
       · rw [hq] at hr'
         cases hr'
         exact absurd e (ho _ _ _ hab hr)
     · rw [t.other _ _ hab'] at hr'
       exact h3 _ _ _ _ _ _ hr hr' e
def roomH (y : List Nat) : List Lf → Nat → Option Nat
  | [], _ => none
  | f :: l, i => if (insA f.slots y).e = 0 then some i else roomH y l (i + 1)
theorem Zbl {y : List Nat} : ∀ {l : List Lf} {i j : Nat}, roomH y l i = some j → i ≤ j ∧ j < i + l.length ∧ (insA (lf l (j - i)).slots y).e = 0 ∧ ∀ m, m < j - i → (insA (lf l m).slots y).e ≠ 0
  | [], _, _, h => by cases h
  | f :: l, i, j, h => by
    unfold roomH at h
    split at h
    · rename_i he
      cases h
      rw [Nat.sub_self]
      exact ⟨Nat.le_refl _, by rw [List.length_cons]; omega, he, fun m hm => absurd hm (Nat.not_lt_zero _)⟩
    · rename_i he
      obtain ⟨h1, h2, h3, h4⟩ := Zbl h
      rw [show j - i = (j - (i + 1)) + 1 by omega]
      refine ⟨by omega, by rw [List.length_cons]; omega, h3, fun m hm => ?_⟩
      match m with
      | 0 => exact he
      | m + 1 => exact h4 m (by omega)
theorem Zc7 {y : List Nat} : ∀ {l : List Lf} {i : Nat}, roomH y l i = none ↔ ∀ m, m < l.length → (insA (lf l m).slots y).e ≠ 0
  | [], _ => by simp [roomH]
  | f :: l, i => by
    unfold roomH
    split
    · rename_i he
      constructor
      · intro h; cases h
      · intro h
        exact absurd he (h 0 (by simp))
    · rename_i he
      rw [Zc7]
      constructor
      · intro h m hm
        match m with
        | 0 => exact he
        | m + 1 => exact h m (by simpa using hm)
      · intro h m hm
        exact h (m + 1) (by simpa using hm)
theorem Zmc {j : Nat} (hj : j < l.length) (h0 : (insA (lf l j).slots y).e = 0) (hn : ∀ m, m < j → (insA (lf l m).slots y).e ≠ 0) : roomH y l 0 = some j := by
 cases h : roomH y l 0 with
 | none => exact absurd h0 (Zc7.1 h j hj)
 | some q =>
  obtain ⟨_, h2, h3, h4⟩ := Zbl h
  simp only [Nat.sub_zero] at h3 h4
  rcases Nat.lt_trichotomy q j with e | e | e
  · exact absurd h3 (hn q e)
  · rw [e]
  · exact absurd h0 (h4 j e)
structure Ph where
  l : List Lf
  b : Int × Int
  e : Int
def putL (f : Lf) (r : Rw) (live : List Int) : Lf := ⟨(joinI f.itl r.wr live).t, (insA f.slots (hpB r)).s⟩
def putH (l : List Lf) (r : Rw) (live : List Int) : Ph :=
  if r.may = false ∨ r.wr = 0 ∨ (findH l r.key).isSome = true then ⟨l, (0, 0), 1⟩
  else match roomH (hpB r) l 0 with
    | none => ⟨l, (0, 0), 7⟩
    | some i => if (joinI (lf l i).itl r.wr live).e = 0 then ⟨l.set i (putL (lf l i) r live), ((i : Int), (insA (lf l i).slots (hpB r)).at_), 0⟩ else ⟨l, (0, 0), (joinI (lf l i).itl r.wr live).e⟩
structure Ah where
  l : List Lf
  e : Int
def layL (f : Lf) (k : Int) (r : Rw) (joins : Bool) (live : List Int) : Lf := ⟨if joins = true then (joinI f.itl r.wr live).t else f.itl, (setA f.slots k (hpB r)).s⟩
def layH (l : List Lf) (b : Int × Int) (r : Rw) (joins : Bool) (live : List Int) : Ah :=
  match getH l b with
  | none => ⟨l, 3⟩
  | some was => if r.may = false ∨ (joins = true ∧ r.wr = 0) ∨ was.key ≠ r.key then ⟨l, 1⟩
    else if joins = true ∧ (joinI (lf l b.1.toNat).itl r.wr live).e ≠ 0 then ⟨l, (joinI (lf l b.1.toNat).itl r.wr live).e⟩
    else ⟨l.set b.1.toNat (layL (lf l b.1.toNat) b.2 r joins live), 0⟩
def dropH (l : List Lf) (b : Int × Int) : Ah :=
  match getH l b with
  | none => ⟨l, 3⟩
  | some _ => ⟨l.set b.1.toNat ⟨(lf l b.1.toNat).itl, (ZcC (lf l b.1.toNat).slots b.2).s⟩, 0⟩
end Go.Proofs.YtdojdcncncgncaaGreat
