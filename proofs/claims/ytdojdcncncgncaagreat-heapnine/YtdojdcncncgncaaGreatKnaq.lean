/-
  Lemmas.
-/
import Derived.Test.YtdojdcncncgncaaGreatKnap
import Derived.Test.YtdojdcncncgncaaGreatKnan
namespace Go.Proofs.YtdojdcncncgncaaGreat
open Go.RowKit
set_option linter.unusedVariables false
set_option maxRecDepth 100000
set_option maxHeartbeats 4000000
variable {l:List Lf}{r:Rw}{i k:Nat}{xs y:List Nat}{s:List (List Nat)}
theorem Zgt {n : Nat} (h : ∀ j, j < n → (sl s j).length ≠ 0) (hn : n = s.length ∨ n < s.length ∧ (sl s n).length = 0) : atE s = n := by
 rcases Zbf s with ⟨e, hall⟩ | ⟨hlt, h0, hall⟩
 · rcases hn with rfl | ⟨h1, h2⟩
   · exact e
   · exact absurd h2 (hall n h1)
 · rcases Nat.lt_trichotomy (atE s) n with h1 | h1 | h1
   · exact absurd h0 (h _ h1)
   · exact h1
   · rcases hn with rfl | ⟨_, h2⟩
     · omega
     · exact absurd h2 (hall n h1)
section
variable {ops : Array Oper} {rest : List Oper} {o : Oper} {a : Act} {Q : Exit → Act → World → Prop}
end
structure An3 where
  s : List (List Nat)
  at_ : Int
  e : Int
def insA (s : List (List Nat)) (r : List Nat) : An3 :=
  if r.length < 1 ∨ 255 < r.length then ⟨s, -1, 1⟩ else if 64 < (insS s r).length ∨ 508 < need (insS s r) then ⟨s, -1, 7⟩ else ⟨insS s r, ((atE s : Nat) : Int), 0⟩
theorem ZaX {fn:Func}{x y z:Nat}(hr:fn.results=#[.cell x 67,.tmp y,.tmp z]){W:World}{g:Nat}{u v:Sl}(k:LfBlk W g u.val v.val)(tmps:Array Value)(ht:tmps.getD x undef=.pointer (some ⟨g,0,none⟩)){p q:Value}(hy:tmps.getD y undef=p)(hz:tmps.getD z undef=q):(results fn tmps).run Tryz.prog W=.ok (.tuple #[lfV u v,p,q]) W:=by
 have c0:=k.c0
 have c1:=k.c1
 unfold lfV Sl.val at *
 have ht2:tmps[x]?.getD undef=.pointer (some ⟨g,0,none⟩):=by simpa using ht
 have hy2:tmps[y]?.getD undef=p:=by simpa using hy
 have hz2:tmps[z]?.getD undef=q:=by simpa using hz
 simp [results,hr,ht2,hy2,hz2,go_sem,c0,c1]
theorem Ze9 (h : decB xs = some r) : r.may = true := by
 unfold decB at h
 split at h
 · cases h
 · split at h
   · cases h
   · split at h
     · cases h
     · rename_i hn
       simp only [Option.some.injEq] at h
       subst h
       cases hm : (rowOf _ _).may
       · exact absurd (.inr (.inr hm)) hn
       · rfl
theorem Zie (hx : Bytes xs) (hl : xs.length ≤ 1000000) (h : decB xs = some r) : r.fits := by
 unfold decB at h
 split at h
 · cases h
 · rename_i l q h1
   split at h
   · cases h
   · rename_i m q2 h2
     split at h
     · cases h
     · simp only [Option.some.injEq] at h
       subst h
       have hb : Bytes (xs.drop q) := fun x hh => hx x (List.mem_of_mem_drop hh)
       refine Zev ?_ ?_ ?_
       · exact Zdp hx hl _ _ _ _ Zfk (Nat.zero_le _) (fun i hi => by cases hi) h1
       · have := Zcs _ _ _ _ _ h1
         simpa [headK] using this
       · exact Zdp hb (by rw [List.length_drop]; omega) _ _ _ _ (fun k hk => by rw [(List.mem_replicate.1 hk).2]; decide) (Nat.zero_le _) (fun i hi => by cases hi) h2
def hpB (r : Rw) : List Nat := r.bytes ++ List.replicate (52 - r.bytes.length) 0
theorem Zdz (h : r.may = true) : (hpB r).length = 52 := by
 have h1 := Zb8 r
 have h2 := (Rw.may_parts h).2.1
 unfold hpB
 rw [List.length_append, List.length_replicate]
 omega
theorem Zc1 (h : r.may = true) : Bytes (hpB r) := by
 intro x hx
 rcases List.mem_append.1 hx with hx | hx
 · exact Zdt h x hx
 · rw [(List.mem_replicate.1 hx).2]; decide
theorem ZjK (r : Rw) : (hpB r).take (20 + 8 * r.xs.length) = r.bytes := by
 unfold hpB
 rw [← Zb8 r, List.take_left]
theorem Zj7 (h : r.may = true) : r.bytes.getD 19 0 = r.xs.length := by
 have h4 := (Rw.may_parts h).2.1
 have e : r.bytes = (putB [⟨1, if r.dead then 1 else 0, 0, noS⟩, ⟨4, 0, r.key, noS⟩, ⟨3, r.wr, 0, noS⟩, ⟨2, r.cell, 0, noS⟩, ⟨3, r.no, 0, noS⟩]) ++ (putB [⟨1, r.xs.length, 0, noS⟩] ++ putB (r.xs.map numI)) := by
  unfold Rw.bytes Rw.items Rw.head
  rw [← Zb1, ← Zb1]
  rfl
 have hl : (putB [⟨1, if r.dead then 1 else 0, 0, noS⟩, ⟨4, 0, r.key, noS⟩, ⟨3, r.wr, 0, noS⟩, ⟨2, r.cell, 0, noS⟩, ⟨3, r.no, 0, noS⟩]).length = 19 := by
  simp [putB, It.bytes, Zai]
 have hx : putB [⟨1, r.xs.length, 0, noS⟩] = [r.xs.length] := by
  have : r.xs.length = 0 ∨ r.xs.length = 1 ∨ r.xs.length = 2 ∨ r.xs.length = 3 ∨ r.xs.length = 4 := by omega
  rcases this with e | e | e | e | e <;> rw [e] <;> rfl
 rw [e, hx]
 simp [List.getD, hl]
theorem Ziw (h : r.may = true) : (hpB r).getD 19 0 = r.xs.length := by
 have hl := Zb8 r
 rw [← Zj7 h]
 unfold hpB
 simp only [List.getD]
 rw [List.getElem?_append_left (by omega)]
def decH (xs : List Nat) : Option Rw :=
  if xs.length = 52 ∧ xs.getD 19 0 ≤ 4 then
    match decB (xs.take (20 + 8 * xs.getD 19 0)) with
    | some r => if hpB r = xs then some r else none
    | none => none
  else none
theorem Zcx (h : decH xs = some r) : xs.length = 52 ∧ xs.getD 19 0 ≤ 4 ∧ decB (xs.take (20 + 8 * xs.getD 19 0)) = some r ∧ hpB r = xs := by
 unfold decH at h
 split at h
 · rename_i hc
   split at h
   · rename_i q hq
     split at h
     · rename_i he
       simp only [Option.some.injEq] at h
       subst h
       exact ⟨hc.1, hc.2, hq, he⟩
     · cases h
   · cases h
 · cases h
theorem Zj9 {xs : List Nat} {r : Rw} (h : decH xs = some r) : r.may = true := Ze9 (Zcx h).2.2.1
theorem Zif (hx : Bytes xs) (h : decH xs = some r) : r.fits := by
 obtain ⟨h1, _, h3, _⟩ := Zcx h
 exact Zie (fun x hh => hx x (List.mem_of_mem_take hh)) (by rw [List.length_take]; omega) h3
theorem ZeA (hm : r.may = true) (hf : r.fits) : decH (hpB r) = some r := by
 have h4 := (Rw.may_parts hm).2.1
 unfold decH
 rw [if_pos ⟨Zdz hm, by rw [Ziw hm]; exact h4⟩, Ziw hm, ZjK, Zii hm hf]
 exact if_pos rfl
theorem ZbW : decH [] = none := by unfold decH; rw [if_neg (by decide)]
theorem ZjA (h : decH xs = some r) : xs ≠ [] := by
 intro e
 rw [e, ZbW] at h
 cases h
structure Hr where
  r : Rw
  i : Nat
  k : Nat
def rowsS (i : Nat) : List (List Nat) → Nat → List Hr
  | [], _ => []
  | x :: s, k => (match decH x with | some r => [⟨r, i, k⟩] | none => []) ++ rowsS i s (k + 1)
def rowsH : List Lf → Nat → List Hr
  | [], _ => []
  | f :: l, i => rowsS i f.slots 0 ++ rowsH l (i + 1)
def allH (l : List Lf) : List Hr := rowsH l 0
theorem Zde (i : Nat) : ∀ (s t : List (List Nat)) (k : Nat), rowsS i (s ++ t) k = rowsS i s k ++ rowsS i t (k + s.length)
  | [], t, k => by simp [rowsS]
  | x :: s, t, k => by
    have := Zde i s t (k + 1)
    simp only [List.cons_append, rowsS, this, List.append_assoc, List.length_cons]
    rw [show k + 1 + s.length = k + (s.length + 1) by omega]
theorem Zdd : ∀ (l m : List Lf) (i : Nat), rowsH (l ++ m) i = rowsH l i ++ rowsH m (i + l.length)
  | [], m, i => by simp [rowsH]
  | f :: l, m, i => by
    have := Zdd l m (i + 1)
    simp only [List.cons_append, rowsH, this, List.append_assoc, List.length_cons]
    rw [show i + 1 + l.length = i + (l.length + 1) by omega]
theorem Zh8 (h : k < s.length) : rowsS i (s.take (k + 1)) 0 = rowsS i (s.take k) 0 ++ (match decH (sl s k) with | some r => [⟨r, i, k⟩] | none => []) := by
 have e : s.take (k + 1) = s.take k ++ [sl s k] := by rw [List.take_succ_eq_append_getElem h, Zcl h]
 rw [e, Zde, List.length_take, Nat.min_eq_left (Nat.le_of_lt h), Nat.zero_add]
 simp [rowsS]
def lf (l : List Lf) (i : Nat) : Lf := l.getD i Lf.zero
theorem Zd3 {l : List Lf} {i : Nat} (h : i < l.length) : lf l i = l[i] := by simp [lf, List.getD, h]
theorem Zb7 {l : List Lf} {i : Nat} (h : i < l.length) : lf l i ∈ l := by rw [Zd3 h]; exact List.getElem_mem h
theorem Zh7 (h : i < l.length) : rowsH (l.take (i + 1)) 0 = rowsH (l.take i) 0 ++ rowsS i (lf l i).slots 0 := by
 have e : l.take (i + 1) = l.take i ++ [lf l i] := by rw [List.take_succ_eq_append_getElem h, Zd3 h]
 rw [e, Zdd, List.length_take, Nat.min_eq_left (Nat.le_of_lt h), Nat.zero_add]
 simp [rowsH]
theorem Zc9 {h : Hr} : ∀ {s : List (List Nat)} {k : Nat}, h ∈ rowsS i s k ↔ h.i = i ∧ k ≤ h.k ∧ h.k < k + s.length ∧ decH (sl s (h.k - k)) = some h.r
 | [], k => by
  constructor
  · intro hh; cases hh
  · rintro ⟨_, h1, h2, _⟩
    simp only [List.length_nil, Nat.add_zero] at h2
    omega
 | x :: s, k => by
  have hx : (h ∈ (match decH x with | some r => [(⟨r, i, k⟩ : Hr)] | none => [])) ↔ h.i = i ∧ h.k = k ∧ decH x = some h.r := by
   cases hd : decH x with
   | none => simp
   | some r =>
    simp only [List.mem_singleton, Option.some.injEq]
    constructor
    · rintro rfl; exact ⟨rfl, rfl, rfl⟩
    · obtain ⟨r', i', k'⟩ := h
      rintro ⟨rfl, rfl, rfl⟩
      rfl
  rw [rowsS, List.mem_append, hx, Zc9 (s := s) (k := k + 1)]
  constructor
  · rintro (⟨h1, h2, h3⟩ | ⟨h1, h2, h3, h4⟩)
    · refine ⟨h1, by omega, by rw [List.length_cons]; omega, ?_⟩
      rw [h2, Nat.sub_self]
      exact h3
    · refine ⟨h1, by omega, by rw [List.length_cons]; omega, ?_⟩
      rw [show h.k - k = (h.k - (k + 1)) + 1 by omega]
      exact h4
  · rintro ⟨h1, h2, h3, h4⟩
    rw [List.length_cons] at h3
    rcases Nat.lt_or_ge k h.k with hk | hk
    · refine .inr ⟨h1, hk, by omega, ?_⟩
      rw [show h.k - k = (h.k - (k + 1)) + 1 by omega] at h4
      exact h4
    · have e : h.k = k := by omega
      refine .inl ⟨h1, e, ?_⟩
      rw [e, Nat.sub_self] at h4
      exact h4
theorem Zd8 {h : Hr} : ∀ {l : List Lf} {i : Nat}, h ∈ rowsH l i ↔ i ≤ h.i ∧ h.i < i + l.length ∧ h.k < (lf l (h.i - i)).slots.length ∧ decH (sl (lf l (h.i - i)).slots h.k) = some h.r
  | [], i => by
    constructor
    · intro hh; cases hh
    · rintro ⟨h1, h2, _⟩
      simp only [List.length_nil, Nat.add_zero] at h2
      omega
  | f :: l, i => by
    rw [rowsH, List.mem_append, Zc9, Zd8 (l := l) (i := i + 1)]
    simp only [Nat.zero_le, true_and, Nat.zero_add, Nat.sub_zero]
    constructor
    · rintro (⟨h1, h2, h3⟩ | ⟨h1, h2, h3, h4⟩)
      · rw [h1, Nat.sub_self]
        exact ⟨Nat.le_refl _, by rw [List.length_cons]; omega, h2, h3⟩
      · refine ⟨by omega, by rw [List.length_cons]; omega, ?_⟩
        rw [show h.i - i = (h.i - (i + 1)) + 1 by omega]
        exact ⟨h3, h4⟩
    · rintro ⟨h1, h2, h3, h4⟩
      rw [List.length_cons] at h2
      rcases Nat.lt_or_ge i h.i with hk | hk
      · rw [show h.i - i = (h.i - (i + 1)) + 1 by omega] at h3 h4
        exact .inr ⟨hk, by omega, h3, h4⟩
      · have e : h.i = i := by omega
        rw [e, Nat.sub_self] at h3 h4
        exact .inl ⟨e, h3, h4⟩
theorem Zdl {h : Hr} : h ∈ allH l ↔ h.i < l.length ∧ h.k < (lf l h.i).slots.length ∧ decH (sl (lf l h.i).slots h.k) = some h.r := by
 unfold allH
 rw [Zd8]
 simp
def Zck (l : List Hr) : Prop := l.Pairwise fun a b => a.r.key ≠ b.r.key
structure MayH (l : List Lf) : Prop where
  leaf : ∀ f ∈ l, MayL f
  rows : ∀ f ∈ l, ∀ x ∈ f.slots, x ≠ [] → decH x ≠ none
  keys : Zck (allH l)
  pos : 1 ≤ l.length
  few : l.length ≤ 62
theorem Ze1 {h : Hr} (hh : h ∈ allH l) : Fl.key h.r.key = h.r.key ∧ h.r.may = true := by
 have hm := Zj9 (Zdl.1 hh).2.2
 exact ⟨(Rw.may_parts hm).1.symm, hm⟩
def cellH (l : List Lf) (a b : Nat) : List Nat := sl (lf l a).slots b
theorem Zgx {a b : Nat} (h : cellH l a b ≠ []) : a < l.length ∧ b < (lf l a).slots.length := by
 have hb := Zmh h
 refine ⟨?_, hb⟩
 rcases Nat.lt_or_ge a l.length with h1 | h1
 · exact h1
 · have e : lf l a = Lf.zero := by simp [lf, List.getD, List.getElem?_eq_none h1]
   rw [e] at hb
   exact absurd hb (Nat.not_lt_zero _)
theorem Zcb {h : Hr} : h ∈ allH l ↔ decH (cellH l h.i h.k) = some h.r := by
 rw [Zdl]
 constructor
 · exact fun hh => hh.2.2
 · intro hh
   have := Zgx (ZjA hh)
   exact ⟨this.1, this.2, hh⟩
def Zkx (a b : Hr) : Prop := a.i < b.i ∨ a.i = b.i ∧ a.k < b.k
theorem ZdE (i : Nat) : ∀ (s : List (List Nat)) (k : Nat), (rowsS i s k).Pairwise Zkx
  | [], _ => List.Pairwise.nil
  | x :: s, k => by
    unfold rowsS
    refine List.pairwise_append.2 ⟨?_, ZdE i s (k + 1), fun a ha b hb => ?_⟩
    · cases decH x with
      | none => exact List.Pairwise.nil
      | some r => exact List.pairwise_singleton _ _
    · have hb' := Zc9.1 hb
      cases hd : decH x with
      | none => rw [hd] at ha; cases ha
      | some r =>
        rw [hd] at ha
        simp only [List.mem_singleton] at ha
        subst ha
        exact .inr ⟨hb'.1.symm, by show k < b.k; omega⟩
theorem ZdD : ∀ (l : List Lf) (i : Nat), (rowsH l i).Pairwise Zkx
  | [], _ => List.Pairwise.nil
  | f :: l, i => by
    unfold rowsH
    refine List.pairwise_append.2 ⟨ZdE i _ _, ZdD l (i + 1), fun a ha b hb => ?_⟩
    have ha' := Zc9.1 ha
    have hb' := Zd8.1 hb
    exact .inl (by omega)
theorem Zhx :Zck (allH l)↔∀g∈allH l,∀h∈allH l,g.r.key=h.r.key→g.i=h.i∧g.k=h.k:=by
 have ho:=ZdD l 0
 unfold Zck
 constructor
 · intro hk g hg h hh e
   obtain⟨x,hx,rfl⟩:=List.getElem_of_mem hg
   obtain⟨y,hy,rfl⟩:=List.getElem_of_mem hh
   rw [List.pairwise_iff_getElem] at hk
   rcases Nat.lt_trichotomy x y with h1 | h1 | h1
   · exact absurd e (hk x y hx hy h1)
   · subst h1;exact ⟨rfl,rfl⟩
   · exact absurd e.symm (hk y x hy hx h1)
 · intro hk
   unfold allH at hk ⊢
   refine List.Pairwise.imp_of_mem ?_ ho
   intro a b ha hb hab e
   have:=hk a ha b hb e
   rcases hab with h1 | ⟨_,h1⟩ <;> omega
def KeyC (l : List Lf) : Prop := ∀ a b a' b' r r', decH (cellH l a b) = some r → decH (cellH l a' b') = some r' → r.key = r'.key → a = a' ∧ b = b'
theorem ZdB : Zck (allH l) ↔ KeyC l := by
 rw [Zhx]
 constructor
 · intro h a b a' b' r r' h1 h2 e
   exact h ⟨r, a, b⟩ (Zcb.2 h1) ⟨r', a', b'⟩ (Zcb.2 h2) e
 · intro h g hg k hk e
   exact h _ _ _ _ _ _ (Zcb.1 hg) (Zcb.1 hk) e
def RowC (l : List Lf) : Prop := ∀ a b, cellH l a b ≠ [] → decH (cellH l a b) ≠ none
theorem Zf9 : (∀ f ∈ l, ∀ x ∈ f.slots, x ≠ [] → decH x ≠ none) ↔ RowC l := by
 constructor
 · intro h a b hn
   obtain ⟨h1, h2⟩ := Zgx hn
   refine h _ (Zb7 h1) _ ?_ hn
   show sl (lf l a).slots b ∈ _
   rw [Zcl h2]
   exact List.getElem_mem h2
 · intro h f hf x hx hn
   obtain ⟨a, ha, rfl⟩ := List.getElem_of_mem hf
   obtain ⟨b, hb, rfl⟩ := List.getElem_of_mem hx
   have e : cellH l a b = l[a].slots[b] := by
    unfold cellH
    rw [Zd3 ha, Zcl hb]
   rw [← e] at hn ⊢
   exact h a b hn
theorem Zd7 {l : List Lf} : MayH l ↔ (∀ f ∈ l, MayL f) ∧ RowC l ∧ KeyC l ∧ 1 ≤ l.length ∧ l.length ≤ 62 :=
  ⟨fun h => ⟨h.leaf, Zf9.1 h.rows, ZdB.1 h.keys, h.pos, h.few⟩, fun h => ⟨h.1, Zf9.2 h.2.1, ZdB.2 h.2.2.1, h.2.2.2.1, h.2.2.2.2⟩⟩
def findH (l : List Lf) (k : Nat) : Option Hr := (allH l).find? fun h => Fl.key h.r.key == Fl.key k
theorem ZcP : findH l k = none ↔ ∀ a b r, decH (cellH l a b) = some r → r.key ≠ Fl.key k := by
 unfold findH
 rw [List.find?_eq_none]
 constructor
 · intro h a b r hd e
   have hm : (⟨r, a, b⟩ : Hr) ∈ allH l := Zcb.2 hd
   have := h _ hm
   simp only [beq_iff_eq] at this
   refine this ?_
   rw [(Ze1 hm).1]
   exact e
 · intro h x hx
   simp only [beq_iff_eq]
   rw [(Ze1 hx).1]
   exact h _ _ _ (Zcb.1 hx)
def getH (l : List Lf) (b : Int × Int) : Option Rw := ((allH l).find? fun h => ((h.i : Int) == b.1) && ((h.k : Int) == b.2)).map Hr.r
structure ZhQ (l l' : List Lf) (i k : Nat) (y : List Nat) : Prop where
  len : l'.length = l.length
  here : cellH l' i k = y
  other : ∀ a b, ¬ (a = i ∧ b = k) → cellH l' a b = cellH l a b
theorem Zb0 {l : List Lf} {i : Nat} (h : i < l.length) (f : Lf) : lf (l.set i f) i = f := by simp [lf, List.getD, h]
theorem ZbH {l : List Lf} {i j : Nat} (h : i ≠ j) (f : Lf) : lf (l.set i f) j = lf l j := by simp [lf, List.getD, List.getElem?_set_ne h]
theorem ZhQ.of (hi:i<l.length){f:Lf}(h:∀b,b≠k→sl f.slots b=sl (lf l i).slots b):ZhQ l (l.set i f) i k (sl f.slots k):=by
 refine⟨by simp,by unfold cellH;rw [Zb0 hi],fun a b hab=>?_⟩
 unfold cellH
 by_cases ha:i=a
 · subst ha
   rw [Zb0 hi]
   exact h b (fun e=>hab ⟨rfl,e⟩)
 · rw [ZbH ha]
theorem Zmi (hk : k < s.length) (y : List Nat) (b : Nat) : sl (s.set k y) b = if b = k then y else sl s b := by
 by_cases e : b = k
 · subst e
   rw [if_pos rfl, Zcq hk]
 · rw [if_neg e, ZbO (fun h => e h.symm)]
theorem ZkA (s : List (List Nat)) (y : List Nat) (b : Nat) : sl (insS s y) b = if b = atE s then y else sl s b := by
 unfold insS
 rcases Zbf s with ⟨h1, _⟩ | ⟨h1, _, _⟩
 · rw [if_pos h1, h1]
   by_cases e : b = s.length
   · rw [if_pos e, e, Zcr]
   · rw [if_neg e]
     rcases Nat.lt_or_ge b s.length with h | h
     · exact ZdI h y
     · rw [Zjp (by rw [List.length_append]; simp only [List.length_cons, List.length_nil]; omega), Zjp h]
 · rw [if_neg (by omega), Zmi h1]
theorem MayH.turn {l':List Lf}(h:MayH l)(t:ZhQ l l' i k y)(hl:∀f∈l',MayL f)(hy:y=[]∨∃r,decH y=some r∧∀a b r',¬(a=i∧b=k)→decH (cellH l a b)=some r'→r'.key≠r.key):MayH l':=by
 obtain⟨_,h2,h3,h4,h5⟩:=Zd7.1 h
 refine Zd7.2 ⟨hl,fun a b hn=>?_,fun a b a' b' r r' hr hr' e=>?_,by rw [t.len];exact h4,by rw [t.len];exact h5⟩
 · by_cases hab:a=i∧b=k
   · rw [hab.1,hab.2,t.here] at hn ⊢
     rcases hy with rfl | ⟨r,hr,_⟩
     · exact absurd rfl hn
     · rw [hr];simp
   · rw [t.other a b hab] at hn ⊢
     exact h2 a b hn
 · by_cases hab:a=i∧b=k
   · by_cases hab':a'=i∧b'=k
     · omega
     · rw [hab.1,hab.2,t.here] at hr
       rw [t.other _ _ hab'] at hr'
       rcases hy with rfl | ⟨q,hq,ho⟩
       · rw [ZbW] at hr;cases hr
       · rw [hq] at hr
         cases hr
         exact absurd e.symm (ho _ _ _ hab' hr')
   · rw [t.other _ _ hab] at hr
     by_cases hab':a'=i∧b'=k
     · rw [hab'.1,hab'.2,t.here] at hr'
       rcases hy with rfl | ⟨q,hq,ho⟩
       · rw [ZbW] at hr';cases hr'
       · rw [hq] at hr'
         cases hr'
         exact absurd e (ho _ _ _ hab hr)
     · rw [t.other _ _ hab'] at hr'
       exact h3 _ _ _ _ _ _ hr hr' e
def roomH (y : List Nat) : List Lf → Nat → Option Nat
  | [], _ => none
  | f :: l, i => if (insA f.slots y).e = 0 then some i else roomH y l (i + 1)
theorem ZaV {y : List Nat} : ∀ {l : List Lf} {i j : Nat}, roomH y l i = some j → i ≤ j ∧ j < i + l.length ∧ (insA (lf l (j - i)).slots y).e = 0 ∧ ∀ m, m < j - i → (insA (lf l m).slots y).e ≠ 0
  | [], _, _, h => by cases h
  | f :: l, i, j, h => by
    unfold roomH at h
    split at h
    · rename_i he
      cases h
      rw [Nat.sub_self]
      exact ⟨Nat.le_refl _, by rw [List.length_cons]; omega, he, fun m hm => absurd hm (Nat.not_lt_zero _)⟩
    · rename_i he
      obtain ⟨h1, h2, h3, h4⟩ := ZaV h
      rw [show j - i = (j - (i + 1)) + 1 by omega]
      refine ⟨by omega, by rw [List.length_cons]; omega, h3, fun m hm => ?_⟩
      match m with
      | 0 => exact he
      | m + 1 => exact h4 m (by omega)
theorem Zbn {y : List Nat} : ∀ {l : List Lf} {i : Nat}, roomH y l i = none ↔ ∀ m, m < l.length → (insA (lf l m).slots y).e ≠ 0
  | [], _ => by simp [roomH]
  | f :: l, i => by
    unfold roomH
    split
    · rename_i he
      constructor
      · intro h; cases h
      · intro h
        exact absurd he (h 0 (by simp))
    · rename_i he
      rw [Zbn]
      constructor
      · intro h m hm
        match m with
        | 0 => exact he
        | m + 1 => exact h m (by simpa using hm)
      · intro h m hm
        exact h (m + 1) (by simpa using hm)
theorem ZgJ {j : Nat} (hj : j < l.length) (h0 : (insA (lf l j).slots y).e = 0) (hn : ∀ m, m < j → (insA (lf l m).slots y).e ≠ 0) : roomH y l 0 = some j := by
 cases h : roomH y l 0 with
 | none => exact absurd h0 (Zbn.1 h j hj)
 | some q =>
  obtain ⟨_, h2, h3, h4⟩ := ZaV h
  simp only [Nat.sub_zero] at h3 h4
  rcases Nat.lt_trichotomy q j with e | e | e
  · exact absurd h3 (hn q e)
  · rw [e]
  · exact absurd h0 (h4 j e)
structure Ph where
  l : List Lf
  b : Int × Int
  e : Int
def putL (f : Lf) (r : Rw) (live : List Int) : Lf := ⟨(joinI f.itl r.wr live).t, (insA f.slots (hpB r)).s⟩
def putH (l : List Lf) (r : Rw) (live : List Int) : Ph :=
  if r.may = false ∨ r.wr = 0 ∨ (findH l r.key).isSome = true then ⟨l, (0, 0), 1⟩
  else match roomH (hpB r) l 0 with
    | none => ⟨l, (0, 0), 7⟩
    | some i => if (joinI (lf l i).itl r.wr live).e = 0 then ⟨l.set i (putL (lf l i) r live), ((i : Int), (insA (lf l i).slots (hpB r)).at_), 0⟩ else ⟨l, (0, 0), (joinI (lf l i).itl r.wr live).e⟩
structure Ah where
  l : List Lf
  e : Int
def layL (f : Lf) (k : Int) (r : Rw) (joins : Bool) (live : List Int) : Lf := ⟨if joins = true then (joinI f.itl r.wr live).t else f.itl, (setA f.slots k (hpB r)).s⟩
def layH (l : List Lf) (b : Int × Int) (r : Rw) (joins : Bool) (live : List Int) : Ah :=
  match getH l b with
  | none => ⟨l, 3⟩
  | some was => if r.may = false ∨ (joins = true ∧ r.wr = 0) ∨ was.key ≠ r.key then ⟨l, 1⟩
    else if joins = true ∧ (joinI (lf l b.1.toNat).itl r.wr live).e ≠ 0 then ⟨l, (joinI (lf l b.1.toNat).itl r.wr live).e⟩
    else ⟨l.set b.1.toNat (layL (lf l b.1.toNat) b.2 r joins live), 0⟩
def dropH (l : List Lf) (b : Int × Int) : Ah :=
  match getH l b with
  | none => ⟨l, 3⟩
  | some _ => ⟨l.set b.1.toNat ⟨(lf l b.1.toNat).itl, (Zcf (lf l b.1.toNat).slots b.2).s⟩, 0⟩
end Go.Proofs.YtdojdcncncgncaaGreat
