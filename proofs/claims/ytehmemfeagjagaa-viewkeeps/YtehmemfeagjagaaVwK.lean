/-
  ViewKeeps without memory: who lives, who has ended, whom the view sees; its rows in memory.
-/
import Derived.Test.YtehmemfeagjagaaVwJ
namespace Go.Proofs.Ytehmemfeagjagaa
open Go.RowKit
set_option maxRecDepth 100000
set_option linter.unusedVariables false

/-- Ahead of the view's making. -/
structure Ahd (nx : Int) (live ended : List Int) : Prop where
  up : Up live
  lo : ∀ x ∈ live, 1 ≤ x ∧ x < nx
  en : ∀ x, x ∈ ended ↔ 1 ≤ x ∧ x < nx ∧ ¬ x ∈ live
theorem Ahd.start : Ahd 1 [] [] := ⟨List.Pairwise.nil, fun x h => (by cases h), fun x => ⟨fun h => (by cases h), fun h => (by omega)⟩⟩
theorem Ahd.begins {nx : Int} {live ended : List Int} (h : Ahd nx live ended) (hn : 1 ≤ nx) : Ahd (nx + 1) (live ++ [nx]) ended := by
  refine ⟨?_, fun x hx => ?_, fun x => ?_⟩
  · refine List.pairwise_append.2 ⟨h.up, List.pairwise_singleton _ _, fun x hx y hy => ?_⟩
    rw [List.mem_singleton.1 hy]
    exact (h.lo x hx).2
  · rcases List.mem_append.1 hx with hx | hx
    · have := h.lo x hx
      omega
    · rw [List.mem_singleton.1 hx]
      omega
  · rw [h.en x]
    constructor
    · rintro ⟨a, b, c⟩
      refine ⟨a, by omega, fun e => ?_⟩
      rcases List.mem_append.1 e with e | e
      · exact c e
      · have := List.mem_singleton.1 e
        omega
    · rintro ⟨a, b, c⟩
      refine ⟨a, ?_, fun e => c (List.mem_append.2 (.inl e))⟩
      have : x ≠ nx := fun e => c (List.mem_append.2 (.inr (List.mem_singleton.2 e)))
      omega
theorem up_cut {l : List Int} (h : Up l) {k : Nat} (hk : k < l.length) : Up (l.take k ++ l.drop (k + 1)) ∧ ∀ x, x ∈ l.take k ++ l.drop (k + 1) ↔ x ∈ l ∧ x ≠ l.getD k 0 := by
  have e : l = l.take k ++ l.getD k 0 :: l.drop (k + 1) := by
    have e1 : l.getD k 0 = l[k] := by simp [List.getD, hk]
    rw [e1, ← List.drop_eq_getElem_cons hk, List.take_append_drop]
  have h2 : Up (l.take k ++ l.getD k 0 :: l.drop (k + 1)) := by rw [← e]; exact h
  obtain ⟨p1, p2, p3⟩ := List.pairwise_append.1 h2
  have p4 := List.pairwise_cons.1 p2
  refine ⟨List.pairwise_append.2 ⟨p1, p4.2, fun x hx y hy => p3 x hx y (List.mem_cons.2 (.inr hy))⟩, fun x => ?_⟩
  have hmem : x ∈ l ↔ x ∈ l.take k ∨ x = l.getD k 0 ∨ x ∈ l.drop (k + 1) := by
    have : x ∈ l ↔ x ∈ l.take k ++ l.getD k 0 :: l.drop (k + 1) := by rw [← e]
    rw [this, List.mem_append, List.mem_cons]
  rw [hmem, List.mem_append]
  constructor
  · rintro (hx | hx)
    · refine ⟨.inl hx, fun e2 => ?_⟩
      have := p3 x hx (l.getD k 0) (List.mem_cons.2 (.inl rfl))
      omega
    · refine ⟨.inr (.inr hx), fun e2 => ?_⟩
      have := p4.1 x hx
      omega
  · rintro ⟨hx | hx | hx, hne⟩
    · exact .inl hx
    · exact absurd hx hne
    · exact .inr hx
theorem Ahd.ends {nx : Int} {live ended : List Int} (h : Ahd nx live ended) {k : Nat} (hk : k < live.length) : Ahd nx (live.take k ++ live.drop (k + 1)) (ended ++ [live.getD k 0]) := by
  obtain ⟨hu, hm⟩ := up_cut h.up hk
  have hl := h.lo _ (mem_getD0 hk)
  refine ⟨hu, fun x hx => h.lo x ((hm x).1 hx).1, fun x => ?_⟩
  rw [List.mem_append, List.mem_singleton, hm x, h.en x]
  constructor
  · rintro (⟨a, b, c⟩ | e)
    · exact ⟨a, b, fun e => c e.1⟩
    · rw [e]
      exact ⟨hl.1, hl.2, fun e2 => e2.2 rfl⟩
  · rintro ⟨a, b, c⟩
    by_cases e : x = live.getD k 0
    · exact .inr e
    · exact .inl ⟨a, b, fun e2 => c ⟨e2, e⟩⟩
/-- What the view sees. -/
def Seen (v : Vw) (seen : List Int) : Prop := 0 < v.next ∧ v.act.length ≤ 100 ∧ ∀ t, 1 ≤ t → seesA v t = seen.contains t
theorem Ahd.made {nx : Int} {live ended : List Int} (h : Ahd nx live ended) (hn : 1 ≤ nx) (hx : nx ≤ 1000) (hl : live.length ≤ 60) : ofV nx (nx + 1) live = some ⟨nx, nx + 1, live⟩ ∧ Seen ⟨nx, nx + 1, live⟩ (nx :: ended) := by
  have ha : actsV nx (nx + 1) live = live := (actsV_is h.up (fun x => ⟨fun hx => ⟨hx, by have := h.lo x hx; omega, by have := h.lo x hx; omega⟩, fun hx => hx.1⟩)).symm
  have hm : MayV ⟨nx, nx + 1, live⟩ := by
    show (0 ≤ nx ∧ nx ≤ 2147483647) ∧ (0 ≤ nx + 1 ∧ nx + 1 ≤ 2147483647) ∧ live.length ≤ 64 ∧ (∀ i, i < live.length → 1 ≤ live.getD i 0 ∧ live.getD i 0 < nx + 1 ∧ live.getD i 0 ≠ nx) ∧ ∀ i, i < live.length → 0 < i → live.getD (i - 1) 0 < live.getD i 0
    refine ⟨by omega, by omega, by omega, fun i hi => ?_, up_iff.1 h.up⟩
    have := h.lo _ (mem_getD0 hi)
    omega
  refine ⟨?_, by show 0 < nx + 1; omega, by show live.length ≤ 100; omega, fun t ht => ?_⟩
  · have := ofV_some (self := nx) (next := nx + 1) (live := live) (fun x hx => (h.lo x hx).1) (by rw [ha]; exact hm)
    rw [ha] at this
    exact this
  · unfold seesA
    rw [decide_eq_true hm, Bool.true_and, Bool.eq_iff_iff]
    have e1 : (nx :: ended).contains t = true ↔ t = nx ∨ t ∈ ended := by simp
    rw [e1, h.en t]
    unfold seesV
    simp only [Bool.or_eq_true, Bool.and_eq_true, beq_iff_eq, decide_eq_true_eq, Bool.not_eq_true', List.contains_eq_mem, decide_eq_false_iff_not]
    constructor
    · rintro (e | ⟨_, e⟩ | ⟨_, e, f⟩)
      · omega
      · exact .inl e
      · by_cases e2 : t = nx
        · exact .inl e2
        · exact .inr ⟨ht, by omega, f⟩
    · rintro (e | ⟨_, e, f⟩)
      · exact .inr (.inl ⟨by omega, e⟩)
      · exact .inr (.inr ⟨by omega, by omega, f⟩)

/-! ### In memory -/
/-- The rows of the law: who lives, who has ended, the view's box and numbers, whom it must see. -/
structure Kr (w wr : World) (g : Nat) (lv en se ac : Sl) (live ended seen : List Int) (v : Vw) : Prop where
  box : VwBlk wr g v ac
  live : OwnN wr lv live
  ended : OwnN wr en ended
  act : Gi (fun k => w.heap.size ≤ k ∧ k ≠ g ∧ lv.blk ≠ some k ∧ en.blk ≠ some k) wr ac v.act
  seen : Gi (fun k => w.heap.size ≤ k ∧ k ≠ g ∧ lv.blk ≠ some k ∧ en.blk ≠ some k) wr se seen
  lv : ∀ k, lv.blk = some k → w.heap.size ≤ k ∧ k ≠ g ∧ en.blk ≠ some k
  en : ∀ k, en.blk = some k → w.heap.size ≤ k ∧ k ≠ g
  gw : w.heap.size ≤ g
  below : Below w.heap.size w wr
theorem Kr.keep {w wr w' : World} {g : Nat} {lv en se ac : Sl} {live ended seen : List Int} {v : Vw} (h : Kr w wr g lv en se ac live ended seen v) (hb : Below wr.heap.size wr w') : Kr w w' g lv en se ac live ended seen v :=
  ⟨h.box.keep hb, Own.frame h.live (fun k hk => hb.block k (Own.lt h.live hk)), Own.frame h.ended (fun k hk => hb.block k (Own.lt h.ended hk)), h.act.below hb (Nat.le_refl _), h.seen.below hb (Nat.le_refl _), h.lv, h.en, h.gw, rBelow h.below hb⟩
/-- What an append to a row of one's own leaves of its block. -/
def Grew (wr w' : World) (s s' : Sl) : Prop := Frm (fun k => s.blk = some k) wr w' ∧ (s'.blk = s.blk ∨ (s'.blk = some wr.heap.size ∧ wr.heap.size < w'.heap.size))
/-- What the other rows' blocks are, behind a new row. -/
theorem Kr.aside {w wr : World} {g : Nat} {lv en se ac : Sl} {live ended seen : List Int} {v : Vw} (h : Kr w wr g lv en se ac live ended seen v) {s s' : Sl} (hs : s'.blk = s.blk ∨ ∃ n, s'.blk = some n ∧ wr.heap.size ≤ n) {k : Nat} (hk : k < wr.heap.size) (h1 : s.blk ≠ some k) : s'.blk ≠ some k := by
  intro e
  rcases hs with e2 | ⟨n, e2, hn⟩
  · exact h1 (e2 ▸ e)
  · rw [e2] at e
    cases e
    omega
theorem Grew.new {wr w' : World} {s s' : Sl} (h : Grew wr w' s s') : s'.blk = s.blk ∨ ∃ n, s'.blk = some n ∧ wr.heap.size ≤ n := by
  rcases h.2 with e | ⟨e, _⟩
  · exact .inl e
  · exact .inr ⟨_, e, Nat.le_refl _⟩
theorem Kr.begins {w wr w' : World} {g : Nat} {lv lv' en se ac : Sl} {live live' ended seen : List Int} {v : Vw} (h : Kr w wr g lv en se ac live ended seen v) (ho : OwnN w' lv' live') (hg : Grew wr w' lv lv') : Kr w w' g lv' en se ac live' ended seen v := by
  have hn := hg.new
  obtain ⟨hf, hb⟩ := hg
  have hsz := h.below.size
  have hgl := h.box.lt
  have hA : ∀ k, (w.heap.size ≤ k ∧ k ≠ g ∧ lv.blk ≠ some k ∧ en.blk ≠ some k) → k < wr.heap.size → (lv.blk ≠ some k ∧ w.heap.size ≤ k ∧ k ≠ g ∧ lv'.blk ≠ some k ∧ en.blk ≠ some k) := fun k hk hl => ⟨hk.2.2.1, hk.1, hk.2.1, h.aside hn hl hk.2.2.1, hk.2.2.2⟩
  refine ⟨h.box.frm hf (fun e => (h.lv g e).2.1 rfl), ho, Own.frame h.ended (fun k hk => hf.block k (Own.lt h.ended hk) (fun e => (h.lv k e).2.2 hk)), ((h.act.mono hA).keep (Kept.frm hf (fun k hk => hk.1))).wide (fun k hk => hk.2), ((h.seen.mono hA).keep (Kept.frm hf (fun k hk => hk.1))).wide (fun k hk => hk.2), fun k hk => ?_, h.en, h.gw, h.below.trans (hf.below hsz (fun k hk => (h.lv k hk).1))⟩
  rcases hn with e | ⟨n, e, hge⟩
  · exact h.lv k (e ▸ hk)
  · rw [e] at hk
    cases hk
    exact ⟨by omega, by omega, fun e2 => by have := Own.lt h.ended e2; omega⟩
theorem Kr.ends {w wr w' : World} {g : Nat} {lv en en' se ac : Sl} {live ended ended' seen : List Int} {v : Vw} (h : Kr w wr g lv en se ac live ended seen v) (ho : OwnN w' en' ended') (hg : Grew wr w' en en') : Kr w w' g lv en' se ac live ended' seen v := by
  have hn := hg.new
  obtain ⟨hf, hb⟩ := hg
  have hsz := h.below.size
  have hgl := h.box.lt
  have hA : ∀ k, (w.heap.size ≤ k ∧ k ≠ g ∧ lv.blk ≠ some k ∧ en.blk ≠ some k) → k < wr.heap.size → (en.blk ≠ some k ∧ w.heap.size ≤ k ∧ k ≠ g ∧ lv.blk ≠ some k ∧ en'.blk ≠ some k) := fun k hk hl => ⟨hk.2.2.2, hk.1, hk.2.1, hk.2.2.1, h.aside hn hl hk.2.2.2⟩
  refine ⟨h.box.frm hf (fun e => (h.en g e).2 rfl), Own.frame h.live (fun k hk => hf.block k (Own.lt h.live hk) (fun e => (h.lv k hk).2.2 e)), ho, ((h.act.mono hA).keep (Kept.frm hf (fun k hk => hk.1))).wide (fun k hk => hk.2), ((h.seen.mono hA).keep (Kept.frm hf (fun k hk => hk.1))).wide (fun k hk => hk.2), fun k hk => ⟨(h.lv k hk).1, (h.lv k hk).2.1, h.aside hn (Own.lt h.live hk) (h.lv k hk).2.2⟩, fun k hk => ?_, h.gw, h.below.trans (hf.below hsz (fun k hk => (h.en k hk).1))⟩
  rcases hn with e | ⟨n, e, hge⟩
  · exact h.en k (e ▸ hk)
  · rw [e] at hk
    cases hk
    exact ⟨by omega, by omega⟩
/-- Who lives, laid anew. -/
theorem Kr.cut {w wr w' : World} {g : Nat} {lv lv' en se ac : Sl} {live live' ended seen : List Int} {v : Vw} (h : Kr w wr g lv en se ac live ended seen v) (ho : Nq wr w' lv' live') : Kr w w' g lv' en se ac live' ended seen v := by
  have hsz := h.below.size
  have hgl := h.box.lt
  have hk := h.keep ho.below
  have hn : ∀ k, k < wr.heap.size → lv'.blk ≠ some k := fun k hl e => by have := ho.home k e; omega
  have hA : ∀ k, (w.heap.size ≤ k ∧ k ≠ g ∧ lv.blk ≠ some k ∧ en.blk ≠ some k) → k < wr.heap.size → (w.heap.size ≤ k ∧ k ≠ g ∧ lv'.blk ≠ some k ∧ en.blk ≠ some k) := fun k hk hl => ⟨hk.1, hk.2.1, hn k hl, hk.2.2.2⟩
  exact ⟨hk.box, ho.own, hk.ended, (h.act.mono hA).below ho.below (Nat.le_refl _), (h.seen.mono hA).below ho.below (Nat.le_refl _), fun k e => ⟨by have := ho.home k e; omega, fun e2 => by have := ho.home k e; omega, fun e2 => by have := ho.home k e; have := Own.lt h.ended e2; omega⟩, h.en, h.gw, hk.below⟩
/-- The view is made. -/
theorem Kr.made {w wr w1 W : World} {g : Nat} {lv en se ac ac' : Sl} {live ended seen : List Int} {v v' : Vw} (h : Kr w wr g lv en se ac live ended seen v) (hb : Below wr.heap.size wr w1) (ha : Gi (fun k => wr.heap.size ≤ k) w1 ac' v'.act) (hx : VwBlk W g v' ac') (hf : Frm (fun k => k = g) w1 W) : Kr w W g lv en se ac' live ended seen v' := by
  have hsz := h.below.size
  have hgl := h.box.lt
  have h1 := h.keep hb
  refine ⟨hx, Own.frame h1.live (fun k hk => hf.block k (Own.lt h1.live hk) (h.lv k hk).2.1), Own.frame h1.ended (fun k hk => hf.block k (Own.lt h1.ended hk) (h.en k hk).2), ?_, h1.seen.keep (Kept.frm hf (fun k hk => hk.2.1)), h.lv, h.en, h.gw, h1.below.trans (hf.below h1.below.size (fun k hk => by rw [hk]; exact h.gw))⟩
  exact (ha.keep (Kept.frm hf (fun k hk e => by omega))).wide (fun k hk => ⟨by omega, by omega, fun e => by have := Own.lt h.live e; omega, fun e => by have := Own.lt h.ended e; omega⟩)
/-- Whom it must see. -/
theorem Kr.seen' {w wr w' : World} {g : Nat} {lv en se se' ac : Sl} {live ended seen seen' : List Int} {v : Vw} (h : Kr w wr g lv en se ac live ended seen v) (ho : Nq wr w' se' seen') (hl : se'.len ≤ 1000000) : Kr w w' g lv en se' ac live ended seen' v := by
  have hsz := h.below.size
  have hgl := h.box.lt
  have hk := h.keep ho.below
  exact ⟨hk.box, hk.live, hk.ended, hk.act, (ho.gi hl).wide (fun k e => ⟨by omega, by omega, fun e2 => by have := Own.lt h.live e2; omega, fun e2 => by have := Own.lt h.ended e2; omega⟩), h.lv, h.en, h.gw, hk.below⟩

/-- An append to a row of one's own, told. -/
theorem own_appN {w : World} {s : Sl} {t : List Int} (h : OwnN w s t) {x : Value} {n : Nat} {u : List Int} (hs : Src Try.prog 1 22 x n (cellsN u) w) (hl : s.len + n ≤ 1000000) :
    ∃ s' w', (∀ ty, (Builtin.append_ #[22, 22] ty #[s.val, x]).run Try.prog w = .ok s'.val w') ∧ OwnN w' s' (t ++ u) ∧ Grew w w' s s' ∧ s'.len = s.len + n := by
  obtain ⟨s', w', hrun, ho, hlen, hf, hbk⟩ := own_append Try.underlying22 infoIn1 rfl (by decide) w s (cellsN t) h (cellsN_one t) x n (cellsN u) hs hl 0
  refine ⟨s', w', fun ty => hrun, ?_, ⟨hf, hbk⟩, hlen⟩
  show Own 3 1 w' s' (cellsN (t ++ u))
  rw [show cellsN (t ++ u) = cellsN t ++ cellsN u by simp [cellsN]]
  exact ho
section
variable {ops : Array Oper} {rest : List Oper} {o : Oper} {a : Act} {Q : Exit → Act → World → Prop}
theorem wpList_app (w : World) (hgd : o.guard = none) (s y : Operand) (ho : o.op = .call { callee := .builtin .append, args := #[s, y], argTypes := #[22, 22] }) (sv yv v : Value) (hs : a.eval s = sv) (hy : a.eval y = yv) (w' : World) (hrun : ∀ ty, (Builtin.append_ #[22, 22] ty #[sv, yv]).run Try.prog w = .ok v w')
    (hK : wpList Try.prog ops Q rest (a.put o.dst v) w') : wpList Try.prog ops Q (o :: rest) a w := by
  refine wpList_plain hgd fun K hK' => ?_
  unfold Oper.wp
  simp [execOp, ho, resolve, invoke, builtin, hs, hy, hrun, Result.andThen]
  exact hK' _ _ hK
end

end Go.Proofs.Ytehmemfeagjagaa
