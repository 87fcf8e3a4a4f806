/-
  Layer 8: the document's Insert.
-/
import Derived.Test.YtgieigpbbkeonaaLfH
namespace Go.Proofs.Ytgieigpbbkeonaa
open Go.RowKit

theorem atE_is {s : List (List Nat)} {n : Nat} (h : ∀ j, j < n → (sl s j).length ≠ 0) (hn : n = s.length ∨ n < s.length ∧ (sl s n).length = 0) : atE s = n := by
  rcases atE_cases s with ⟨e, hall⟩ | ⟨hlt, h0, hall⟩
  · rcases hn with rfl | ⟨h1, h2⟩
    · exact e
    · exact absurd h2 (hall n h1)
  · rcases Nat.lt_trichotomy (atE s) n with h1 | h1 | h1
    · exact absurd h0 (h _ h1)
    · exact h1
    · rcases hn with rfl | ⟨_, h2⟩
      · omega
      · exact absurd h2 (hall n h1)
/-- append(s, nil). -/
theorem append_nilB (w : World) (v : Sl) (l : List Sb) (h : OwnB w v l) (hl : v.len ≤ 1000) {B : Nat} (hB : B ≤ w.heap.size) (hk : ∀ k, v.blk = some k → B ≤ k) (ty : TypeId) :
    ∃ v' w', (Builtin.append_ #[23, 23] ty #[v.val, .slice (some ⟨w.heap.size, 0, none⟩) 1 1]).run Try.prog (w.alloc (.cells #[.slice none 0 0] 28)) = .ok v'.val w' ∧ OwnB w' v' (l ++ [Sb.zero]) ∧ v'.len = v.len + 1 ∧ Below B w w' ∧ ∀ k, v'.blk = some k → B ≤ k := by
  have hA := below_alloc w (.cells #[.slice none 0 0] 28)
  have h1 : OwnB (w.alloc (.cells #[.slice none 0 0] 28)) v l := Own.frame h (fun k hk' => hA.block k (Own.lt h hk'))
  have hs : Src Try.prog 1 23 (.slice (some ⟨w.heap.size, 0, none⟩) 1 1) 1 (cellsB [Sb.zero]) (w.alloc (.cells #[.slice none 0 0] 28)) := by
    refine Src.ofSlice _ Try.underlying23 _ 1 1 (cellsB [Sb.zero]) rfl (fun j u hj => ?_) (cellsB_one _)
    cases j with
    | zero =>
      have e : Value.slice none 0 0 = u := Option.some.inj hj
      subst e
      have hn := heap_alloc_new w (.cells #[.slice none 0 0] 28)
      rw [Addr.add_lit]
      simp only [World.cell?]
      rw [hn]
      rfl
    | succ j => simp [cellsB] at hj
  obtain ⟨v', w', hrun, ho, hlen, hf, hbk⟩ := own_append Try.underlying23 infoBs1 rfl (by decide) _ v (cellsB l) h1 (cellsB_one l) _ 1 _ hs (by omega) ty
  refine ⟨v', w', hrun, ?_, hlen, (hA.mono hB).trans (hf.below (Nat.le_trans hB hA.size) hk), fun k hk' => ?_⟩
  · have e : cellsB (l ++ [Sb.zero]) = cellsB l ++ cellsB [Sb.zero] := by simp [cellsB]
    unfold OwnB
    rw [e]
    exact ho
  · rcases hbk with e | ⟨e, _⟩
    · rw [e] at hk'
      exact hk k hk'
    · rw [e] at hk'
      cases hk'
      exact Nat.le_trans hB hA.size
section
variable {ops : Array Oper} {rest : List Oper} {o : Oper} {a : Act} {Q : Exit → Act → World → Prop}
theorem wpList_append_nilB (w : World) (hgd : o.guard = none) (s y : Operand) (ho : o.op = .call { callee := .builtin .append, args := #[s, y], argTypes := #[23, 23] }) (v : Sl) (l : List Sb) (hs : a.eval s = v.val) (hy : a.eval y = .slice (some ⟨w.heap.size, 0, none⟩) 1 1) (h : OwnB w v l) (hl : v.len ≤ 1000) (B : Nat) (hB : B ≤ w.heap.size) (hk : ∀ k, v.blk = some k → B ≤ k)
    (hK : ∀ v' w', OwnB w' v' (l ++ [Sb.zero]) → v'.len = v.len + 1 → Below B w w' → (∀ k, v'.blk = some k → B ≤ k) → wpList Try.prog ops Q rest (a.put o.dst v'.val) w') : wpList Try.prog ops Q (o :: rest) a (w.alloc (.cells #[.slice none 0 0] 28)) := by
  refine wpList_plain hgd fun K hK' => ?_
  obtain ⟨v', w', hrun, r1, r2, r3, r4⟩ := append_nilB w v l h hl hB hk o.type
  unfold Oper.wp
  simp [execOp, ho, resolve, invoke, builtin, hs, hy, hrun, Result.andThen]
  exact hK' _ _ (hK v' w' r1 r2 r3 r4)
end
/-- A slot laid into a row of the call's own whose slots came in. -/
theorem Tb.mine2 {D : Nat → Prop} {w w1 w2 : World} {u v : Sl} {l l3 : List Sb} (t : Tb D w w1 u v l) (h3 : ∀ y ∈ l3, Cm D w y.s y.bs ∧ y.bs.length ≤ 1000) (hb : Below w1.heap.size w1 w2) {b o len cap : Nat} (ho : OwnB w2 ⟨some ⟨b, o, none⟩, len, cap⟩ l3) (hw : w1.heap.size ≤ b) (hl : len ≤ 1000) (k : Nat) (hk : k < len) (x : Sb) (hx : Cm D w x.s x.bs) (hx2 : x.bs.length ≤ 1000) : ∃ W, (Instr.storeAt 28 (.pointer (some ⟨b, o + k, none⟩)) x.s.val).run Try.prog w2 = .ok () W ∧ Tb D w W u v l ∧ Gb (New D w) W ⟨some ⟨b, o, none⟩, len, cap⟩ (l3.set k x) := by
  obtain ⟨W, hst, o2, f⟩ := st_slot w2 b o len cap l3 ho k hk x
  have hb2 : Below w1.heap.size w1 W := hb.trans (f.below hb.size (fun k hk => by rw [hk]; exact hw))
  have t2 := t.below hb2
  have hK : Kept (New D w) w W := Kept.all t2.e (Nat.le_refl _)
  refine ⟨W, hst, t2, o2.gb (fun y hy => ?_) (fun k hk => ?_) hl⟩
  · rcases List.mem_or_eq_of_mem_set hy with h | rfl
    · exact ⟨((h3 y h).1.mono (fun _ hk hl => .inl ⟨hk, hl⟩)).keep hK, (h3 y h).2⟩
    · exact ⟨(hx.mono (fun _ hk hl => .inl ⟨hk, hl⟩)).keep hK, hx2⟩
  · have e : some b = some k := hk
    cases e
    exact .inr (Nat.le_trans t.sz hw)
/-- What Insert tells: the slots, which one, the code. -/
structure An3 where
  s : List (List Nat)
  at_ : Int
  e : Int
def insA (s : List (List Nat)) (r : List Nat) : An3 :=
  if r.length < 1 ∨ 255 < r.length then ⟨s, -1, 1⟩ else if 64 < (insS s r).length ∨ 508 < need (insS s r) then ⟨s, -1, 7⟩ else ⟨insS s r, ((atE s : Nat) : Int), 0⟩
def An3Is (D : Nat → Prop) (w : World) (u : Sl) (x : An3) (e : Ending) (w' : World) : Prop := Below w.heap.size w w' ∧ ∃ (v' : Sl) (l' : List Sb), e = .returned (.tuple #[lfV u v', .int .i64 x.at_, .int .i64 x.e]) ∧ Gb (Old D w) w' v' l' ∧ bss l' = x.s
theorem lf_results2 {fn : Func} {x y z : Nat} (hr : fn.results = #[.cell x 25, .tmp y, .tmp z]) {W : World} {g : Nat} {u v : Sl} (k : LfBlk W g u.val v.val) (tmps : Array Value) (ht : tmps.getD x undef = .pointer (some ⟨g, 0, none⟩)) {p q : Value} (hy : tmps.getD y undef = p) (hz : tmps.getD z undef = q) : (results fn tmps).run Try.prog W = .ok (.tuple #[lfV u v, p, q]) W := by
  have c0 := k.c0
  have c1 := k.c1
  unfold lfV Sl.val at *
  have ht2 : tmps[x]?.getD undef = .pointer (some ⟨g, 0, none⟩) := by simpa using ht
  have hy2 : tmps[y]?.getD undef = p := by simpa using hy
  have hz2 : tmps[z]?.getD undef = q := by simpa using hz
  simp [results, hr, ht2, hy2, hz2, go_sem, c0, c1]

end Go.Proofs.Ytgieigpbbkeonaa
