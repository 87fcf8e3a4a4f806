/-
  Layer 8, the landed leaf: a list in memory of its own, cut without room behind it.
-/
import Derived.Test.YtgieigpbbkeonaaLgB
namespace Go.Proofs.Ytgieigpbbkeonaa
open Go.RowKit

theorem sz_of {e : TypeId} {zv : Value} {z bytes : Nat} (hi : (Try.prog.info? e).map (fun i => (i.zero, i.size, i.bytes)) = some (some zv, z, bytes)) (w : World) : (sizeOf e).run Try.prog w = .ok z w := by
  obtain ⟨i0, hi, hz0, hz1, hz2⟩ := info_parts hi
  simp [sizeOf, typeInfo, hi, hz1]
/-- A cut of three indexes. -/
theorem cut3_run {S e : TypeId} {z : Nat} (hu : Try.prog.underlying S = some (.slice (Try.prog.elem S))) (he : Try.prog.elem S = e) (hz : ∀ w, (sizeOf e).run Try.prog w = .ok z w) (a : Option Addr) (len cap n : Nat) (hn : n ≤ cap) (w : World) :
    (Instr.sliceAt S (.slice a len cap) none (some (.int .i64 ((n : Nat) : Int))) (some (.int .i64 ((n : Nat) : Int)))).run Try.prog w = .ok (.slice a n n) w := by
  have ea : (if n = 0 then a else a.map (fun x => x.add 0)) = a := by
    split
    · rfl
    · cases a with
      | none => rfl
      | some x => simp [Addr.add]
  rw [run_sliceAt_slice w S _ _ _ _ hu, run_slice_hm w S a len cap hu .i64 .i64 ((n : Nat) : Int) ((n : Nat) : Int) (by omega) (by omega) (by omega), he, hz]
  simp only [Result.andThen, sliced, Int.toNat_natCast, Nat.sub_zero, Nat.zero_mul, ea]
/-- A row that is kept, cut. -/
theorem Own.cut {e : TypeId} {w : World} {s : Sl} {vs : List Value} (h : Own e 1 w s vs) {n : Nat} (hn : n ≤ s.len) : Own e 1 w ⟨s.a, n, n⟩ (vs.take n) := by
  have hl := h.1
  refine ⟨by rw [List.length_take, hl]; show min n (s.len * 1) = n * 1; omega, ?_⟩
  rcases h.2 with ⟨h0, hv⟩ | ⟨g, off, cur, ha, hg, hoc, hlc, hcm, ht⟩
  · subst h0; subst hv
    have : n = 0 := by have : n ≤ 0 := hn; omega
    subst this
    exact .inl ⟨rfl, by simp⟩
  · refine .inr ⟨g, off, cur, ha, hg, ?_, Nat.le_refl _, ?_, ?_⟩
    · show off + n * 1 ≤ cur.size
      omega
    · show n ≤ maxLen
      omega
    · show (cur.toList.drop off).take (n * 1) = _
      rw [← ht, List.take_take]
      congr 1
      omega
section
variable {ops : Array Oper} {rest : List Oper} {o : Oper} {a : Act} {Q : Exit → Act → World → Prop}
theorem wpList_slice3 (w : World) (hgd : o.guard = none) (t : TypeId) (x : Operand) (lo hi mx : Option Operand) (ho : o.op = .slice t x lo hi mx) (v : Value) (hrun : (Instr.sliceAt t (a.eval x) (lo.map a.eval) (hi.map a.eval) (mx.map a.eval)).run Try.prog w = .ok v w) (hK : wpList Try.prog ops Q rest (a.put o.dst v) w) : wpList Try.prog ops Q (o :: rest) a w := by
  refine wpList_val w hgd v w ?_ hK
  have e : execOp a.eval o = (do pure (.value (← Instr.sliceAt t (a.eval x) (lo.map a.eval) (hi.map a.eval) (mx.map a.eval)))) := by
    unfold execOp
    rw [ho]
  rw [e]
  simp [hrun]
/-- append(nil, s...): a row of the call's own. -/
theorem wpList_append_src {S e : TypeId} {zv : Value} {bytes : Nat} (hu : Try.prog.underlying S = some (.slice e)) (hi : (Try.prog.info? e).map (fun i => (i.zero, i.size, i.bytes)) = some (some zv, 1, bytes)) (hzc : zv.cells.size = 1) (hby : bytes ≤ 1000)
    (w : World) (hgd : o.guard = none) (s y : Operand) (ho : o.op = .call { callee := .builtin .append, args := #[s, y], argTypes := #[S, S] }) (hs : a.eval s = .slice none 0 0) (x : Value) (hy : a.eval y = x) (n : Nat) (vs : List Value) (h : Src Try.prog 1 S x n vs w) (hn : n ≤ 1000000)
    (hK : ∀ v' w', Own e 1 w' v' vs → v'.len = n → Below w.heap.size w w' → (∀ k, v'.blk = some k → w.heap.size ≤ k) → wpList Try.prog ops Q rest (a.put o.dst v'.val) w') : wpList Try.prog ops Q (o :: rest) a w := by
  refine wpList_plain hgd fun K hK' => ?_
  obtain ⟨v', w', hrun, ho', hl', hf', hb'⟩ := own_append hu hi hzc hby w Sl.nil [] (Own.nil e 1 w) (fun _ h => by cases h) x n vs h (by show 0 + n ≤ _; omega) o.type
  unfold Sl.val Sl.nil at hrun
  unfold Oper.wp
  simp [execOp, ho, resolve, invoke, builtin, hs, hy, hrun, Result.andThen]
  refine hK' _ _ (hK v' w' ho' (by rw [hl']; show 0 + n = n; omega) (hf'.below (Nat.le_refl _) (fun k hk => by cases hk)) (fun k hk => ?_))
  rcases hb' with e | ⟨e, _⟩
  · rw [e] at hk; cases hk
  · rw [e] at hk; cases hk; exact Nat.le_refl _
end

set_option maxHeartbeats 4000000 in
set_option maxRecDepth 100000 in
theorem cut_int (w : World) (a : Option Addr) (len cap n : Nat) (hn : n ≤ cap) : Calls Try.prog 80 #[.slice a len cap, .int .i64 ((n : Nat) : Int)] w fun e w' => e = .returned (.slice a n n) ∧ w' = w := by
  have HR := hide (cut3_run (S := 22) (e := 3) (by kernel_rfl) (by kernel_rfl) (fun w => sz_of infoIn1 w) a len cap n hn w)
  go_enter Try.func80, Try.ntmps80
  go_wp2_with (refine wpList_slice3 _ rfl 22 (.tmp 5) none (some (.tmp 6)) (some (.tmp 7)) rfl (.slice a n n) HR.out ?_)
  go_ret
  exact ⟨rfl, rfl⟩

set_option maxHeartbeats 4000000 in
set_option maxRecDepth 100000 in
theorem own_int {D : Nat → Prop} (w : World) (v : Sl) (t : List Int) (h : Gi D w v t) : Calls Try.prog 60 #[v.val] w fun e w' => Below w.heap.size w w' ∧ ∃ s : Sl, e = .returned s.val ∧ Own 3 1 w' s (cellsN t) ∧ s.len = v.len ∧ s.cap = v.len ∧ ∀ k, s.blk = some k → w.heap.size ≤ k := by
  have HS := hide (h.src)
  have hbig : v.len ≤ 1000000 := by have := h.big; omega
  clear h
  obtain ⟨va, vl, vc⟩ := v
  unfold Sl.val at *
  simp only at *
  go_enter Try.func60, Try.ntmps60
  go_wp2_with (at_builtin; refine wpList_append_src Try.underlying22 infoIn1 rfl (by decide) _ rfl (.const (.slice none 0 0)) (.tmp 3) rfl rfl (.slice va vl vc) rfl vl _ HS.out hbig ?_)
  intro v1 w1 ho1 hl1 hb1 hk1
  obtain ⟨a1, n1, c1⟩ := v1
  replace hl1 : n1 = vl := hl1
  subst hl1
  have HO1 := hide (ho1.cut (n := n1) (Nat.le_refl _))
  rw [List.take_of_length_le (by have := ho1.1; rw [this]; show n1 * 1 ≤ n1; omega)] at HO1
  have HC := hide (cut_int w1 a1 n1 c1 n1 ho1.lecap)
  have HB1 := hide hb1
  have HK1 := hide hk1
  clear ho1 hb1 hk1 HS
  unfold Sl.val
  simp only
  go_wp2_with fail
  refine HC.out.mono ?_
  rintro e w2 ⟨rfl, hw⟩
  obtain rfl := hw
  go_wp2_with fail
  go_ret
  exact ⟨HB1.out, ⟨a1, n1, n1⟩, rfl, HO1.out, rfl, rfl, HK1.out⟩

set_option maxHeartbeats 4000000 in
set_option maxRecDepth 100000 in
theorem cut_slots (w : World) (a : Option Addr) (len cap n : Nat) (hn : n ≤ cap) : Calls Try.prog 45 #[.slice a len cap, .int .i64 ((n : Nat) : Int)] w fun e w' => e = .returned (.slice a n n) ∧ w' = w := by
  have HR := hide (cut3_run (S := 23) (e := 28) (by kernel_rfl) (by kernel_rfl) (fun w => sz_of infoBs1 w) a len cap n hn w)
  go_enter Try.func45, Try.ntmps45
  go_wp2_with (refine wpList_slice3 _ rfl 23 (.tmp 5) none (some (.tmp 6)) (some (.tmp 7)) rfl (.slice a n n) HR.out ?_)
  go_ret
  exact ⟨rfl, rfl⟩

set_option maxHeartbeats 4000000 in
set_option maxRecDepth 100000 in
theorem own_slots {D : Nat → Prop} (w : World) (v : Sl) (l : List Sb) (h : Gb D w v l) : Calls Try.prog 61 #[v.val] w fun e w' => Below w.heap.size w w' ∧ ∃ s : Sl, e = .returned s.val ∧ Own 28 1 w' s (cellsB l) ∧ s.len = v.len ∧ s.cap = v.len ∧ ∀ k, s.blk = some k → w.heap.size ≤ k := by
  have HS := hide (h.src)
  have hbig : v.len ≤ 1000000 := by have := h.big; omega
  clear h
  obtain ⟨va, vl, vc⟩ := v
  unfold Sl.val at *
  simp only at *
  go_enter Try.func61, Try.ntmps61
  go_wp2_with (at_builtin; refine wpList_append_src Try.underlying23 infoBs1 rfl (by decide) _ rfl (.const (.slice none 0 0)) (.tmp 3) rfl rfl (.slice va vl vc) rfl vl _ HS.out hbig ?_)
  intro v1 w1 ho1 hl1 hb1 hk1
  obtain ⟨a1, n1, c1⟩ := v1
  replace hl1 : n1 = vl := hl1
  subst hl1
  have HO1 := hide (ho1.cut (n := n1) (Nat.le_refl _))
  rw [List.take_of_length_le (by have := ho1.1; rw [this]; show n1 * 1 ≤ n1; omega)] at HO1
  have HC := hide (cut_slots w1 a1 n1 c1 n1 ho1.lecap)
  have HB1 := hide hb1
  have HK1 := hide hk1
  clear ho1 hb1 hk1 HS
  unfold Sl.val
  simp only
  go_wp2_with fail
  refine HC.out.mono ?_
  rintro e w2 ⟨rfl, hw⟩
  obtain rfl := hw
  go_wp2_with fail
  go_ret
  exact ⟨HB1.out, ⟨a1, n1, n1⟩, rfl, HO1.out, rfl, rfl, HK1.out⟩

set_option maxHeartbeats 4000000 in
set_option maxRecDepth 100000 in
theorem cut_bytes (w : World) (a : Option Addr) (len cap n : Nat) (hn : n ≤ cap) : Calls Try.prog 56 #[.slice a len cap, .int .i64 ((n : Nat) : Int)] w fun e w' => e = .returned (.slice a n n) ∧ w' = w := by
  have HR := hide (cut3_run (S := 28) (e := 5) (by kernel_rfl) (by kernel_rfl) (fun w => sz_of info5 w) a len cap n hn w)
  go_enter Try.func56, Try.ntmps56
  go_wp2_with (refine wpList_slice3 _ rfl 28 (.tmp 5) none (some (.tmp 6)) (some (.tmp 7)) rfl (.slice a n n) HR.out ?_)
  go_ret
  exact ⟨rfl, rfl⟩

set_option maxHeartbeats 4000000 in
set_option maxRecDepth 100000 in
theorem own_bytes {D : Nat → Prop} (w : World) (v : Sl) (xs : List Nat) (h : Cm D w v xs) (h0 : v.len ≤ 1000000) : Calls Try.prog 62 #[v.val] w fun e w' => Below w.heap.size w w' ∧ ∃ s : Sl, e = .returned s.val ∧ Own 5 1 w' s (vals xs) ∧ s.len = v.len ∧ s.cap = v.len ∧ ∀ k, s.blk = some k → w.heap.size ≤ k := by
  have HS := hide (h.came.src)
  have hbig : v.len ≤ 1000000 := by have := h0; omega
  clear h
  obtain ⟨va, vl, vc⟩ := v
  unfold Sl.val at *
  simp only at *
  go_enter Try.func62, Try.ntmps62
  go_wp2_with (at_builtin; refine wpList_append_src Try.underlying28 info5 rfl (by decide) _ rfl (.const (.slice none 0 0)) (.tmp 3) rfl rfl (.slice va vl vc) rfl vl _ HS.out hbig ?_)
  intro v1 w1 ho1 hl1 hb1 hk1
  obtain ⟨a1, n1, c1⟩ := v1
  replace hl1 : n1 = vl := hl1
  subst hl1
  have HO1 := hide (ho1.cut (n := n1) (Nat.le_refl _))
  rw [List.take_of_length_le (by have := ho1.1; rw [this]; show n1 * 1 ≤ n1; omega)] at HO1
  have HC := hide (cut_bytes w1 a1 n1 c1 n1 ho1.lecap)
  have HB1 := hide hb1
  have HK1 := hide hk1
  clear ho1 hb1 hk1 HS
  unfold Sl.val
  simp only
  go_wp2_with fail
  refine HC.out.mono ?_
  rintro e w2 ⟨rfl, hw⟩
  obtain rfl := hw
  go_wp2_with fail
  go_ret
  exact ⟨HB1.out, ⟨a1, n1, n1⟩, rfl, HO1.out, rfl, rfl, HK1.out⟩
end Go.Proofs.Ytgieigpbbkeonaa
