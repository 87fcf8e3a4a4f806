/-
  Layer 6: a stable sort of a few images; a row with room; two rows one behind the other.
-/
import Derived.Test.YtjgeiooblcpiaaaApC
namespace Go.Proofs.Ytjgeiooblcpiaaa
open Go.RowKit

set_option maxHeartbeats 4000000 in
set_option maxRecDepth 100000 in
theorem stable_any (w : World) (a : Option Addr) (len cap : Nat) (l : List Ix) (h : OwnI w ⟨a, len, cap⟩ l) (hn : len ≤ 19) :
    Calls Try.prog 35 #[.slice a len cap, .int .i64 ((len : Nat) : Int), cmpV] w fun e w' => e = .returned (.tuple #[]) ∧ SortInv w w' ⟨a, len, cap⟩ (Ap.sort Ix.page l) := by
  have HS := hide (isort_any w a len cap l h hn)
  have i1 : ¬ (20 : Int) ≤ ((len : Nat) : Int) := by omega
  have i2 : ¬ (20 : Int) < ((len : Nat) : Int) := by omega
  clear h
  unfold cmpV at HS ⊢
  go_enter Try.func35, Try.ntmps35
  go_wp2_with fail
  refine wp_loop_rounds 1 ?_
  rw [rounds_succ]
  go_wp2_with fail
  refine HS.out.mono ?_
  rintro e w1 ⟨rfl, hs⟩
  have HS1 := hide hs
  clear hs HS
  go_wp2_with fail
  refine wp_loop_rounds 1 ?_
  rw [rounds_succ]
  go_wp2_with fail
  go_end0
  exact ⟨rfl, HS1.out⟩

set_option maxHeartbeats 4000000 in
theorem sortStable_any (w : World) (a : Option Addr) (len cap : Nat) (l : List Ix) (h : OwnI w ⟨a, len, cap⟩ l) (hn : len ≤ 19) :
    Calls Try.prog 29 #[.slice a len cap, cmpV] w fun e w' => e = .returned (.tuple #[]) ∧ SortInv w w' ⟨a, len, cap⟩ (Ap.sort Ix.page l) := by
  have HS := hide (stable_any w a len cap l h hn)
  clear h
  unfold cmpV at HS ⊢
  go_enter Try.func29, Try.ntmps29
  go_wp2_with fail
  refine HS.out.mono ?_
  rintro e w1 ⟨rfl, hs⟩
  go_wp2_with fail
  go_end0
  exact ⟨rfl, hs⟩

theorem zeroI_size (n : Nat) : (Builtin.zeroCells #[.int .i64 0, .slice none 0 0] n).size = n * 2 := by rw [size_zeroCells]; rfl
section
variable {ops : Array Oper} {rest : List Oper} {o : Oper} {a : Act} {Q : Exit → Act → World → Prop}
theorem wpList_app2 (w : World) (hgd : o.guard = none) (t ty : TypeId) (s x : Operand) (ho : o.op = .call { callee := .builtin .append, args := #[s, x], argTypes := #[t, t] }) (hty : o.type = ty) (v : Value) (w' : World) (hrun : (Builtin.append_ #[t, t] ty #[a.eval s, a.eval x]).run Try.prog w = .ok v w') (hK : wpList Try.prog ops Q rest (a.put o.dst v) w') : wpList Try.prog ops Q (o :: rest) a w := by
  refine wpList_plain hgd fun K hK' => ?_
  subst hty
  unfold Oper.wp
  simp [execOp, ho, resolve, invoke, builtin, hrun, Result.andThen]
  exact hK' _ _ hK
theorem wpList_room (w : World) (hgd : o.guard = none) (s x : Operand) (ho : o.op = .call { callee := .builtin .append, args := #[s, x], argTypes := #[25, 3] }) (n : Nat) (h0 : 0 < n) (hn : n ≤ 1000) (hs : a.eval s = .slice none 0 0) (hx : a.eval x = .int .i64 ((n : Nat) : Int))
    (hK : ∀ c w', n ≤ c → OwnI w' ⟨some ⟨w.heap.size, 0, none⟩, 0, c⟩ [] → Below w.heap.size w w' → wpList Try.prog ops Q rest (a.put o.dst (.slice (some ⟨w.heap.size, 0, none⟩) n c)) w') : wpList Try.prog ops Q (o :: rest) a w := by
  refine wpList_plain hgd fun K hK' => ?_
  have hrun := run_append_room w n h0 hn o.type
  have hge := grownCap_ge w n 0 28
  have hcm : grownCap w n 0 28 ≤ maxLen := grownCap_le_maxLen w n 0 28 (by unfold maxLen; omega)
  have h1 := hK (grownCap w n 0 28) _ hge ⟨rfl, .inr ⟨w.heap.size, 0, _, rfl, heap_alloc_new w.drew _, by
    show 0 + grownCap w n 0 28 * 2 ≤ _
    rw [Array.size_append, zeroI_size, zeroI_size]
    omega, Nat.zero_le _, hcm, rfl⟩⟩ (((Below.refl _ w).drew).alloc (Nat.le_refl _) (.cells (Builtin.zeroCells #[.int .i64 0, .slice none 0 0] n ++ Builtin.zeroCells #[.int .i64 0, .slice none 0 0] (grownCap w n 0 28 - n)) 28))
  unfold Oper.wp
  simp [execOp, ho, resolve, invoke, builtin, hs, hx, hrun, Result.andThen]
  exact hK' _ _ h1
end

set_option maxHeartbeats 4000000 in
theorem grow_any (w : World) (n : Nat) (h0 : 0 < n) (hn : n ≤ 1000) :
    Calls Try.prog 34 #[.slice none 0 0, .int .i64 ((n : Nat) : Int)] w fun e w' => ∃ c, e = .returned (.slice (some ⟨w.heap.size, 0, none⟩) 0 c) ∧ OwnI w' ⟨some ⟨w.heap.size, 0, none⟩, 0, c⟩ [] ∧ Below w.heap.size w w' := by
  have i1 : ¬ ((n : Nat) : Int) < 0 := by omega
  have i2 : (0 : Int) < ((n : Nat) : Int) := by omega
  go_enter Try.func34, Try.ntmps34
  go_wp2_with (at_builtin; refine wpList_room _ rfl (.tmp 20) (.tmp 21) rfl n h0 hn rfl rfl ?_)
  intro c w1 hc ho hb
  have HO := hide ho
  have HB := hide hb
  clear ho hb
  go_wp2_with fail
  go_ret
  exact ⟨c, rfl, HO.out, HB.out⟩

/-- append(s, images...). -/
theorem own_ims {D : Nat → Prop} (w : World) (s : Sl) (l : List Ix) (h : OwnI w s l) (v : Sl) (m : List Ix) (hv : Gr D w v m) (hl : s.len + v.len ≤ 1000000) (ty : TypeId) :
    ∃ s' w', (Builtin.append_ #[25, 25] ty #[s.val, v.val]).run Try.prog w = .ok s'.val w' ∧ OwnI w' s' (l ++ m) ∧ s'.len = s.len + v.len ∧ Frm (fun k => s.blk = some k) w w' ∧ (s'.blk = s.blk ∨ ∃ k, s'.blk = some k ∧ w.heap.size ≤ k) := by
  obtain ⟨s', w', hrun, ho, hlen, hf, hbk⟩ := own_append Try.underlying25 infoIm rfl (by decide) w s (cellsI l) h (cellsI_one l) v.val v.len (cellsI m) hv.src hl ty
  refine ⟨s', w', hrun, by unfold OwnI; rw [cellsI_append]; exact ho, hlen, hf, ?_⟩
  rcases hbk with e | ⟨e, _⟩
  · exact .inl e
  · exact .inr ⟨_, e, Nat.le_refl _⟩

def CatSt (w wr : World) (s : Sl) (l : List Ix) : Prop := OwnI wr s l ∧ (∀ k, s.blk = some k → w.heap.size ≤ k) ∧ Below w.heap.size w wr
/-- What two rows one behind the other leave. -/
def CatPost (w : World) (l : List Ix) (e : Ending) (w' : World) : Prop := ∃ s : Sl, e = .returned s.val ∧ OwnI w' s l ∧ s.len = l.length ∧ (∀ k, s.blk = some k → w.heap.size ≤ k) ∧ Below w.heap.size w w'

set_option maxHeartbeats 8000000 in
set_option maxRecDepth 100000 in
theorem concat_any {D E : Nat → Prop} (w : World) (b : Nat) (v1 v2 : Sl) (l1 l2 : List Ix) (c0 : w.cell? ⟨b, 0, none⟩ = some v1.val) (c1 : w.cell? ⟨b, 1, none⟩ = some v2.val) (h1 : Gr D w v1 l1) (h2 : Gr E w v2 l2) (hp : 0 < v1.len + v2.len) (hm : v1.len + v2.len ≤ 1000) :
    Calls Try.prog 28 #[.slice (some ⟨b, 0, none⟩) 2 2] w fun e w' => CatPost w (l1 ++ l2) e w' := by
  obtain ⟨a1, n1, k1⟩ := v1
  obtain ⟨a2, n2, k2⟩ := v2
  replace c0 : w.cell? ⟨b, 0, none⟩ = some (.slice a1 n1 k1) := c0
  replace c1 : w.cell? ⟨b, 1, none⟩ = some (.slice a2 n2 k2) := c1
  replace hp : 0 < n1 + n2 := hp
  replace hm : n1 + n2 ≤ 1000 := hm
  have hl1 : l1.length = n1 := h1.len
  have hl2 : l2.length = n2 := h2.len
  have hbw : b < w.heap.size := World.block_lt_of_cell? w _ c0
  have HG1 := hide h1
  have HG2 := hide h2
  have HC := hide (And.intro c0 c1)
  have hgr := grow_any w (n1 + n2) hp hm
  rw [Int.natCast_add] at hgr
  have HGR := hide hgr
  clear hgr
  have HLL := hide (And.intro hl1 hl2)
  clear h1 h2 hl1 hl2
  go_enter Try.func28, Try.ntmps28
  go_wp2_with fail
  go_loop [3, 11] (fun sz kv => (sz = .int .i64 0 ∧ kv = .int .i64 0) ∨ (sz = .int .i64 ((n1 : Nat) : Int) ∧ kv = .int .i64 1) ∨ (sz = .int .i64 ((n1 + n2 : Nat) : Int) ∧ kv = .int .i64 2)) (fun _ kv => 5 - (intOf kv).toNat)
  case atStart => exact .inl ⟨rfl, rfl⟩
  case round =>
    rcases hrel with ⟨rfl, rfl⟩ | ⟨rfl, rfl⟩ | ⟨rfl, rfl⟩
    · go_wp2_with fail
      go_round
      case rel => exact .inr (.inl ⟨by go_num, rfl⟩)
      case measure => simp only [intOf]; omega
    · have i1 : ¬ ((n1 : Nat) : Int) + ((n2 : Nat) : Int) < 0 := by omega
      go_wp2_with fail
      go_round
      case rel => exact .inr (.inr ⟨by go_num, rfl⟩)
      case measure => simp only [intOf]; omega
    · go_wp2_with fail
      refine HGR.out.mono ?_
      rintro e w3 ⟨c, rfl, ho3, hb3⟩
      have HS3 : Hid (CatSt w w3 ⟨some ⟨w.heap.size, 0, none⟩, 0, c⟩ []) := ⟨ho3, fun k hk => (by cases hk; exact Nat.le_refl _), hb3⟩
      clear ho3 hb3 HGR c0 c1
      go_wp2_with fail
      go_loopw [6, 27] (fun gv kv wr => ∃ s : Sl, gv = s.val ∧ ((kv = .int .i64 0 ∧ Hid (CatSt w wr s [])) ∨ (kv = .int .i64 1 ∧ Hid (CatSt w wr s l1)) ∨ (kv = .int .i64 2 ∧ Hid (CatSt w wr s (l1 ++ l2))))) (fun _ kv _ => 5 - (intOf kv).toNat)
      case atStart => exact ⟨_, rfl, .inl ⟨rfl, HS3⟩⟩
      case round =>
        obtain ⟨⟨sa, sl, sc⟩, rfl, ⟨rfl, hcs⟩ | ⟨rfl, hcs⟩ | ⟨rfl, hcs⟩⟩ := hrel
        · unfold Sl.val
          simp only
          have d0 : wr.cell? ⟨b, 0, none⟩ = some (.slice a1 n1 k1) := (hcs.out.2.2.cell (p := ⟨b, 0, none⟩) hbw).trans HC.out.1
          obtain ⟨s5, w5, hrun5, ho5, hl5, hf5, hb5⟩ := own_ims wr ⟨sa, sl, sc⟩ [] hcs.out.1 ⟨a1, n1, k1⟩ l1 (HG1.out.below hcs.out.2.2 (Nat.le_refl _)) (by have h9 := hcs.out.1.len; have h8 := HLL.out; simp only [List.length_nil] at h9; show sl + n1 ≤ 1000000; have h7 : sl = 0 := h9.symm; omega) 25
          have HRUN := hide hrun5
          have HS5 : Hid (CatSt w w5 s5 l1) := by
            have h9 := hf5.below hcs.out.2.2.size hcs.out.2.1
            refine ⟨ho5, fun k hk => ?_, hcs.out.2.2.trans h9⟩
            rcases hb5 with e | ⟨j, e, hj⟩
            · exact hcs.out.2.1 k (by rw [← e]; exact hk)
            · rw [e] at hk
              cases hk
              exact Nat.le_trans hcs.out.2.2.size hj
          obtain ⟨ta, tl, tc⟩ := s5
          unfold Sl.val at HRUN
          simp only at HRUN
          clear hrun5 ho5 hl5 hf5 hb5 hcs
          go_wp2_with (at_builtin; refine wpList_app2 _ rfl 25 25 (.tmp 31) (.tmp 32) rfl rfl (.slice ta tl tc) w5 HRUN.out ?_)
          go_roundw
          case rel => exact ⟨⟨ta, tl, tc⟩, rfl, .inr (.inl ⟨rfl, HS5⟩)⟩
          case measure => simp only [intOf]; omega
        · unfold Sl.val
          simp only
          have d0 : wr.cell? ⟨b, 1, none⟩ = some (.slice a2 n2 k2) := (hcs.out.2.2.cell (p := ⟨b, 1, none⟩) hbw).trans HC.out.2
          obtain ⟨s5, w5, hrun5, ho5, hl5, hf5, hb5⟩ := own_ims wr ⟨sa, sl, sc⟩ l1 hcs.out.1 ⟨a2, n2, k2⟩ l2 (HG2.out.below hcs.out.2.2 (Nat.le_refl _)) (by have h9 := hcs.out.1.len; have h8 := HLL.out; skip; show sl + n2 ≤ 1000000; have h7 : sl = n1 := (by rw [← h8.1]; exact h9.symm); omega) 25
          have HRUN := hide hrun5
          have HS5 : Hid (CatSt w w5 s5 (l1 ++ l2)) := by
            have h9 := hf5.below hcs.out.2.2.size hcs.out.2.1
            refine ⟨ho5, fun k hk => ?_, hcs.out.2.2.trans h9⟩
            rcases hb5 with e | ⟨j, e, hj⟩
            · exact hcs.out.2.1 k (by rw [← e]; exact hk)
            · rw [e] at hk
              cases hk
              exact Nat.le_trans hcs.out.2.2.size hj
          obtain ⟨ta, tl, tc⟩ := s5
          unfold Sl.val at HRUN
          simp only at HRUN
          clear hrun5 ho5 hl5 hf5 hb5 hcs
          go_wp2_with (at_builtin; refine wpList_app2 _ rfl 25 25 (.tmp 31) (.tmp 32) rfl rfl (.slice ta tl tc) w5 HRUN.out ?_)
          go_roundw
          case rel => exact ⟨⟨ta, tl, tc⟩, rfl, .inr (.inr ⟨rfl, HS5⟩)⟩
          case measure => simp only [intOf]; omega
        · unfold Sl.val
          simp only
          have HF := hide hcs.out.1.len
          go_wp2_with fail
          go_ret
          exact ⟨⟨sa, sl, sc⟩, rfl, hcs.out.1, HF.out.symm, hcs.out.2.1, hcs.out.2.2⟩
end Go.Proofs.Ytjgeiooblcpiaaa
