/-
  The landed device: Write where it may not be; a page of one byte; awake.
-/
import Derived.Test.YtokdeilcfkobfaaLdL
namespace Go.Proofs.Ytokdeilcfkobfaa
open Go.RowKit

set_option maxHeartbeats 2000000 in
theorem write_none (w : World) (p : Nat) (D : Ds) (L : Dl) (h : DevM w p D L) (n : Nat) (hn : D.sp.length = 512 * n) (hn2 : n ≤ 64) (k : Int) (hk : ¬ (0 ≤ k ∧ k < ((n : Nat) : Int))) (v : Value) : Calls Try.prog 13 #[at0 p, .int .i64 k, v] w fun e w' => e = .returned (.int .i64 3) ∧ w' = w := by
  have HG := hide (has_any w p D L h n hn hn2 k)
  rw [decide_eq_false hk] at HG
  clear h hn hk
  unfold at0 at *
  go_enter Try.func13, Try.ntmps13
  go_wp2_with fail
  refine HG.out.mono ?_
  rintro e w' ⟨rfl, hw⟩
  obtain rfl := hw.symm
  go_wp2_with fail
  go_ret
  exact ⟨rfl, rfl⟩

set_option maxHeartbeats 2000000 in
theorem write_arg (w : World) (p : Nat) (D : Ds) (L : Dl) (h : DevM w p D L) (n : Nat) (hn : D.sp.length = 512 * n) (hn2 : n ≤ 64) (k : Int) (hk : 0 ≤ k ∧ k < ((n : Nat) : Int)) (a : Option Addr) (len cap : Nat) (hl : len ≠ 512) : Calls Try.prog 13 #[at0 p, .int .i64 k, .slice a len cap] w fun e w' => e = .returned (.int .i64 1) ∧ w' = w := by
  have HG := hide (has_any w p D L h n hn hn2 k)
  rw [decide_eq_true hk] at HG
  have h1 : ¬ ((len : Nat) : Int) = 512 := by omega
  have h2 : ¬ len = 512 := hl
  clear h hn hk hl
  unfold at0 at *
  go_enter Try.func13, Try.ntmps13
  go_wp2_with fail
  refine HG.out.mono ?_
  rintro e w' ⟨rfl, hw⟩
  obtain rfl := hw.symm
  go_wp2_with fail
  go_ret
  exact ⟨rfl, rfl⟩

theorem wpList_make {ops : Array Oper} {rest : List Oper} {o : Oper} {a : Act} {Q : Exit → Act → World → Prop} (w : World) (hgd : o.guard = none) (t : TypeId) (x y : Operand) (ho : o.op = .makeSlice t x y) (u u' v : Value) (hu : a.eval x = u) (hu' : a.eval y = u') (w' : World) (hrun : (Instr.makeSlice t u u').run Try.prog w = .ok v w') (hK : wpList Try.prog ops Q rest (a.put o.dst v) w') : wpList Try.prog ops Q (o :: rest) a w := by
  refine wpList_val w hgd v w' ?_ hK
  have e : execOp a.eval o = (do pure (.value (← Instr.makeSlice t (a.eval x) (a.eval y)))) := by
    unfold execOp
    rw [ho]
  rw [e, hu, hu']
  simp [hrun]

theorem rep_set (c i N : Nat) (hi : i < N) : (List.replicate i c ++ List.replicate (N - i) 0).set i c = List.replicate (i + 1) c ++ List.replicate (N - (i + 1)) 0 := by
  rw [List.set_append_right _ _ (by simp), List.length_replicate, Nat.sub_self, show N - i = (N - (i + 1)) + 1 by omega, List.replicate_succ, List.set_cons_zero, List.replicate_succ', List.append_assoc]
  rfl

set_option maxHeartbeats 2000000 in
set_option maxRecDepth 100000 in
theorem full_any (w : World) (c : Nat) (hc : c < 256) : Calls Try.prog 28 #[.int .u8 (c : Nat)] w fun e w' => Below w.heap.size w w' ∧ e = .returned (.slice (some ⟨w.heap.size, 0, none⟩) 512 512) ∧ Came w' (some ⟨w.heap.size, 0, none⟩) 512 512 (List.replicate 512 c) := by
  have HM := hide (make_bytes 512 (by omega) w)
  obtain ⟨C, hC⟩ : ∃ C, C = (.cells (vals (List.replicate 512 0)).toArray 5 : Obj) := ⟨_, rfl⟩
  rw [← hC] at HM
  have HB := hide (below_alloc w C)
  have HO : Hid (Owns (w.alloc C) w.heap.size (.slice (some ⟨w.heap.size, 0, none⟩) 512 512) (List.replicate 0 c ++ List.replicate (512 - 0) 0)) := by
    rw [hC]
    have := Owns.lit w w.heap.size (List.replicate 512 0) (Nat.le_refl _) (by rw [List.length_replicate]; omega)
    rw [List.length_replicate] at this
    exact this
  have HC := hide hc
  clear hC hc
  go_enter Try.func28, Try.ntmps28
  go_wp2_with (refine wpList_make _ rfl 30 (.const (.int .i64 512)) (.const (.int .i64 512)) rfl (.int .i64 512) (.int .i64 512) (.slice (some ⟨w.heap.size, 0, none⟩) 512 512) rfl rfl (w.alloc C) HM.out ?_)
  go_loopw [4] (fun i wr => ∃ j : Nat, j ≤ 512 ∧ i = .int .i64 j ∧ Hid (Owns wr w.heap.size (.slice (some ⟨w.heap.size, 0, none⟩) 512 512) (List.replicate j c ++ List.replicate (512 - j) 0)) ∧ Hid (Below w.heap.size w wr)) (fun i _ => 512 - (intOf i).toNat)
  case atStart => exact ⟨0, by omega, rfl, HO, HB⟩
  case round =>
    obtain ⟨j, hj, rfl, hO, hB⟩ := hrel
    rcases Nat.lt_or_ge j 512 with hlt | hge
    · have i1 : ((j : Nat) : Int) < 512 := by omega
      have hlen : (List.replicate j c ++ List.replicate (512 - j) 0).length = 512 := by simp; omega
      have hset := hO.out.set (by rw [hlen]) j c
      rw [rep_set c j 512 hlt] at hset
      have HSET := hide hset
      have HBS := hide (hB.out.setCell (p := ⟨w.heap.size, j, none⟩) (Nat.le_refl _) (.int .u8 ((c : Nat) : Int)))
      have hbs := (hO.out.row (fun x hx => by
        rcases List.mem_append.1 hx with h1 | h1
        · rw [(List.mem_replicate.1 h1).2]; exact HC.out
        · rw [(List.mem_replicate.1 h1).2]; omega)).2
      have hc0 := hbs.at j (by omega)
      rw [Nat.zero_add] at hc0
      have hfz : wr.frozen? ⟨w.heap.size, j, none⟩ = false := by
        rcases hO.out.2 with ⟨h', _⟩ | ⟨g', cap', cur, h', hbg, hg, hle, hmx, hcs, htk⟩
        · simp at h'
        · simp only [Value.slice.injEq, Option.some.injEq, Addr.mk.injEq, and_true] at h'
          rw [h'.1]
          exact frozen_of_row wr g' _ _ 5 hg
      clear hset hbs hlen
      go_wp2_with fail
      go_roundw
      case rel => exact ⟨j + 1, by omega, by go_num, HSET, HBS⟩
      case measure => simp only [intOf]; omega
    · obtain rfl : j = 512 := by omega
      go_wp2_with fail
      go_ret
      have e1 := hO.out
      have e2 : List.replicate 512 c ++ List.replicate (512 - 512) 0 = List.replicate 512 c := by simp
      rw [e2] at e1
      have hb : Bytes (List.replicate 512 c) := fun x hx => by rw [(List.mem_replicate.1 hx).2]; exact HC.out
      have h3 := (e1.row hb).2
      rw [List.length_replicate] at h3
      exact ⟨hB.out, rfl, h3, (fun e => by cases e), Nat.le_refl _, by omega⟩

end Go.Proofs.Ytokdeilcfkobfaa
