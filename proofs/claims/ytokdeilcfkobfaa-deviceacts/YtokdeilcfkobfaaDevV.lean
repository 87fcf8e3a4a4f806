/-
  A page that begins with bytes, again and again.
-/
import Derived.Test.YtokdeilcfkobfaaDevT
import Derived.Test.YtokdeilcfkobfaaLdO
namespace Go.Proofs.Ytokdeilcfkobfaa
open Go.RowKit

/-- A page that begins with bytes, again and again. -/
def pageOf (b : List Nat) : List Nat := (List.range 512).map fun i => if b.length = 0 then 0 else b.getD (i % b.length) 0
theorem pageOf_length (b : List Nat) : (pageOf b).length = 512 := by simp [pageOf]
theorem pageOf_get (b : List Nat) (i : Nat) (hi : i < 512) : (pageOf b)[i]? = some (if b.length = 0 then 0 else b.getD (i % b.length) 0) := by
  unfold pageOf
  rw [List.getElem?_map, List.getElem?_range hi]
  rfl
theorem pageOf_bytes (b : List Nat) (h : Bytes b) : Bytes (pageOf b) := by
  intro x hx
  obtain ⟨i, _, rfl⟩ := List.mem_map.1 hx
  split
  · omega
  · exact getD_lt h _
/-- The first so many of them, the rest noughts. -/
def pagePart (b : List Nat) (j : Nat) : List Nat := (pageOf b).take j ++ List.replicate (512 - j) 0
theorem pagePart_set (b : List Nat) (j : Nat) (hj : j < 512) (h0 : b.length ≠ 0) : (pagePart b j).set j (b.getD (j % b.length) 0) = pagePart b (j + 1) := by
  unfold pagePart
  have hl : ((pageOf b).take j).length = j := by rw [List.length_take, pageOf_length]; omega
  have hg := pageOf_get b j hj
  rw [if_neg h0] at hg
  have hlt : j < (pageOf b).length := by rw [pageOf_length]; exact hj
  have e1 : (pageOf b)[j] = b.getD (j % b.length) 0 := by rw [List.getElem?_eq_getElem hlt] at hg; exact Option.some.inj hg
  rw [List.set_append_right _ _ (by omega), hl, Nat.sub_self, show 512 - j = (512 - (j + 1)) + 1 by omega, List.replicate_succ, List.set_cons_zero, List.take_succ_eq_append_getElem hlt, e1, List.append_assoc]
  rfl

set_option maxHeartbeats 4000000 in
set_option maxRecDepth 100000 in
theorem page_any (w : World) (a : Option Addr) (len cap : Nat) (b : List Nat) (hb : Came w a len cap b) : Calls Try.prog 14 #[.slice a len cap] w fun e w' => Below w.heap.size w w' ∧ e = .returned (.slice (some ⟨w.heap.size, 0, none⟩) 512 512) ∧ Came w' (some ⟨w.heap.size, 0, none⟩) 512 512 (pageOf b) := by
  have HM := hide (make_bytes 512 (by omega) w)
  obtain ⟨C, hC⟩ : ∃ C, C = (.cells (vals (List.replicate 512 0)).toArray 5 : Obj) := ⟨_, rfl⟩
  rw [← hC] at HM
  have HB := hide (below_alloc w C)
  have HO : Hid (Owns (w.alloc C) w.heap.size (.slice (some ⟨w.heap.size, 0, none⟩) 512 512) (pagePart b 0)) := by
    rw [hC]
    have := Owns.lit w w.heap.size (List.replicate 512 0) (Nat.le_refl _) (by rw [List.length_replicate]; omega)
    rw [List.length_replicate] at this
    exact this
  have HCM := hide hb
  have hbl := hb.bs.1
  have HBL := hide hbl
  have HPB := hide (pageOf_bytes b hb.bs.2.1)
  have HBIG := hide hb.big
  clear hC hb
  go_enter Try.func14, Try.ntmps14
  go_wp2_with (refine wpList_make _ rfl 30 (.const (.int .i64 512)) (.const (.int .i64 512)) rfl (.int .i64 512) (.int .i64 512) (.slice (some ⟨w.heap.size, 0, none⟩) 512 512) rfl rfl (w.alloc C) HM.out ?_)
  go_loopw [4] (fun i wr => ∃ j : Nat, j ≤ 512 ∧ i = .int .i64 j ∧ Hid (Owns wr w.heap.size (.slice (some ⟨w.heap.size, 0, none⟩) 512 512) (pagePart b j)) ∧ Hid (Below w.heap.size w wr)) (fun i _ => 512 - (intOf i).toNat)
  case atStart => exact ⟨0, by omega, rfl, HO, HB⟩
  case round =>
    obtain ⟨j, hj, rfl, hO, hB⟩ := hrel
    by_cases hgo : j < 512 ∧ 0 < len
    · obtain ⟨hlt, hl0⟩ := hgo
      have i1 : ((j : Nat) : Int) < 512 := by omega
      have i2 : (0 : Int) < ((len : Nat) : Int) := by omega
      have hlen : (pagePart b j).length = 512 := by unfold pagePart; rw [List.length_append, List.length_take, pageOf_length, List.length_replicate]; omega
      have hset := hO.out.set (by rw [hlen]) j (b.getD (j % len) 0)
      have hps := pagePart_set b j hlt (by omega)
      rw [hbl] at hps
      rw [hps] at hset
      have HSET := hide hset
      have hbyt : Bytes (pagePart b j) := by
        intro x hx
        rcases List.mem_append.1 hx with h1 | h1
        · exact HPB.out x (List.mem_of_mem_take h1)
        · rw [(List.mem_replicate.1 h1).2]; omega
      have HBS := hide (hB.out.setCell (p := ⟨w.heap.size, j, none⟩) (Nat.le_refl _) (.int .u8 ((b.getD (j % len) 0 : Nat) : Int)))
      have hbs := (hO.out.row hbyt).2
      have hc0 := hbs.at j (by omega)
      rw [Nat.zero_add] at hc0
      have hfz : wr.frozen? ⟨w.heap.size, j, none⟩ = false := by
        rcases hO.out.2 with ⟨h', _⟩ | ⟨g', cap', cur, h', hbg, hg, hle, hmx, hcs, htk⟩
        · simp at h'
        · simp only [Value.slice.injEq, Option.some.injEq, Addr.mk.injEq, and_true] at h'
          rw [h'.1]
          exact frozen_of_row wr g' _ _ 5 hg
      have hmod : j % len < len := Nat.mod_lt _ hl0
      obtain ⟨bb, oo, ha, hcb⟩ := (HCM.out.bs.keep hB.out (Nat.le_refl _)).2.2 (j % len) hmod
      have hbg2 := HBIG.out
      have i3 : ((j % len : Nat) : Int) < ((len : Nat) : Int) := by omega
      have i4 : ¬ len = 0 := by omega
      subst ha
      obtain ⟨vv, hvv⟩ : ∃ vv, vv = b.getD (j % len) 0 := ⟨_, rfl⟩
      rw [← hvv] at hcb HBS HSET
      clear hset hbs hlen hps hbyt hvv
      go_wp2_with fail
      go_roundw
      case rel => exact ⟨j + 1, by omega, by go_num, HSET, HBS⟩
      case measure => simp only [intOf]; omega
    · have HFIN : Hid (pagePart b j = pageOf b) := by
        show _ = _
        unfold pagePart
        by_cases h5 : j = 512
        · rw [h5, List.take_of_length_le (by rw [pageOf_length]; exact Nat.le_refl _)]; simp
        · have hl0 : len = 0 := by omega
          apply List.ext_getElem?
          intro t
          have hb0 : b.length = 0 := by omega
          by_cases ht : t < 512
          · rw [pageOf_get b t ht, if_pos hb0]
            by_cases htj : t < j
            · rw [List.getElem?_append_left (by rw [List.length_take, pageOf_length]; omega), List.getElem?_take, if_pos htj, pageOf_get b t ht, if_pos hb0]
            · rw [List.getElem?_append_right (by rw [List.length_take, pageOf_length]; omega), List.getElem?_replicate, if_pos (by rw [List.length_take, pageOf_length]; omega)]
          · rw [List.getElem?_eq_none (by rw [List.length_append, List.length_take, pageOf_length, List.length_replicate]; omega), List.getElem?_eq_none (by rw [pageOf_length]; omega)]
      have HEND : Hid (Came wr (some ⟨w.heap.size, 0, none⟩) 512 512 (pageOf b)) := by
        have e1 := hO.out
        rw [HFIN.out] at e1
        have h3 := (e1.row HPB.out).2
        rw [pageOf_length] at h3
        exact ⟨h3, (fun e => by cases e), Nat.le_refl _, by omega⟩
      by_cases h5 : j < 512
      · have hl0 : len = 0 := by omega
        subst hl0
        have i1 : ((j : Nat) : Int) < 512 := by omega
        go_wp2_with fail
        go_ret
        exact ⟨hB.out, rfl, HEND.out⟩
      · obtain rfl : j = 512 := by omega
        go_wp2_with fail
        go_ret
        exact ⟨hB.out, rfl, HEND.out⟩

end Go.Proofs.Ytokdeilcfkobfaa
