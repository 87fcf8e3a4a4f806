/-
  Layer 7: pages that come by turns.
-/
import Derived.Test.YtfdfpdioelfjdaaCkO
namespace Go.Proofs.Ytfdfpdioelfjdaa
open Go.RowKit

theorem goR_start (n : Nat) (h1 : 1 ≤ n) (h12 : n ≤ 12) : goR n (255 - 0) 0 (List.replicate n Sp.none) 0 = true := by
  have := List.all_eq_true.1 rounds_pure (n - 1) (List.mem_range.2 (by omega))
  rwa [show n - 1 + 1 = n by omega] at this
theorem goR_step {n i : Nat} {l : List Sp} {h : Int} (hi : i < 255) (hg : goR n (255 - i) i l h = true) : may l h = true ∧ (touch l h ((i % (n + 1) : Nat) : Int)).e = 0 ∧ (touch l h ((i % (n + 1) : Nat) : Int)).was = want n i ∧ goR n (255 - (i + 1)) (i + 1) (touch l h ((i % (n + 1) : Nat) : Int)).l (touch l h ((i % (n + 1) : Nat) : Int)).h = true := by
  rw [show 255 - i = 255 - (i + 1) + 1 by omega, goR] at hg
  simp only [Bool.and_eq_true, beq_iff_eq] at hg
  exact hg
theorem want_low {n i : Nat} (h : i < n) : want n i = -1 := if_neg (by omega)
theorem want_high (n d : Nat) : want n (n + d) = (((n : Nat) : Int) + ((d : Nat) : Int) - ((n : Nat) : Int)) % (((n : Nat) : Int) + 1) := by
  unfold want
  rw [if_pos (by omega), Nat.add_sub_cancel_left, show ((n : Nat) : Int) + ((d : Nat) : Int) - ((n : Nat) : Int) = ((d : Nat) : Int) by omega]
  simp
/-- The law's clock becomes what was told. -/
theorem Nb.move {w wr w' : World} {g g1 : Nat} {s s1 : Sl} {h h1 : Int} {l l1 : List Sp} (x : Lb w wr g s h l) (n : Nb wr w' g1 s1 h1 l1) : ∃ W, (Instr.storeAt 24 (.pointer (some ⟨g, 0, none⟩)) (ckV s1 h1)).run Try.prog w' = .ok () W ∧ Lb w W g s1 h1 l1 := by
  have x1 := x.below n.e
  have hlt := x.k.lt
  refine ⟨_, store_ck g s1 h1 w' x1.k, ⟨x1.k.set s1.val h1, ?_, Below.more x1.e (setCk_frm w' g s1.val h1) x1.e.size x.le, x.le⟩⟩
  exact ((n.sp.mono (fun k hk _ => hk.1)).off (setCk_frm w' g s1.val h1) hlt).mono (fun k hk _ => (by omega : k ≠ g))

set_option maxHeartbeats 8000000 in
set_option maxRecDepth 100000 in
theorem rounds_walk (f rr : Nat) (hf : f ≤ 255) (hrr : rr ≤ 255) (w : World) : Calls Try.prog 6 #[.int .u8 ((f : Nat) : Int), .int .u8 ((rr : Nat) : Int)] w fun e w' => e = .returned (.bool true) ∧ Below w.heap.size w w' := by
  obtain ⟨k, hk⟩ : ∃ k, k = f % 12 := ⟨_, rfl⟩
  have hk12 : k < 12 := by omega
  have HA := hide awake_any
  obtain ⟨n, hn⟩ : ∃ n, n = k + 1 := ⟨_, rfl⟩
  have hn1 : 1 ≤ n := by omega
  have hn12 : n ≤ 12 := by omega
  have HN := hide (new_ok n hn1 (by omega) w)
  have HG0 := hide (goR_start n hn1 hn12)
  have HNK : Hid ((1 : Int) + ((k : Nat) : Int) = ((n : Nat) : Int)) := by show _ = _; omega
  have hcv : ∀ w : World, (convert 5 3 (.int .u8 (((f : Nat) : Int) % 12))).run Try.prog w = .ok (.int .i64 ((k : Nat) : Int)) w := by
    intro w
    have e1 : ((f : Nat) : Int) % 12 = ((k : Nat) : Int) := by omega
    have e2 : IntKind.i64.wrap ((k : Nat) : Int) = ((k : Nat) : Int) := by rw [IntKind.wrap_i64]; omega
    simp [go_sem, e1, e2]
  have hcr : ∀ w : World, (convert 5 3 (.int .u8 ((rr : Nat) : Int))).run Try.prog w = .ok (.int .i64 ((rr : Nat) : Int)) w := by
    intro w
    have e2 : IntKind.i64.wrap ((rr : Nat) : Int) = ((rr : Nat) : Int) := by rw [IntKind.wrap_i64]; omega
    simp [go_sem, e2]
  clear hk hn
  go_enter Try.func6, Try.ntmps6
  go_wp2_with fail
  rw [HNK.out]
  clear HNK hcv
  refine HN.out.mono ?_
  rintro e w1 ⟨hb1, s1, rfl, hg1⟩
  have HL0 := hide (Lb.start (h := 0) hb1 hg1)
  obtain ⟨a1, l1, p1⟩ := s1
  clear hb1 hg1 HN
  unfold ckV Sl.val at *
  simp only at *
  go_wp2_with fail
  generalize w1.alloc (.cells #[.slice a1 l1 p1, .int .i64 0] 24) = V1 at *
  go_loopw [8] (fun iv wr => ∃ i : Nat, i ≤ rr ∧ iv = .int .i64 (i : Nat) ∧ ∃ s h l, Hid (goR n (255 - i) i l h = true) ∧ Hid (Lb w wr w1.heap.size s h l)) (fun iv _ => rr - (intOf iv).toNat)
  case atStart => exact ⟨0, Nat.zero_le _, rfl, _, _, _, HG0, HL0⟩
  case round =>
    obtain ⟨i, hi, rfl, s, h, l, hgo, hlb⟩ := hrel
    rcases Nat.lt_or_ge i rr with hlt | hge
    · have i1 : ((i : Nat) : Int) < ((rr : Nat) : Int) := by omega
      obtain ⟨hm, he, hw, hgn⟩ := goR_step (by omega) hgo.out
      have HT : Hid (∀ W, Below wr.heap.size wr W → Calls Try.prog 8 #[ckV s h, .int .i64 ((i % (n + 1) : Nat) : Int)] W fun e w' => Below W.heap.size W w' ∧ ∃ s' : Sl, e = .returned (.tuple #[ckV s' (touch l h ((i % (n + 1) : Nat) : Int)).h, .int .i64 (touch l h ((i % (n + 1) : Nat) : Int)).at_, .int .i64 (touch l h ((i % (n + 1) : Nat) : Int)).was, .int .i64 (touch l h ((i % (n + 1) : Nat) : Int)).e]) ∧ Gs (fun k => W.heap.size ≤ k) w' s' (touch l h ((i % (n + 1) : Nat) : Int)).l) :=
        fun W hW => touch_any W s h l (hlb.out.sp.below hW (Nat.le_refl _)) _ hm
      generalize touch l h ((i % (n + 1) : Nat) : Int) = t at *
      have HGN := hide hgn
      have HW := hide hw
      have HE := hide he
      clear hgo hm hgn hw he
      go_wp2_with fail
      refine Pl.region_is (ops := Pl.find 8 ((Try.f6.body).getD .skip)) (by kernel_rfl) ?_
      refine rounds8 _ w1.heap.size n i s h t (by omega) hlb.out.k HT.out (by rfl) rfl (by rfl) (by rfl) (by rfl) ?_
      intro u w2 g1 s1 hnb
      simp only [Act.put, List.setIfInBounds_toArray, List.set_cons_zero, List.set_cons_succ]
      obtain ⟨V2, hst, hlb2⟩ := Nb.move hlb.out hnb
      obtain ⟨a2, l2, p2⟩ := s1
      have c0 := hnb.k.c0
      have c1 := hnb.k.c1
      have HST := hide hst
      have HLB2 := hide hlb2
      obtain ⟨tl, th, ta, tw, te⟩ := t
      replace HE : te = 0 := HE.out
      subst HE
      clear hnb hst hlb2 HT
      unfold ckV Sl.val at *
      simp only at *
      rcases Nat.lt_or_ge i n with hin | hin
      · have i2 : ¬ ((n : Nat) : Int) ≤ ((i : Nat) : Int) := by omega
        have e : tw = -1 := HW.out.trans (want_low hin)
        subst e
        clear HW
        go_wp2_with (refine wpList_store _ rfl rfl 24 (.tmp 6) (.tmp 58) rfl (.pointer (some ⟨w1.heap.size, 0, none⟩)) (.agg #[.slice a2 l2 p2, .int .i64 th]) rfl rfl V2 HST.out ?_)
        go_roundw
        case rel => exact ⟨i + 1, by omega, by go_num, _, _, _, HGN, HLB2⟩
        case measure => simp only [intOf]; omega
      · obtain ⟨d, rfl⟩ : ∃ d, i = n + d := ⟨i - n, by omega⟩
        have i2 : ((n : Nat) : Int) ≤ ((n + d : Nat) : Int) := by omega
        have e : tw = (((n : Nat) : Int) + ((d : Nat) : Int) - ((n : Nat) : Int)) % (((n : Nat) : Int) + 1) := HW.out.trans (want_high n d)
        subst e
        clear HW
        go_wp2_with (refine wpList_store _ rfl rfl 24 (.tmp 6) (.tmp 58) rfl (.pointer (some ⟨w1.heap.size, 0, none⟩)) (.agg #[.slice a2 l2 p2, .int .i64 th]) rfl rfl V2 HST.out ?_)
        go_roundw
        case rel => exact ⟨n + d + 1, by omega, by go_num, _, _, _, HGN, HLB2⟩
        case measure => simp only [intOf]; omega
    · have i1 : ¬ ((i : Nat) : Int) < ((rr : Nat) : Int) := by omega
      go_wp2_with fail
      refine (HA.out _).mono ?_
      rintro e w2 ⟨rfl, hb2⟩
      have HB2 := hide (rBelow hlb.out.e hb2)
      clear hb2
      go_wp2_with fail
      go_ret
      exact ⟨rfl, HB2.out⟩
end Go.Proofs.Ytfdfpdioelfjdaa
