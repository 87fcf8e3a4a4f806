/-
  Layer 8: the law LeafDecodes.
-/
import Derived.Test.YtgieigpbbkeonaaLgZ
namespace Go.Proofs.Ytgieigpbbkeonaa
open Go.ChangeShapes Go.WideShapes Go.ChangeAt Go.RowKit

theorem DcSays.one (xs : List Nat) : ∃ (t : List Int) (s : List (List Nat)) (c : Int), ∀ w e w', DcSays w xs e w' → Told w t s (mk2 c) e w' := by
  cases hn : nul xs with
  | true =>
    refine ⟨[0, 0, 0, 0], [], 0, fun w e w' h => ?_⟩
    rcases h with h | h | h
    · exact h.2
    · rw [hn] at h; cases h.1
    · rw [hn] at h; cases h.1
  | false =>
    by_cases hs : Sealed xs
    · by_cases hg : ∃ t s, Got (xs.drop 4) t s
      · obtain ⟨t, s, hg⟩ := hg
        refine ⟨t, s, 0, fun w e w' h => ?_⟩
        rcases h with h | h | ⟨_, _, ⟨t', s', hg', ht⟩ | ⟨hno, _⟩⟩
        · rw [hn] at h; cases h.1
        · exact absurd hs h.2.1
        · obtain ⟨rfl, rfl⟩ := hg'.one hg
          exact ht
        · exact absurd ⟨t, s, hg⟩ hno
      · refine ⟨[], [], 4, fun w e w' h => ?_⟩
        rcases h with h | h | ⟨_, _, ⟨t', s', hg', ht⟩ | ⟨hno, ht⟩⟩
        · rw [hn] at h; cases h.1
        · exact absurd hs h.2.1
        · exact absurd ⟨t', s', hg'⟩ hg
        · exact ht
    · refine ⟨[], [], 5, fun w e w' h => ?_⟩
      rcases h with h | h | h
      · rw [hn] at h; cases h.1
      · exact h.2.2
      · exact absurd h.2.1 hs
theorem decodes_both (bl : Nat) (xs : List Nat) : ∃ (t : List Int) (s : List (List Nat)) (c : Int), (∀ W a cap, Came W a bl cap xs → Calls Try.prog 14 #[.slice a bl cap] W fun e w' => Told W t s (mk2 c) e w') ∧ (∀ W a cap, Came W a bl cap xs → Calls Try.prog 18 #[.slice a bl cap] W fun e w' => Told W t s (mk2 c) e w') := by
  by_cases h : bl = 512
  · subst h
    obtain ⟨t, s, c, h1⟩ := DcSays.one xs
    exact ⟨t, s, c, fun W a cap hc => (decode_says W a cap xs hc).mono (fun e w' h => h1 W e w' h), fun W a cap hc => (rdecode_says W a cap xs hc).mono (fun e w' h => h1 W e w' h)⟩
  · exact ⟨[], [], 1, fun W a cap _ => decode_arg W a bl cap h, fun W a cap _ => rdecode_arg W a bl cap h⟩
theorem box_new8 (w2 : World) (u v : Sl) : ∃ W3, (Instr.storeAt 25 (.pointer (some ⟨w2.heap.size, 0, none⟩)) (lfV u v)).run Try.prog (w2.alloc (.cells #[.slice none 0 0, .slice none 0 0] 25)) = .ok () W3 ∧ LfBlk W3 w2.heap.size u.val v.val ∧ Below w2.heap.size w2 W3 := by
  have hA := below_alloc w2 (.cells #[.slice none 0 0, .slice none 0 0] 25)
  obtain ⟨W3, hst, k3, f⟩ := st_lf _ _ _ _ (lfBlk_new w2 (.slice none 0 0) (.slice none 0 0)) u v
  exact ⟨W3, hst, k3, hA.trans (f.below hA.size (fun k hk => by omega))⟩

set_option maxHeartbeats 8000000 in
set_option maxRecDepth 100000 in
theorem decodes_walk (w : World) (ba : Option Addr) (bl bc : Nat) (bs : List Nat) (hB : Came w ba bl bc bs) :
    Calls Try.prog 4 #[.slice ba bl bc] w fun e w' => e = .returned (.bool true) ∧ Below w.heap.size w w' := by
  have HW := hide awake_any
  have hbig := hB.big
  by_cases h2000 : 2000 < bl
  · have j1 : (2000 : Int) < ((bl : Nat) : Int) := by omega
    clear hB
    go_enter Try.func4, Try.ntmps4
    go_wp2_with fail
    refine (HW.out w).mono ?_
    rintro e w2 ⟨rfl, hb2⟩
    have HB2 := hide hb2
    clear hb2
    go_wp2_with fail
    go_ret
    exact ⟨rfl, HB2.out⟩
  · have j1 : ¬ (2000 : Int) < ((bl : Nat) : Int) := by omega
    obtain ⟨t, s, c, hD1, hD2⟩ := decodes_both bl bs
    have HD1 := hide hD1
    have HD2 := hide hD2
    have hA := below_alloc w (.cells #[] 5)
    have hown : Owns (w.alloc (.cells #[] 5)) w.heap.size (.slice (some ⟨w.heap.size, 0, none⟩) 0 0) [] := Owns.lit w w.heap.size [] (Nat.le_refl _) (by decide)
    obtain ⟨v4, W4, hap, ho4, hb4⟩ := run_append_bytes _ 0 w.heap.size _ _ hown ba bl bc bs (hB.bs.keep hA (Nat.le_refl _)) hB.nil (by have := hB.bs.1; show 0 + _ ≤ _; omega) hA.size
    rw [List.nil_append] at ho4
    have hB4 := hA.trans hb4
    obtain ⟨a4, c4, rfl, hcm4⟩ := ho4.came8 (n := bl) hB.bs.2.1 hB.bs.1 (by omega)
    have HAP : Hid (∀ ty, (Builtin.append_ #[28, 28] ty #[.slice (some ⟨w.heap.size, 0, none⟩) 0 0, .slice ba bl bc]).run Try.prog (w.alloc (.cells #[] 5)) = .ok (.slice a4 bl c4) W4) := fun ty => hap
    have HCM4 := hide hcm4
    have HB4 := hide hB4
    have HCM := hide hB
    clear hB hD1 hD2 hA hown hap ho4 hb4 hcm4 hB4
    go_enter Try.func4, Try.ntmps4
    go_wp2_with (at_builtin; refine wpList_append_run _ rfl 28 (.tmp 12) (.tmp 13) rfl (.slice (some ⟨w.heap.size, 0, none⟩) 0 0) (.slice ba bl bc) (.slice a4 bl c4) rfl rfl W4 HAP.out ?_)
    refine (HD1.out W4 a4 c4 HCM4.out).mono ?_
    rintro e w5 td
    have hbT := td.1
    obtain ⟨a2, n2, c2, a5, n5, c5, l2, W6, rfl, hst6, bx6, hbs6⟩ := Bx.start HB4.out td
    have hcm6 : Came W6 ba bl bc bs := ⟨HCM.out.bs.keep bx6.e (Nat.le_refl _), HCM.out.nil, HCM.out.le, HCM.out.big⟩
    have HST6 := hide hst6
    have HBX6 := hide bx6
    have HBS6 := hide hbs6
    have HD26 := hide (HD2.out W6 ba bc hcm6)
    clear td hbT hst6 bx6 hbs6 hcm6 HD1 HD2 HCM4 HB4 HAP
    unfold lfV Sl.val at HST6
    unfold lfV mk2 Sl.val
    simp only at HST6 ⊢
    go_wp2_with (first | refine wpList_alloc _ rfl 25 rfl (.pointer (some ⟨w5.heap.size, 0, none⟩)) (w5.alloc (.cells #[.slice none 0 0, .slice none 0 0] 25)) (alloc_lf w5) ?_ | refine wpList_store _ rfl rfl 25 (.tmp 3) (.tmp 16) rfl (.pointer (some ⟨w5.heap.size, 0, none⟩)) (.agg #[.slice a2 n2 c2, .slice a5 n5 c5]) rfl rfl W6 HST6.out ?_)
    refine HD26.out.mono ?_
    rintro e w7 td
    have hbT := td.1
    have hsz6 := HBX6.out.k.lt
    have hsz7 := hbT.size
    obtain ⟨_, ⟨a7, n7, c7⟩, ⟨a8, n8, c8⟩, l7, rfl, gi7, gb7, hbs7⟩ := td
    obtain ⟨W8, hst8, k8, hb8⟩ := box_new8 w7 ⟨a7, n7, c7⟩ ⟨a8, n8, c8⟩
    have bx8 := (HBX6.out.below hbT).below hb8
    have HST8 := hide hst8
    have d0 := bx8.k.c0
    have d1 := bx8.k.c1
    have e0 := k8.c0
    have e1 := k8.c1
    have HSM := hide (rlsame_any W8 ⟨a2, n2, c2⟩ ⟨a5, n5, c5⟩ t l2 bx8.gi bx8.gb ⟨a7, n7, c7⟩ ⟨a8, n8, c8⟩ t l7 (gi7.below hb8 (Nat.le_refl _)) (gb7.below hb8 (Nat.le_refl _)))
    have hsame : sameLB t (bss l2) t (bss l7) = true := sameLB_iff.2 ⟨rfl, by rw [HBS6.out, hbs7]⟩
    rw [hsame] at HSM
    have HB8 := hide bx8.e
    clear hsame hbT hsz6 hsz7 gi7 gb7 hbs7 hst8 k8 hb8 bx8 HBX6 HBS6 HD26 HST6
    unfold lfV Sl.val at HST8 HSM
    unfold Sl.val at d0 d1 e0 e1
    unfold lfV mk2 Sl.val
    simp only at HST8 HSM d0 d1 e0 e1 ⊢
    go_wp2_with (first | refine wpList_alloc _ rfl 25 rfl (.pointer (some ⟨w7.heap.size, 0, none⟩)) (w7.alloc (.cells #[.slice none 0 0, .slice none 0 0] 25)) (alloc_lf w7) ?_ | refine wpList_store _ rfl rfl 25 (.tmp 5) (.tmp 21) rfl (.pointer (some ⟨w7.heap.size, 0, none⟩)) (.agg #[.slice a7 n7 c7, .slice a8 n8 c8]) rfl rfl W8 HST8.out ?_)
    refine HSM.out.mono ?_
    rintro e w9 ⟨rfl, hb9⟩
    have HB9 := hide (rBelow HB8.out hb9)
    clear hb9 d0 d1 e0 e1 HSM HB8
    go_wp2_with fail
    refine (HW.out w9).mono ?_
    rintro e w10 ⟨rfl, hb10⟩
    have HB10 := hide (rBelow HB9.out hb10)
    clear hb10
    go_wp2_with fail
    go_ret
    exact ⟨rfl, HB10.out⟩
end Go.Proofs.Ytgieigpbbkeonaa
