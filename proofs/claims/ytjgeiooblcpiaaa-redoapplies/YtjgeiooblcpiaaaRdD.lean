/-
  Layer 6: records: Encode and the document's Record.
-/
import Derived.Test.YtjgeiooblcpiaaaRdC
namespace Go.Proofs.Ytjgeiooblcpiaaa
open Go.RowKit

theorem body_take {l : List Ix} {k : Nat} (hk : k < l.length) : body (ims (l.take (k + 1))) = body (ims (l.take k)) ++ ((l.getD k Ix.zero).page.toNat :: (l.getD k Ix.zero).bs) := by
  rw [List.take_succ_eq_append_getElem hk, ims_append, body_append]
  have : l.getD k Ix.zero = l[k] := by simp [List.getD, hk]
  rw [this]
  have e : body (ims [l[k]]) = l[k].page.toNat :: l[k].bs := body_one l[k].im
  rw [e]

theorem Owns.base {w : World} {B B' : Nat} {v : Value} {xs : List Nat} (h : Owns w B v xs) (hB : B' ≤ B) : Owns w B' v xs := by
  refine ⟨h.1, ?_⟩
  rcases h.2 with hn | ⟨g, cap, cur, hv, hbg, r⟩
  · exact .inl hn
  · exact .inr ⟨g, cap, cur, hv, Nat.le_trans hB hbg, r⟩

theorem text_take_len {l : List Ix} (h : May (ims l)) (k : Nat) : (l.length :: body (ims (l.take k))).length ≤ 4000 := by
  have h1 : ∀ m ∈ ims (l.take k), m.bs.length = 512 := by
    intro m hm
    obtain ⟨x, hx, rfl⟩ := List.mem_map.1 hm
    exact h.len _ (List.mem_map.2 ⟨x, List.mem_of_mem_take hx, rfl⟩)
  rw [List.length_cons, body_length _ h1, ims_length, List.length_take]
  have := h.2.1
  rw [ims_length] at this
  omega

theorem encode_no {D : Nat → Prop} (w : World) (v : Sl) (l : List Ix) (h : Gr D w v l) (hm : ¬ May (ims l)) :
    Calls Try.prog 10 #[v.val] w fun e w' => e = .returned (.tuple #[.slice none 0 0, .int .i64 1]) ∧ Below w.heap.size w w' := by
  have HC := check_any w v l h
  rw [chk_no hm] at HC
  have HC := hide HC
  clear h hm
  obtain ⟨a, len, cap⟩ := v
  unfold Sl.val at HC ⊢
  simp only at HC ⊢
  go_enter Try.func10, Try.ntmps10
  go_wp2_with fail
  refine HC.out.mono ?_
  rintro e w1 ⟨rfl, hb⟩
  have HB := hide hb
  clear hb
  go_wp2_with fail
  go_ret2
  exact ⟨rfl, HB.out⟩

set_option maxHeartbeats 4000000 in
set_option maxRecDepth 100000 in
theorem encode_ok {D : Nat → Prop} (w : World) (v : Sl) (l : List Ix) (h : Gr D w v l) (hm : May (ims l)) :
    Calls Try.prog 10 #[v.val] w fun e w' => ∃ r, e = .returned (.tuple #[r, .int .i64 0]) ∧ Owns w' w.heap.size r (recd (ims l)) ∧ Below w.heap.size w w' := by
  have HC := check_any w v l h
  rw [chk_ok hm] at HC
  have HC := hide HC
  have hl : l.length = v.len := h.len
  have hge : 1 ≤ v.len := by have := hm.1; rw [ims_length] at this; omega
  have hle : v.len ≤ 6 := by have := hm.2.1; rw [ims_length] at this; omega
  have H := hide h
  have HM := hide hm
  have HL := hide hl
  have HIB := hide h.imB
  clear h hm hl
  obtain ⟨a, len, cap⟩ := v
  replace hge : 1 ≤ len := hge
  replace hle : len ≤ 6 := hle
  unfold Sl.val at HC ⊢
  simp only at HC ⊢
  obtain ⟨i0, hi, hz0, hz1, hz2⟩ := info_parts info5
  go_enter Try.func10, Try.ntmps10
  go_wp2_with fail
  refine HC.out.mono ?_
  rintro e w1 ⟨rfl, hb1⟩
  have HB1 := hide hb1
  clear hb1
  go_wp2_with (at_make; refine wpList_make_own _ rfl _ _ 24 rfl w1.heap.size 5 i0 (.int .u8 0) 1 Try.underlying24 hi hz0 hz1 _ _ _ (1 + len * 513) rfl rfl (by omega) ?b2 ?b3 (Nat.le_refl _) ?_)
  case b2 => rw [hz2]; omega
  case b3 => unfold maxLen; omega
  intro w2 hown0 hgrow0
  have HB2 : Hid (Below w1.heap.size w1 w2) := (Below.refl w1.heap.size w1).grown hgrow0 (Nat.le_refl _) (fun k hk => by cases hk)
  have HO2 : Hid (Owns w2 w1.heap.size (.slice (some ⟨w1.heap.size, 0, none⟩) 0 (1 + len * 513)) []) := hown0
  clear hown0 hgrow0
  have HY2 : Hid (Bs (w2.alloc (.cells #[.int .u8 ((len : Nat) : Int)] 5)) (some ⟨w2.heap.size, 0, none⟩) 1 [len]) := bs_marked w2 [len] (0, 0) (fun y hy => by simp at hy; omega)
  have HO3 : Hid (Owns (w2.alloc (.cells #[.int .u8 ((len : Nat) : Int)] 5)) w1.heap.size (.slice (some ⟨w1.heap.size, 0, none⟩) 0 (1 + len * 513)) []) := HO2.out.keep (below_alloc w2 _) (Nat.le_refl _)
  have HB3 : Hid (Below w1.heap.size w1 (w2.alloc (.cells #[.int .u8 ((len : Nat) : Int)] 5))) := HB2.out.alloc HB2.out.size _
  go_wp2_with (at_builtin; refine wpList_append_bytes' _ rfl (.tmp 20) (.tmp 24) rfl w1.heap.size _ [] rfl HO3.out _ _ _ _ rfl HY2.out (fun e => by cases e) (by simp) HB3.out.size ?_)
  intro v4 w4 ho4 hb4 _
  have HO4 : Hid (Owns w4 w1.heap.size v4 (l.length :: body (ims (l.take 0)))) := by
    show Owns _ _ _ _
    rw [HL.out]
    exact ho4
  have HB4 : Hid (Below w1.heap.size w1 w4) := HB3.out.trans hb4
  clear HY2 HO3 HB3 HO2 HB2 ho4 hb4
  go_wp2_with fail
  go_loopw [5, 28] (fun tv i wr => ∃ k : Nat, k ≤ len ∧ i = .int .i64 k ∧ Hid (Owns wr w1.heap.size tv (l.length :: body (ims (l.take k)))) ∧ Hid (Below w1.heap.size w1 wr)) (fun _ i _ => len - (intOf i).toNat)
  case atStart => exact ⟨0, by omega, rfl, HO4, HB4⟩
  case round =>
    obtain ⟨k, hk, rfl, hO, hW⟩ := hrel
    have hWW : Below w.heap.size w wr := HB1.out.trans (hW.out.mono HB1.out.size)
    have HWW := hide hWW
    rcases Nat.lt_or_ge k len with hlt | hge'
    · obtain ⟨b, off, ha, c0, c1⟩ := (H.out.below hWW (Nat.le_refl _)).cell k hlt
      simp only at ha
      subst ha
      have hat := H.out.at (i := k) hlt
      have hmem : (l.getD k Ix.zero).im ∈ ims l := List.mem_map.2 ⟨_, getD_mem _ (by rw [HL.out]; exact hlt), rfl⟩
      have hok := HM.out.mem hmem
      have hbt := body_take (l := l) (k := k) (by rw [HL.out]; exact hlt)
      obtain ⟨x, hx⟩ : ∃ x, x = l.getD k Ix.zero := ⟨_, rfl⟩
      rw [← hx] at c0 c1 hat hok hbt
      obtain ⟨q, ⟨sa, sl, sc⟩, bs⟩ := x
      obtain ⟨n, hn⟩ : ∃ n : Nat, q = (n : Int) := ⟨q.toNat, by have : 0 ≤ q := hok.1; omega⟩
      subst hn
      have hn63 : n ≤ 63 := by have : (n : Int) ≤ 63 := hok.2.1; omega
      have hsl : sl = 512 := by have h5 : bs.length = 512 := hok.2.2; have h6 : bs.length = sl := hat.len; omega
      subst hsl
      replace c0 : wr.cell? ⟨b, off + k * 2, none⟩ = some (.int .i64 ((n : Nat) : Int)) := c0
      replace c1 : wr.cell? ⟨b, off + k * 2 + 1, none⟩ = some (.slice sa 512 sc) := c1
      have hA := below_alloc wr (.cells #[.int .i64 ((n : Nat) : Int), .slice sa 512 sc] 28)
      have HBX := hide (imBlk_new wr ((n : Nat) : Int) (.slice sa 512 sc))
      have HO5 : Hid (Owns ((wr.alloc (.cells #[.int .i64 ((n : Nat) : Int), .slice sa 512 sc] 28)).alloc (.cells #[.int .u8 ((n : Nat) : Int)] 5)) w1.heap.size u5 (l.length :: body (ims (l.take k)))) := (hO.out.keep hA (Nat.le_refl _)).keep (below_alloc _ _) (Nat.le_refl _)
      have HB5 : Hid (Below w1.heap.size w1 ((wr.alloc (.cells #[.int .i64 ((n : Nat) : Int), .slice sa 512 sc] 28)).alloc (.cells #[.int .u8 ((n : Nat) : Int)] 5))) := (hW.out.alloc hW.out.size _).alloc (Nat.le_trans hW.out.size hA.size) _
      have HY5 : Hid (Bs ((wr.alloc (.cells #[.int .i64 ((n : Nat) : Int), .slice sa 512 sc] 28)).alloc (.cells #[.int .u8 ((n : Nat) : Int)] 5)) (some ⟨wr.heap.size + 1, 0, none⟩) 1 [n]) := by
        have := bs_marked (wr.alloc (.cells #[.int .i64 ((n : Nat) : Int), .slice sa 512 sc] 28)) [n] (0, 0) (fun y hy => by simp at hy; omega)
        rw [alloc_size] at this
        exact this
      have HBX5 := hide (HBX.out.below (below_alloc (wr.alloc (.cells #[.int .i64 ((n : Nat) : Int), .slice sa 512 sc] 28)) (.cells #[.int .u8 ((n : Nat) : Int)] 5)))
      have hsz := text_take_len HM.out k
      have HL5 : Hid ((l.length :: body (ims (l.take k))).length + 1 ≤ 1000000) := by show _ ≤ _; omega
      have HBT : Hid (l.length :: body (ims (l.take (k + 1))) = l.length :: (body (ims (l.take k)) ++ n :: bs)) := by
        show _ = _
        rw [hbt]
        rfl
      have HL6 : Hid (((l.length :: body (ims (l.take k))) ++ [n]).length + 512 ≤ 1000000) := by show _ ≤ _; simp only [List.length_append, List.length_singleton]; omega
      have HCM := hide hat
      have i3 : ((k : Nat) : Int) < ((len : Nat) : Int) := by omega
      obtain ⟨W5, hW5⟩ : ∃ W5, W5 = (wr.alloc (.cells #[.int .i64 ((n : Nat) : Int), .slice sa 512 sc] 28)).alloc (.cells #[.int .u8 ((n : Nat) : Int)] 5) := ⟨_, rfl⟩
      have HW5 := hide hW5
      clear hx hat hok hbt hsz hA hmem hWW hW5
      go_wp2_with (at_builtin; refine wpList_append_bytes' _ rfl (.tmp 32) (.tmp 36) rfl w1.heap.size _ (l.length :: body (ims (l.take k))) rfl HO5.out _ _ _ _ rfl HY5.out (fun e => by cases e) HL5.out HB5.out.size ?_)
      intro v6 w6 ho6 hb6 hs6
      have hbx6 : ImBlk w6 wr.heap.size ((n : Nat) : Int) (.slice sa 512 sc) := (hs6 wr.heap.size _ _ _ HBX5.out (by decide)).trans HBX5.out
      have d1 := hbx6.c1
      have HB6 : Hid (Below w1.heap.size w1 w6) := HB5.out.trans hb6
      have HC6 : Hid (Came w6 sa 512 sc bs) := by
        exact (HCM.out.below (HB1.out.trans (HB6.out.mono HB1.out.size)) (Nat.le_refl _)).came
      have HO6 := hide ho6
      clear ho6 hb6 hs6 hbx6 HBX HO5 HB5 HY5 HBX5 HL5
      have HN6 : Hid (sa = none → sc = 0) := HC6.out.nil
      go_wp2_with (at_builtin; refine wpList_append_bytes' _ rfl (.tmp 38) (.tmp 40) rfl w1.heap.size _ (l.length :: body (ims (l.take k)) ++ [n]) rfl HO6.out _ _ _ _ rfl HC6.out.bs HN6.out HL6.out HB6.out.size ?_)
      intro v7 w7 ho7 hb7 _
      have HO7 : Hid (Owns w7 w1.heap.size v7 (l.length :: body (ims (l.take (k + 1))))) := by
        show Owns _ _ _ _
        rw [HBT.out]
        exact ho7
      have HB7 := hide (HB6.out.trans hb7)
      clear ho7 hb7
      go_wp2_with fail
      go_roundw
      case rel => exact ⟨k + 1, by omega, by go_num, HO7, HB7⟩
      case measure => simp only [intOf]; omega
    · have hkl : k = len := by omega
      subst hkl
      have i3 : ¬ ((k : Nat) : Int) < ((k : Nat) : Int) := by omega
      have HT : Hid (Owns wr w1.heap.size u5 (text (ims l))) := by
        have := hO.out
        rw [← HL.out, List.take_length] at this
        unfold text
        rw [ims_length]
        exact this
      have hTL : (text (ims l)).length = 1 + 513 * k := by rw [text_length HM.out.len, ims_length, HL.out]
      obtain ⟨g, c, hv, hg1, hg2, hc⟩ := HT.out.pos (by omega)
      have hbs := HT.out
      rw [hv] at hbs
      have hrow := (hbs.row (text_bytes HIB.out HM.out)).2
      subst hv
      have HSE := hide (seal_any (some ⟨g, 0, none⟩) (text (ims l)).length c (text (ims l)) wr hrow (fun e => by cases e) (by omega))
      have HTL := hide hTL
      have HSL : Hid ((seald (text (ims l))).length = 5 + 513 * k) := by
        show _ = _
        rw [seald_length, hTL]
        omega
      clear hbs hrow hTL hc hg1 hg2 HT hO
      go_wp2_with fail
      refine HSE.out.mono ?_
      rintro e w8 ⟨v8, rfl, ho8, hb8⟩
      replace ho8 : Owns w8 wr.heap.size v8 (seald (text (ims l))) := ho8
      have hsl := HSL.out
      obtain ⟨g8, c8, hv8, hg81, hg82, hc8⟩ := ho8.pos (by omega)
      subst hv8
      obtain ⟨m, hm⟩ : ∃ m, m = (seald (text (ims l))).length := ⟨_, rfl⟩
      rw [← hm]
      have hmle : m ≤ 3083 := by omega
      have HO8 : Hid (Owns w8 wr.heap.size (.slice (some ⟨g8, 0, none⟩) m c8) (seald (text (ims l)))) := by rw [hm]; exact ho8
      have HB8 : Hid (Below w1.heap.size w1 w8) := hW.out.trans (hb8.mono hW.out.size)
      have HMM := hide hm
      clear ho8 hb8 hsl hg81 hg82 hm hc8
      go_wp2_with (at_make; refine wpList_make_own _ rfl _ _ 24 rfl w8.heap.size 5 i0 (.int .u8 0) 1 Try.underlying24 hi hz0 hz1 _ _ _ (2 + m) rfl rfl (by omega) ?d2 ?d3 (Nat.le_refl _) ?_)
      case d2 => rw [hz2]; omega
      case d3 => unfold maxLen; omega
      intro w9 hown9 hgrow9
      have HB9 : Hid (Below w8.heap.size w8 w9) := (Below.refl w8.heap.size w8).grown hgrow9 (Nat.le_refl _) (fun k hk => by cases hk)
      have HO9 : Hid (Owns w9 w8.heap.size (.slice (some ⟨w8.heap.size, 0, none⟩) 0 (2 + m)) []) := hown9
      clear hown9 hgrow9
      have HYA : Hid (Bs (w9.alloc (.cells #[.int .u8 (((m / 256 : Nat)) : Int), .int .u8 ((m % 256 : Nat) : Int)] 5)) (some ⟨w9.heap.size, 0, none⟩) 2 [m / 256, m % 256]) := bs_marked w9 [m / 256, m % 256] (0, 0) (fun y hy => by simp at hy; omega)
      have HOA : Hid (Owns (w9.alloc (.cells #[.int .u8 (((m / 256 : Nat)) : Int), .int .u8 ((m % 256 : Nat) : Int)] 5)) w8.heap.size (.slice (some ⟨w8.heap.size, 0, none⟩) 0 (2 + m)) []) := HO9.out.keep (below_alloc w9 _) (Nat.le_refl _)
      have HBA : Hid (Below w8.heap.size w8 (w9.alloc (.cells #[.int .u8 (((m / 256 : Nat)) : Int), .int .u8 ((m % 256 : Nat) : Int)] 5))) := HB9.out.alloc HB9.out.size _
      go_wp2_with (at_builtin; refine wpList_append_bytes' _ rfl (.tmp 49) (.tmp 57) rfl w8.heap.size _ [] rfl HOA.out _ _ _ _ rfl HYA.out (fun e => by cases e) (by simp) HBA.out.size ?_)
      intro vB wB hoB hbB _
      have HBB : Hid (Below w8.heap.size w8 wB) := HBA.out.trans hbB
      have HOB : Hid (Owns wB w8.heap.size vB [m / 256, m % 256]) := hoB
      have HSB : Hid (Bs wB (some ⟨g8, 0, none⟩) m (seald (text (ims l)))) := by
        have h8 := (HO8.out.row (seald_bytes (text_bytes HIB.out HM.out))).2
        rw [← HMM.out] at h8
        exact h8.keep HBB.out (Nat.le_refl _)
      have HLB : Hid (([m / 256, m % 256] : List Nat).length + m ≤ 1000000) := by show 2 + m ≤ _; omega
      clear hoB hbB HYA HOA HBA HO9 HB9
      go_wp2_with (at_builtin; refine wpList_append_bytes' _ rfl (.tmp 59) (.tmp 60) rfl w8.heap.size _ [m / 256, m % 256] rfl HOB.out _ _ _ _ rfl HSB.out (fun e => by cases e) HLB.out HBB.out.size ?_)
      intro vC wC hoC hbC _
      have HOC : Hid (Owns wC w.heap.size vC (recd (ims l))) := by
        have e : recd (ims l) = [m / 256, m % 256] ++ seald (text (ims l)) := by
          unfold recd
          rw [← HMM.out]
          rfl
        show Owns _ _ _ _
        rw [e]
        exact hoC.base (Nat.le_trans HB1.out.size HB8.out.size)
      have HBC : Hid (Below w.heap.size w wC) := (HB1.out.trans (HB8.out.mono HB1.out.size)).trans ((HBB.out.trans hbC).mono (Nat.le_trans HB1.out.size HB8.out.size))
      clear hoC hbC
      go_wp2_with fail
      go_ret2
      exact ⟨_, rfl, HOC.out, HBC.out⟩

set_option maxHeartbeats 4000000 in
set_option maxRecDepth 100000 in
theorem record_any {D : Nat → Prop} (w : World) (v : Sl) (l : List Ix) (h : Gr D w v l) (hm : May (ims l)) :
    Calls Try.prog 14 #[v.val] w fun e w' => ∃ r, e = .returned r ∧ Owns w' w.heap.size r (recd (ims l)) ∧ Below w.heap.size w w' := by
  have hl : l.length = v.len := h.len
  have hge : 1 ≤ v.len := by have := hm.1; rw [ims_length] at this; omega
  have hle : v.len ≤ 6 := by have := hm.2.1; rw [ims_length] at this; omega
  have H := hide h
  have HM := hide hm
  have HL := hide hl
  have HIB := hide h.imB
  clear h hm hl
  obtain ⟨a, len, cap⟩ := v
  replace hge : 1 ≤ len := hge
  replace hle : len ≤ 6 := hle
  unfold Sl.val
  simp only
  have HO : Hid (Owns (w.alloc (.cells #[.int .u8 ((len : Nat) : Int)] 5)) w.heap.size (.slice (some ⟨w.heap.size, 0, none⟩) 1 1) (l.length :: body (ims (l.take 0)))) := by
    have := Owns.lit w w.heap.size [len] (Nat.le_refl _) (by simp)
    show Owns _ _ _ _
    rw [HL.out]
    exact this
  have HB := hide (below_alloc w (.cells #[.int .u8 ((len : Nat) : Int)] 5))
  go_enter Try.func14, Try.ntmps14
  go_wp2_with fail
  go_loopw [3, 4] (fun tv i wr => ∃ k : Nat, k ≤ len ∧ i = .int .i64 k ∧ Hid (Owns wr w.heap.size tv (l.length :: body (ims (l.take k)))) ∧ Hid (Below w.heap.size w wr)) (fun _ i _ => len - (intOf i).toNat)
  case atStart => exact ⟨0, by omega, rfl, HO, HB⟩
  case round =>
    obtain ⟨k, hk, rfl, hO, hW⟩ := hrel
    rcases Nat.lt_or_ge k len with hlt | hge'
    · obtain ⟨b, off, ha, c0, c1⟩ := (H.out.below hW.out (Nat.le_refl _)).cell k hlt
      simp only at ha
      subst ha
      have hat := H.out.at (i := k) hlt
      have hmem : (l.getD k Ix.zero).im ∈ ims l := List.mem_map.2 ⟨_, getD_mem _ (by rw [HL.out]; exact hlt), rfl⟩
      have hok := HM.out.mem hmem
      have hbt := body_take (l := l) (k := k) (by rw [HL.out]; exact hlt)
      obtain ⟨x, hx⟩ : ∃ x, x = l.getD k Ix.zero := ⟨_, rfl⟩
      rw [← hx] at c0 c1 hat hok hbt
      obtain ⟨q, ⟨sa, sl, sc⟩, bs⟩ := x
      obtain ⟨n, hn⟩ : ∃ n : Nat, q = (n : Int) := ⟨q.toNat, by have : 0 ≤ q := hok.1; omega⟩
      subst hn
      have hn63 : n ≤ 63 := by have : (n : Int) ≤ 63 := hok.2.1; omega
      have hsl : sl = 512 := by have h5 : bs.length = 512 := hok.2.2; have h6 : bs.length = sl := hat.len; omega
      subst hsl
      replace c0 : wr.cell? ⟨b, off + k * 2, none⟩ = some (.int .i64 ((n : Nat) : Int)) := c0
      have HO5 : Hid (Owns (wr.alloc (.cells #[.int .u8 ((n : Nat) : Int)] 5)) w.heap.size u3 (l.length :: body (ims (l.take k)))) := hO.out.keep (below_alloc _ _) (Nat.le_refl _)
      have HB5 : Hid (Below w.heap.size w (wr.alloc (.cells #[.int .u8 ((n : Nat) : Int)] 5))) := hW.out.alloc hW.out.size _
      have HY5 : Hid (Bs (wr.alloc (.cells #[.int .u8 ((n : Nat) : Int)] 5)) (some ⟨wr.heap.size, 0, none⟩) 1 [n]) := bs_marked wr [n] (0, 0) (fun y hy => by simp at hy; omega)
      have hsz := text_take_len HM.out k
      have HL5 : Hid ((l.length :: body (ims (l.take k))).length + 1 ≤ 1000000) := by show _ ≤ _; omega
      have HBT : Hid (l.length :: body (ims (l.take (k + 1))) = l.length :: (body (ims (l.take k)) ++ n :: bs)) := by
        show _ = _
        rw [hbt]
        rfl
      have HL6 : Hid (((l.length :: body (ims (l.take k))) ++ [n]).length + 512 ≤ 1000000) := by show _ ≤ _; simp only [List.length_append, List.length_singleton]; omega
      have HCM := hide hat
      have HG := hide c1
      have i3 : ((k : Nat) : Int) < ((len : Nat) : Int) := by omega
      clear hx hat hok hbt hsz hmem c1
      go_wp2_with (at_builtin; refine wpList_append_bytes' _ rfl (.tmp 16) (.tmp 23) rfl w.heap.size _ (l.length :: body (ims (l.take k))) rfl HO5.out _ _ _ _ rfl HY5.out (fun e => by cases e) HL5.out HB5.out.size ?_)
      intro v6 w6 ho6 hb6 _
      have HB6 : Hid (Below w.heap.size w w6) := HB5.out.trans hb6
      have hC6 := (HCM.out.below HB6.out (Nat.le_refl _)).came
      obtain ⟨b', off', ha', e0, e1⟩ := (H.out.below HB6.out (Nat.le_refl _)).cell k hlt
      simp only [Option.some.injEq, Addr.mk.injEq, and_true] at ha'
      obtain ⟨rfl, rfl⟩ := ha'
      have d1 : w6.cell? ⟨b, off + k * 2 + 1, none⟩ = some (.slice sa 512 sc) := by
        obtain ⟨b2, off2, ha2, f0, f1⟩ := (H.out.below hW.out (Nat.le_refl _)).cell k hlt
        simp only [Option.some.injEq, Addr.mk.injEq, and_true] at ha2
        obtain ⟨rfl, rfl⟩ := ha2
        rw [e1, ← f1]
        exact HG.out
      have HC6 := hide hC6
      have HO6 := hide ho6
      clear ho6 hb6 hC6 HO5 HB5 HY5 HL5 c0 e0 e1
      have HN6 : Hid (sa = none → sc = 0) := HC6.out.nil
      go_wp2_with (at_builtin; refine wpList_append_bytes' _ rfl (.tmp 25) (.tmp 30) rfl w.heap.size _ (l.length :: body (ims (l.take k)) ++ [n]) rfl HO6.out _ _ _ _ rfl HC6.out.bs HN6.out HL6.out HB6.out.size ?_)
      intro v7 w7 ho7 hb7 _
      have HO7 : Hid (Owns w7 w.heap.size v7 (l.length :: body (ims (l.take (k + 1))))) := by
        show Owns _ _ _ _
        rw [HBT.out]
        exact ho7
      have HB7 := hide (HB6.out.trans hb7)
      clear ho7 hb7
      go_wp2_with fail
      go_roundw
      case rel => exact ⟨k + 1, by omega, by go_num, HO7, HB7⟩
      case measure => simp only [intOf]; omega
    · have hkl : k = len := by omega
      subst hkl
      have i3 : ¬ ((k : Nat) : Int) < ((k : Nat) : Int) := by omega
      have HT : Hid (Owns wr w.heap.size u3 (text (ims l))) := by
        have := hO.out
        rw [← HL.out, List.take_length] at this
        unfold text
        rw [ims_length]
        exact this
      have hTL : (text (ims l)).length = 1 + 513 * k := by rw [text_length HM.out.len, ims_length, HL.out]
      obtain ⟨g, c, hv, hg1, hg2, hc⟩ := HT.out.pos (by omega)
      have hbs := HT.out
      rw [hv] at hbs
      have hrow := (hbs.row (text_bytes HIB.out HM.out)).2
      subst hv
      have HSE := hide (rseal_any (some ⟨g, 0, none⟩) (text (ims l)).length c (text (ims l)) wr hrow (fun e => by cases e) (by omega))
      have HSL : Hid ((seald (text (ims l))).length = 5 + 513 * k) := by
        show _ = _
        rw [seald_length, hTL]
        omega
      clear hbs hrow hTL hc hg1 hg2 HT hO
      go_wp2_with fail
      refine HSE.out.mono ?_
      rintro e w8 ⟨v8, rfl, ho8, hb8⟩
      replace ho8 : Owns w8 wr.heap.size v8 (seald (text (ims l))) := ho8
      have hsl := HSL.out
      obtain ⟨g8, c8, hv8, hg81, hg82, hc8⟩ := ho8.pos (by omega)
      subst hv8
      obtain ⟨m, hm⟩ : ∃ m, m = (seald (text (ims l))).length := ⟨_, rfl⟩
      rw [← hm]
      have hmle : m ≤ 3083 := by omega
      have HO8 : Hid (Owns w8 wr.heap.size (.slice (some ⟨g8, 0, none⟩) m c8) (seald (text (ims l)))) := by rw [hm]; exact ho8
      have HB8 : Hid (Below w.heap.size w w8) := hW.out.trans (hb8.mono hW.out.size)
      have HMM := hide hm
      clear ho8 hb8 hsl hg81 hg82 hm hc8
      have HOA : Hid (Owns (w8.alloc (.cells #[.int .u8 (((m / 256 : Nat)) : Int), .int .u8 ((m % 256 : Nat) : Int)] 5)) w8.heap.size (.slice (some ⟨w8.heap.size, 0, none⟩) 2 2) [m / 256, m % 256]) := Owns.lit w8 w8.heap.size [m / 256, m % 256] (Nat.le_refl _) (by simp)
      have HBA : Hid (Below w8.heap.size w8 (w8.alloc (.cells #[.int .u8 (((m / 256 : Nat)) : Int), .int .u8 ((m % 256 : Nat) : Int)] 5))) := below_alloc w8 _
      have HSB : Hid (Bs (w8.alloc (.cells #[.int .u8 (((m / 256 : Nat)) : Int), .int .u8 ((m % 256 : Nat) : Int)] 5)) (some ⟨g8, 0, none⟩) m (seald (text (ims l)))) := by
        have h8 := (HO8.out.row (seald_bytes (text_bytes HIB.out HM.out))).2
        rw [← HMM.out] at h8
        exact h8.keep HBA.out (Nat.le_refl _)
      have HLB : Hid (([m / 256, m % 256] : List Nat).length + m ≤ 1000000) := by show 2 + m ≤ _; omega
      go_wp2_with (at_builtin; refine wpList_append_bytes' _ rfl (.tmp 41) (.tmp 42) rfl w8.heap.size _ [m / 256, m % 256] rfl HOA.out _ _ _ _ rfl HSB.out (fun e => by cases e) HLB.out HBA.out.size ?_)
      intro vC wC hoC hbC _
      have HOC : Hid (Owns wC w.heap.size vC (recd (ims l))) := by
        have e : recd (ims l) = [m / 256, m % 256] ++ seald (text (ims l)) := by
          unfold recd
          rw [← HMM.out]
          rfl
        show Owns _ _ _ _
        rw [e]
        exact hoC.base HB8.out.size
      have HBC : Hid (Below w.heap.size w wC) := HB8.out.trans ((HBA.out.trans hbC).mono HB8.out.size)
      clear hoC hbC
      go_wp2_with fail
      go_ret
      exact ⟨_, rfl, HOC.out, HBC.out⟩
end Go.Proofs.Ytjgeiooblcpiaaa
