/-
  Layer 6: records: Encode and the document's Record.
  Layer 6: groups that are built one image after the other, and the drawn regions that do so.
  Layer 6: drawn regions of First, the program's and the document's.
  Layer 6: what groupOf and First tell.
  Layer 6: what First tells, the program's and the document's.
-/
import Derived.Test.YtpggkfdnpdhkfaaGreatRb
namespace Go.Proofs.YtpggkfdnpdhkfaaGreat
open Go.RowKit
set_option maxRecDepth 100000

theorem body_take {l : List Ix} {k : Nat} (hk : k < l.length) : body (ims (l.take (k + 1))) = body (ims (l.take k)) ++ ((l.getD k Ix.zero).page.toNat :: (l.getD k Ix.zero).bs) := by
  rw [List.take_succ_eq_append_getElem hk, ims_append, body_append]
  have : l.getD k Ix.zero = l[k] := by simp [List.getD, hk]
  rw [this]
  have e : body (ims [l[k]]) = l[k].page.toNat :: l[k].bs := body_one l[k].im
  rw [e]

theorem Owns.base {w : World} {B B' : Nat} {v : Value} {xs : List Nat} (h : Owns w B v xs) (hB : B' ≤ B) : Owns w B' v xs := by
  refine ⟨h.1, ?_⟩
  rcases h.2 with hn | ⟨g, cap, cur, hv, hbg, r⟩
  · exact .inl hn
  · exact .inr ⟨g, cap, cur, hv, Nat.le_trans hB hbg, r⟩

theorem text_take_len {l : List Ix} (h : May (ims l)) (k : Nat) : (l.length :: body (ims (l.take k))).length ≤ 4000 := by
  have h1 : ∀ m ∈ ims (l.take k), m.bs.length = 512 := by
    intro m hm
    obtain ⟨x, hx, rfl⟩ := List.mem_map.1 hm
    exact h.len _ (List.mem_map.2 ⟨x, List.mem_of_mem_take hx, rfl⟩)
  rw [List.length_cons, body_length _ h1, ims_length, List.length_take]
  have := h.2.1
  rw [ims_length] at this
  omega

theorem encode_no {D : Nat → Prop} (w : World) (v : Sl) (l : List Ix) (h : Gr D w v l) (hm : ¬ May (ims l)) :
    Calls Tryz.prog 46 #[v.val] w fun e w' => e = .returned (.tuple #[.slice none 0 0, .int .i64 1]) ∧ Below w.heap.size w w' := by
  have HC := check_any6 w v l h
  rw [chk_no6 hm] at HC
  have HC := hide HC
  clear h hm
  obtain ⟨a, len, cap⟩ := v
  unfold Sl.val at HC ⊢
  simp only at HC ⊢
  go_enter Tryz.func46, Tryz.ntmps46
  go_wp2_with fail
  refine HC.out.mono ?_
  rintro e w1 ⟨rfl, hb⟩
  have HB := hide hb
  clear hb
  go_wp2_with fail
  go_ret2
  exact ⟨rfl, HB.out⟩

set_option maxHeartbeats 4000000 in
set_option maxRecDepth 100000 in
theorem encode_ok {D : Nat → Prop} (w : World) (v : Sl) (l : List Ix) (h : Gr D w v l) (hm : May (ims l)) :
    Calls Tryz.prog 46 #[v.val] w fun e w' => ∃ r, e = .returned (.tuple #[r, .int .i64 0]) ∧ Owns w' w.heap.size r (recd (ims l)) ∧ Below w.heap.size w w' := by
  have HC := check_any6 w v l h
  rw [chk_ok6 hm] at HC
  have HC := hide HC
  have hl : l.length = v.len := h.len
  have hge : 1 ≤ v.len := by have := hm.1; rw [ims_length] at this; omega
  have hle : v.len ≤ 6 := by have := hm.2.1; rw [ims_length] at this; omega
  have H := hide h
  have HM := hide hm
  have HL := hide hl
  have HIB := hide h.imB
  clear h hm hl
  obtain ⟨a, len, cap⟩ := v
  replace hge : 1 ≤ len := hge
  replace hle : len ≤ 6 := hle
  unfold Sl.val at HC ⊢
  simp only at HC ⊢
  obtain ⟨i0, hi, hz0, hz1, hz2⟩ := info_parts info5
  go_enter Tryz.func46, Tryz.ntmps46
  go_wp2_with fail
  refine HC.out.mono ?_
  rintro e w1 ⟨rfl, hb1⟩
  have HB1 := hide hb1
  clear hb1
  go_wp2_with (at_make; refine wpList_make_own _ rfl _ _ 32 rfl w1.heap.size 5 i0 (.int .u8 0) 1 Tryz.underlying32 hi hz0 hz1 _ _ _ (1 + len * 513) rfl rfl (by omega) ?b2 ?b3 (Nat.le_refl _) ?_)
  case b2 => rw [hz2]; omega
  case b3 => unfold maxLen; omega
  intro w2 hown0 hgrow0
  have HB2 : Hid (Below w1.heap.size w1 w2) := (Below.refl w1.heap.size w1).grown hgrow0 (Nat.le_refl _) (fun k hk => by cases hk)
  have HO2 : Hid (Owns w2 w1.heap.size (.slice (some ⟨w1.heap.size, 0, none⟩) 0 (1 + len * 513)) []) := hown0
  clear hown0 hgrow0
  have HY2 : Hid (Bs (w2.alloc (.cells #[.int .u8 ((len : Nat) : Int)] 5)) (some ⟨w2.heap.size, 0, none⟩) 1 [len]) := bs_marked w2 [len] (0, 0) (fun y hy => by simp at hy; omega)
  have HO3 : Hid (Owns (w2.alloc (.cells #[.int .u8 ((len : Nat) : Int)] 5)) w1.heap.size (.slice (some ⟨w1.heap.size, 0, none⟩) 0 (1 + len * 513)) []) := HO2.out.keep (below_alloc w2 _) (Nat.le_refl _)
  have HB3 : Hid (Below w1.heap.size w1 (w2.alloc (.cells #[.int .u8 ((len : Nat) : Int)] 5))) := HB2.out.alloc HB2.out.size _
  go_wp2_with (at_builtin; refine wpList_append_bytes' _ rfl (.tmp 20) (.tmp 24) rfl w1.heap.size _ [] rfl HO3.out _ _ _ _ rfl HY2.out (fun e => by cases e) (by simp) HB3.out.size ?_)
  intro v4 w4 ho4 hb4 _
  have HO4 : Hid (Owns w4 w1.heap.size v4 (l.length :: body (ims (l.take 0)))) := by
    show Owns _ _ _ _
    rw [HL.out]
    exact ho4
  have HB4 : Hid (Below w1.heap.size w1 w4) := HB3.out.trans hb4
  clear HY2 HO3 HB3 HO2 HB2 ho4 hb4
  go_wp2_with fail
  go_loopw [5, 28] (fun tv i wr => ∃ k : Nat, k ≤ len ∧ i = .int .i64 k ∧ Hid (Owns wr w1.heap.size tv (l.length :: body (ims (l.take k)))) ∧ Hid (Below w1.heap.size w1 wr)) (fun _ i _ => len - (intOf i).toNat)
  case atStart => exact ⟨0, by omega, rfl, HO4, HB4⟩
  case round =>
    obtain ⟨k, hk, rfl, hO, hW⟩ := hrel
    have hWW : Below w.heap.size w wr := HB1.out.trans (hW.out.mono HB1.out.size)
    have HWW := hide hWW
    rcases Nat.lt_or_ge k len with hlt | hge'
    · obtain ⟨b, off, ha, c0, c1⟩ := (H.out.below hWW (Nat.le_refl _)).cell k hlt
      simp only at ha
      subst ha
      have hat := H.out.at (i := k) hlt
      have hmem : (l.getD k Ix.zero).im ∈ ims l := List.mem_map.2 ⟨_, getD_mem _ (by rw [HL.out]; exact hlt), rfl⟩
      have hok := HM.out.mem hmem
      have hbt := body_take (l := l) (k := k) (by rw [HL.out]; exact hlt)
      obtain ⟨x, hx⟩ : ∃ x, x = l.getD k Ix.zero := ⟨_, rfl⟩
      rw [← hx] at c0 c1 hat hok hbt
      obtain ⟨q, ⟨sa, sl, sc⟩, bs⟩ := x
      obtain ⟨n, hn⟩ : ∃ n : Nat, q = (n : Int) := ⟨q.toNat, by have : 0 ≤ q := hok.1; omega⟩
      subst hn
      have hn63 : n ≤ 63 := by have : (n : Int) ≤ 63 := hok.2.1; omega
      have hsl : sl = 512 := by have h5 : bs.length = 512 := hok.2.2; have h6 : bs.length = sl := hat.len; omega
      subst hsl
      replace c0 : wr.cell? ⟨b, off + k * 2, none⟩ = some (.int .i64 ((n : Nat) : Int)) := c0
      replace c1 : wr.cell? ⟨b, off + k * 2 + 1, none⟩ = some (.slice sa 512 sc) := c1
      have hA := below_alloc wr (.cells #[.int .i64 ((n : Nat) : Int), .slice sa 512 sc] 76)
      have HBX := hide (imBlk_new wr ((n : Nat) : Int) (.slice sa 512 sc))
      have HO5 : Hid (Owns ((wr.alloc (.cells #[.int .i64 ((n : Nat) : Int), .slice sa 512 sc] 76)).alloc (.cells #[.int .u8 ((n : Nat) : Int)] 5)) w1.heap.size u5 (l.length :: body (ims (l.take k)))) := (hO.out.keep hA (Nat.le_refl _)).keep (below_alloc _ _) (Nat.le_refl _)
      have HB5 : Hid (Below w1.heap.size w1 ((wr.alloc (.cells #[.int .i64 ((n : Nat) : Int), .slice sa 512 sc] 76)).alloc (.cells #[.int .u8 ((n : Nat) : Int)] 5))) := (hW.out.alloc hW.out.size _).alloc (Nat.le_trans hW.out.size hA.size) _
      have HY5 : Hid (Bs ((wr.alloc (.cells #[.int .i64 ((n : Nat) : Int), .slice sa 512 sc] 76)).alloc (.cells #[.int .u8 ((n : Nat) : Int)] 5)) (some ⟨wr.heap.size + 1, 0, none⟩) 1 [n]) := by
        have := bs_marked (wr.alloc (.cells #[.int .i64 ((n : Nat) : Int), .slice sa 512 sc] 76)) [n] (0, 0) (fun y hy => by simp at hy; omega)
        rw [alloc_size6] at this
        exact this
      have HBX5 := hide (HBX.out.below (below_alloc (wr.alloc (.cells #[.int .i64 ((n : Nat) : Int), .slice sa 512 sc] 76)) (.cells #[.int .u8 ((n : Nat) : Int)] 5)))
      have hsz := text_take_len HM.out k
      have HL5 : Hid ((l.length :: body (ims (l.take k))).length + 1 ≤ 1000000) := by show _ ≤ _; omega
      have HBT : Hid (l.length :: body (ims (l.take (k + 1))) = l.length :: (body (ims (l.take k)) ++ n :: bs)) := by
        show _ = _
        rw [hbt]
        rfl
      have HL6 : Hid (((l.length :: body (ims (l.take k))) ++ [n]).length + 512 ≤ 1000000) := by show _ ≤ _; simp only [List.length_append, List.length_singleton]; omega
      have HCM := hide hat
      have i3 : ((k : Nat) : Int) < ((len : Nat) : Int) := by omega
      obtain ⟨W5, hW5⟩ : ∃ W5, W5 = (wr.alloc (.cells #[.int .i64 ((n : Nat) : Int), .slice sa 512 sc] 76)).alloc (.cells #[.int .u8 ((n : Nat) : Int)] 5) := ⟨_, rfl⟩
      have HW5 := hide hW5
      clear hx hat hok hbt hsz hA hmem hWW hW5
      go_wp2_with (at_builtin; refine wpList_append_bytes' _ rfl (.tmp 32) (.tmp 36) rfl w1.heap.size _ (l.length :: body (ims (l.take k))) rfl HO5.out _ _ _ _ rfl HY5.out (fun e => by cases e) HL5.out HB5.out.size ?_)
      intro v6 w6 ho6 hb6 hs6
      have hbx6 : ImBlk w6 wr.heap.size ((n : Nat) : Int) (.slice sa 512 sc) := (hs6 wr.heap.size _ _ _ HBX5.out (by decide)).trans HBX5.out
      have d1 := hbx6.c1
      have HB6 : Hid (Below w1.heap.size w1 w6) := HB5.out.trans hb6
      have HC6 : Hid (Came w6 sa 512 sc bs) := by
        exact (HCM.out.below (HB1.out.trans (HB6.out.mono HB1.out.size)) (Nat.le_refl _)).came
      have HO6 := hide ho6
      clear ho6 hb6 hs6 hbx6 HBX HO5 HB5 HY5 HBX5 HL5
      have HN6 : Hid (sa = none → sc = 0) := HC6.out.nil
      go_wp2_with (at_builtin; refine wpList_append_bytes' _ rfl (.tmp 38) (.tmp 40) rfl w1.heap.size _ (l.length :: body (ims (l.take k)) ++ [n]) rfl HO6.out _ _ _ _ rfl HC6.out.bs HN6.out HL6.out HB6.out.size ?_)
      intro v7 w7 ho7 hb7 _
      have HO7 : Hid (Owns w7 w1.heap.size v7 (l.length :: body (ims (l.take (k + 1))))) := by
        show Owns _ _ _ _
        rw [HBT.out]
        exact ho7
      have HB7 := hide (HB6.out.trans hb7)
      clear ho7 hb7
      go_wp2_with fail
      go_roundw
      case rel => exact ⟨k + 1, by omega, by go_num, HO7, HB7⟩
      case measure => simp only [intOf]; omega
    · have hkl : k = len := by omega
      subst hkl
      have i3 : ¬ ((k : Nat) : Int) < ((k : Nat) : Int) := by omega
      have HT : Hid (Owns wr w1.heap.size u5 (text (ims l))) := by
        have := hO.out
        rw [← HL.out, List.take_length] at this
        unfold text
        rw [ims_length]
        exact this
      have hTL : (text (ims l)).length = 1 + 513 * k := by rw [text_length HM.out.len, ims_length, HL.out]
      obtain ⟨g, c, hv, hg1, hg2, hc⟩ := HT.out.pos (by omega)
      have hbs := HT.out
      rw [hv] at hbs
      have hrow := (hbs.row (text_bytes HIB.out HM.out)).2
      subst hv
      have HSE := hide (seal_any (some ⟨g, 0, none⟩) (text (ims l)).length c (text (ims l)) wr hrow (fun e => by cases e) (by omega))
      have HTL := hide hTL
      have HSL : Hid ((seald (text (ims l))).length = 5 + 513 * k) := by
        show _ = _
        rw [seald_length, hTL]
        omega
      clear hbs hrow hTL hc hg1 hg2 HT hO
      go_wp2_with fail
      refine HSE.out.mono ?_
      rintro e w8 ⟨v8, rfl, ho8, hb8⟩
      replace ho8 : Owns w8 wr.heap.size v8 (seald (text (ims l))) := ho8
      have hsl := HSL.out
      obtain ⟨g8, c8, hv8, hg81, hg82, hc8⟩ := ho8.pos (by omega)
      subst hv8
      obtain ⟨m, hm⟩ : ∃ m, m = (seald (text (ims l))).length := ⟨_, rfl⟩
      rw [← hm]
      have hmle : m ≤ 3083 := by omega
      have HO8 : Hid (Owns w8 wr.heap.size (.slice (some ⟨g8, 0, none⟩) m c8) (seald (text (ims l)))) := by rw [hm]; exact ho8
      have HB8 : Hid (Below w1.heap.size w1 w8) := hW.out.trans (hb8.mono hW.out.size)
      have HMM := hide hm
      clear ho8 hb8 hsl hg81 hg82 hm hc8
      go_wp2_with (at_make; refine wpList_make_own _ rfl _ _ 32 rfl w8.heap.size 5 i0 (.int .u8 0) 1 Tryz.underlying32 hi hz0 hz1 _ _ _ (2 + m) rfl rfl (by omega) ?d2 ?d3 (Nat.le_refl _) ?_)
      case d2 => rw [hz2]; omega
      case d3 => unfold maxLen; omega
      intro w9 hown9 hgrow9
      have HB9 : Hid (Below w8.heap.size w8 w9) := (Below.refl w8.heap.size w8).grown hgrow9 (Nat.le_refl _) (fun k hk => by cases hk)
      have HO9 : Hid (Owns w9 w8.heap.size (.slice (some ⟨w8.heap.size, 0, none⟩) 0 (2 + m)) []) := hown9
      clear hown9 hgrow9
      have HYA : Hid (Bs (w9.alloc (.cells #[.int .u8 (((m / 256 : Nat)) : Int), .int .u8 ((m % 256 : Nat) : Int)] 5)) (some ⟨w9.heap.size, 0, none⟩) 2 [m / 256, m % 256]) := bs_marked w9 [m / 256, m % 256] (0, 0) (fun y hy => by simp at hy; omega)
      have HOA : Hid (Owns (w9.alloc (.cells #[.int .u8 (((m / 256 : Nat)) : Int), .int .u8 ((m % 256 : Nat) : Int)] 5)) w8.heap.size (.slice (some ⟨w8.heap.size, 0, none⟩) 0 (2 + m)) []) := HO9.out.keep (below_alloc w9 _) (Nat.le_refl _)
      have HBA : Hid (Below w8.heap.size w8 (w9.alloc (.cells #[.int .u8 (((m / 256 : Nat)) : Int), .int .u8 ((m % 256 : Nat) : Int)] 5))) := HB9.out.alloc HB9.out.size _
      go_wp2_with (at_builtin; refine wpList_append_bytes' _ rfl (.tmp 49) (.tmp 57) rfl w8.heap.size _ [] rfl HOA.out _ _ _ _ rfl HYA.out (fun e => by cases e) (by simp) HBA.out.size ?_)
      intro vB wB hoB hbB _
      have HBB : Hid (Below w8.heap.size w8 wB) := HBA.out.trans hbB
      have HOB : Hid (Owns wB w8.heap.size vB [m / 256, m % 256]) := hoB
      have HSB : Hid (Bs wB (some ⟨g8, 0, none⟩) m (seald (text (ims l)))) := by
        have h8 := (HO8.out.row (seald_bytes (text_bytes HIB.out HM.out))).2
        rw [← HMM.out] at h8
        exact h8.keep HBB.out (Nat.le_refl _)
      have HLB : Hid (([m / 256, m % 256] : List Nat).length + m ≤ 1000000) := by show 2 + m ≤ _; omega
      clear hoB hbB HYA HOA HBA HO9 HB9
      go_wp2_with (at_builtin; refine wpList_append_bytes' _ rfl (.tmp 59) (.tmp 60) rfl w8.heap.size _ [m / 256, m % 256] rfl HOB.out _ _ _ _ rfl HSB.out (fun e => by cases e) HLB.out HBB.out.size ?_)
      intro vC wC hoC hbC _
      have HOC : Hid (Owns wC w.heap.size vC (recd (ims l))) := by
        have e : recd (ims l) = [m / 256, m % 256] ++ seald (text (ims l)) := by
          unfold recd
          rw [← HMM.out]
          rfl
        show Owns _ _ _ _
        rw [e]
        exact hoC.base (Nat.le_trans HB1.out.size HB8.out.size)
      have HBC : Hid (Below w.heap.size w wC) := (HB1.out.trans (HB8.out.mono HB1.out.size)).trans ((HBB.out.trans hbC).mono (Nat.le_trans HB1.out.size HB8.out.size))
      clear hoC hbC
      go_wp2_with fail
      go_ret2
      exact ⟨_, rfl, HOC.out, HBC.out⟩

end Go.Proofs.YtpggkfdnpdhkfaaGreat

namespace Go.Proofs.YtpggkfdnpdhkfaaGreat
open Go.RowKit
set_option maxRecDepth 100000

/-- A slice's part, from a place up to one. -/
def Sl.mid6 (s : Sl) (k l : Nat) : Sl := ⟨fromA s.a s.cap k, l - k, s.cap - k⟩
theorem slice_mid6 (a : Option Addr) (len cap k l : Nat) (hk : k ≤ l) (hl : l ≤ cap) (w : World) : (Instr.sliceAt 32 (.slice a len cap) (some (.int .i64 (k : Nat))) (some (.int .i64 (l : Nat))) none).run Tryz.prog w = .ok (.slice (fromA a cap k) (l - k) (cap - k)) w := by
  have h22 : Tryz.prog.underlying 32 = some (.slice (Tryz.prog.elem 32)) := by kernel_rfl
  rw [run_sliceAt_slice w 32 _ _ _ _ h22, run_slice_lh w 32 a len cap h22 .i64 .i64 (k : Nat) (l : Nat) (by omega) (by omega) (by omega), elem22, sz5]
  simp [Result.andThen, sliced, fromA]
theorem Came.mid6 {w : World} {s : Sl} {xs : List Nat} (h : Came w s.a s.len s.cap xs) (k l : Nat) (hk : k ≤ l) (hl : l ≤ s.len) : Came w (s.mid6 k l).a (s.mid6 k l).len (s.mid6 k l).cap ((xs.drop k).take (l - k)) := by
  have hle := h.le
  have h1 := h.bs.from (cap := s.cap) (k := k) (by omega) h.le
  refine ⟨⟨?_, fun x hx => h1.2.1 x (List.mem_of_mem_take hx), fun i hi => ?_⟩, ?_, ?_, ?_⟩
  · have := h.bs.1
    show ((xs.drop k).take (l - k)).length = l - k
    simp only [List.length_take, List.length_drop]
    omega
  · have hi' : i < l - k := hi
    obtain ⟨b, off, e, hc⟩ := h1.2.2 i (by omega)
    refine ⟨b, off, e, ?_⟩
    rw [hc]
    simp [List.getD, hi']
  · intro e
    have e' : fromA s.a s.cap k = none := e
    show s.cap - k = 0
    unfold fromA at e'
    split at e'
    · omega
    · cases hs : s.a with
      | none => have := h.nil hs; omega
      | some x => rw [hs] at e'; cases e'
  · show l - k ≤ s.cap - k
    omega
  · have := h.big
    show l - k ≤ _
    omega

theorem Cm.mid6 {D : Nat → Prop} {w : World} {s : Sl} {xs : List Nat} (h : Cm D w s xs) (k l : Nat) (hk : k ≤ l) (hl : l ≤ s.len) : Cm D w (s.mid6 k l) ((xs.drop k).take (l - k)) := by
  refine ⟨h.came.mid6 k l hk hl, fun ad ha h0 => ?_⟩
  have h0' : 0 < s.len := by have : 0 < l - k := h0; omega
  have ha' : fromA s.a s.cap k = some ad := ha
  unfold fromA at ha'
  split at ha'
  · exact h.home ad ha' h0'
  · obtain ⟨b, off, hs, _⟩ := h.came.bs.2.2 0 h0'
    rw [hs] at ha'
    simp only [Option.map_some, Option.some.injEq, Addr.add_lit] at ha'
    subst ha'
    exact h.home ⟨b, off, none⟩ hs h0'

/-- Bytes below a base stay. -/
theorem Bs.low {w w' : World} {B b o len : Nat} {xs : List Nat} (h : Bs w (some ⟨b, o, none⟩) len xs) (hB : b < B) (hb : Below B w w') : Bs w' (some ⟨b, o, none⟩) len xs := by
  refine ⟨h.1, h.2.1, fun i hi => ⟨b, o, rfl, ?_⟩⟩
  exact (hb.cell (p := ⟨b, o + i, none⟩) hB).trans (h.at i hi)

/-- A row of images that is being built: its own block, and where the bytes lie. -/
structure GI (H : Nat → Prop) (base : Nat) (w : World) (v : Sl) (l : List Ix) : Prop where
  own : OwnI w v l
  blk : ∀ k, v.blk = some k → base ≤ k
  bs : ∀ x ∈ l, Cm (fun k => H k ∧ v.blk ≠ some k) w x.s x.bs
theorem GI.len {H : Nat → Prop} {base : Nat} {w : World} {v : Sl} {l : List Ix} (h : GI H base w v l) : l.length = v.len := h.own.len
theorem GI.gr {H : Nat → Prop} {base : Nat} {w : World} {v : Sl} {l : List Ix} (h : GI H base w v l) (hm : v.len ≤ 1000000) : Gr (fun k => H k ∨ base ≤ k) w v l :=
  h.own.gr (fun x hx => (h.bs x hx).mono (fun _ hk _ => .inl hk.1)) (fun k hk => .inr (h.blk k hk)) hm
theorem GI.none (H : Nat → Prop) (base : Nat) (w : World) : GI H base w Sl.nil [] := ⟨Own.nil _ _ _, fun k hk => (by cases hk), fun _ h => (by cases h)⟩
theorem GI.new (H : Nat → Prop) (base : Nat) (w : World) (hb : base ≤ w.heap.size) : GI H base (w.alloc (.cells #[] 76)) ⟨some ⟨w.heap.size, 0, Option.none⟩, 0, 0⟩ [] := ⟨OwnI.new w, fun k hk => (by cases hk; exact hb), fun _ h => (by cases h)⟩
theorem GI.keep {H : Nat → Prop} {base : Nat} {w w' : World} {v : Sl} {l : List Ix} (h : GI H base w v l) (hb : Below w.heap.size w w') : GI H base w' v l :=
  ⟨h.own.frame (fun k hk => hb.block k (h.own.lt hk)), h.blk, fun x hx => (h.bs x hx).below hb (Nat.le_refl _)⟩
/-- What an append of one image leaves. -/
theorem GI.add {H : Nat → Prop} {base : Nat} {w w' : World} {v v' : Sl} {l : List Ix} {x : Ix} (h : GI H base w v l) (hx : Cm (fun k => H k ∧ v.blk ≠ some k) w x.s x.bs) (ho : OwnI w' v' (l ++ [x])) (hf : Frm (fun k => v.blk = some k) w w') (hb : v'.blk = v.blk ∨ ∃ k, v'.blk = some k ∧ w.heap.size ≤ k) (hbase : base ≤ w.heap.size) : GI H base w' v' (l ++ [x]) ∧ Below base w w' := by
  refine ⟨⟨ho, fun k hk => ?_, fun y hy => ?_⟩, hf.below hbase h.blk⟩
  · rcases hb with e | ⟨j, e, hj⟩
    · exact h.blk k (by rw [← e]; exact hk)
    · rw [e] at hk
      cases hk
      omega
  · have hy' : Cm (fun k => H k ∧ v.blk ≠ some k) w y.s y.bs := by
      rcases List.mem_append.1 hy with hy | hy
      · exact h.bs y hy
      · rw [List.mem_singleton.1 hy]
        exact hx
    have h2 : Cm (fun k => (H k ∧ v.blk ≠ some k) ∧ v'.blk ≠ some k) w y.s y.bs := hy'.mono (fun k hk hl => ⟨hk, fun e => by
      rcases hb with e' | ⟨j, e', hj⟩
      · exact hk.2 (by rw [← e']; exact e)
      · rw [e'] at e
        cases e
        omega⟩)
    exact (h2.keep (Kept6.frm hf (fun k hk => hk.1.2))).mono (fun k hk _ => ⟨hk.1.1, hk.2⟩)

theorem build_im (x : Ix) (w : World) : (Instr.buildSlice 52 1 #[(0, x.val)]).run Tryz.prog w = .ok (.slice (some ⟨w.heap.size, 0, none⟩) 1 1) (w.alloc (.cells #[.int .i64 x.page, x.s.val] 76)) := by
  unfold Ix.val Sl.val
  simp [go_sem]
theorem cv_b (n : Nat) (h : n < 256) (w : World) : (convert 5 3 (.int .u8 (n : Nat))).run Tryz.prog w = .ok (.int .i64 (n : Nat)) w := by
  have e : IntKind.i64.wrap (n : Int) = (n : Int) := by rw [IntKind.wrap_i64]; omega
  simp [go_sem, e]
theorem entImageOf : ∀ args w, (callFunc 119 args).run Tryz.prog w = .ok (.enter 119 args) w := Pl.enters Tryz.func119 (by kernel_rfl) (by kernel_rfl)
/-- An image of two values. -/
theorem Pl.bldI {P : Program} {ops : Array Oper} {S : World → Prop} {n : Nat} {f : Nat → Value} (i : Nat) (x y : Operand) (m : Ix) (h : (Pl.op ops i).op = .build 76 #[(0, x), (1, y)]) (hx : Pl.inB n x = true) (hy : Pl.inB n y = true)
    (hv : ∀ w, (Instr.build 76 #[(0, Pl.ev f x), (1, Pl.ev f y)]).run P w = .ok m.val w) : ∀ A, Pl.At n A f → ∀ w, S w → (execOp A.eval (Pl.op ops i)).run P w = .ok (.value m.val) w := by
  intro A hA w _
  have e : execOp A.eval (Pl.op ops i) = (do pure (.value (← Instr.build 76 (Array.map (fun (p : Nat × Operand) => (p.1, A.eval p.2)) #[(0, x), (1, y)])))) := by
    unfold execOp
    rw [h]
  rw [e]
  simp [hA.ev x hx, hA.ev y hy, hv w]
theorem run_bldI (m : Ix) (w : World) : (Instr.build 76 #[(0, .int .i64 m.page), (1, m.s.val)]).run Tryz.prog w = .ok m.val w := by
  unfold Ix.val Sl.val
  simp [go_sem]

set_option maxHeartbeats 2000000 in
set_option maxRecDepth 100000 in
theorem grp7 (w : World) (H : Nat → Prop) (base b o len cap p : Nat) (x : List Nat) (v : Sl) (l : List Ix) (hg : GI H base w.drew v l) (hbase : base ≤ w.drew.heap.size) (hB : Bs w.drew (some ⟨b, o, none⟩) len x) (hbl : b < base) (hx : Bytes x) (hp : p + 513 ≤ len) (hlc : len ≤ cap) (hbig : len ≤ 1000000) (hvl : v.len ≤ 100000) (hm : Came w.drew (Sl.mid6 ⟨some ⟨b, o, none⟩, len, cap⟩ (p + 1) (p + 513)).a (Sl.mid6 ⟨some ⟨b, o, none⟩, len, cap⟩ (p + 1) (p + 513)).len (Sl.mid6 ⟨some ⟨b, o, none⟩, len, cap⟩ (p + 1) (p + 513)).cap ((x.drop (p + 1)).take 512)) (hHn : ∀ k, w.drew.heap.size ≤ k → H k)
    {Q : Exit → Act → World → Prop} {A : Act} (hsz : A.tmps.size = 45) (hdf : A.defers = []) (s0 : A.tmps.getD 0 undef = .slice (some ⟨b, o, none⟩) len cap) (s4 : A.tmps.getD 4 undef = Sl.val v) (s5 : A.tmps.getD 5 undef = .int .i64 ((p : Nat) : Int))
    (hend : ∀ (u : Nat → Value) w' v3 s, GI H base w' v3 (l ++ [(⟨((x.getD p 0 : Nat) : Int), s, (x.drop (p + 1)).take 512⟩ : Ix)]) → v3.len = v.len + 1 → Below base w.drew w' → Q .normal (((((((((((((((((A).put (some 26) (u 26)).put (some 27) (u 27)).put (some 28) (u 28)).put (some 29) (u 29)).put (some 30) (u 30)).put (some 31) (u 31)).put (some 32) (u 32)).put (some 33) (u 33)).put (some 34) (u 34)).put (some 35) (u 35)).put (some 36) (u 36)).put (some 37) (u 37)).put (some 38) (u 38)).put (some 39) (u 39)).put (some 40) (u 40)).put (some 4) (Sl.val v3)) w') :
    (Code.region 7 (Pl.find 7 ((Tryz.f106.body).getD .skip)) true).wp Tryz.prog Q A w := by
  have hA := Pl.At.same (v := .int .i64 ((p : Nat) : Int)) (d := 5) (Pl.At.same (v := Sl.val v) (d := 4) (Pl.At.same (v := .slice (some ⟨b, o, none⟩) len cap) (d := 0) (Pl.At.here hsz hdf) s0) s4) s5
  refine Pl.H.start (S := (fun w' => Bs w' (some ⟨b, o, none⟩) len x)) (by kernel_rfl) hA hB ?_
  rw [show (Pl.find 7 ((Tryz.f106.body).getD .skip)).size = 16 by kernel_rfl]
  refine Pl.H.take 0 26 (Sl.val v) (by kernel_rfl) (by kernel_rfl) (by kernel_rfl) (Pl.free 0 (by kernel_rfl)) (Pl.move 0 (.tmp 4) (by kernel_rfl) (by decide)) hB ?_
  refine Pl.H.take 1 27 (.slice (some ⟨b, o, none⟩) len cap) (by kernel_rfl) (by kernel_rfl) (by kernel_rfl) (Pl.free 1 (by kernel_rfl)) (Pl.move 1 (.tmp 0) (by kernel_rfl) (by decide)) hB ?_
  refine Pl.H.take 2 28 (.int .i64 ((p : Nat) : Int)) (by kernel_rfl) (by kernel_rfl) (by kernel_rfl) (Pl.free 2 (by kernel_rfl)) (Pl.move 2 (.tmp 5) (by kernel_rfl) (by decide)) hB ?_
  refine Pl.H.take 3 29 (.pointer (some ⟨b, o + p, none⟩)) (by kernel_rfl) (by kernel_rfl) (by kernel_rfl) (Pl.free 3 (by kernel_rfl)) (Pl.index 3 32 (.tmp 27) (.tmp 28) _ (by kernel_rfl) (by decide) (by decide) (ixB b o len cap p (by omega))) hB ?_
  refine Pl.H.take 4 30 (.int .u8 ((x.getD p 0 : Nat) : Int)) (by kernel_rfl) (by kernel_rfl) (by kernel_rfl) (Pl.free 4 (by kernel_rfl)) (Pl.load 4 5 (.tmp 29) _ (by kernel_rfl) (by decide) (fun w' hS => ldB _ _ _ w' (hS.at p (by omega)))) hB ?_
  refine Pl.H.take 5 31 (.int .i64 ((x.getD p 0 : Nat) : Int)) (by kernel_rfl) (by kernel_rfl) (by kernel_rfl) (Pl.free 5 (by kernel_rfl)) (Pl.convV 5 5 3 (.tmp 30) (.int .u8 ((x.getD p 0 : Nat) : Int)) _ (by kernel_rfl) (by decide) rfl (fun w _ => cv_b _ (getD_lt hx p) w)) hB ?_
  refine Pl.H.take 6 32 (.slice (some ⟨b, o, none⟩) len cap) (by kernel_rfl) (by kernel_rfl) (by kernel_rfl) (Pl.free 6 (by kernel_rfl)) (Pl.move 6 (.tmp 0) (by kernel_rfl) (by decide)) hB ?_
  refine Pl.H.take 7 33 (.int .i64 ((p : Nat) : Int)) (by kernel_rfl) (by kernel_rfl) (by kernel_rfl) (Pl.free 7 (by kernel_rfl)) (Pl.move 7 (.tmp 5) (by kernel_rfl) (by decide)) hB ?_
  refine Pl.H.take 8 34 (.int .i64 ((p + 1 : Nat) : Int)) (by kernel_rfl) (by kernel_rfl) (by kernel_rfl) (Pl.free 8 (by kernel_rfl)) (Pl.binV 8 .add 3 3 (.tmp 33) (.const (.int .i64 1)) (.int .i64 ((p : Nat) : Int)) (.int .i64 1) _ (by kernel_rfl) (by decide) (by decide) rfl rfl (addN6 p 1 _ _ (by omega))) hB ?_
  refine Pl.H.take 9 35 (.int .i64 ((p : Nat) : Int)) (by kernel_rfl) (by kernel_rfl) (by kernel_rfl) (Pl.free 9 (by kernel_rfl)) (Pl.move 9 (.tmp 5) (by kernel_rfl) (by decide)) hB ?_
  refine Pl.H.take 10 36 (.int .i64 ((p + 513 : Nat) : Int)) (by kernel_rfl) (by kernel_rfl) (by kernel_rfl) (Pl.free 10 (by kernel_rfl)) (Pl.binV 10 .add 3 3 (.tmp 35) (.const (.int .i64 513)) (.int .i64 ((p : Nat) : Int)) (.int .i64 513) _ (by kernel_rfl) (by decide) (by decide) rfl rfl (addN6 p 513 _ _ (by omega))) hB ?_
  refine Pl.H.take 11 37 (Sl.val (Sl.mid6 ⟨some ⟨b, o, none⟩, len, cap⟩ (p + 1) (p + 513))) (by kernel_rfl) (by kernel_rfl) (by kernel_rfl) (Pl.free 11 (by kernel_rfl)) (Pl.slice 11 32 (.tmp 32) (some (.tmp 34)) (some (.tmp 36)) _ (by kernel_rfl) (by decide) (by decide) (by decide) (slice_mid6 _ len cap (p + 1) (p + 513) (by omega) (by omega))) hB ?_
  refine Pl.H.call 12 38 119 [(.tmp 31), (.tmp 37)] #[3, 32] (by kernel_rfl) (by kernel_rfl) (by kernel_rfl) (Pl.free 12 (by kernel_rfl)) (by kernel_rfl) (by decide) entImageOf (Calls.mono (imageOf_any w.drew ((x.getD p 0 : Nat) : Int) (Sl.mid6 ⟨some ⟨b, o, none⟩, len, cap⟩ (p + 1) (p + 513)).a (Sl.mid6 ⟨some ⟨b, o, none⟩, len, cap⟩ (p + 1) (p + 513)).len (Sl.mid6 ⟨some ⟨b, o, none⟩, len, cap⟩ (p + 1) (p + 513)).cap ((x.drop (p + 1)).take 512) hm (by show p + 513 - (p + 1) ≤ _; omega)) ?_)
  rintro e w2 ⟨s2, rfl, hb2, hc2⟩
  refine ⟨Ix.val (⟨((x.getD p 0 : Nat) : Int), s2, (x.drop (p + 1)).take 512⟩ : Ix), rfl, (hB.keep hb2 (Nat.le_refl _)), ?_⟩
  refine Pl.H.make 13 39 (.slice (some ⟨w2.heap.size, 0, none⟩) 1 1) (w2.alloc (.cells #[.int .i64 (⟨((x.getD p 0 : Nat) : Int), s2, (x.drop (p + 1)).take 512⟩ : Ix).page, (⟨((x.getD p 0 : Nat) : Int), s2, (x.drop (p + 1)).take 512⟩ : Ix).s.val] 76)) (by kernel_rfl) (by kernel_rfl) (by kernel_rfl) (Pl.free 13 (by kernel_rfl)) (Pl.one 13 52 (.tmp 38) _ _ (by kernel_rfl) (by decide) (build_im (⟨((x.getD p 0 : Nat) : Int), s2, (x.drop (p + 1)).take 512⟩ : Ix) w2)) ((hB.keep hb2 (Nat.le_refl _)).keep (below_alloc w2 _) (Nat.le_refl _)) ?_
  have hg2 := hg.keep hb2
  obtain ⟨v3, w3, hrun3, ho3, hl3, hf3, hb3⟩ := own_im w2 v l hg2.own (⟨((x.getD p 0 : Nat) : Int), s2, (x.drop (p + 1)).take 512⟩ : Ix) (by omega) 52
  have hx2 : Cm (fun k => H k ∧ v.blk ≠ some k) w2 s2 ((x.drop (p + 1)).take 512) := hc2.mono (fun k hk _ => ⟨hHn k hk, fun e => by have := hg.own.lt e; omega⟩)
  obtain ⟨hg3, hbb3⟩ := hg2.add (x := (⟨((x.getD p 0 : Nat) : Int), s2, (x.drop (p + 1)).take 512⟩ : Ix)) hx2 ho3 hf3 hb3 (Nat.le_trans hbase hb2.size)
  have hbw := (hb2.mono hbase).trans hbb3
  refine Pl.H.make 14 40 (Sl.val v3) w3 (by kernel_rfl) (by kernel_rfl) (by kernel_rfl) (Pl.free 14 (by kernel_rfl)) (Pl.appT 14 52 52 (.tmp 26) (.tmp 39) _ _ (by kernel_rfl) (by kernel_rfl) (by decide) (by decide) hrun3) (Bs.low hB hbl hbw) ?_
  refine Pl.H.take 15 4 (Sl.val v3) (by kernel_rfl) (by kernel_rfl) (by kernel_rfl) (Pl.free 15 (by kernel_rfl)) (Pl.assign 15 (.tmp 40) (by kernel_rfl) (by decide)) (Bs.low hB hbl hbw) ?_
  refine Pl.H.done (by kernel_rfl) (fun A' hA' => ?_)
  rw [Pl.At.ext hA' ((((((((((((((((hA.put 26 _).put 27 _).put 28 _).put 29 _).put 30 _).put 31 _).put 32 _).put 33 _).put 34 _).put 35 _).put 36 _).put 37 _).put 38 _).put 39 _).put 40 _).put 4 _)]
  exact hend (fun d => if d = 26 then Sl.val v else if d = 27 then .slice (some ⟨b, o, none⟩) len cap else if d = 28 then .int .i64 ((p : Nat) : Int) else if d = 29 then .pointer (some ⟨b, o + p, none⟩) else if d = 30 then .int .u8 ((x.getD p 0 : Nat) : Int) else if d = 31 then .int .i64 ((x.getD p 0 : Nat) : Int) else if d = 32 then .slice (some ⟨b, o, none⟩) len cap else if d = 33 then .int .i64 ((p : Nat) : Int) else if d = 34 then .int .i64 ((p + 1 : Nat) : Int) else if d = 35 then .int .i64 ((p : Nat) : Int) else if d = 36 then .int .i64 ((p + 513 : Nat) : Int) else if d = 37 then Sl.val (Sl.mid6 ⟨some ⟨b, o, none⟩, len, cap⟩ (p + 1) (p + 513)) else if d = 38 then Ix.val (⟨((x.getD p 0 : Nat) : Int), s2, (x.drop (p + 1)).take 512⟩ : Ix) else if d = 39 then .slice (some ⟨w2.heap.size, 0, none⟩) 1 1 else if d = 40 then Sl.val v3 else undef) _ v3 _ hg3 hl3 hbw

end Go.Proofs.YtpggkfdnpdhkfaaGreat

namespace Go.Proofs.YtpggkfdnpdhkfaaGreat
open Go.RowKit
set_option maxRecDepth 100000

theorem below_drew6 (w : World) : Below w.heap.size w w.drew := (Below.refl _ _).drew
theorem shl8 (a : Nat) (x y : Operand) (h2 : a < 256) (w : World) : (do eqGuard .shl 3 x y (.int .i64 (a : Nat)) (.int .u64 8); binOp .shl 3 (.int .i64 (a : Nat)) (.int .u64 8) : Sem Value).run Tryz.prog w = .ok (.int .i64 ((a * 256 : Nat) : Int)) w := by
  have e : IntKind.i64.wrap ((a : Int) * 256) = ((a * 256 : Nat) : Int) := by rw [IntKind.wrap_i64]; omega
  simp [go_sem, eqGuard, e]
set_option maxHeartbeats 2000000 in
set_option maxRecDepth 100000 in
theorem fst3 (w : World) (b o len cap : Nat) (xs : List Nat) (hB : Bs w.drew (some ⟨b, o, none⟩) len xs) (h2 : 2 ≤ len)
    {Q : Exit → Act → World → Prop} {A : Act} (hsz : A.tmps.size = 47) (hdf : A.defers = []) (s0 : A.tmps.getD 0 undef = .slice (some ⟨b, o, none⟩) len cap)
    (hend : ∀ (u : Nat → Value) w', w' = w.drew → Q .normal (((((((((((((A).put (some 12) (u 12)).put (some 13) (u 13)).put (some 14) (u 14)).put (some 15) (u 15)).put (some 16) (u 16)).put (some 17) (u 17)).put (some 18) (u 18)).put (some 19) (u 19)).put (some 20) (u 20)).put (some 21) (u 21)).put (some 22) (u 22)).put (some 5) (.int .i64 ((2 + xs.getD 0 0 * 256 + xs.getD 1 0 : Nat) : Int))) w') :
    (Code.region 3 (Pl.find 3 ((Tryz.f80.body).getD .skip)) true).wp Tryz.prog Q A w := by
  have hA := Pl.At.same (v := .slice (some ⟨b, o, none⟩) len cap) (d := 0) (Pl.At.here hsz hdf) s0
  refine Pl.H.start (S := (fun w' => Bs w' (some ⟨b, o, none⟩) len xs)) (by kernel_rfl) hA hB ?_
  rw [show (Pl.find 3 ((Tryz.f80.body).getD .skip)).size = 12 by kernel_rfl]
  refine Pl.H.take 0 12 (.slice (some ⟨b, o, none⟩) len cap) (by kernel_rfl) (by kernel_rfl) (by kernel_rfl) (Pl.free 0 (by kernel_rfl)) (Pl.move 0 (.tmp 0) (by kernel_rfl) (by decide)) hB ?_
  refine Pl.H.take 1 13 (.pointer (some ⟨b, o + 0, none⟩)) (by kernel_rfl) (by kernel_rfl) (by kernel_rfl) (Pl.free 1 (by kernel_rfl)) (Pl.index 1 32 (.tmp 12) (.const (.int .i64 0)) _ (by kernel_rfl) (by decide) (by decide) (ixB b o len cap 0 (by omega))) hB ?_
  refine Pl.H.take 2 14 (.int .u8 ((xs.getD 0 0 : Nat) : Int)) (by kernel_rfl) (by kernel_rfl) (by kernel_rfl) (Pl.free 2 (by kernel_rfl)) (Pl.load 2 5 (.tmp 13) _ (by kernel_rfl) (by decide) (fun w' hS => ldB _ _ _ w' (hS.at 0 (by omega)))) hB ?_
  refine Pl.H.take 3 15 (.int .i64 ((xs.getD 0 0 : Nat) : Int)) (by kernel_rfl) (by kernel_rfl) (by kernel_rfl) (Pl.free 3 (by kernel_rfl)) (Pl.convV 3 5 3 (.tmp 14) (.int .u8 ((xs.getD 0 0 : Nat) : Int)) _ (by kernel_rfl) (by decide) rfl (fun w _ => cv_b _ (getD_lt hB.2.1 0) w)) hB ?_
  refine Pl.H.take 4 16 (.int .i64 ((xs.getD 0 0 * 256 : Nat) : Int)) (by kernel_rfl) (by kernel_rfl) (by kernel_rfl) (Pl.free 4 (by kernel_rfl)) (Pl.binV 4 .shl 3 132 (.tmp 15) (.const (.int .u64 8)) (.int .i64 ((xs.getD 0 0 : Nat) : Int)) (.int .u64 8) _ (by kernel_rfl) (by decide) (by decide) rfl rfl (shl8 _ _ _ (getD_lt hB.2.1 0))) hB ?_
  refine Pl.H.take 5 17 (.int .i64 ((2 + xs.getD 0 0 * 256 : Nat) : Int)) (by kernel_rfl) (by kernel_rfl) (by kernel_rfl) (Pl.free 5 (by kernel_rfl)) (Pl.binV 5 .add 3 3 (.const (.int .i64 2)) (.tmp 16) (.int .i64 2) (.int .i64 ((xs.getD 0 0 * 256 : Nat) : Int)) _ (by kernel_rfl) (by decide) (by decide) rfl rfl (addN6 2 _ _ _ (by have := getD_lt hB.2.1 0; omega))) hB ?_
  refine Pl.H.take 6 18 (.slice (some ⟨b, o, none⟩) len cap) (by kernel_rfl) (by kernel_rfl) (by kernel_rfl) (Pl.free 6 (by kernel_rfl)) (Pl.move 6 (.tmp 0) (by kernel_rfl) (by decide)) hB ?_
  refine Pl.H.take 7 19 (.pointer (some ⟨b, o + 1, none⟩)) (by kernel_rfl) (by kernel_rfl) (by kernel_rfl) (Pl.free 7 (by kernel_rfl)) (Pl.index 7 32 (.tmp 18) (.const (.int .i64 1)) _ (by kernel_rfl) (by decide) (by decide) (ixB b o len cap 1 (by omega))) hB ?_
  refine Pl.H.take 8 20 (.int .u8 ((xs.getD 1 0 : Nat) : Int)) (by kernel_rfl) (by kernel_rfl) (by kernel_rfl) (Pl.free 8 (by kernel_rfl)) (Pl.load 8 5 (.tmp 19) _ (by kernel_rfl) (by decide) (fun w' hS => ldB _ _ _ w' (hS.at 1 (by omega)))) hB ?_
  refine Pl.H.take 9 21 (.int .i64 ((xs.getD 1 0 : Nat) : Int)) (by kernel_rfl) (by kernel_rfl) (by kernel_rfl) (Pl.free 9 (by kernel_rfl)) (Pl.convV 9 5 3 (.tmp 20) (.int .u8 ((xs.getD 1 0 : Nat) : Int)) _ (by kernel_rfl) (by decide) rfl (fun w _ => cv_b _ (getD_lt hB.2.1 1) w)) hB ?_
  refine Pl.H.take 10 22 (.int .i64 ((2 + xs.getD 0 0 * 256 + xs.getD 1 0 : Nat) : Int)) (by kernel_rfl) (by kernel_rfl) (by kernel_rfl) (Pl.free 10 (by kernel_rfl)) (Pl.binV 10 .add 3 3 (.tmp 17) (.tmp 21) (.int .i64 ((2 + xs.getD 0 0 * 256 : Nat) : Int)) (.int .i64 ((xs.getD 1 0 : Nat) : Int)) _ (by kernel_rfl) (by decide) (by decide) rfl rfl (addN6 _ _ _ _ (by have := getD_lt hB.2.1 0; have := getD_lt hB.2.1 1; omega))) hB ?_
  refine Pl.H.take 11 5 (.int .i64 ((2 + xs.getD 0 0 * 256 + xs.getD 1 0 : Nat) : Int)) (by kernel_rfl) (by kernel_rfl) (by kernel_rfl) (Pl.free 11 (by kernel_rfl)) (Pl.assign 11 (.tmp 22) (by kernel_rfl) (by decide)) hB ?_
  refine Pl.H.done (by kernel_rfl) (fun A' hA' => ?_)
  rw [Pl.At.ext hA' ((((((((((((hA.put 12 _).put 13 _).put 14 _).put 15 _).put 16 _).put 17 _).put 18 _).put 19 _).put 20 _).put 21 _).put 22 _).put 5 _)]
  exact hend (fun d => if d = 12 then .slice (some ⟨b, o, none⟩) len cap else if d = 13 then .pointer (some ⟨b, o + 0, none⟩) else if d = 14 then .int .u8 ((xs.getD 0 0 : Nat) : Int) else if d = 15 then .int .i64 ((xs.getD 0 0 : Nat) : Int) else if d = 16 then .int .i64 ((xs.getD 0 0 * 256 : Nat) : Int) else if d = 17 then .int .i64 ((2 + xs.getD 0 0 * 256 : Nat) : Int) else if d = 18 then .slice (some ⟨b, o, none⟩) len cap else if d = 19 then .pointer (some ⟨b, o + 1, none⟩) else if d = 20 then .int .u8 ((xs.getD 1 0 : Nat) : Int) else if d = 21 then .int .i64 ((xs.getD 1 0 : Nat) : Int) else if d = 22 then .int .i64 ((2 + xs.getD 0 0 * 256 + xs.getD 1 0 : Nat) : Int) else undef) _ rfl

end Go.Proofs.YtpggkfdnpdhkfaaGreat

namespace Go.Proofs.YtpggkfdnpdhkfaaGreat
open Go.RowKit
set_option maxRecDepth 100000

section
variable {ops : Array Oper} {rest : List Oper} {o : Oper} {a : Act} {Q : Exit → Act → World → Prop}
theorem wpList_slice (w : World) (hgd : o.guard = none) (t : TypeId) (x : Operand) (lo hi : Option Operand) (ho : o.op = .slice t x lo hi none) (v : Value) (hrun : (Instr.sliceAt t (a.eval x) (lo.map a.eval) (hi.map a.eval) none).run Tryz.prog w = .ok v w) (hK : wpList Tryz.prog ops Q rest (a.put o.dst v) w) : wpList Tryz.prog ops Q (o :: rest) a w := by
  refine wpList_val w hgd v w ?_ hK
  have e : execOp a.eval o = (do pure (.value (← Instr.sliceAt t (a.eval x) (lo.map a.eval) (hi.map a.eval) none))) := by
    unfold execOp
    rw [ho]
    rfl
  rw [e]
  simp [hrun]
end

theorem grp_no {x : List Nat} {n : Nat} (h : ¬ (1 ≤ x.length ∧ x.length = 1 + 513 * x.getD 0 0 ∧ May (imgs x (x.getD 0 0)))) : grp x n = Told.no 4 := by
  unfold grp
  rw [if_neg h]
theorem grp_yes {x : List Nat} {n : Nat} (h : 1 ≤ x.length ∧ x.length = 1 + 513 * x.getD 0 0 ∧ May (imgs x (x.getD 0 0))) : grp x n = ⟨imgs x (x.getD 0 0), n, 0⟩ := by
  unfold grp
  rw [if_pos h]

/-- A group told, in new memory. -/
def NewG (w w' : World) (v : Sl) (g : List Im) : Prop := ∃ l, Gr (fun k => w.heap.size ≤ k) w' v l ∧ ims l = g
theorem NewG.none (w w' : World) : NewG w w' Sl.nil [] := ⟨[], Gr.none, rfl⟩

set_option maxHeartbeats 4000000 in
set_option maxRecDepth 100000 in
theorem groupOf_any (w : World) (a : Option Addr) (len cap : Nat) (x : List Nat) (h : Came w a len cap x) (hm : len ≤ 100000) :
    Calls Tryz.prog 106 #[.slice a len cap] w fun e w' => ∃ v : Sl, e = .returned (.tuple #[v.val, .int .i64 ((grp x 0).e : Nat)]) ∧ NewG w w' v (grp x 0).g ∧ Below w.heap.size w w' := by
  have hxl := h.bs.1
  have HR := hide (Below.refl w.heap.size w)
  by_cases h1 : len < 1
  · have e : grp x 0 = Told.no 4 := grp_no (fun hh => by have := hh.1; omega)
    rw [e]
    have i1 : ((len : Nat) : Int) < 1 := by omega
    clear h e hxl
    go_enter Tryz.func106, Tryz.ntmps106
    go_wp2_with fail
    go_ret2
    exact ⟨Sl.nil, rfl, NewG.none _ _, HR.out⟩
  have i1 : ¬ ((len : Nat) : Int) < 1 := by omega
  obtain ⟨b, o, ha, hc0⟩ := h.bs.2.2 0 (by omega)
  subst ha
  rw [Nat.add_zero] at hc0
  obtain ⟨n, hn⟩ : ∃ n, n = x.getD 0 0 := ⟨_, rfl⟩
  rw [← hn] at hc0
  have hn256 : n < 256 := by rw [hn]; exact getD_lt h.bs.2.1 0
  have hbw : b < w.heap.size := World.block_lt_of_cell? w _ hc0
  by_cases h2 : len = 1 + 513 * n
  · have H := hide h
    have HXL := hide hxl
    have HN := hide hn
    have HX := hide h.bs.2.1
    have hle := h.le
    have i2 : (((len : Nat) : Int) != 1 + ((n : Nat) : Int) * 513) = false := by
      rw [bne_eq_false_iff_eq]
      omega
    have HL2 := hide h2
    have i3 : (0 : Int) < ((len : Nat) : Int) := by omega
    have HG0 := hide (GI.none (fun k => w.heap.size ≤ k) w.heap.size w)
    clear h hxl hn h2
    go_enter Tryz.func106, Tryz.ntmps106
    go_wp2_with fail
    clear hc0
    go_loopw [4, 5] (fun gv i wr => ∃ (j : Nat) (p : Nat) (v : Sl) (l : List Ix), j ≤ n ∧ p = 1 + 513 * j ∧ i = .int .i64 (p : Nat) ∧ gv = v.val ∧ v.len = j ∧ Hid (GI (fun k => w.heap.size ≤ k) w.heap.size wr v l) ∧ Hid (ims l = imgs x j) ∧ Hid (Below w.heap.size w wr)) (fun _ i _ => len - (intOf i).toNat)
    case atStart => exact ⟨0, 1, Sl.nil, [], by omega, rfl, rfl, rfl, rfl, HG0, hide rfl, HR⟩
    case round =>
      obtain ⟨j, p, v, l, hj, hp, rfl, rfl, hvl, hg, hi, hW⟩ := hrel
      have HP := hide hp
      have h2 := HL2.out
      rcases Nat.lt_or_ge j n with hlt | hge
      · have i4 : ((p : Nat) : Int) < ((len : Nat) : Int) := by omega
        have hd := below_drew6 wr
        have hcm : Came wr.drew (some ⟨b, o, none⟩) len cap x := by
          have h9 := H.out
          exact ⟨h9.bs.keep (rBelow hW.out (hd)) (Nat.le_refl _), h9.nil, h9.le, h9.big⟩
        have hmid := Came.mid6 (s := ⟨some ⟨b, o, none⟩, len, cap⟩) hcm (p + 1) (p + 513) (by omega) (by show p + 513 ≤ len; omega)
        rw [show p + 513 - (p + 1) = 512 by omega] at hmid
        have HRG := hide (fun Q A => @grp7 wr (fun k => w.heap.size ≤ k) w.heap.size b o len cap p x v l (hg.out.keep hd) (Nat.le_trans hW.out.size hd.size) hcm.bs hbw HX.out (by omega) hle (by omega) (by omega) hmid (fun k hk => Nat.le_trans hW.out.size (Nat.le_trans hd.size hk)) Q A)
        have HNX : Hid (∀ s : Sl, ims (l ++ [(⟨((x.getD p 0 : Nat) : Int), s, (x.drop (p + 1)).take 512⟩ : Ix)]) = imgs x (j + 1)) := by
          intro s
          rw [ims_append, hi.out, imgs_succ, hp]
          show _ ++ [(⟨_, _⟩ : Im)] = _
          unfold imgAt
          rw [show 1 + 513 * j + 1 = 2 + 513 * j by omega]
        have hp513 : p + 513 ≤ len := by omega
        clear hp hcm hmid hd h2
        go_wp2_with fail
        refine Pl.region_is (ops := Pl.find 7 ((Tryz.f106.body).getD .skip)) (by kernel_rfl) ?_
        refine HRG.out _ _ (by rfl) rfl (by rfl) (by rfl) (by rfl) ?_
        intro uu w9 v9 s9 hg9 hl9 hb9
        have HG9 := hide hg9
        have HB9 := hide ((rBelow hW.out (below_drew6 wr)).trans hb9)
        have hl9' : v9.len = j + 1 := by omega
        have HN9 := hide (HNX.out s9)
        simp only [Act.put, List.setIfInBounds_toArray, List.set_cons_zero, List.set_cons_succ]
        clear HRG HNX hg9 hb9 hl9
        go_wp2_with fail
        go_roundw
        case rel => exact ⟨j + 1, p + 513, v9, _, by omega, by have := HP.out; omega, by go_num, rfl, hl9', HG9, HN9, HB9⟩
        case measure => simp only [intOf]; omega
      · have hjn : j = n := by omega
        have i4 : ¬ ((p : Nat) : Int) < ((len : Nat) : Int) := by omega
        have hgr := hg.out.gr (by omega)
        have hchk := check_any6 wr v l hgr
        rw [hi.out] at hchk
        have HGR : Hid (NewG w wr v (imgs x n)) := ⟨l, hgr.mono (fun k hk _ => hk.elim id id), by rw [hi.out, hjn]⟩
        rw [hjn] at hchk
        have HLN : Hid (1 ≤ x.length ∧ x.length = 1 + 513 * x.getD 0 0) := by rw [HXL.out, ← HN.out]; exact ⟨by omega, h2⟩
        clear hgr hp h2
        by_cases hy : May (imgs x n)
        · rw [chk_ok6 hy] at hchk
          have HC := hide hchk
          have HE : Hid (grp x 0 = ⟨imgs x n, 0, 0⟩) := by
            show _ = _
            rw [grp_yes ⟨HLN.out.1, HLN.out.2, by rw [← HN.out]; exact hy⟩, ← HN.out]
          clear hchk
          go_wp2_with fail
          refine HC.out.mono ?_
          rintro e w1 ⟨rfl, hb1⟩
          have HGR2 : Hid (NewG w w1 v (imgs x n)) := by
            obtain ⟨l', h3, h4⟩ := HGR.out
            exact ⟨l', h3.below hb1 (Nat.le_refl _), h4⟩
          have HB2 := hide (hW.out.trans (hb1.mono hW.out.size))
          clear hb1 HC
          go_wp2_with fail
          go_ret2
          refine ⟨v, ?_, ?_, HB2.out⟩
          · rw [HE.out]; rfl
          · rw [HE.out]; exact HGR2.out
        · rw [chk_no6 hy] at hchk
          have HC := hide hchk
          have HE : Hid (grp x 0 = Told.no 4) := grp_no (fun hh => hy (by rw [HN.out]; exact hh.2.2))
          clear hchk
          go_wp2_with fail
          refine HC.out.mono ?_
          rintro e w1 ⟨rfl, hb1⟩
          have HB2 := hide (hW.out.trans (hb1.mono hW.out.size))
          clear hb1 HC
          go_wp2_with fail
          go_ret2
          refine ⟨Sl.nil, ?_, ?_, HB2.out⟩
          · rw [HE.out]; rfl
          · rw [HE.out]; exact NewG.none _ _
  · have e : grp x 0 = Told.no 4 := grp_no (fun hh => by have := hh.2.1; rw [← hn] at this; omega)
    rw [e]
    have i2 : (((len : Nat) : Int) != 1 + ((n : Nat) : Int) * 513) = true := by
      rw [bne_iff_ne]
      omega
    have i3 : (0 : Int) < ((len : Nat) : Int) := by omega
    clear h e hxl hn h2
    go_enter Tryz.func106, Tryz.ntmps106
    go_wp2_with fail
    go_ret2
    exact ⟨Sl.nil, rfl, NewG.none _ _, HR.out⟩
end Go.Proofs.YtpggkfdnpdhkfaaGreat

namespace Go.Proofs.YtpggkfdnpdhkfaaGreat
open Go.RowKit
set_option maxRecDepth 100000

theorem dec_short {b : List Nat} (h : b.length < 2) : dec b = Told.no 4 := by
  unfold dec
  rw [if_pos h]
theorem dec_few {b : List Nat} (h2 : 2 ≤ b.length) (h : b.length < 2 + said b ∨ said b < 4) : dec b = Told.no 4 := by
  unfold dec
  rw [if_neg (by omega), if_pos h]
theorem dec_bad {b : List Nat} (h2 : 2 ≤ b.length) (h : 2 + said b ≤ b.length) (h4 : 4 ≤ said b) (hs : ¬ Sealed ((b.drop 2).take (said b))) : dec b = Told.no 5 := by
  unfold dec
  rw [if_neg (by omega), if_neg (by omega), if_neg hs]
theorem dec_good {b : List Nat} (h2 : 2 ≤ b.length) (h : 2 + said b ≤ b.length) (h4 : 4 ≤ said b) (hs : Sealed ((b.drop 2).take (said b))) : dec b = grp (((b.drop 2).take (said b)).drop 4) (2 + said b) := by
  unfold dec
  rw [if_neg (by omega), if_neg (by omega), if_pos hs]
/-- What groupOf tells, or nothing. -/
theorem grp_cases (x : List Nat) (n : Nat) : ((grp x 0).e = 0 ∧ grp x n = ⟨(grp x 0).g, n, 0⟩) ∨ (grp x 0 = Told.no 4 ∧ grp x n = Told.no 4) := by
  unfold grp
  split
  · exact .inl ⟨rfl, rfl⟩
  · exact .inr ⟨rfl, rfl⟩

/-- What First leaves. -/
def FirstPost (w : World) (b : List Nat) (e : Ending) (w' : World) : Prop := ∃ v : Sl, e = .returned (.tuple #[v.val, .int .i64 ((dec b).n : Nat), .int .i64 ((dec b).e : Nat)]) ∧ NewG w w' v (dec b).g ∧ Below w.heap.size w w'
theorem FirstPost.no {w w' : World} {b : List Nat} {q : Nat} (h : dec b = Told.no q) (hb : Below w.heap.size w w') : FirstPost w b (.returned (.tuple #[.slice none 0 0, .int .i64 0, .int .i64 ((q : Nat) : Int)])) w' := by
  refine ⟨Sl.nil, ?_, ?_, hb⟩
  · rw [h]; rfl
  · rw [h]; exact NewG.none _ _

set_option maxHeartbeats 4000000 in
set_option maxRecDepth 100000 in
theorem first_any6 (w : World) (a : Option Addr) (len cap : Nat) (xs : List Nat) (h : Came w a len cap xs) (hm : len ≤ 100000) :
    Calls Tryz.prog 80 #[.slice a len cap] w fun e w' => FirstPost w xs e w' := by
  have hxl := h.bs.1
  have HR := hide (Below.refl w.heap.size w)
  by_cases h1 : len < 2
  · have HE : Hid (dec xs = Told.no 4) := dec_short (by omega)
    have i1 : ((len : Nat) : Int) < 2 := by omega
    clear h hxl
    go_enter Tryz.func80, Tryz.ntmps80
    go_wp2_with fail
    go_ret3
    exact FirstPost.no HE.out HR.out
  have i1 : ¬ ((len : Nat) : Int) < 2 := by omega
  obtain ⟨b, o, ha, hc0⟩ := h.bs.2.2 0 (by omega)
  subst ha
  have hbw : b < w.heap.size := World.block_lt_of_cell? w _ hc0
  have hd := below_drew6 w
  have hB := h.bs.keep hd (Nat.le_refl _)
  have hcap := h.le
  have HRG := hide (fun Q A => @fst3 w b o len cap xs hB (by omega) Q A)
  obtain ⟨n, hn⟩ : ∃ n, n = said xs := ⟨_, rfl⟩
  have HSD : Hid (2 + xs.getD 0 0 * 256 + xs.getD 1 0 = 2 + n) := by
    show _ = _
    rw [hn]
    unfold said
    omega
  have hn2 : n < 65536 := by
    rw [hn]
    unfold said
    have := getD_lt h.bs.2.1 0
    have := getD_lt h.bs.2.1 1
    omega
  have HN := hide hn
  have HXL := hide hxl
  have HX := hide h.bs.2.1
  have HC := hide h
  have HBD := hide hB
  have HD := hide hd
  clear h hxl hc0 hd hB hn
  go_enter Tryz.func80, Tryz.ntmps80
  go_wp2_with fail
  refine Pl.region_is (ops := Pl.find 3 ((Tryz.f80.body).getD .skip)) (by kernel_rfl) ?_
  refine HRG.out _ _ (by rfl) rfl (by rfl) ?_
  intro uu w1 hw1
  rw [HSD.out]
  simp only [Act.put, List.setIfInBounds_toArray, List.set_cons_zero, List.set_cons_succ]
  have HB1 : Hid (Below w.heap.size w w1) := by rw [hw1]; exact HD.out
  have HCM : Hid (Came w1 (some ⟨b, o, none⟩) len cap xs) := by
    rw [hw1]
    exact ⟨HBD.out, HC.out.nil, HC.out.le, HC.out.big⟩
  clear hw1 HRG HBD HD
  by_cases h2 : len < 2 + n
  · have HE : Hid (dec xs = Told.no 4) := dec_few (by rw [HXL.out]; omega) (.inl (by rw [HXL.out, ← HN.out]; exact h2))
    have i2 : ((len : Nat) : Int) < ((2 + n : Nat) : Int) := by omega
    go_wp2_with fail
    go_ret3
    exact FirstPost.no HE.out HB1.out
  have i2 : ¬ ((len : Nat) : Int) < ((2 + n : Nat) : Int) := by omega
  have hrun : ∀ w : World, (Instr.sliceAt 32 (.slice (some ⟨b, o, none⟩) len cap) (some (.int .i64 2)) (some (.int .i64 ((2 + n : Nat) : Int))) none).run Tryz.prog w = .ok (.slice (fromA (some ⟨b, o, none⟩) cap 2) n (cap - 2)) w := by
    intro w
    have := slice_mid6 (some ⟨b, o, none⟩) len cap 2 (2 + n) (by omega) (by omega) w
    rw [Nat.add_sub_cancel_left] at this
    exact this
  have HRUN := hide hrun
  clear hrun
  by_cases h4 : n < 4
  · have HE : Hid (dec xs = Told.no 4) := dec_few (by rw [HXL.out]; omega) (.inr (by rw [← HN.out]; exact h4))
    have HO := hide (open_short (fromA (some ⟨b, o, none⟩) cap 2) n (cap - 2) w1 h4)
    go_wp2_with (refine wpList_slice _ rfl 32 (.tmp 28) (some (.const (.int .i64 2))) (some (.tmp 29)) rfl (.slice (fromA (some ⟨b, o, none⟩) cap 2) n (cap - 2)) (HRUN.out _) ?_)
    refine HO.out.mono ?_
    rintro e w2 ⟨rfl, hw2⟩
    obtain rfl := hw2.symm
    go_wp2_with fail
    go_ret3
    exact FirstPost.no HE.out HB1.out
  have hfa : fromA (some ⟨b, o, none⟩) cap 2 = some ⟨b, o + 2, none⟩ := by
    unfold fromA
    rw [if_neg (by omega), Nat.mul_one, Option.map_some, Addr.add_lit]
  have hmid := Came.mid6 (s := ⟨some ⟨b, o, none⟩, len, cap⟩) HCM.out 2 (2 + n) (by omega) (by show 2 + n ≤ len; omega)
  have hbs : Bs w1 (some ⟨b, o + 2, none⟩) n ((xs.drop 2).take n) := by
    have h5 := hmid.bs
    have e1 : (Sl.mid6 ⟨some ⟨b, o, none⟩, len, cap⟩ 2 (2 + n)).a = some ⟨b, o + 2, none⟩ := hfa
    have e2 : (Sl.mid6 ⟨some ⟨b, o, none⟩, len, cap⟩ 2 (2 + n)).len = n := Nat.add_sub_cancel_left 2 n
    rw [e1, e2, Nat.add_sub_cancel_left] at h5
    exact h5
  rw [hfa] at HRUN
  by_cases hs : Sealed ((xs.drop 2).take n)
  · have HO := hide (open_yes b (o + 2) n (cap - 2) ((xs.drop 2).take n) w1 hbs (by omega) (by omega) (by omega) hs)
    have HDC : Hid (dec xs = grp (((xs.drop 2).take n).drop 4) (2 + n)) := by
      have := dec_good (b := xs) (by rw [HXL.out]; omega) (by rw [HXL.out, ← HN.out]; omega) (by rw [← HN.out]; omega) (by rw [← HN.out]; exact hs)
      rw [← HN.out] at this
      exact this
    have HTB : Hid (Bytes (((xs.drop 2).take n).drop 4)) := fun z hz => HX.out z (List.mem_of_mem_drop (List.mem_of_mem_take (List.mem_of_mem_drop hz)))
    have HTL : Hid ((((xs.drop 2).take n).drop 4).length ≤ 100000) := by show _ ≤ _; simp only [List.length_drop, List.length_take]; omega
    clear hfa hmid hbs hs
    generalize ((xs.drop 2).take n).drop 4 = tx at HO HDC HTB HTL
    go_wp2_with (refine wpList_slice _ rfl 32 (.tmp 28) (some (.const (.int .i64 2))) (some (.tmp 29)) rfl (.slice (some ⟨b, o + 2, none⟩) n (cap - 2)) (HRUN.out _) ?_)
    refine HO.out.mono ?_
    rintro e w2 ⟨tv, rfl, ho2, hb2⟩
    obtain ⟨s2, hv2, hl2, hc2⟩ := ho2.cm HTB.out (by have := HTL.out; omega)
    subst hv2
    have HG := hide (groupOf_any w2 s2.a s2.len s2.cap tx hc2.came (by have := HTL.out; omega))
    have HB2 := hide (rBelow HB1.out (hb2.mono (Nat.le_refl _)))
    have hS2 : w.heap.size ≤ w2.heap.size := HB2.out.size
    clear ho2 hb2 hl2 hc2 HO HRUN
    unfold Sl.val
    go_wp2_with fail
    refine HG.out.mono ?_
    rintro e w3 ⟨v3, rfl, hn3, hb3⟩
    have HB3 := hide (rBelow HB2.out hb3)
    have HN3 : Hid (NewG w w3 v3 (grp tx 0).g) := by
      obtain ⟨l3, h31, h32⟩ := hn3
      exact ⟨l3, h31.mono (fun k hk _ => Nat.le_trans hS2 hk), h32⟩
    clear hn3 hb3 HG
    rcases grp_cases tx (2 + n) with ⟨e0, e1⟩ | ⟨e0, e1⟩
    · have HE : Hid (dec xs = ⟨(grp tx 0).g, 2 + n, 0⟩) := HDC.out.trans e1
      rw [e0]
      clear e0 e1 HDC
      obtain ⟨va, vl, vc⟩ := v3
      unfold Sl.val
      simp only
      go_wp2_with fail
      go_ret3
      refine ⟨⟨va, vl, vc⟩, ?_, ?_, HB3.out⟩
      · rw [HE.out]; rfl
      · rw [HE.out]; exact HN3.out
    · have HE : Hid (dec xs = Told.no 4) := HDC.out.trans e1
      rw [e0]
      clear e0 e1 HDC HN3
      obtain ⟨va, vl, vc⟩ := v3
      unfold Sl.val Told.no
      simp only
      go_wp2_with fail
      go_ret3
      exact FirstPost.no HE.out HB3.out
  · have HO := hide (open_no b (o + 2) n (cap - 2) ((xs.drop 2).take n) w1 hbs (by omega) (by omega) (by omega) hs)
    have HE : Hid (dec xs = Told.no 5) := dec_bad (b := xs) (by rw [HXL.out]; omega) (by rw [HXL.out, ← HN.out]; omega) (by rw [← HN.out]; omega) (by rw [← HN.out]; exact hs)
    clear hfa hmid hbs hs
    go_wp2_with (refine wpList_slice _ rfl 32 (.tmp 28) (some (.const (.int .i64 2))) (some (.tmp 29)) rfl (.slice (some ⟨b, o + 2, none⟩) n (cap - 2)) (HRUN.out _) ?_)
    refine HO.out.mono ?_
    rintro e w2 ⟨rfl, hb2⟩
    have HB2 := hide (rBelow HB1.out hb2)
    clear hb2
    go_wp2_with fail
    go_ret3
    exact FirstPost.no HE.out HB2.out
end Go.Proofs.YtpggkfdnpdhkfaaGreat
