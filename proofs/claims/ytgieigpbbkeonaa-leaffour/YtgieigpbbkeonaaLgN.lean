/-
  Layer 8: LeafFour's walk.
-/
import Derived.Test.YtgieigpbbkeonaaLgM
namespace Go.Proofs.Ytgieigpbbkeonaa
open Go.RowKit

/-- One number more on a row of one's own. -/
theorem grow_num {w : World} {v : Sl} {t : List Int} (h : OwnN w v t) (hl : v.len ≤ 1000) (x : Int) :
    ∃ (a1 : Option Addr) (c1 : Nat) (W1 : World), (∀ ty, (Builtin.append_ #[22, 22] ty #[v.val, .slice (some ⟨w.heap.size, 0, none⟩) 1 1]).run Try.prog (w.alloc (.cells #[.int .i64 x] 3)) = .ok (.slice a1 (v.len + 1) c1) W1) ∧ OwnN W1 ⟨a1, v.len + 1, c1⟩ (t ++ [x]) ∧ Frm (fun k => v.blk = some k) w W1 ∧ ∀ k, Sl.blk ⟨a1, v.len + 1, c1⟩ = some k → v.blk = some k ∨ w.heap.size ≤ k := by
  have hA := below_alloc w (.cells #[.int .i64 x] 3)
  have hs : Src Try.prog 1 22 (.slice (some ⟨w.heap.size, 0, none⟩) 1 1) 1 (cellsN [x]) (w.alloc (.cells #[.int .i64 x] 3)) := by
    refine Src.ofSlice _ Try.underlying22 _ 1 1 (cellsN [x]) rfl (fun j u hj => ?_) (cellsN_one _)
    cases j with
    | zero =>
      have e : Value.int .i64 x = u := Option.some.inj hj
      subst e
      have hn := heap_alloc_new w (.cells #[.int .i64 x] 3)
      rw [Addr.add_lit]
      simp only [World.cell?]
      rw [hn]
      rfl
    | succ j => simp [cellsN] at hj
  obtain ⟨v1, W1, hrun, ho, hlen, hf, hbk⟩ := own_append Try.underlying22 infoIn1 rfl (by decide) _ v (cellsN t) (Own.below h hA) (cellsN_one t) _ 1 _ hs (by omega) 0
  obtain ⟨a1, n1, c1⟩ := v1
  replace hlen : n1 = v.len + 1 := hlen
  subst hlen
  refine ⟨a1, c1, W1, fun ty => hrun, ?_, (Frm.ofBelow hA).trans hf (fun _ _ h => h), fun k hk => ?_⟩
  · have e : cellsN (t ++ [x]) = cellsN t ++ cellsN [x] := by simp [cellsN]
    unfold OwnN
    rw [e]
    exact ho
  · rcases hbk with e | ⟨e, _⟩
    · rw [e] at hk; exact .inl hk
    · rw [e] at hk
      cases hk
      exact .inr hA.size
/-- Who lives. -/
def lv (x : Nat → Nat) (i : Nat) : Int := 1000000 + 1000 * ((i : Nat) : Int) + ((x i : Nat) : Int)
def lvs (x : Nat → Nat) (i : Nat) : List Int := (List.range i).map (lv x)
theorem lvs_succ (x : Nat → Nat) (i : Nat) : lvs x (i + 1) = lvs x i ++ [lv x i] := by simp [lvs, List.range_succ]
theorem lvs_five (x : Nat → Nat) : lvs x 5 = five (lv x) := rfl
theorem lv_five {x : Nat → Nat} (hx : ∀ i, x i < 256) : Five (lv x) := by
  refine ⟨fun j hj => ?_, fun i j hi hj hne e => ?_⟩
  · have := hx j
    unfold lv
    omega
  · have h1 := hx i
    have h2 := hx j
    unfold lv at e
    omega
/-- How far the row of those that live is made. -/
structure L1 (w wr : World) (u v : Sl) (x : Nat → Nat) (s : Sl) (i : Nat) : Prop where
  o : OwnN wr s (lvs x i)
  si : ∀ k, s.blk = some k → w.heap.size + 2 ≤ k
  k1 : LfBlk wr w.heap.size u.val v.val
  kx : ∀ j, j < 5 → wr.cell? ⟨w.heap.size + 1, j, none⟩ = some (.int .u8 ((x j : Nat) : Int))
  e : Below w.heap.size w wr
  sz : w.heap.size + 2 ≤ wr.heap.size
theorem L1.step {w wr : World} {u v : Sl} {x : Nat → Nat} {s : Sl} {i : Nat} (h : L1 w wr u v x s i) (hi : i < 5) :
    ∃ (a1 : Option Addr) (c1 : Nat) (W1 : World), (∀ ty, (Builtin.append_ #[22, 22] ty #[s.val, .slice (some ⟨wr.heap.size, 0, none⟩) 1 1]).run Try.prog (wr.alloc (.cells #[.int .i64 (lv x i)] 3)) = .ok (.slice a1 (i + 1) c1) W1) ∧ L1 w W1 u v x ⟨a1, i + 1, c1⟩ (i + 1) := by
  have hl : s.len = i := by have := OwnN.len h.o; simp [lvs] at this; exact this.symm
  obtain ⟨a1, c1, W1, hrun, ho, hf, hb⟩ := grow_num h.o (by omega) (lv x i)
  rw [hl] at hrun ho hb
  have hsz := h.sz
  refine ⟨a1, c1, W1, hrun, by rw [lvs_succ]; exact ho, fun k hk => ?_, hf.lf h.k1 (fun e => by have := h.si _ e; omega), fun j hj => ?_, h.e.trans (hf.below h.e.size (fun k hk => by have := h.si k hk; omega)), Nat.le_trans hsz hf.size⟩
  · rcases hb k hk with h1 | h1
    · exact h.si k h1
    · omega
  · have hc := h.kx j hj
    have hblk := hf.block (w.heap.size + 1) (by omega) (fun e => by have := h.si _ e; omega)
    simp only [World.cell?] at hc ⊢
    rw [hblk]
    exact hc

/-- How far the joining is. -/
structure L2 (w wr : World) (u v : Sl) (x : Nat → Nat) (t : List Int) (l : List Sb) (b2 o2 c2 g : Nat) (i : Nat) (u' v' : Sl) (t' : List Int) (l' : List Sb) : Prop where
  bx : Bx w wr g u' v' t' l'
  bs : bss l' = bss l
  jn : Jn (lv x) t t' i
  o : OwnN wr ⟨some ⟨b2, o2, none⟩, 5, c2⟩ (five (lv x))
  k1 : LfBlk wr w.heap.size u.val v.val
  h4 : 0 < i → ¬ lv x 4 ∈ t
theorem L2.below {w wr W : World} {u v : Sl} {x : Nat → Nat} {t : List Int} {l : List Sb} {b2 o2 c2 g i : Nat} {u' v' : Sl} {t' : List Int} {l' : List Sb} (h : L2 w wr u v x t l b2 o2 c2 g i u' v' t' l') (hb : Below wr.heap.size wr W) : L2 w W u v x t l b2 o2 c2 g i u' v' t' l' :=
  ⟨h.bx.below hb, h.bs, h.jn, Own.below h.o hb, h.k1.below hb, h.h4⟩
theorem L2.may {w wr : World} {u v : Sl} {x : Nat → Nat} {t : List Int} {l : List Sb} {b2 o2 c2 g i : Nat} {u' v' : Sl} {t' : List Int} {l' : List Sb} (h : L2 w wr u v x t l b2 o2 c2 g i u' v' t' l') (hm : MayL ⟨t, bss l⟩) : MayL ⟨t', bss l'⟩ := by
  rw [h.bs]
  exact ⟨h.jn.ok, hm.slots, hm.need⟩
theorem L2.gi {w wr : World} {u v : Sl} {x : Nat → Nat} {t : List Int} {l : List Sb} {b2 o2 c2 g i : Nat} {u' v' : Sl} {t' : List Int} {l' : List Sb} (h : L2 w wr u v x t l b2 o2 c2 g i u' v' t' l') : Gi (fun _ => True) wr ⟨some ⟨b2, o2, none⟩, 5, c2⟩ (five (lv x)) := OwnN.gi h.o (fun _ _ => trivial) (by show 5 ≤ 1000000; decide)
/-- The box has what was told. -/
theorem L2.turn {w wr : World} {u v : Sl} {x : Nat → Nat} {t : List Int} {l : List Sb} {b2 o2 c2 g i : Nat} {u' v' : Sl} {t' : List Int} {l' : List Sb} (h : L2 w wr u v x t l b2 o2 c2 g i u' v' t' l') (hg2 : w.heap.size < g) {W : World} (hb : Below wr.heap.size wr W) {s2 s5 : Sl} {t2 : List Int} {l2 : List Sb} (gi : Gi (fun k => wr.heap.size ≤ k) W s2 t2) (gb : Gb (fun k => wr.heap.size ≤ k) W s5 l2) (hbs : bss l2 = bss l) (hj : Jn (lv x) t t2 (i + 1)) (h4 : ¬ lv x 4 ∈ t) :
    ∃ W', (Instr.storeAt 25 (.pointer (some ⟨g, 0, none⟩)) (lfV s2 s5)).run Try.prog W = .ok () W' ∧ L2 w W' u v x t l b2 o2 c2 g (i + 1) s2 s5 t2 l2 := by
  have hW := h.below hb
  have hgl := h.bx.k.lt
  obtain ⟨W', hst, k', f⟩ := st_lf W _ _ _ hW.bx.k s2 s5
  have hk : Kept (fun k => wr.heap.size ≤ k) W W' := Kept.frm f (fun k hk e => by omega)
  have hle := h.bx.le
  exact ⟨W', hst, ⟨k', (gi.keep hk).wide (fun k hk => by omega), (gb.keep hk).wide (fun k hk => by omega), hW.bx.e.trans (f.below hW.bx.e.size (fun k hk => by omega)), h.bx.le⟩, hbs, hj, Own.kept hW.o f (Own.unbox hW.o hW.bx.k (by decide)), hW.k1.off f (by omega), fun _ => h4⟩

set_option maxHeartbeats 16000000 in
set_option maxRecDepth 100000 in
theorem four_walk (w : World) (u v : Sl) (t : List Int) (l : List Sb) (hI : InI w u t) (hg0 : InS w v l) (x : Nat → Nat) (hx : ∀ i, x i < 256) :
    Calls Try.prog 7 #[lfV u v, arr5 x] w fun e w' => e = .returned (.bool true) ∧ Below w.heap.size w w' := by
  have hA1 := below_alloc w (.cells #[u.val, v.val] 25)
  have hA2 := below_alloc (w.alloc (.cells #[u.val, v.val] 25)) (.cells #[.int .u8 ((x 0 : Nat) : Int), .int .u8 ((x 1 : Nat) : Int), .int .u8 ((x 2 : Nat) : Int), .int .u8 ((x 3 : Nat) : Int), .int .u8 ((x 4 : Nat) : Int)] 47)
  have hA := rBelow hA1 hA2
  have HKB := hide ((lfBlk_new w u.val v.val).below hA2)
  have HKX : Hid (∀ j, j < 5 → ((w.alloc (.cells #[u.val, v.val] 25)).alloc (.cells #[.int .u8 ((x 0 : Nat) : Int), .int .u8 ((x 1 : Nat) : Int), .int .u8 ((x 2 : Nat) : Int), .int .u8 ((x 3 : Nat) : Int), .int .u8 ((x 4 : Nat) : Int)] 47)).cell? ⟨w.heap.size + 1, j, none⟩ = some (.int .u8 ((x j : Nat) : Int))) := by
    intro j hj
    have hn := heap_alloc_new (w.alloc (.cells #[u.val, v.val] 25)) (.cells #[.int .u8 ((x 0 : Nat) : Int), .int .u8 ((x 1 : Nat) : Int), .int .u8 ((x 2 : Nat) : Int), .int .u8 ((x 3 : Nat) : Int), .int .u8 ((x 4 : Nat) : Int)] 47)
    rw [alloc_size] at hn
    simp only [World.cell?]
    rw [hn]
    have : j = 0 ∨ j = 1 ∨ j = 2 ∨ j = 3 ∨ j = 4 := by omega
    rcases this with rfl | rfl | rfl | rfl | rfl <;> rfl
  have HSZ : Hid (w.heap.size + 2 ≤ ((w.alloc (.cells #[u.val, v.val] 25)).alloc (.cells #[.int .u8 ((x 0 : Nat) : Int), .int .u8 ((x 1 : Nat) : Int), .int .u8 ((x 2 : Nat) : Int), .int .u8 ((x 3 : Nat) : Int), .int .u8 ((x 4 : Nat) : Int)] 47)).heap.size) := by
    show _ ≤ _
    rw [alloc_size, alloc_size]
    exact Nat.le_refl _
  have HIN : Hid (∀ W, Below w.heap.size w W → InS W v l) := fun W hb => ⟨hg0.len, hg0.nil, hg0.le, hg0.big, fun i hi => by
    obtain ⟨b, off, ha, hc⟩ := hg0.cell i hi
    exact ⟨b, off, ha, cell_below hc hb⟩, fun x hx => ⟨(hg0.bs x hx).bs.keep hb (Nat.le_refl _), (hg0.bs x hx).nil, (hg0.bs x hx).le, (hg0.bs x hx).big⟩⟩
  have HL := hide (light_any _ u v l (HIN.out _ hA) hI.big)
  have HA := hide hA
  have HW := hide awake_any
  have HII := hide hI
  have HX5 := hide (lv_five hx)
  have HXX := hide hx
  clear hI hg0 hA1 hA2 hA hx
  obtain ⟨a, len, cap⟩ := v
  obtain ⟨ua, ul, uc⟩ := u
  unfold lfV arr5 Sl.val at *
  simp only at *
  go_enter Try.func7, Try.ntmps7
  go_wp2_with fail
  refine HL.out.mono ?_
  rintro e w1 ⟨hs | ⟨hP, hs⟩, hb⟩
  · subst hs
    have HB := hide (rBelow HA.out hb)
    clear hb HL
    go_wp2_with fail
    refine (HW.out w1).mono ?_
    rintro e w2 ⟨rfl, hb2⟩
    have HB2 := hide (rBelow HB.out hb2)
    clear hb2
    go_wp2_with fail
    go_ret
    exact ⟨rfl, HB2.out⟩
  · subst hs
    have HB1 := hide (rBelow HA.out hb)
    have hk1 := HKB.out.below hb
    have c0 := hk1.c0
    have c1 := hk1.c1
    have HK1 := hide hk1
    have HX1 : Hid (∀ j, j < 5 → w1.cell? ⟨w.heap.size + 1, j, none⟩ = some (.int .u8 ((x j : Nat) : Int))) := fun j hj => cell_below (HKX.out j hj) hb
    have HS1 : Hid (w.heap.size + 2 ≤ w1.heap.size) := Nat.le_trans HSZ.out hb.size
    have hi := HII.out.gi (by have := hP.2.1; simp only at this ⊢; omega)
    have hg := (HIN.out w (Below.refl _ _)).gb (by have := hP.1; simp only at this ⊢; omega) (fun x hx => by have := hP.2.2 x hx; omega)
    have HI := hide hi
    have HG := hide hg
    have HMS := hide (rmay_says w1 ⟨ua, ul, uc⟩ ⟨a, len, cap⟩ t l (hi.below HB1.out (Nat.le_refl _)) (hg.below HB1.out (Nat.le_refl _)))
    clear hb HL hk1 HKB HKX HSZ hi hg hP HIN HII HA
    unfold lfV Sl.val at *
    simp only at *
    go_wp2_with fail
    refine HMS.out.mono ?_
    rintro e w2 ⟨⟨rr, rfl, hrr⟩, hb2⟩
    have HB2 := hide (rBelow HB1.out hb2)
    cases rr with
    | false =>
      clear hb2 hrr HMS c0 c1
      go_wp2_with fail
      refine (HW.out w2).mono ?_
      rintro e w3 ⟨rfl, hb3⟩
      have HB3 := hide (rBelow HB2.out hb3)
      clear hb3
      go_wp2_with fail
      go_ret
      exact ⟨rfl, HB3.out⟩
    | true =>
      have HM := hide (hrr.1 rfl)
      have hk2 := HK1.out.below hb2
      have HK2 := hide hk2
      have HX2 : Hid (∀ j, j < 5 → w2.cell? ⟨w.heap.size + 1, j, none⟩ = some (.int .u8 ((x j : Nat) : Int))) := fun j hj => cell_below (HX1.out j hj) hb2
      have HS2 : Hid (w.heap.size + 2 ≤ w2.heap.size) := Nat.le_trans HS1.out hb2.size
      have hul : ul = 4 := by have h1 := HI.out.len; have h2 : t.length = 4 := HM.out.itl.1; rw [h2] at h1; exact h1.symm
      subst hul
      have HTL : Hid (t.length = 4) := HM.out.itl.1
      have hA3 := below_alloc w2 (.cells #[] 3)
      have HL1 : Hid (L1 w (w2.alloc (.cells #[] 3)) ⟨ua, 4, uc⟩ ⟨a, len, cap⟩ x ⟨some ⟨w2.heap.size, 0, none⟩, 0, 0⟩ 0) := ⟨OwnN.new w2, fun k hk => by have e : some w2.heap.size = some k := hk; cases e; exact HS2.out, hk2.below hA3, fun j hj => cell_below (HX2.out j hj) hA3, rBelow HB2.out hA3, Nat.le_trans HS2.out hA3.size⟩
      clear hb2 hrr HMS c0 c1 hk2 HK1 HX1 HS1 hA3 HB1
      go_wp2_with fail
      generalize w2.alloc (.cells #[] 3) = W2 at *
      obtain ⟨a0, ha0⟩ : ∃ a0 : Option Addr, a0 = some ⟨w2.heap.size, 0, none⟩ := ⟨_, rfl⟩
      rw [← ha0] at HL1
      rw [← ha0]
      clear ha0
      go_loopw [6, 5] (fun iv sv wr => ∃ (i : Nat) (a1 : Option Addr) (c1 : Nat), i ≤ 5 ∧ iv = .int .i64 (i : Nat) ∧ sv = .slice a1 i c1 ∧ Hid (L1 w wr ⟨ua, 4, uc⟩ ⟨a, len, cap⟩ x ⟨a1, i, c1⟩ i)) (fun iv _ _ => 5 - (intOf iv).toNat)
      case atStart => exact ⟨0, a0, 0, by omega, rfl, rfl, HL1⟩
      case round =>
        obtain ⟨i, a1, c1, hi5, rfl, rfl, hl1⟩ := hrel
        rcases Nat.lt_or_ge i 5 with hlt | hge
        · have i1 : ((i : Nat) : Int) < 5 := by omega
          have hxi := HXX.out i
          have hcx := hl1.out.kx i hlt
          obtain ⟨a3, c3, W3, hap, hl3⟩ := hl1.out.step hlt
          have hlv : lv x i = 1000000 + 1000 * ((i : Nat) : Int) + ((x i : Nat) : Int) := rfl
          rw [hlv] at hap
          obtain ⟨y, hy⟩ : ∃ y, y = x i := ⟨_, rfl⟩
          rw [← hy] at hxi hcx hap
          have HAP := hide hap
          have HL3 := hide hl3
          clear hap hl3 hl1 hlv hy
          unfold Sl.val at *
          simp only at *
          go_wp2_with (at_builtin; refine wpList_append_run _ rfl 22 (.tmp 30) (.tmp 39) rfl (.slice a1 i c1) (.slice (some ⟨wr.heap.size, 0, none⟩) 1 1) (.slice a3 (i + 1) c3) rfl rfl W3 HAP.out ?_)
          go_roundw
          case rel => exact ⟨i + 1, a3, c3, by omega, by go_num, rfl, HL3⟩
          case measure => simp only [intOf]; omega
        · have e0 : i = 5 := by omega
          subst e0
          have hL1 := hl1.out
          obtain ⟨b2, o2, ha1⟩ := OwnN.pos hL1.o (by show 0 < 5; decide)
          replace ha1 : a1 = some ⟨b2, o2, none⟩ := ha1
          subst ha1
          have d0 := hL1.k1.c0
          have d1 := hL1.k1.c1
          obtain ⟨W3, hst3, k3, hb3⟩ := box_new wr ⟨ua, 4, uc⟩ ⟨a, len, cap⟩
          have HST3 := hide hst3
          have hgW : w.heap.size < wr.heap.size := by have := hL1.sz; omega
          have HGW := hide hgW
          have hBW := rBelow hL1.e hb3
          have HL2 : Hid (L2 w W3 ⟨ua, 4, uc⟩ ⟨a, len, cap⟩ x t l b2 o2 c1 wr.heap.size 0 ⟨ua, 4, uc⟩ ⟨a, len, cap⟩ t l) := ⟨⟨k3, (HI.out.tight.below hBW (Nat.le_refl _)).wide (fun k hk => by omega), (HG.out.tight.below hBW (Nat.le_refl _)).wide (fun k hk => by omega), hBW, Nat.le_of_lt hgW⟩, rfl, Jn.start HM.out.itl, Own.below hL1.o hb3, hL1.k1.below hb3, fun h => absurd h (Nat.not_lt_zero _)⟩
          have HC5 : Hid (5 ≤ c1) := Own.lecap hL1.o
          obtain ⟨g, hgg⟩ : ∃ g, g = wr.heap.size := ⟨_, rfl⟩
          clear hL1 hl1 k3 hb3 hst3 hgW hBW HB2 HK2 HX2 HS2 HXX
          unfold lfV Sl.val at *
          simp only at *
          go_wp2_with (first | refine wpList_alloc _ rfl 25 rfl (.pointer (some ⟨wr.heap.size, 0, none⟩)) (wr.alloc (.cells #[.slice none 0 0, .slice none 0 0] 25)) (alloc_lf wr) ?_ | refine wpList_store _ rfl rfl 25 (.tmp 7) (.tmp 41) rfl (.pointer (some ⟨wr.heap.size, 0, none⟩)) (.agg #[.slice ua 4 uc, .slice a len cap]) rfl rfl W3 HST3.out ?_)
          rw [← hgg] at HL2 HGW
          rw [← hgg]
          clear hgg HST3 d0 d1
          rename World => wq
          go_loopw [8] (fun iv wr => ∃ i : Nat, i ≤ 4 ∧ iv = .int .i64 (i : Nat) ∧ Hid (∃ u' v' t' l', L2 w wr ⟨ua, 4, uc⟩ ⟨a, len, cap⟩ x t l b2 o2 c1 g i u' v' t' l')) (fun iv _ => 4 - (intOf iv).toNat)
          case atStart => exact ⟨0, by omega, rfl, ⟨_, _, _, _, HL2.out⟩⟩
          case round =>
            obtain ⟨i, hi4, rfl, hl2⟩ := hrel
            obtain ⟨⟨a2, n2, d2⟩, ⟨a5, n5, d5⟩, t', l', h2⟩ := hl2.out
            rcases Nat.lt_or_ge i 4 with hlt | hge
            · have i1 : ((i : Nat) : Int) < 4 := by omega
              have H2 := hide h2
              clear h2 hl2 HL2
              go_wp2_with fail
              rename World => wo
              have H0 := hide (Below.refl wo.heap.size wo)
              go_loopw [9] (fun iv wr => ∃ k : Nat, k ≤ 4 ∧ iv = .int .i64 (k : Nat) ∧ Hid (Below wo.heap.size wo wr) ∧ Hid (∀ j, j < k → t.getD j 0 ≠ lv x i ∧ t.getD j 0 ≠ lv x 4)) (fun iv _ => 4 - (intOf iv).toNat)
              case atStart => exact ⟨0, by omega, rfl, H0, fun _ h => absurd h (Nat.not_lt_zero _)⟩
              case round =>
                obtain ⟨k, hk4, rfl, hbr, hne⟩ := hrel
                have hR := H2.out.below hbr.out
                have hcy : wr.cell? ⟨b2, o2 + i, none⟩ = some (.int .i64 (lv x i)) := by
                  have := OwnN.cellAt hR.o rfl (i := i) (by show i < 5; omega)
                  rw [this]
                  have : i = 0 ∨ i = 1 ∨ i = 2 ∨ i = 3 := by omega
                  rcases this with rfl | rfl | rfl | rfl <;> rfl
                have hcz : wr.cell? ⟨b2, o2 + 4, none⟩ = some (.int .i64 (lv x 4)) := by
                  have := OwnN.cellAt hR.o rfl (i := 4) (by show 4 < 5; omega)
                  rw [this]
                  rfl
                rcases Nat.lt_or_ge k 4 with hklt | hkge
                · have j1 : ((k : Nat) : Int) < 4 := by omega
                  have hBr : Below w.heap.size w wr := hR.bx.e
                  obtain ⟨b, o, hua, hcx⟩ := (HI.out.below hBr (Nat.le_refl _)).cell k hklt
                  replace hua : ua = some ⟨b, o, none⟩ := hua
                  subst hua
                  obtain ⟨xx, hxx⟩ : ∃ xx, xx = t.getD k 0 := ⟨_, rfl⟩
                  rw [← hxx] at hcx
                  have HK1 := hide hR.k1
                  have HCX := hide hcx
                  have HCY := hide hcy
                  have HCZ := hide hcz
                  have HR := hide hR
                  have HXE := hide hxx
                  clear hcx hcy hcz hR hBr hxx
                  by_cases e1 : xx = lv x i
                  · go_wp2_with fail
                    refine Pl.region_is (ops := Pl.find 15 ((Try.f7.body).getD .skip)) (by kernel_rfl) ?_
                    refine four15A wr w.heap.size b o uc b2 o2 c1 i k (.slice a len cap) xx (lv x i) (by omega) hklt HK1.out HCX.out HCY.out e1 (by rfl) rfl (by rfl) (by rfl) (by rfl) (by rfl) ?_
                    intro q w5 hb5
                    simp only [Act.put, List.setIfInBounds_toArray, List.set_cons_zero, List.set_cons_succ]
                    have HB5 := hide (rBelow HR.out.bx.e hb5)
                    clear hb5 HK1 HCX HCY HCZ HR HXE e1 hne
                    go_wp2_with fail
                    refine (HW.out w5).mono ?_
                    rintro e w6 ⟨rfl, hb6⟩
                    have HB6 := hide (rBelow HB5.out hb6)
                    clear hb6
                    go_wp2_with fail
                    go_ret
                    exact ⟨rfl, HB6.out⟩
                  · by_cases e2 : xx = lv x 4
                    · go_wp2_with fail
                      refine Pl.region_is (ops := Pl.find 15 ((Try.f7.body).getD .skip)) (by kernel_rfl) ?_
                      refine four15B wr w.heap.size b o uc b2 o2 c1 i k (.slice a len cap) xx (lv x i) (lv x 4) (by omega) hklt HK1.out HCX.out HCY.out HCZ.out e1 e2 (by rfl) rfl (by rfl) (by rfl) (by rfl) (by rfl) ?_
                      intro q w5 hb5
                      simp only [Act.put, List.setIfInBounds_toArray, List.set_cons_zero, List.set_cons_succ]
                      have HB5 := hide (rBelow HR.out.bx.e hb5)
                      clear hb5 HK1 HCX HCY HCZ HR HXE e1 e2 hne
                      go_wp2_with fail
                      refine (HW.out w5).mono ?_
                      rintro e w6 ⟨rfl, hb6⟩
                      have HB6 := hide (rBelow HB5.out hb6)
                      clear hb6
                      go_wp2_with fail
                      go_ret
                      exact ⟨rfl, HB6.out⟩
                    · go_wp2_with fail
                      refine Pl.region_is (ops := Pl.find 15 ((Try.f7.body).getD .skip)) (by kernel_rfl) ?_
                      refine four15C wr w.heap.size b o uc b2 o2 c1 i k (.slice a len cap) xx (lv x i) (lv x 4) (by omega) hklt HK1.out HCX.out HCY.out HCZ.out e1 e2 (by rfl) rfl (by rfl) (by rfl) (by rfl) (by rfl) ?_
                      intro q w5 hb5
                      simp only [Act.put, List.setIfInBounds_toArray, List.set_cons_zero, List.set_cons_succ]
                      have HB5 := hide (rBelow hbr.out hb5)
                      have HNE : Hid (∀ j, j < k + 1 → t.getD j 0 ≠ lv x i ∧ t.getD j 0 ≠ lv x 4) := by
                        intro j hj
                        by_cases e : j = k
                        · rw [e, ← HXE.out]; exact ⟨e1, e2⟩
                        · exact hne.out j (by omega)
                      clear hb5 HK1 HCX HCY HCZ HR HXE e1 e2 hne
                      go_wp2_with fail
                      go_roundw
                      case rel => exact ⟨k + 1, by omega, by go_num, HB5, HNE⟩
                      case measure => simp only [intOf]; omega
                · have e0 : k = 4 := by omega
                  subst e0
                  have hni : ¬ lv x i ∈ t := fun h => by
                    obtain ⟨j, hj, e⟩ := mem_at h
                    exact (hne.out j (by rw [HTL.out] at hj; exact hj)).1 e
                  have hn4 : ¬ lv x 4 ∈ t := fun h => by
                    obtain ⟨j, hj, e⟩ := mem_at h
                    exact (hne.out j (by rw [HTL.out] at hj; exact hj)).2 e
                  have hst := Jn.step HX5.out H2.out.jn hlt hni hn4
                  have HJ : Hid (∀ W, Below wr.heap.size wr W → Calls Try.prog 19 #[lfV ⟨a2, n2, d2⟩ ⟨a5, n5, d5⟩, .int .i64 (lv x i), .slice (some ⟨b2, o2, none⟩) 5 c1] W fun e w' => Told W (joinI t' (lv x i) (five (lv x))).t (bss l') (mk2 0) e w') := by
                    intro W hW
                    have h3 := hR.below hW
                    have := join_any W ⟨a2, n2, d2⟩ ⟨a5, n5, d5⟩ t' l' (h3.bx.gi.wide (E := fun _ => True) (fun _ _ => trivial)) (h3.bx.gb.wide (fun _ _ => trivial)) (h3.may HM.out) (lv x i) ⟨some ⟨b2, o2, none⟩, 5, c1⟩ (five (lv x)) h3.gi
                    rw [hst.1] at this
                    exact this
                  have HR := hide hR
                  have HCY := hide hcy
                  have HJN := hide hst.2
                  have HN4 := hide hn4
                  clear hcy hcz hR hst hni hn4 hne
                  try unfold Sl.val at *
                  try simp only at *
                  go_wp2_with fail
                  refine Pl.region_is (ops := Pl.find 17 ((Try.f7.body).getD .skip)) (by kernel_rfl) ?_
                  refine four17 wr g b2 o2 c1 i ⟨a2, n2, d2⟩ ⟨a5, n5, d5⟩ (lv x i) 0 (joinI t' (lv x i) (five (lv x))).t (bss l') (by omega) HR.out.bx.k HCY.out HJ.out (by rfl) rfl (by rfl) (by rfl) (by rfl) ?_
                  rintro q w5 g1 a6 n6 d6 a7 n7 d7 l6 ⟨bx6, hbs6, gi6, gb6⟩
                  simp only [Act.put, List.setIfInBounds_toArray, List.set_cons_zero, List.set_cons_succ]
                  obtain ⟨W9, hst9, h9⟩ := HR.out.turn HGW.out bx6.e gi6 gb6 (by rw [hbs6, HR.out.bs]) HJN.out HN4.out
                  have HST9 := hide hst9
                  have H9 : Hid (∃ u' v' t' l', L2 w W9 ⟨ua, 4, uc⟩ ⟨a, len, cap⟩ x t l b2 o2 c1 g (i + 1) u' v' t' l') := ⟨_, _, _, _, h9⟩
                  have p0 := bx6.k.c0
                  have p1 := bx6.k.c1
                  clear bx6 hbs6 gi6 gb6 hst9 h9 HR HCY HJ HJN HN4
                  unfold lfV Sl.val at *
                  simp only at *
                  go_wp2_with (refine wpList_store _ rfl rfl 25 (.tmp 7) (.tmp 84) rfl (.pointer (some ⟨g, 0, none⟩)) (.agg #[.slice a6 n6 d6, .slice a7 n7 d7]) rfl rfl W9 HST9.out ?_)
                  go_roundw
                  case rel => exact ⟨i + 1, by omega, by go_num, H9⟩
                  case measure => simp only [intOf]; omega
            · have e0 : i = 4 := by omega
              subst e0
              have hj4 := Jn.four HX5.out h2.jn (h2.h4 (by decide))
              have hcz : ∀ W, Below wr.heap.size wr W → W.cell? ⟨b2, o2 + 4, none⟩ = some (.int .i64 (lv x 4)) := by
                intro W hW
                have := OwnN.cellAt (h2.below hW).o rfl (i := 4) (by show 4 < 5; omega)
                rw [this]
                rfl
              have HJ1 : Hid (∀ W, Below wr.heap.size wr W → Calls Try.prog 19 #[lfV ⟨a2, n2, d2⟩ ⟨a5, n5, d5⟩, .int .i64 (lv x 4), .slice (some ⟨b2, o2, none⟩) 5 c1] W fun e w' => Told W (joinI t' (lv x 4) (five (lv x))).t (bss l') (mk2 8) e w') := by
                intro W hW
                have h3 := h2.below hW
                have := join_any W ⟨a2, n2, d2⟩ ⟨a5, n5, d5⟩ t' l' (h3.bx.gi.wide (E := fun _ => True) (fun _ _ => trivial)) (h3.bx.gb.wide (fun _ _ => trivial)) (h3.may HM.out) (lv x 4) ⟨some ⟨b2, o2, none⟩, 5, c1⟩ (five (lv x)) h3.gi
                rw [hj4.1] at this
                exact this
              have HJ2 : Hid (∀ W, Below wr.heap.size wr W → Calls Try.prog 19 #[lfV ⟨a2, n2, d2⟩ ⟨a5, n5, d5⟩, .int .i64 (lv x 4), .slice (some ⟨b2, o2 + 1, none⟩) 4 (c1 - 1)] W fun e w' => Told W (joinI t' (lv x 4) [lv x 1, lv x 2, lv x 3, lv x 4]).t (bss l') (mk2 0) e w') := by
                intro W hW
                have h3 := h2.below hW
                have hfr := (Own.from_ h3.o (k := 1) (by show 1 ≤ 5; decide)).1
                have hfa : Sl.from_ ⟨some ⟨b2, o2, none⟩, 5, c1⟩ 1 = ⟨some ⟨b2, o2 + 1, none⟩, 4, c1 - 1⟩ := by
                  have hne : ¬ c1 = 1 := by have := HC5.out; omega
                  simp [Sl.from_, fromA, hne, Addr.add_lit]
                rw [hfa] at hfr
                have hgl : Gi (fun _ => True) W ⟨some ⟨b2, o2 + 1, none⟩, 4, c1 - 1⟩ [lv x 1, lv x 2, lv x 3, lv x 4] := OwnN.gi hfr (fun _ _ => trivial) (by show 4 ≤ 1000000; decide)
                have := join_any W ⟨a2, n2, d2⟩ ⟨a5, n5, d5⟩ t' l' (h3.bx.gi.wide (E := fun _ => True) (fun _ _ => trivial)) (h3.bx.gb.wide (fun _ _ => trivial)) (h3.may HM.out) (lv x 4) ⟨some ⟨b2, o2 + 1, none⟩, 4, c1 - 1⟩ _ hgl
                rw [hj4.2] at this
                exact this
              have HCZ := hide hcz
              have H2 := hide h2
              clear h2 hl2 HL2 hj4 hcz
              try unfold Sl.val at *
              try simp only at *
              go_wp2_with fail
              refine Pl.region_is (ops := Pl.find 21 ((Try.f7.body).getD .skip)) (by kernel_rfl) ?_
              refine four21 wr g b2 o2 c1 ⟨a2, n2, d2⟩ ⟨a5, n5, d5⟩ (lv x 4) 8 _ (bss l') H2.out.bx.k (HCZ.out wr (Below.refl _ _)) HJ1.out (by rfl) rfl (by rfl) (by rfl) ?_
              rintro q w5 g1 a6 n6 d6 a7 n7 d7 l6 ⟨bx6, _, _, _⟩
              simp only [Act.put, List.setIfInBounds_toArray, List.set_cons_zero, List.set_cons_succ]
              have HB5 := hide bx6.e
              clear bx6 HJ1
              go_wp2_with fail
              refine Pl.region_is (ops := Pl.find 22 ((Try.f7.body).getD .skip)) (by kernel_rfl) ?_
              refine four22 w5 g b2 o2 c1 ⟨a2, n2, d2⟩ ⟨a5, n5, d5⟩ (lv x 4) 0 _ (bss l') HC5.out (H2.out.below HB5.out).bx.k (HCZ.out w5 HB5.out) (fun W hW => HJ2.out W (rBelow HB5.out hW)) (by rfl) rfl (by rfl) (by rfl) ?_
              rintro q2 w6 g2 a8 n8 d8 a9 n9 d9 l9 ⟨bx9, _, _, _⟩
              simp only [Act.put, List.setIfInBounds_toArray, List.set_cons_zero, List.set_cons_succ]
              have HB6 := hide (rBelow (H2.out.below HB5.out).bx.e bx9.e)
              clear bx9 HJ2 HB5 HCZ H2
              go_wp2_with fail
              refine (HW.out w6).mono ?_
              rintro e w7 ⟨rfl, hb7⟩
              have HB7 := hide (rBelow HB6.out hb7)
              clear hb7
              go_wp2_with fail
              go_ret
              exact ⟨rfl, HB7.out⟩
end Go.Proofs.Ytgieigpbbkeonaa
