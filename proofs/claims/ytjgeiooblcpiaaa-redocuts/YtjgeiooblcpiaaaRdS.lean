/-
  Layer 6: records one behind the other, cut anywhere.
-/
import Derived.Test.YtjgeiooblcpiaaaRdR
namespace Go.Proofs.Ytjgeiooblcpiaaa
open Go.RowKit

/-- What stands when some of the pages have been gone through. -/
def CutInv (w : World) (wr : World) (sa sw sv : Sl) (L : List Gp) : Prop := Cut3 w.heap.size wr sa (recs (gims L)) sw (wholes (gims L)) sv L ∧ (∀ g ∈ gims L, May g ∧ ImB g) ∧ Below w.heap.size w wr

set_option maxHeartbeats 8000000 in
set_option maxRecDepth 100000 in
theorem cuts_walk (w : World) (pa : Option Addr) (pl pc : Nat) (pp : List Nt) (hp : InsII w pa pl pc pp) (ba : Option Addr) (bl bc : Nat) (bb : List Bt) (hb : InsB w ba bl bc bb) (c : Nat) (hc : c < 65536) :
    Calls Try.prog 5 #[.slice pa pl pc, .slice ba bl bc, .int .u16 ((c : Nat) : Int)] w fun e w' => e = .returned (.bool true) ∧ Below w.heap.size w w' := by
  have HP := hide hp
  have HBI := hide hb
  have hpb := hp.big
  have HC0 := hide (Cut3.new w)
  have HB0 := hide (rBelow (rBelow (below_alloc w (.cells #[] 5)) (below_alloc _ (.cells #[] 3))) (below_alloc _ (.cells #[] 25)))
  clear hp hb
  go_enter Try.func5, Try.ntmps5
  go_wp2_with fail
  go_loopw [7, 8, 9, 10] (fun av wv lv iv wr => ∃ (i : Nat) (sa sw sv : Sl) (L : List Gp), i ≤ 5 ∧ L.length ≤ i ∧ iv = .int .i64 (i : Nat) ∧ av = sa.val ∧ wv = sw.val ∧ lv = sv.val ∧ Hid (CutInv w wr sa sw sv L)) (fun _ _ _ iv _ => 20 - (intOf iv).toNat)
  case atStart => exact ⟨0, ⟨some ⟨w.heap.size, 0, none⟩, 0, 0⟩, ⟨some ⟨w.heap.size + 1, 0, none⟩, 0, 0⟩, ⟨some ⟨w.heap.size + 2, 0, none⟩, 0, 0⟩, [], by omega, by simp, rfl, rfl, rfl, rfl, hide ⟨HC0.out, (fun _ h => by cases h), HB0.out⟩⟩
  case round =>
    obtain ⟨i, sa, sw, sv, L, hi, hLi, rfl, rfl, rfl, rfl, hinv⟩ := hrel
    by_cases hgo : i < pl ∧ i < 5
    · obtain ⟨j1, j2⟩ := hgo
      have i1 : ((i : Nat) : Int) < ((pl : Nat) : Int) := by omega
      have i2 : ((i : Nat) : Int) < 5 := by omega
      obtain ⟨hC, hM, hW⟩ := hinv.out
      obtain ⟨b, o, ha, c0, hin⟩ := (HP.out.below hW (Nat.le_refl _)).at_ i j1
      subst ha
      obtain ⟨⟨⟨na, nl, nc⟩, is⟩, hy⟩ : ∃ y, y = pp.getD i Nt.zero := ⟨_, rfl⟩
      rw [← hy] at c0 hin
      replace c0 : wr.cell? ⟨b, o + i, none⟩ = some (.slice na nl nc) := c0
      have HIM := hide (images_any wr na nl nc is hin ba bl bc bb (HBI.out.below hW (Nat.le_refl _)))
      have HC := hide hC
      have HM := hide hM
      have HW := hide hW
      clear hC hM hW hy hin
      obtain ⟨aa, al, ac⟩ := sa
      obtain ⟨wa, wl, wc⟩ := sw
      obtain ⟨la, ll, lc⟩ := sv
      unfold Sl.val
      simp only
      go_wp2_with fail
      refine HIM.out.mono ?_
      rintro e w1 ⟨v1, l1, rfl, hg1, hi1, hb1⟩
      have hcn : cnt nl bl ≤ 9 := Nat.min_le_right _ _
      have hv1 : v1.len ≤ 9 := by rw [← hg1.len, ← ims_length, hi1, imgsOf_length]; exact hcn
      have HG1 : Hid (Gr (fun k => wr.heap.size ≤ k) w1 v1 l1) := (hg1.gr (by omega)).mono (fun k hk _ => hk.elim id id)
      have HB1 := hide (rBelow HW.out hb1)
      have HC1 := hide (HC.out.keep hb1)
      have hmy := rmay_any w1 v1 l1 HG1.out
      clear hg1 hi1 hb1 hcn c0 HIM
      obtain ⟨va, vl, vc⟩ := v1
      by_cases hm : May (ims l1)
      · rw [mayB_ok hm] at hmy
        have HMY := hide hmy
        have HMM := hide hm
        have HIB := hide HG1.out.imB
        clear hmy hm
        unfold Sl.val at HMY ⊢
        simp only at HMY ⊢
        go_wp2_with fail
        refine HMY.out.mono ?_
        rintro e w2 ⟨rfl, hb2⟩
        have HB2 := hide (rBelow HB1.out hb2)
        have HC2 := hide (HC1.out.keep hb2)
        have HG2 := hide (HG1.out.below hb2 (Nat.le_refl _))
        have HE := hide (encode_ok w2 ⟨va, vl, vc⟩ l1 HG2.out HMM.out)
        clear hb2 HMY HC1 HG1
        unfold Sl.val at HE
        simp only at HE
        go_wp2_with fail
        refine HE.out.mono ?_
        rintro e w3 ⟨r3, rfl, ho3, hb3⟩
        have hrl : (recd (ims l1)).length ≤ 4000 := by rw [recd_length HMM.out.len]; have := HMM.out.2.1; omega
        obtain ⟨rs, hv3, hl3, hc3⟩ := ho3.cm (recd_bytes HG2.out.imB HMM.out) (by omega)
        subst hv3
        have HB3 := hide (rBelow HB2.out hb3)
        have hC3 := HC2.out.keep hb3
        have hG3 : Gr (fun k => wr.heap.size ≤ k ∧ k < w3.heap.size) w3 ⟨va, vl, vc⟩ l1 := (HG2.out.below hb3 (Nat.le_refl _)).mono (fun k hk hl => ⟨hk, hl⟩)
        have hA3 : (recs (gims L)).length ≤ 15425 := by
          have := recs_le (fun g hg => (HM.out g hg).1)
          rw [gims_length] at this
          omega
        have hal : al = (recs (gims L)).length := by
          have := hC3.a.1
          rw [vals_length, Nat.mul_one] at this
          exact this.symm
        obtain ⟨ra, rl, rc⟩ := rs
        replace hl3 : rl = (recd (ims l1)).length := hl3
        obtain ⟨sa4, w4, hrun4, ho4, hl4, hf4, hb4⟩ := own_byt w3 ⟨aa, al, ac⟩ _ hC3.a ⟨ra, rl, rc⟩ _ hc3.came (by show al + rl ≤ _; omega) 24
        obtain ⟨hC4, hB4⟩ := hC3.addA ho4 hf4 hb4 HB3.out.size
        have hwr : ∀ (s : Sl) k, s.blk = some k → k < wr.heap.size → k < wr.heap.size ∨ w3.heap.size ≤ k := fun _ _ _ h => .inl h
        have hG4 : Gr (fun k => wr.heap.size ≤ k ∧ k < w3.heap.size) w4 ⟨va, vl, vc⟩ l1 := hG3.past hf4 (fun k hk => .inl (HC.out.a.lt hk))
        have hA4 : ∀ k, sa4.blk = some k → k < wr.heap.size ∨ w3.heap.size ≤ k := by
          intro k hk
          rcases hb4 with e | ⟨j, e, hj⟩
          · exact .inl (HC.out.a.lt (by rw [← e]; exact hk))
          · rw [e] at hk
            cases hk
            exact .inr hj
        have hwl : wl = (wholes (gims L)).length := by
          have := hC4.b.1
          rw [ivals_length, Nat.mul_one] at this
          exact this.symm
        rw [wholes_length, gims_length] at hwl
        have hll : L.length = ll := hC4.g.own.len
        obtain ⟨sw5, w5, hrun5, ho5, hl5, hf5, hb5⟩ := own_int w4 ⟨wa, wl, wc⟩ _ hC4.b sa4.len (by show wl + 1 ≤ _; omega) 22
        have h34 : w3.heap.size ≤ w4.heap.size := hB4.size
        obtain ⟨hC5, hB5⟩ := hC4.addB ho5 hf5 hb5 (Nat.le_trans HB3.out.size h34)
        have h45 : w4.heap.size ≤ w5.heap.size := hB5.size
        have hG5 : Gr (fun k => wr.heap.size ≤ k ∧ k < w3.heap.size) w5 ⟨va, vl, vc⟩ l1 := hG4.past hf5 (fun k hk => .inl (HC.out.b.lt hk))
        have hW5 : ∀ k, sw5.blk = some k → k < wr.heap.size ∨ w3.heap.size ≤ k := by
          intro k hk
          rcases hb5 with e | ⟨j, e, hj⟩
          · exact .inl (HC.out.b.lt (by rw [← e]; exact hk))
          · rw [e] at hk
            cases hk
            exact .inr (by omega)
        obtain ⟨sv6, w6, hrun6, ho6, hl6, hf6, hb6⟩ := own_gr w5 ⟨la, ll, lc⟩ L hC5.g.own ⟨⟨va, vl, vc⟩, l1⟩ (by show ll + 1 ≤ _; omega) 40
        have hx5 : Gr (fun k => (w.heap.size ≤ k ∧ sa4.blk ≠ some k ∧ sw5.blk ≠ some k) ∧ (Sl.mk la ll lc).blk ≠ some k) w5 ⟨va, vl, vc⟩ l1 := hG5.mono (fun k hk _ => ⟨⟨Nat.le_trans HW.out.size hk.1, fun e => by have := hA4 k e; omega, fun e => by have := hW5 k e; omega⟩, fun e => by have := HC.out.g.own.lt e; omega⟩)
        obtain ⟨hC6, hB6⟩ := hC5.addG (x := ⟨⟨va, vl, vc⟩, l1⟩) hx5 ho6 hf6 hb6 (Nat.le_trans HB3.out.size (Nat.le_trans h34 h45))
        have HRUN4 := hide hrun4
        have HRUN5 := hide hrun5
        have HRUN6 := hide hrun6
        have HINV : Hid (CutInv w w6 sa4 sw5 sv6 (L ++ [⟨⟨va, vl, vc⟩, l1⟩])) := by
          have eg : gims (L ++ [(⟨⟨va, vl, vc⟩, l1⟩ : Gp)]) = gims L ++ [ims l1] := by rw [gims_append]; rfl
          have er : recs (gims L ++ [ims l1]) = recs (gims L) ++ recd (ims l1) := by rw [recs_append, recs_one]
          have el : sa4.len = (recs (gims L ++ [ims l1])).length := by rw [hl4, er, List.length_append, ← hl3, ← hal]
          refine ⟨?_, ?_, HB3.out.trans (hB4.trans (hB5.trans hB6))⟩
          · rw [eg, wholes_append, ← el, er]
            exact hC6
          · rw [eg]
            intro g hg
            rcases List.mem_append.1 hg with hg | hg
            · exact HM.out g hg
            · rw [List.mem_singleton.1 hg]
              exact ⟨HMM.out, HIB.out⟩
        have HLL : Hid ((L ++ [(⟨⟨va, vl, vc⟩, l1⟩ : Gp)]).length ≤ i + 1) := by show _ ≤ _; rw [List.length_append, List.length_singleton]; omega
        clear ho3 hb3 hrl hl3 hc3 hC3 hG3 hal hrun4 ho4 hf4 hb4 hC4 hB4 hG4 hA4 HE HC2 HG2 hl4 hwr hrun5 ho5 hf5 hb5 hC5 hB5 hG5 hW5 hl5 hrun6 ho6 hf6 hb6 hC6 hB6 hl6 hx5 h34 h45 hwl hll hA3 hinv HC HM HB3
        obtain ⟨aa4, al4, ac4⟩ := sa4
        obtain ⟨wa5, wl5, wc5⟩ := sw5
        obtain ⟨la6, ll6, lc6⟩ := sv6
        unfold Sl.val at HRUN4 HRUN5 HRUN6 ⊢
        simp only at HRUN4 HRUN5 HRUN6 ⊢
        go_wp2_with (first
          | (at_builtin; refine wpList_app _ rfl 24 24 (.tmp 48) (.tmp 49) rfl rfl (.slice aa4 al4 ac4) w4 HRUN4.out ?_)
          | (at_builtin; refine wpList_app _ rfl 22 22 (.tmp 51) (.tmp 54) rfl rfl (.slice wa5 wl5 wc5) w5 HRUN5.out ?_)
          | (at_builtin; refine wpList_app _ rfl 40 40 (.tmp 56) (.tmp 58) rfl rfl (.slice la6 ll6 lc6) w6 HRUN6.out ?_))
        go_roundw
        case rel => exact ⟨i + 1, ⟨aa4, al4, ac4⟩, ⟨wa5, wl5, wc5⟩, ⟨la6, ll6, lc6⟩, _, by omega, HLL.out, by go_num, rfl, rfl, rfl, HINV⟩
        case measure => simp only [intOf]; omega
      · rw [mayB_no hm] at hmy
        have HMY := hide hmy
        clear hmy hm
        unfold Sl.val at HMY ⊢
        simp only at HMY ⊢
        go_wp2_with fail
        refine HMY.out.mono ?_
        rintro e w2 ⟨rfl, hb2⟩
        have HINV : Hid (CutInv w w2 ⟨aa, al, ac⟩ ⟨wa, wl, wc⟩ ⟨la, ll, lc⟩ L) := ⟨HC1.out.keep hb2, HM.out, rBelow HB1.out hb2⟩
        clear hb2 HMY HC1 HG1 hinv
        go_wp2_with fail
        go_roundw
        case rel => exact ⟨i + 1, ⟨aa, al, ac⟩, ⟨wa, wl, wc⟩, ⟨la, ll, lc⟩, L, by omega, by omega, by go_num, rfl, rfl, rfl, HINV⟩
        case measure => simp only [intOf]; omega
    · obtain ⟨hC, hM, hW⟩ := hinv.out
      have HC := hide hC
      have HM := hide hM
      have HW := hide hW
      have hA3 : (recs (gims L)).length ≤ 15425 := by
        have := recs_le (fun g hg => (hM g hg).1)
        rw [gims_length] at this
        omega
      obtain ⟨aa, al, ac⟩ := sa
      obtain ⟨wa, wl, wc⟩ := sw
      obtain ⟨la, ll, lc⟩ := sv
      have hal : al = (recs (gims L)).length := by
        have := hC.a.1
        rw [vals_length, Nat.mul_one] at this
        exact this.symm
      have hal2 : al ≤ 15425 := by omega
      have hwl : wl = (gims L).length := by
        have := hC.b.1
        rw [ivals_length, wholes_length, Nat.mul_one] at this
        exact this.symm
      have hll : (gims L).length = ll := by rw [gims_length]; exact hC.g.own.len
      have HAL := hide (And.intro hal (And.intro hwl hll))
      have hll5 : ll ≤ 5 := by rw [← hll, gims_length]; omega
      clear hC hM hW hA3 hal hwl hll
      unfold Sl.val
      simp only
      by_cases j1 : i < pl
      · have i1 : ((i : Nat) : Int) < ((pl : Nat) : Int) := by omega
        have i2 : ¬ ((i : Nat) : Int) < 5 := by omega
        obtain ⟨to, hto, hto2⟩ : ∃ to : Nat, ((c : Nat) : Int) % (((al : Nat) : Int) + 1) = ((to : Nat) : Int) ∧ to ≤ al := by
          refine ⟨c % (al + 1), by simp, ?_⟩
          have := Nat.mod_lt c (show 0 < al + 1 by omega)
          omega
        go_wp2_with fail
        clear hto
        go_loop [15] (fun kv => ∃ k : Nat, k ≤ ll ∧ kv = .int .i64 k ∧ Hid (∀ j, j < k → ends (gims L) (j + 1) ≤ to)) (fun kv => 20 - (intOf kv).toNat)
        case atStart => exact ⟨0, by omega, rfl, hide (fun j hj => absurd hj (Nat.not_lt_zero j))⟩
        case round =>
          obtain ⟨k, hk, rfl, hin⟩ := hrel
          rcases Nat.lt_or_ge k ll with hlt | hge
          · have i4 : ((k : Nat) : Int) < ((ll : Nat) : Int) := by omega
            obtain ⟨en, hen⟩ : ∃ en, en = ends (gims L) (k + 1) := ⟨_, rfl⟩
            have hkl : k < (gims L).length := by rw [HAL.out.2.2]; exact hlt
            have hwk : k < wl := by rw [HAL.out.2.1]; exact hkl
            obtain ⟨b2, o2, hwa, hce⟩ : ∃ b2 o2, wa = some ⟨b2, o2, none⟩ ∧ wr.cell? ⟨b2, o2 + k, none⟩ = some (.int .i64 ((en : Nat) : Int)) := by
              rcases HC.out.b.2 with ⟨h0, _⟩ | ⟨gg, off, cur, ha, _⟩
              · have h9 : wl = 0 := congrArg Sl.len h0
                omega
              · refine ⟨gg, off, ha, ?_⟩
                have := HC.out.b.cell ha k _ (ivals_get (by rw [wholes_length]; exact hkl))
                rw [Addr.add_lit, wholes_get hkl, ← hen] at this
                exact this
            subst hwa
            have i5 : ((k : Nat) : Int) < ((wl : Nat) : Int) := by omega
            by_cases hle : en ≤ to
            · have i6 : ((en : Nat) : Int) ≤ ((to : Nat) : Int) := by omega
              have HNX : Hid (∀ j, j < k + 1 → ends (gims L) (j + 1) ≤ to) := by
                intro j hj
                rcases Nat.lt_or_ge j k with h | h
                · exact hin.out j h
                · obtain rfl : j = k := by omega
                  rw [← hen]
                  exact hle
              clear hen
              go_wp2_with fail
              go_round
              case rel => exact ⟨k + 1, by omega, by go_num, HNX⟩
              case measure => simp only [intOf]; omega
            · have i6 : ¬ ((en : Nat) : Int) ≤ ((to : Nat) : Int) := by omega
              have HOUT : Hid (k < (gims L).length → to < ends (gims L) (k + 1)) := fun _ => by rw [← hen]; omega
              clear hen
              have hcr := cut_row (l := gims L) (fun g hg => (HM.out g hg).1) (to := to) (k := k) (by rw [← HAL.out.1]; exact hto2) (by rw [HAL.out.2.2]; exact hk) hin.out HOUT.out
              have hcm := (HC.out.a.came (recs_bytes HM.out))
              have hmid := Came.mid (s := ⟨aa, al, ac⟩) hcm 0 to (Nat.zero_le _) hto2
              rw [List.drop_zero, Nat.sub_zero] at hmid
              have HRW := hide (row_any wr (fromA aa ac 0) to ac ((recs (gims L)).take to) hmid (by omega))
              have hrun : ∀ w : World, (Instr.sliceAt 24 (.slice aa al ac) none (some (.int .i64 ((to : Nat) : Int))) none).run Try.prog w = .ok (.slice (fromA aa ac 0) to ac) w := slice_upto aa al ac to (Nat.le_trans hto2 hcm.le)
              have HRUN := hide hrun
              have HCR := hide hcr
              clear hcr hcm hmid hrun hin
              go_wp2_with (refine wpList_slice _ rfl 24 (.tmp 81) none (some (.tmp 82)) rfl (.slice (fromA aa ac 0) to ac) (HRUN.out _) ?_)
              refine HRW.out.mono ?_
              rintro e w4 ⟨v4, L4, ix, rfl, hg4, hl4, hm4, hok4, hno4, hb4⟩
              obtain rfl : ix = k := row_end hok4 (fun j hj => (HCR.out.2.1 j hj).1) hno4 HCR.out.2.2
              obtain ⟨rt, hrt⟩ : ∃ rt, rt = rowAt ((recs (gims L)).take to) ix := ⟨_, rfl⟩
              rw [← hrt]
              have HEQ : Hid (∀ m, m < ix → (gims L4).getD m [] = (gims L).getD m []) := by
                intro m hm
                rw [hm4, ← (HCR.out.2.1 m hm).2]
                simp [rowsTo, List.getD, hm]
              have HB4 := hide (rBelow HW.out hb4)
              have HG4 := hide hg4
              have HGL := hide ((HC.out.keep hb4).g)
              obtain ⟨ya, yl, yc⟩ := v4
              replace hl4 : yl = ix := hl4
              subst hl4
              clear hm4 hok4 hno4 hb4 hg4 hrt HRW HRUN HCR
              unfold Sl.val
              simp only
              go_wp2_with fail
              go_loopw [18] (fun iv wz => ∃ m : Nat, m ≤ yl ∧ iv = .int .i64 m ∧ Hid (Below w.heap.size w wz) ∧ Hid (Below w4.heap.size w4 wz)) (fun iv _ => yl - (intOf iv).toNat)
              case atStart => exact ⟨0, by omega, rfl, HB4, hide (Below.refl _ _)⟩
              case round =>
                obtain ⟨m, hm, rfl, hW, hW4⟩ := hrel
                rcases Nat.lt_or_ge m yl with hlt | hge
                · have ga := HG4.out.keep hW4.out
                  have gb := HGL.out.keep hW4.out
                  have hlt2 : m < ll := by omega
                  obtain ⟨b, o, ha, c0⟩ := ga.own.at (i := m) hlt
                  obtain ⟨cc, q, ha2, d0⟩ := gb.own.at (i := m) hlt2
                  simp only at ha ha2
                  subst ha
                  subst ha2
                  have hd := below_drew wr
                  have g1 := ga.at (i := m) hlt
                  have g2 := gb.at (i := m) hlt2
                  have hs := rsame_any wr.drew _ _ _ _ (g1.below hd (Nat.le_refl _)) (g2.below hd (Nat.le_refl _))
                  rw [← gims_getD, ← gims_getD, HEQ.out m hlt, sameB_ok rfl] at hs
                  have hT : TwoG b o cc q m (L4.getD m Gp.zero).v (L.getD m Gp.zero).v wr := ⟨c0, d0⟩
                  have hb1 := World.block_lt_of_cell? wr _ c0
                  have hb2 := World.block_lt_of_cell? wr _ d0
                  have HRG := hide (fun Q A => @cuts25 wr b o cc q yl yc ll lc m _ _ hT hlt hlt2 hs (fun w2 hb => ⟨((rBelow hd hb).cell (p := ⟨b, o + m, none⟩) hb1).trans c0, ((rBelow hd hb).cell (p := ⟨cc, q + m, none⟩) hb2).trans d0⟩) Q A)
                  have i8 : ((m : Nat) : Int) < ((yl : Nat) : Int) := by omega
                  clear ga gb c0 d0 hd g1 g2 hs hT hb1 hb2
                  go_wp2_with fail
                  refine Pl.region_is (ops := Pl.find 25 ((Try.f5.body).getD .skip)) (by kernel_rfl) ?_
                  refine HRG.out _ _ (by rfl) rfl (by rfl) (by rfl) (by rfl) ?_
                  intro uu w9 hb9
                  have HB9 := hide (rBelow hW.out hb9)
                  have HC9 := hide (rBelow hW4.out hb9)
                  simp only [Act.put, List.setIfInBounds_toArray, List.set_cons_zero, List.set_cons_succ]
                  clear HRG hb9
                  go_wp2_with fail
                  go_roundw
                  case rel => exact ⟨m + 1, by omega, by go_num, HB9, HC9⟩
                  case measure => simp only [intOf]; omega
                · obtain rfl : m = yl := by omega
                  have i8 : ¬ ((m : Nat) : Int) < ((m : Nat) : Int) := by omega
                  have HAW := hide (awake_any wr)
                  go_wp2_with fail
                  refine HAW.out.mono ?_
                  rintro e w9 ⟨rfl, hb9⟩
                  go_wp2_with fail
                  go_ret
                  exact ⟨rfl, rBelow hW.out hb9⟩
          · have i4 : ¬ ((k : Nat) : Int) < ((ll : Nat) : Int) := by omega
            have HOUT : Hid (k < (gims L).length → to < ends (gims L) (k + 1)) := fun h => by rw [HAL.out.2.2] at h; omega
            have hcr := cut_row (l := gims L) (fun g hg => (HM.out g hg).1) (to := to) (k := k) (by rw [← HAL.out.1]; exact hto2) (by rw [HAL.out.2.2]; exact hk) hin.out HOUT.out
            have hcm := (HC.out.a.came (recs_bytes HM.out))
            have hmid := Came.mid (s := ⟨aa, al, ac⟩) hcm 0 to (Nat.zero_le _) hto2
            rw [List.drop_zero, Nat.sub_zero] at hmid
            have HRW := hide (row_any wr (fromA aa ac 0) to ac ((recs (gims L)).take to) hmid (by omega))
            have hrun : ∀ w : World, (Instr.sliceAt 24 (.slice aa al ac) none (some (.int .i64 ((to : Nat) : Int))) none).run Try.prog w = .ok (.slice (fromA aa ac 0) to ac) w := slice_upto aa al ac to (Nat.le_trans hto2 hcm.le)
            have HRUN := hide hrun
            have HCR := hide hcr
            clear hcr hcm hmid hrun hin
            go_wp2_with (refine wpList_slice _ rfl 24 (.tmp 81) none (some (.tmp 82)) rfl (.slice (fromA aa ac 0) to ac) (HRUN.out _) ?_)
            refine HRW.out.mono ?_
            rintro e w4 ⟨v4, L4, ix, rfl, hg4, hl4, hm4, hok4, hno4, hb4⟩
            obtain rfl : ix = k := row_end hok4 (fun j hj => (HCR.out.2.1 j hj).1) hno4 HCR.out.2.2
            obtain ⟨rt, hrt⟩ : ∃ rt, rt = rowAt ((recs (gims L)).take to) ix := ⟨_, rfl⟩
            rw [← hrt]
            have HEQ : Hid (∀ m, m < ix → (gims L4).getD m [] = (gims L).getD m []) := by
              intro m hm
              rw [hm4, ← (HCR.out.2.1 m hm).2]
              simp [rowsTo, List.getD, hm]
            have HB4 := hide (rBelow HW.out hb4)
            have HG4 := hide hg4
            have HGL := hide ((HC.out.keep hb4).g)
            obtain ⟨ya, yl, yc⟩ := v4
            replace hl4 : yl = ix := hl4
            subst hl4
            clear hm4 hok4 hno4 hb4 hg4 hrt HRW HRUN HCR
            unfold Sl.val
            simp only
            go_wp2_with fail
            go_loopw [18] (fun iv wz => ∃ m : Nat, m ≤ yl ∧ iv = .int .i64 m ∧ Hid (Below w.heap.size w wz) ∧ Hid (Below w4.heap.size w4 wz)) (fun iv _ => yl - (intOf iv).toNat)
            case atStart => exact ⟨0, by omega, rfl, HB4, hide (Below.refl _ _)⟩
            case round =>
              obtain ⟨m, hm, rfl, hW, hW4⟩ := hrel
              rcases Nat.lt_or_ge m yl with hlt | hge
              · have ga := HG4.out.keep hW4.out
                have gb := HGL.out.keep hW4.out
                have hlt2 : m < ll := by omega
                obtain ⟨b, o, ha, c0⟩ := ga.own.at (i := m) hlt
                obtain ⟨cc, q, ha2, d0⟩ := gb.own.at (i := m) hlt2
                simp only at ha ha2
                subst ha
                subst ha2
                have hd := below_drew wr
                have g1 := ga.at (i := m) hlt
                have g2 := gb.at (i := m) hlt2
                have hs := rsame_any wr.drew _ _ _ _ (g1.below hd (Nat.le_refl _)) (g2.below hd (Nat.le_refl _))
                rw [← gims_getD, ← gims_getD, HEQ.out m hlt, sameB_ok rfl] at hs
                have hT : TwoG b o cc q m (L4.getD m Gp.zero).v (L.getD m Gp.zero).v wr := ⟨c0, d0⟩
                have hb1 := World.block_lt_of_cell? wr _ c0
                have hb2 := World.block_lt_of_cell? wr _ d0
                have HRG := hide (fun Q A => @cuts25 wr b o cc q yl yc ll lc m _ _ hT hlt hlt2 hs (fun w2 hb => ⟨((rBelow hd hb).cell (p := ⟨b, o + m, none⟩) hb1).trans c0, ((rBelow hd hb).cell (p := ⟨cc, q + m, none⟩) hb2).trans d0⟩) Q A)
                have i8 : ((m : Nat) : Int) < ((yl : Nat) : Int) := by omega
                clear ga gb c0 d0 hd g1 g2 hs hT hb1 hb2
                go_wp2_with fail
                refine Pl.region_is (ops := Pl.find 25 ((Try.f5.body).getD .skip)) (by kernel_rfl) ?_
                refine HRG.out _ _ (by rfl) rfl (by rfl) (by rfl) (by rfl) ?_
                intro uu w9 hb9
                have HB9 := hide (rBelow hW.out hb9)
                have HC9 := hide (rBelow hW4.out hb9)
                simp only [Act.put, List.setIfInBounds_toArray, List.set_cons_zero, List.set_cons_succ]
                clear HRG hb9
                go_wp2_with fail
                go_roundw
                case rel => exact ⟨m + 1, by omega, by go_num, HB9, HC9⟩
                case measure => simp only [intOf]; omega
              · obtain rfl : m = yl := by omega
                have i8 : ¬ ((m : Nat) : Int) < ((m : Nat) : Int) := by omega
                have HAW := hide (awake_any wr)
                go_wp2_with fail
                refine HAW.out.mono ?_
                rintro e w9 ⟨rfl, hb9⟩
                go_wp2_with fail
                go_ret
                exact ⟨rfl, rBelow hW.out hb9⟩
      · have i1 : ¬ ((i : Nat) : Int) < ((pl : Nat) : Int) := by omega
        obtain ⟨to, hto, hto2⟩ : ∃ to : Nat, ((c : Nat) : Int) % (((al : Nat) : Int) + 1) = ((to : Nat) : Int) ∧ to ≤ al := by
          refine ⟨c % (al + 1), by simp, ?_⟩
          have := Nat.mod_lt c (show 0 < al + 1 by omega)
          omega
        go_wp2_with fail
        clear hto
        go_loop [15] (fun kv => ∃ k : Nat, k ≤ ll ∧ kv = .int .i64 k ∧ Hid (∀ j, j < k → ends (gims L) (j + 1) ≤ to)) (fun kv => 20 - (intOf kv).toNat)
        case atStart => exact ⟨0, by omega, rfl, hide (fun j hj => absurd hj (Nat.not_lt_zero j))⟩
        case round =>
          obtain ⟨k, hk, rfl, hin⟩ := hrel
          rcases Nat.lt_or_ge k ll with hlt | hge
          · have i4 : ((k : Nat) : Int) < ((ll : Nat) : Int) := by omega
            obtain ⟨en, hen⟩ : ∃ en, en = ends (gims L) (k + 1) := ⟨_, rfl⟩
            have hkl : k < (gims L).length := by rw [HAL.out.2.2]; exact hlt
            have hwk : k < wl := by rw [HAL.out.2.1]; exact hkl
            obtain ⟨b2, o2, hwa, hce⟩ : ∃ b2 o2, wa = some ⟨b2, o2, none⟩ ∧ wr.cell? ⟨b2, o2 + k, none⟩ = some (.int .i64 ((en : Nat) : Int)) := by
              rcases HC.out.b.2 with ⟨h0, _⟩ | ⟨gg, off, cur, ha, _⟩
              · have h9 : wl = 0 := congrArg Sl.len h0
                omega
              · refine ⟨gg, off, ha, ?_⟩
                have := HC.out.b.cell ha k _ (ivals_get (by rw [wholes_length]; exact hkl))
                rw [Addr.add_lit, wholes_get hkl, ← hen] at this
                exact this
            subst hwa
            have i5 : ((k : Nat) : Int) < ((wl : Nat) : Int) := by omega
            by_cases hle : en ≤ to
            · have i6 : ((en : Nat) : Int) ≤ ((to : Nat) : Int) := by omega
              have HNX : Hid (∀ j, j < k + 1 → ends (gims L) (j + 1) ≤ to) := by
                intro j hj
                rcases Nat.lt_or_ge j k with h | h
                · exact hin.out j h
                · obtain rfl : j = k := by omega
                  rw [← hen]
                  exact hle
              clear hen
              go_wp2_with fail
              go_round
              case rel => exact ⟨k + 1, by omega, by go_num, HNX⟩
              case measure => simp only [intOf]; omega
            · have i6 : ¬ ((en : Nat) : Int) ≤ ((to : Nat) : Int) := by omega
              have HOUT : Hid (k < (gims L).length → to < ends (gims L) (k + 1)) := fun _ => by rw [← hen]; omega
              clear hen
              have hcr := cut_row (l := gims L) (fun g hg => (HM.out g hg).1) (to := to) (k := k) (by rw [← HAL.out.1]; exact hto2) (by rw [HAL.out.2.2]; exact hk) hin.out HOUT.out
              have hcm := (HC.out.a.came (recs_bytes HM.out))
              have hmid := Came.mid (s := ⟨aa, al, ac⟩) hcm 0 to (Nat.zero_le _) hto2
              rw [List.drop_zero, Nat.sub_zero] at hmid
              have HRW := hide (row_any wr (fromA aa ac 0) to ac ((recs (gims L)).take to) hmid (by omega))
              have hrun : ∀ w : World, (Instr.sliceAt 24 (.slice aa al ac) none (some (.int .i64 ((to : Nat) : Int))) none).run Try.prog w = .ok (.slice (fromA aa ac 0) to ac) w := slice_upto aa al ac to (Nat.le_trans hto2 hcm.le)
              have HRUN := hide hrun
              have HCR := hide hcr
              clear hcr hcm hmid hrun hin
              go_wp2_with (refine wpList_slice _ rfl 24 (.tmp 81) none (some (.tmp 82)) rfl (.slice (fromA aa ac 0) to ac) (HRUN.out _) ?_)
              refine HRW.out.mono ?_
              rintro e w4 ⟨v4, L4, ix, rfl, hg4, hl4, hm4, hok4, hno4, hb4⟩
              obtain rfl : ix = k := row_end hok4 (fun j hj => (HCR.out.2.1 j hj).1) hno4 HCR.out.2.2
              obtain ⟨rt, hrt⟩ : ∃ rt, rt = rowAt ((recs (gims L)).take to) ix := ⟨_, rfl⟩
              rw [← hrt]
              have HEQ : Hid (∀ m, m < ix → (gims L4).getD m [] = (gims L).getD m []) := by
                intro m hm
                rw [hm4, ← (HCR.out.2.1 m hm).2]
                simp [rowsTo, List.getD, hm]
              have HB4 := hide (rBelow HW.out hb4)
              have HG4 := hide hg4
              have HGL := hide ((HC.out.keep hb4).g)
              obtain ⟨ya, yl, yc⟩ := v4
              replace hl4 : yl = ix := hl4
              subst hl4
              clear hm4 hok4 hno4 hb4 hg4 hrt HRW HRUN HCR
              unfold Sl.val
              simp only
              go_wp2_with fail
              go_loopw [18] (fun iv wz => ∃ m : Nat, m ≤ yl ∧ iv = .int .i64 m ∧ Hid (Below w.heap.size w wz) ∧ Hid (Below w4.heap.size w4 wz)) (fun iv _ => yl - (intOf iv).toNat)
              case atStart => exact ⟨0, by omega, rfl, HB4, hide (Below.refl _ _)⟩
              case round =>
                obtain ⟨m, hm, rfl, hW, hW4⟩ := hrel
                rcases Nat.lt_or_ge m yl with hlt | hge
                · have ga := HG4.out.keep hW4.out
                  have gb := HGL.out.keep hW4.out
                  have hlt2 : m < ll := by omega
                  obtain ⟨b, o, ha, c0⟩ := ga.own.at (i := m) hlt
                  obtain ⟨cc, q, ha2, d0⟩ := gb.own.at (i := m) hlt2
                  simp only at ha ha2
                  subst ha
                  subst ha2
                  have hd := below_drew wr
                  have g1 := ga.at (i := m) hlt
                  have g2 := gb.at (i := m) hlt2
                  have hs := rsame_any wr.drew _ _ _ _ (g1.below hd (Nat.le_refl _)) (g2.below hd (Nat.le_refl _))
                  rw [← gims_getD, ← gims_getD, HEQ.out m hlt, sameB_ok rfl] at hs
                  have hT : TwoG b o cc q m (L4.getD m Gp.zero).v (L.getD m Gp.zero).v wr := ⟨c0, d0⟩
                  have hb1 := World.block_lt_of_cell? wr _ c0
                  have hb2 := World.block_lt_of_cell? wr _ d0
                  have HRG := hide (fun Q A => @cuts25 wr b o cc q yl yc ll lc m _ _ hT hlt hlt2 hs (fun w2 hb => ⟨((rBelow hd hb).cell (p := ⟨b, o + m, none⟩) hb1).trans c0, ((rBelow hd hb).cell (p := ⟨cc, q + m, none⟩) hb2).trans d0⟩) Q A)
                  have i8 : ((m : Nat) : Int) < ((yl : Nat) : Int) := by omega
                  clear ga gb c0 d0 hd g1 g2 hs hT hb1 hb2
                  go_wp2_with fail
                  refine Pl.region_is (ops := Pl.find 25 ((Try.f5.body).getD .skip)) (by kernel_rfl) ?_
                  refine HRG.out _ _ (by rfl) rfl (by rfl) (by rfl) (by rfl) ?_
                  intro uu w9 hb9
                  have HB9 := hide (rBelow hW.out hb9)
                  have HC9 := hide (rBelow hW4.out hb9)
                  simp only [Act.put, List.setIfInBounds_toArray, List.set_cons_zero, List.set_cons_succ]
                  clear HRG hb9
                  go_wp2_with fail
                  go_roundw
                  case rel => exact ⟨m + 1, by omega, by go_num, HB9, HC9⟩
                  case measure => simp only [intOf]; omega
                · obtain rfl : m = yl := by omega
                  have i8 : ¬ ((m : Nat) : Int) < ((m : Nat) : Int) := by omega
                  have HAW := hide (awake_any wr)
                  go_wp2_with fail
                  refine HAW.out.mono ?_
                  rintro e w9 ⟨rfl, hb9⟩
                  go_wp2_with fail
                  go_ret
                  exact ⟨rfl, rBelow hW.out hb9⟩
          · have i4 : ¬ ((k : Nat) : Int) < ((ll : Nat) : Int) := by omega
            have HOUT : Hid (k < (gims L).length → to < ends (gims L) (k + 1)) := fun h => by rw [HAL.out.2.2] at h; omega
            have hcr := cut_row (l := gims L) (fun g hg => (HM.out g hg).1) (to := to) (k := k) (by rw [← HAL.out.1]; exact hto2) (by rw [HAL.out.2.2]; exact hk) hin.out HOUT.out
            have hcm := (HC.out.a.came (recs_bytes HM.out))
            have hmid := Came.mid (s := ⟨aa, al, ac⟩) hcm 0 to (Nat.zero_le _) hto2
            rw [List.drop_zero, Nat.sub_zero] at hmid
            have HRW := hide (row_any wr (fromA aa ac 0) to ac ((recs (gims L)).take to) hmid (by omega))
            have hrun : ∀ w : World, (Instr.sliceAt 24 (.slice aa al ac) none (some (.int .i64 ((to : Nat) : Int))) none).run Try.prog w = .ok (.slice (fromA aa ac 0) to ac) w := slice_upto aa al ac to (Nat.le_trans hto2 hcm.le)
            have HRUN := hide hrun
            have HCR := hide hcr
            clear hcr hcm hmid hrun hin
            go_wp2_with (refine wpList_slice _ rfl 24 (.tmp 81) none (some (.tmp 82)) rfl (.slice (fromA aa ac 0) to ac) (HRUN.out _) ?_)
            refine HRW.out.mono ?_
            rintro e w4 ⟨v4, L4, ix, rfl, hg4, hl4, hm4, hok4, hno4, hb4⟩
            obtain rfl : ix = k := row_end hok4 (fun j hj => (HCR.out.2.1 j hj).1) hno4 HCR.out.2.2
            obtain ⟨rt, hrt⟩ : ∃ rt, rt = rowAt ((recs (gims L)).take to) ix := ⟨_, rfl⟩
            rw [← hrt]
            have HEQ : Hid (∀ m, m < ix → (gims L4).getD m [] = (gims L).getD m []) := by
              intro m hm
              rw [hm4, ← (HCR.out.2.1 m hm).2]
              simp [rowsTo, List.getD, hm]
            have HB4 := hide (rBelow HW.out hb4)
            have HG4 := hide hg4
            have HGL := hide ((HC.out.keep hb4).g)
            obtain ⟨ya, yl, yc⟩ := v4
            replace hl4 : yl = ix := hl4
            subst hl4
            clear hm4 hok4 hno4 hb4 hg4 hrt HRW HRUN HCR
            unfold Sl.val
            simp only
            go_wp2_with fail
            go_loopw [18] (fun iv wz => ∃ m : Nat, m ≤ yl ∧ iv = .int .i64 m ∧ Hid (Below w.heap.size w wz) ∧ Hid (Below w4.heap.size w4 wz)) (fun iv _ => yl - (intOf iv).toNat)
            case atStart => exact ⟨0, by omega, rfl, HB4, hide (Below.refl _ _)⟩
            case round =>
              obtain ⟨m, hm, rfl, hW, hW4⟩ := hrel
              rcases Nat.lt_or_ge m yl with hlt | hge
              · have ga := HG4.out.keep hW4.out
                have gb := HGL.out.keep hW4.out
                have hlt2 : m < ll := by omega
                obtain ⟨b, o, ha, c0⟩ := ga.own.at (i := m) hlt
                obtain ⟨cc, q, ha2, d0⟩ := gb.own.at (i := m) hlt2
                simp only at ha ha2
                subst ha
                subst ha2
                have hd := below_drew wr
                have g1 := ga.at (i := m) hlt
                have g2 := gb.at (i := m) hlt2
                have hs := rsame_any wr.drew _ _ _ _ (g1.below hd (Nat.le_refl _)) (g2.below hd (Nat.le_refl _))
                rw [← gims_getD, ← gims_getD, HEQ.out m hlt, sameB_ok rfl] at hs
                have hT : TwoG b o cc q m (L4.getD m Gp.zero).v (L.getD m Gp.zero).v wr := ⟨c0, d0⟩
                have hb1 := World.block_lt_of_cell? wr _ c0
                have hb2 := World.block_lt_of_cell? wr _ d0
                have HRG := hide (fun Q A => @cuts25 wr b o cc q yl yc ll lc m _ _ hT hlt hlt2 hs (fun w2 hb => ⟨((rBelow hd hb).cell (p := ⟨b, o + m, none⟩) hb1).trans c0, ((rBelow hd hb).cell (p := ⟨cc, q + m, none⟩) hb2).trans d0⟩) Q A)
                have i8 : ((m : Nat) : Int) < ((yl : Nat) : Int) := by omega
                clear ga gb c0 d0 hd g1 g2 hs hT hb1 hb2
                go_wp2_with fail
                refine Pl.region_is (ops := Pl.find 25 ((Try.f5.body).getD .skip)) (by kernel_rfl) ?_
                refine HRG.out _ _ (by rfl) rfl (by rfl) (by rfl) (by rfl) ?_
                intro uu w9 hb9
                have HB9 := hide (rBelow hW.out hb9)
                have HC9 := hide (rBelow hW4.out hb9)
                simp only [Act.put, List.setIfInBounds_toArray, List.set_cons_zero, List.set_cons_succ]
                clear HRG hb9
                go_wp2_with fail
                go_roundw
                case rel => exact ⟨m + 1, by omega, by go_num, HB9, HC9⟩
                case measure => simp only [intOf]; omega
              · obtain rfl : m = yl := by omega
                have i8 : ¬ ((m : Nat) : Int) < ((m : Nat) : Int) := by omega
                have HAW := hide (awake_any wr)
                go_wp2_with fail
                refine HAW.out.mono ?_
                rintro e w9 ⟨rfl, hb9⟩
                go_wp2_with fail
                go_ret
                exact ⟨rfl, rBelow hW.out hb9⟩
end Go.Proofs.Ytjgeiooblcpiaaa
