/-
  The landed undo's Put, Drop, Get.
-/
import Derived.Test.YtpdkeghmpnanpaaUdF
namespace Go.Proofs.Ytpdkeghmpnanpaa
open Go.RowKit

theorem uns_put (l : List Ux) (i : Nat) (x : Ux) (u : Un) (L : List Un) (h : uns l = L) (hx : x.u = u) : uns (l.set i x) = L.set i u := by rw [uns_set, h, hx]

set_option maxHeartbeats 4000000 in
set_option maxRecDepth 100000 in
theorem putL_no (a : Option Addr) (n cap : Nat) (l : List Ux) (w : World) (h : Us w a n l) (hbig : n ≤ 1000000) (x : Ux) (hx : Fs w x.a x.n x.c x.u.row.xs) (hf : x.u.fits) (hm : MayU (uns l) = false) :
    Calls Try.prog 9 #[.slice a n cap, x.val] w fun e w' => e = .returned (.tuple #[.slice none 0 0, .int .i64 0, .int .i64 1]) ∧ Below w.heap.size w w' := by
  have HA := hide (below_alloc w (.cells #[.int .i64 x.u.tx, .int .i64 x.u.no, .int .i64 x.u.prev, .int .i64 x.u.kind, .int .i64 x.u.page, .int .i64 x.u.slot, .float .f64 x.u.row.key, .bool x.u.row.dead, .slice x.a x.n x.c, .int .i64 x.u.row.wr, .int .i64 x.u.row.cell, .int .i64 x.u.row.no] 30))
  have HBK := hide (unBlk_new w x.u (.slice x.a x.n x.c))
  have HCK : Hid (∀ w', Below w.heap.size w w' → Calls Try.prog 12 #[.slice a n cap] w' fun e w'' => e = .returned (.int .i64 (chk (MayU (uns l)))) ∧ Below w'.heap.size w' w'') := fun w' hb => checkL_any a n cap l w' (h.keep hb (Nat.le_refl _)) hbig
  have HE := hide h
  have HX := hide hx
  have HXF := hide hf
  clear h hx hf
  rw [hm] at HCK
  clear hm HE HX HXF
  unfold Ux.val Un.val
  go_enter Try.func9, Try.ntmps9
  go_wp2_with fail
  refine (HCK.out _ HA.out).mono ?_
  rintro e w1 ⟨rfl, hb1⟩
  have HW1 := hide (rBelow HA.out hb1)
  have HBK1 := hide (HBK.out.keep hb1)
  clear hb1 HBK HCK
  simp only [chk]
  go_wp2_with fail
  go_ret3
  exact ⟨rfl, HW1.out⟩

set_option maxHeartbeats 4000000 in
set_option maxRecDepth 100000 in
theorem putL_ok (a : Option Addr) (n cap : Nat) (l : List Ux) (w : World) (h : Us w a n l) (hbig : n ≤ 1000000) (x : Ux) (hx : Fs w x.a x.n x.c x.u.row.xs) (hf : x.u.fits) (hm : MayU (uns l) = true) :
    Calls Try.prog 9 #[.slice a n cap, x.val] w fun e w' => ∃ s : Sl, e = .returned (.tuple #[s.val, .int .i64 (putU (uns l) x.u).n, .int .i64 (putU (uns l) x.u).e]) ∧ RowT w w' s (putU (uns l) x.u).l ∧ Below w.heap.size w w' := by
  have hP := (mayU_iff _).1 hm
  have hul : (uns l).length = n := by rw [uns_len, h.len]
  have HN0 : Hid (0 < n) := by have := hP.lo; show _ < _; omega
  have HN1 : Hid (n ≤ 1000) := by have := hP.hi; show _ ≤ _; omega
  have HCO := hide hP.cols
  have HUL := hide hul
  clear hP hul
  have HA := hide (below_alloc w (.cells #[.int .i64 x.u.tx, .int .i64 x.u.no, .int .i64 x.u.prev, .int .i64 x.u.kind, .int .i64 x.u.page, .int .i64 x.u.slot, .float .f64 x.u.row.key, .bool x.u.row.dead, .slice x.a x.n x.c, .int .i64 x.u.row.wr, .int .i64 x.u.row.cell, .int .i64 x.u.row.no] 30))
  have HBK := hide (unBlk_new w x.u (.slice x.a x.n x.c))
  have HCK : Hid (∀ w', Below w.heap.size w w' → Calls Try.prog 12 #[.slice a n cap] w' fun e w'' => e = .returned (.int .i64 (chk (MayU (uns l)))) ∧ Below w'.heap.size w' w'') := fun w' hb => checkL_any a n cap l w' (h.keep hb (Nat.le_refl _)) hbig
  have HE := hide h
  have HX := hide hx
  have HXF := hide hf
  clear h hx hf
  rw [hm] at HCK
  clear hm
  cases hmy : x.u.may with
  | false =>
    have HMY := hide hmy
    have hpu : putU (uns l) x.u = ⟨uns l, 0, 1⟩ := by unfold putU; rw [if_pos hmy]
    rw [hpu]
    clear hpu hmy
    unfold Ux.val Un.val
    go_enter Try.func9, Try.ntmps9
    go_wp2_with fail
    refine (HCK.out _ HA.out).mono ?_
    rintro e w1 ⟨rfl, hb1⟩
    have HW1 := hide (rBelow HA.out hb1)
    have HBK1 := hide (HBK.out.keep hb1)
    clear hb1 HBK HCK
    simp only [chk]
    have HCP := hide (copyOf_any a n cap l w1 (HE.out.keep HW1.out (Nat.le_refl _)) HN0.out HN1.out HCO.out)
    go_wp2_with fail
    refine HCP.out.mono ?_
    rintro e w2 ⟨⟨sa, sl, sc⟩, rfl, l2, hud2, huns2, htyp2⟩
    have HUD2 := hide hud2
    have HUN2 := hide huns2
    have HTY2 := hide htyp2
    have HW2 := hide (rBelow HW1.out hud2.below)
    have HBK2 := hide (HBK1.out.keep hud2.below)
    have HL2 := hide (load_un _ x.u (.slice x.a x.n x.c) ⟨_, _, _, rfl⟩ w2 HBK2.out)
    have HCU := hide (checkU_any x.u x.a x.n x.c w2 (HX.out.keep HW2.out (Nat.le_refl _)) HXF.out.row)
    have hval : x.u.val (.slice x.a x.n x.c) = x.val := rfl
    rw [hval] at HL2 HCU
    clear hud2 huns2 htyp2 hval HCP HBK1
    simp only [Sl.val]
    rw [HMY.out] at HCU
    go_wp2_with (refine wpList_load _ rfl 30 (.tmp 3) rfl (.pointer (some ⟨_, 0, none⟩)) x.val rfl HL2.out ?_)
    refine HCU.out.mono ?_
    rintro e w3 ⟨rfl, hb3⟩
    have HW3 := hide (rBelow HW2.out hb3)
    have HBK3 := hide (HBK2.out.keep hb3)
    have HUD3 := hide (HUD2.out.keep hb3)
    have HTY3 : Hid (∀ x ∈ l2, Typ w3 x) := fun x hx => (HTY2.out x hx).keep hb3
    clear hb3 HCU HL2 HBK2 HUD2
    simp only [chk]
    go_wp2_with fail
    go_ret3
    exact ⟨⟨sa, sl, sc⟩, rfl, RowT.lower ⟨l2, HUD3.out, HUN2.out, HTY3.out⟩ HW1.out, HW3.out⟩
  | true =>
    have HMY := hide hmy
    have HXC := hide (Un.may_cols hmy)
    cases hhn : hasNo (uns l) x.u.no with
    | true =>
      have HHN := hide hhn
      have hpu : putU (uns l) x.u = ⟨uns l, 0, 1⟩ := by unfold putU; rw [if_neg (by rw [hmy]; decide), if_pos hhn]
      rw [hpu]
      clear hpu hmy hhn
      unfold Ux.val Un.val
      go_enter Try.func9, Try.ntmps9
      go_wp2_with fail
      refine (HCK.out _ HA.out).mono ?_
      rintro e w1 ⟨rfl, hb1⟩
      have HW1 := hide (rBelow HA.out hb1)
      have HBK1 := hide (HBK.out.keep hb1)
      clear hb1 HBK HCK
      simp only [chk]
      have HCP := hide (copyOf_any a n cap l w1 (HE.out.keep HW1.out (Nat.le_refl _)) HN0.out HN1.out HCO.out)
      go_wp2_with fail
      refine HCP.out.mono ?_
      rintro e w2 ⟨⟨sa, sl, sc⟩, rfl, l2, hud2, huns2, htyp2⟩
      have HUD2 := hide hud2
      have HUN2 := hide huns2
      have HTY2 := hide htyp2
      have HW2 := hide (rBelow HW1.out hud2.below)
      have HBK2 := hide (HBK1.out.keep hud2.below)
      have HL2 := hide (load_un _ x.u (.slice x.a x.n x.c) ⟨_, _, _, rfl⟩ w2 HBK2.out)
      have HCU := hide (checkU_any x.u x.a x.n x.c w2 (HX.out.keep HW2.out (Nat.le_refl _)) HXF.out.row)
      have hval : x.u.val (.slice x.a x.n x.c) = x.val := rfl
      rw [hval] at HL2 HCU
      clear hud2 huns2 htyp2 hval HCP HBK1
      simp only [Sl.val]
      rw [HMY.out] at HCU
      go_wp2_with (refine wpList_load _ rfl 30 (.tmp 3) rfl (.pointer (some ⟨_, 0, none⟩)) x.val rfl HL2.out ?_)
      refine HCU.out.mono ?_
      rintro e w3 ⟨rfl, hb3⟩
      have HW3 := hide (rBelow HW2.out hb3)
      have HBK3 := hide (HBK2.out.keep hb3)
      have HUD3 := hide (HUD2.out.keep hb3)
      have HTY3 : Hid (∀ x ∈ l2, Typ w3 x) := fun x hx => (HTY2.out x hx).keep hb3
      clear hb3 HCU HL2 HBK2 HUD2
      simp only [chk]
      have HCN := hide (contNo w3 a n cap l (HE.out.keep HW3.out (Nat.le_refl _)) hbig w.heap.size x.u.no HBK3.out.c1)
      rw [HHN.out] at HCN
      go_wp2_with fail
      refine HCN.out.mono ?_
      rintro e w4 ⟨rfl, hb4⟩
      have HW4 := hide (rBelow HW3.out hb4)
      have HBK4 := hide (HBK3.out.keep hb4)
      have HUD4 := hide (HUD3.out.keep hb4)
      have HTY4 : Hid (∀ x ∈ l2, Typ w4 x) := fun x hx => (HTY3.out x hx).keep hb4
      clear hb4 HCN HBK3 HUD3
      go_wp2_with fail
      go_ret3
      exact ⟨⟨sa, sl, sc⟩, rfl, RowT.lower ⟨l2, HUD4.out, HUN2.out, HTY4.out⟩ HW1.out, HW4.out⟩
    | false =>
      have HHN := hide hhn
      cases hfi : (uns l).findIdx? Un.emp with
      | none =>
        have HFR : Hid (freeU (uns l) = 0) := by show _ = _; unfold freeU; rw [hfi]
        have hpu : putU (uns l) x.u = ⟨uns l, 0, 9⟩ := by unfold putU; rw [if_neg (by rw [hmy]; decide), if_neg (by rw [hhn]; decide), hfi]
        rw [hpu]
        clear hpu hmy hhn hfi
        unfold Ux.val Un.val
        go_enter Try.func9, Try.ntmps9
        go_wp2_with fail
        refine (HCK.out _ HA.out).mono ?_
        rintro e w1 ⟨rfl, hb1⟩
        have HW1 := hide (rBelow HA.out hb1)
        have HBK1 := hide (HBK.out.keep hb1)
        clear hb1 HBK HCK
        simp only [chk]
        have HCP := hide (copyOf_any a n cap l w1 (HE.out.keep HW1.out (Nat.le_refl _)) HN0.out HN1.out HCO.out)
        go_wp2_with fail
        refine HCP.out.mono ?_
        rintro e w2 ⟨⟨sa, sl, sc⟩, rfl, l2, hud2, huns2, htyp2⟩
        have HUD2 := hide hud2
        have HUN2 := hide huns2
        have HTY2 := hide htyp2
        have HW2 := hide (rBelow HW1.out hud2.below)
        have HBK2 := hide (HBK1.out.keep hud2.below)
        have HL2 := hide (load_un _ x.u (.slice x.a x.n x.c) ⟨_, _, _, rfl⟩ w2 HBK2.out)
        have HCU := hide (checkU_any x.u x.a x.n x.c w2 (HX.out.keep HW2.out (Nat.le_refl _)) HXF.out.row)
        have hval : x.u.val (.slice x.a x.n x.c) = x.val := rfl
        rw [hval] at HL2 HCU
        clear hud2 huns2 htyp2 hval HCP HBK1
        simp only [Sl.val]
        rw [HMY.out] at HCU
        go_wp2_with (refine wpList_load _ rfl 30 (.tmp 3) rfl (.pointer (some ⟨_, 0, none⟩)) x.val rfl HL2.out ?_)
        refine HCU.out.mono ?_
        rintro e w3 ⟨rfl, hb3⟩
        have HW3 := hide (rBelow HW2.out hb3)
        have HBK3 := hide (HBK2.out.keep hb3)
        have HUD3 := hide (HUD2.out.keep hb3)
        have HTY3 : Hid (∀ x ∈ l2, Typ w3 x) := fun x hx => (HTY2.out x hx).keep hb3
        clear hb3 HCU HL2 HBK2 HUD2
        simp only [chk]
        have HCN := hide (contNo w3 a n cap l (HE.out.keep HW3.out (Nat.le_refl _)) hbig w.heap.size x.u.no HBK3.out.c1)
        rw [HHN.out] at HCN
        go_wp2_with fail
        refine HCN.out.mono ?_
        rintro e w4 ⟨rfl, hb4⟩
        have HW4 := hide (rBelow HW3.out hb4)
        have HBK4 := hide (HBK3.out.keep hb4)
        have HUD4 := hide (HUD3.out.keep hb4)
        have HTY4 : Hid (∀ x ∈ l2, Typ w4 x) := fun x hx => (HTY3.out x hx).keep hb4
        clear hb4 HCN HBK3 HUD3
        have HFE := hide (firstEmpty_any w4 a n cap l (HE.out.keep HW4.out (Nat.le_refl _)) hbig)
        rw [HFR.out] at HFE
        go_wp2_with fail
        refine HFE.out.mono ?_
        rintro e w5 ⟨rfl, hb5⟩
        have HW5 := hide (rBelow HW4.out hb5)
        have HBK5 := hide (HBK4.out.keep hb5)
        have HUD5 := hide (HUD4.out.keep hb5)
        have HTY5 : Hid (∀ x ∈ l2, Typ w5 x) := fun x hx => (HTY4.out x hx).keep hb5
        clear hb5 HFE HBK4 HUD4
        go_wp2_with fail
        go_ret3
        exact ⟨⟨sa, sl, sc⟩, rfl, RowT.lower ⟨l2, HUD5.out, HUN2.out, HTY5.out⟩ HW1.out, HW5.out⟩
      | some k =>
        have HFR : Hid (freeU (uns l) = (k : Int) + 1) := by show _ = _; unfold freeU; rw [hfi]
        have hk := (idxU_some hfi).1
        have hpu : putU (uns l) x.u = ⟨(uns l).set k x.u, (k : Int) + 1, 0⟩ := by unfold putU; rw [if_neg (by rw [hmy]; decide), if_neg (by rw [hhn]; decide), hfi]
        rw [hpu]
        have HK := hide hk
        have hk2 : ((k : Nat) : Int) < ((n : Nat) : Int) := by rw [HUL.out] at hk; omega
        have hk3 : (((k : Nat) : Int) + 1 == 0) = false := beq_eq_false_iff_ne.2 (by omega)
        clear hpu hmy hhn hfi hk
        unfold Ux.val Un.val
        go_enter Try.func9, Try.ntmps9
        go_wp2_with fail
        refine (HCK.out _ HA.out).mono ?_
        rintro e w1 ⟨rfl, hb1⟩
        have HW1 := hide (rBelow HA.out hb1)
        have HBK1 := hide (HBK.out.keep hb1)
        clear hb1 HBK HCK
        simp only [chk]
        have HCP := hide (copyOf_any a n cap l w1 (HE.out.keep HW1.out (Nat.le_refl _)) HN0.out HN1.out HCO.out)
        go_wp2_with fail
        refine HCP.out.mono ?_
        rintro e w2 ⟨⟨sa, sl, sc⟩, rfl, l2, hud2, huns2, htyp2⟩
        have HUD2 := hide hud2
        have HUN2 := hide huns2
        have HTY2 := hide htyp2
        have HW2 := hide (rBelow HW1.out hud2.below)
        have HBK2 := hide (HBK1.out.keep hud2.below)
        have HL2 := hide (load_un _ x.u (.slice x.a x.n x.c) ⟨_, _, _, rfl⟩ w2 HBK2.out)
        have HCU := hide (checkU_any x.u x.a x.n x.c w2 (HX.out.keep HW2.out (Nat.le_refl _)) HXF.out.row)
        have hval : x.u.val (.slice x.a x.n x.c) = x.val := rfl
        rw [hval] at HL2 HCU
        clear hud2 huns2 htyp2 hval HCP HBK1
        simp only [Sl.val]
        rw [HMY.out] at HCU
        go_wp2_with (refine wpList_load _ rfl 30 (.tmp 3) rfl (.pointer (some ⟨_, 0, none⟩)) x.val rfl HL2.out ?_)
        refine HCU.out.mono ?_
        rintro e w3 ⟨rfl, hb3⟩
        have HW3 := hide (rBelow HW2.out hb3)
        have HBK3 := hide (HBK2.out.keep hb3)
        have HUD3 := hide (HUD2.out.keep hb3)
        have HTY3 : Hid (∀ x ∈ l2, Typ w3 x) := fun x hx => (HTY2.out x hx).keep hb3
        clear hb3 HCU HL2 HBK2 HUD2
        simp only [chk]
        have HCN := hide (contNo w3 a n cap l (HE.out.keep HW3.out (Nat.le_refl _)) hbig w.heap.size x.u.no HBK3.out.c1)
        rw [HHN.out] at HCN
        go_wp2_with fail
        refine HCN.out.mono ?_
        rintro e w4 ⟨rfl, hb4⟩
        have HW4 := hide (rBelow HW3.out hb4)
        have HBK4 := hide (HBK3.out.keep hb4)
        have HUD4 := hide (HUD3.out.keep hb4)
        have HTY4 : Hid (∀ x ∈ l2, Typ w4 x) := fun x hx => (HTY3.out x hx).keep hb4
        clear hb4 HCN HBK3 HUD3
        have HFE := hide (firstEmpty_any w4 a n cap l (HE.out.keep HW4.out (Nat.le_refl _)) hbig)
        rw [HFR.out] at HFE
        go_wp2_with fail
        refine HFE.out.mono ?_
        rintro e w5 ⟨rfl, hb5⟩
        have HW5 := hide (rBelow HW4.out hb5)
        have HBK5 := hide (HBK4.out.keep hb5)
        have HUD5 := hide (HUD4.out.keep hb5)
        have HTY5 : Hid (∀ x ∈ l2, Typ w5 x) := fun x hx => (HTY4.out x hx).keep hb5
        clear hb5 HFE HBK4 HUD4
        have hlen5 : l2.length = n := by rw [← uns_len, HUN2.out]; exact HUL.out
        have hsl : l2.length = sl := HUD5.out.len
        obtain rfl : sl = n := by omega
        obtain ⟨g, off, ha5, _⟩ := HUD5.out.us.at' 0 HN0.out
        replace ha5 : sa = some ⟨g, off, none⟩ := ha5
        subst ha5
        have HL5 := hide (load_un _ x.u (.slice x.a x.n x.c) ⟨_, _, _, rfl⟩ w5 HBK5.out)
        have hxn : x.n ≤ 1000 := by have h1 := HX.out.len; have h2 := HXC.out; omega
        have HOW := hide (ownU_any x w5 (HX.out.keep HW5.out (Nat.le_refl _)) hxn)
        have hval : x.u.val (.slice x.a x.n x.c) = x.val := rfl
        rw [hval] at HL5
        have HKL : Hid (k < l2.length) := by show _ < _; omega
        clear hlen5 hsl hxn hval
        go_wp2_with (refine wpList_load _ rfl 30 (.tmp 3) rfl (.pointer (some ⟨_, 0, none⟩)) x.val rfl HL5.out ?_)
        refine HOW.out.mono ?_
        rintro e w6 ⟨a6, c6, rfl, ho6, hf6, hb6⟩
        have hud6 := HUD5.out.keep hb6
        obtain ⟨W7, hrun7, hud7, hfr7⟩ := hud6.set (g := g) (off := off) rfl k HKL.out ⟨x.u, a6, x.n, c6⟩ (Col.owns ho6 hf6) HXF.out
        have HR7 := hide hrun7
        have HUD7 := hide hud7
        have HTY7 : Hid (∀ x' ∈ l2.set k ⟨x.u, a6, x.n, c6⟩, Typ W7 x') := fun x' hx' => by
          have hk : ∃ C fr, w6.heap[g]? = some (Obj.cells C 30 fr) := by
            obtain ⟨cur, hcur⟩ := hud6.own.kind (k := g) rfl
            exact ⟨cur, _, hcur⟩
          rcases List.mem_or_eq_of_mem_set hx' with hx' | rfl
          · exact ((HTY5.out x' hx').keep hb6).turned hk hfr7
          · exact (Typ.owns ho6).turned hk hfr7
        have HW7 := hide (rBelow HW1.out hud7.below)
        clear ho6 hf6 hb6 hud6 hrun7 hud7 hfr7 HOW HUD5 HL5
        go_wp2_with (refine wpList_store _ rfl rfl 30 (.tmp 38) (.tmp 37) rfl (.pointer (some ⟨g, off + k * 12, none⟩)) (Ux.val ⟨x.u, a6, x.n, c6⟩) rfl rfl W7 HR7.out ?_)
        go_ret3
        exact ⟨⟨some ⟨g, off, none⟩, sl, sc⟩, rfl, RowT.lower ⟨_, HUD7.out, uns_put l2 k _ x.u _ HUN2.out rfl, HTY7.out⟩ HW1.out, HW7.out⟩

end Go.Proofs.Ytpdkeghmpnanpaa
