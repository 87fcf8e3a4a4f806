/-
  The law of chains.
-/
import Derived.Test.YtpdkeghmpnanpaaUdT
namespace Go.Proofs.Ytpdkeghmpnanpaa
open Go.RowKit
set_option linter.unusedVariables false

set_option maxRecDepth 100000 in
theorem made_12 : madeCells (Value.agg #[.int .i64 0, .int .i64 0, .int .i64 0, .int .i64 0, .int .i64 0, .int .i64 0, .float .f64 0, .bool false, .slice none 0 0, .int .i64 0, .int .i64 0, .int .i64 0]).cells (12 * 12) = (cellsU (List.replicate 12 Ux.zero)).toArray := by kernel_rfl
/-- make([]api.Undo, 12). -/
theorem make_12 (w : World) : (Instr.makeSlice 22 (.int .i64 12) (.int .i64 12)).run Try.prog w = .ok (.slice (some ⟨w.heap.size, 0, none⟩) 12 12) (w.alloc (.cells (cellsU (List.replicate 12 Ux.zero)).toArray 30)) := by
  obtain ⟨i0, hi, hz0, hz1, hz2⟩ := info_parts infoUn
  have h := run_makeSlice (P := Try.prog) w 22 30 i0 (.agg #[.int .i64 0, .int .i64 0, .int .i64 0, .int .i64 0, .int .i64 0, .int .i64 0, .float .f64 0, .bool false, .slice none 0 0, .int .i64 0, .int .i64 0, .int .i64 0]) Try.underlying22 hi hz0 .i64 .i64 12 12 (by omega) (by omega) (by rw [hz1]; decide) (by rw [hz2]; decide) (by omega)
  rw [hz1, show (12 : Int).toNat = 12 from rfl, made_12] at h
  exact h
theorem Ud.dozen (w0 w : World) (hb : Below w0.heap.size w0 w) : Ud w0 (w.alloc (.cells (cellsU (List.replicate 12 Ux.zero)).toArray 30)) ⟨some ⟨w.heap.size, 0, none⟩, 12, 12⟩ (List.replicate 12 Ux.zero) := by
  refine ⟨⟨rfl, .inr ⟨w.heap.size, 0, _, rfl, heap_alloc_new w _, (by show 0 + 12 * 12 ≤ (cellsU (List.replicate 12 Ux.zero)).toArray.size; rw [List.size_toArray, cellsU_len, List.length_replicate]; omega), Nat.le_refl _, (by show (12 : Nat) ≤ maxLen; unfold maxLen; decide), rfl⟩⟩, fun k hk => ?_, rBelow hb (below_alloc w _), (fun x hx => ?_), fun x hx => ?_⟩
  · have e : some w.heap.size = some k := hk
    cases e
    exact hb.size
  · rw [(List.mem_replicate.1 hx).2]; exact Col.zero _ _
  · rw [(List.mem_replicate.1 hx).2]; exact zeroU_fits
theorem Ud.few {w wr : World} {s : Sl} {l : List Ux} (h : Ud w wr s l) (hm : MayU (uns l) = true) : s.len ≤ 1000000 := by
  have h1 := ((mayU_iff _).1 hm).hi
  rw [uns_len, h.len] at h1
  omega
def dozZ : List Un := List.replicate 12 zeroU
theorem doz_uns : uns (List.replicate 12 Ux.zero) = dozZ := rfl
set_option maxRecDepth 100000 in
theorem doz_may : MayU dozZ = true := by decide

/-! ### Chains, when an undoing is put -/
theorem ChainZ.range {l : List Un} {c : Int} {r : List Un} (h : ChainZ l c r) (hl : l.length ≤ 378) : 0 ≤ c ∧ c ≤ 378 := by
  rcases h.head with ⟨rfl, _⟩ | ⟨_, _, he⟩
  · omega
  · have := atU_used he
    omega
theorem chain_put {L : List Un} {c : Int} {r : List Un} {k : Int} {i : Int} {j : Nat} {u : Un} (hz : ChainZ L c r) (htx : ∀ x ∈ r, x.tx = k ∧ x.no ≤ i) (he : (L.getD j zeroU).emp = true) (hj : j < L.length) (hu : u.emp = false) (hup : u.prev = c) (hut : u.tx = k) (hun : i < u.no) : ChainZ (L.set j u) ((j : Int) + 1) (u :: r) := by
  have e : atU (L.set j u) ((j : Int) + 1) = u := by
    rw [atU_at _ (by rw [List.length_set]; exact hj), set_get, if_pos ⟨rfl, hj⟩]
  have h := ChainZ.cons (l := L.set j u) ((j : Int) + 1) r (by rw [e]; exact hu) (fun x hx => by
    rw [e]
    have := htx x (List.mem_of_mem_head? (by rw [hx]; rfl))
    exact ⟨by rw [this.1, hut], by omega⟩) (by rw [e, hup]; exact hz.turn he u)
  rw [e] at h
  exact h
/-- One of the two chains, between two rounds. -/
structure ChK (w wr : World) (L : List Un) (k : Int) (i : Nat) (c : Int) (p : Sl) (m : List Ux) : Prop where
  ud : Ud w wr p m
  z : ChainZ L c (uns m)
  tx : ∀ x ∈ uns m, x.tx = k ∧ x.no ≤ (i : Int)
  len : m.length ≤ i
theorem ChK.keep {w wr W : World} {L : List Un} {k : Int} {i : Nat} {c : Int} {p : Sl} {m : List Ux} (h : ChK w wr L k i c p m) (hb : Below wr.heap.size wr W) : ChK w W L k i c p m := ⟨h.ud.keep hb, h.z, h.tx, h.len⟩
theorem ChK.more {w wr : World} {L : List Un} {k : Int} {i : Nat} {c : Int} {p : Sl} {m : List Ux} (h : ChK w wr L k i c p m) : ChK w wr L k (i + 1) c p m := ⟨h.ud, h.z, fun x hx => ⟨(h.tx x hx).1, by have := (h.tx x hx).2; omega⟩, by have := h.len; omega⟩
theorem ChK.turn {w wr W : World} {L : List Un} {k : Int} {i : Nat} {c : Int} {p : Sl} {m : List Ux} (h : ChK w wr L k i c p m) {j : Nat} (he : (L.getD j zeroU).emp = true) (u : Un) (hu : Ud w W p m) : ChK w W (L.set j u) k i c p m := ⟨hu, h.z.turn he u, h.tx, h.len⟩
theorem ChK.put {w wr W : World} {L : List Un} {k : Int} {i : Nat} {c : Int} {p s' : Sl} {m : List Ux} (h : ChK w wr L k i c p m) {j : Nat} (he : (L.getD j zeroU).emp = true) (hj : j < L.length) (x : Ux) (hu : x.u.emp = false) (hup : x.u.prev = c) (hut : x.u.tx = k) (hun : x.u.no = (i : Int) + 1) (hud : Ud w W s' (x :: m)) : ChK w W (L.set j x.u) k (i + 1) ((j : Int) + 1) s' (x :: m) := by
  refine ⟨hud, chain_put h.z h.tx he hj hu hup hut (by omega), fun y hy => ?_, by have := h.len; simp; omega⟩
  have e : uns (x :: m) = x.u :: uns m := rfl
  rw [e] at hy
  rcases List.mem_cons.1 hy with rfl | hy
  · exact ⟨hut, by omega⟩
  · exact ⟨(h.tx y hy).1, by have := (h.tx y hy).2; omega⟩
/-- What stands between two rounds. -/
def ChI (w wr : World) (s : Sl) (g6 g7 i : Nat) : Prop := ∃ l c0 c1 p q m0 m1, Ud w wr s l ∧ MayU (uns l) = true ∧ BxI wr g6 c0 c1 ∧ BxU wr g7 p q ∧ ChK w wr (uns l) 1 i c0 p m0 ∧ ChK w wr (uns l) 2 i c1 q m1

set_option maxHeartbeats 16000000 in
set_option maxRecDepth 100000 in
theorem chains_walk (a : Option Addr) (n cap : Nat) (l0 : List Ux) (w : World) (h : Us w a n l0) (hbig : n ≤ 9223372036854775807) (da : Option Addr) (dn dc : Nat) (xs : List Nat) (hC : Came w da dn dc xs) :
    Calls Try.prog 6 #[.slice a n cap, .slice da dn dc] w fun e w' => e = .returned (.bool true) ∧ Below w.heap.size w w' := by
  have HMk := hide (make_12 w)
  have hu0 := Ud.dozen w w (Below.refl _ _)
  have hdbig := hC.big
  generalize w.alloc (.cells (cellsU (List.replicate 12 Ux.zero)).toArray 30) = W0 at *
  obtain ⟨W1, hst1, hbx1, hb1⟩ := bxI_new W0
  obtain ⟨W2, hst2, hbx2, hb2⟩ := bxU_new W1
  have HS1 := hide hst1
  have HS2 := hide hst2
  have hg6 : w.heap.size ≤ W0.heap.size := hu0.below.size
  have hg7 : w.heap.size ≤ W1.heap.size := Nat.le_trans hg6 hb1.size
  have hg67 : W0.heap.size < W1.heap.size := hbx1.lt
  have HI0 : Hid (ChI w W2 ⟨some ⟨w.heap.size, 0, none⟩, 12, 12⟩ W0.heap.size W1.heap.size 0) := ⟨_, 0, 0, Sl.nil, Sl.nil, [], [], (hu0.keep hb1).keep hb2, by rw [doz_uns]; exact doz_may, hbx1.keep hb2, hbx2, ⟨Ud.nil w W2 (rBelow (rBelow hu0.below hb1) hb2), .nil, (fun x hx => by cases hx), Nat.le_refl _⟩, ⟨Ud.nil w W2 (rBelow (rBelow hu0.below hb1) hb2), .nil, (fun x hx => by cases hx), Nat.le_refl _⟩⟩
  have HE := hide h
  have HC := hide hC
  clear h hC hu0 hst1 hst2 hbx1 hbx2 hb1 hb2
  go_enter Try.func6, Try.ntmps6
  go_wp2_with (first | refine wpList_make _ rfl 22 (.const (.int .i64 12)) (.const (.int .i64 12)) rfl (.int .i64 12) (.int .i64 12) (.slice (some ⟨w.heap.size, 0, none⟩) 12 12) rfl rfl W0 HMk.out ?_ | refine wpList_store _ rfl rfl 51 (.tmp 6) (.tmp 15) rfl (.pointer (some ⟨W0.heap.size, 0, none⟩)) (.agg #[.int .i64 0, .int .i64 0]) rfl rfl W1 HS1.out ?_ | refine wpList_store _ rfl rfl 52 (.tmp 7) (.tmp 16) rfl (.pointer (some ⟨W1.heap.size, 0, none⟩)) (.agg #[.slice none 0 0, .slice none 0 0]) rfl rfl W2 HS2.out ?_)
  clear HMk HS1 HS2
  generalize W0.heap.size = g6 at *
  generalize W1.heap.size = g7 at *
  go_loopw [5, 8] (fun nv iv wr => ∃ (s : Sl) (i : Nat), nv = .slice s.a s.len s.cap ∧ iv = .int .i64 (i : Nat) ∧ i ≤ 20 ∧ i ≤ n ∧ i ≤ dn ∧ Hid (ChI w wr s g6 g7 i)) (fun _ iv _ => 20 - (intOf iv).toNat)
  case atStart => exact ⟨⟨some ⟨w.heap.size, 0, none⟩, 12, 12⟩, 0, rfl, rfl, by omega, by omega, by omega, HI0⟩
  case round =>
    obtain ⟨⟨sa, sl, sc⟩, i, rfl, rfl, hi20, hin, hid, hI⟩ := hrel
    obtain ⟨l, c0, c1, p, q, m0, m1, hud, hm, h6, h7, hk0, hk1⟩ := hI.out
    simp only
    rcases Nat.lt_or_ge i n with hlt | hge
    · have i1 : ((i : Nat) : Int) < ((n : Nat) : Int) := by omega
      rcases Nat.lt_or_ge i dn with hdl | hdg
      · have d1 : ((i : Nat) : Int) < ((dn : Nat) : Int) := by omega
        rcases Nat.lt_or_ge i 20 with hl2 | hg2
        · have i2 : ((i : Nat) : Int) < 20 := by omega
          have hmem := HE.out.mem hlt
          have HFY := hide (HE.out.cols _ hmem)
          have HFT := hide (HE.out.fits _ hmem)
          obtain ⟨b1, off, rfl, hat0⟩ := HE.out.at' i hlt
          generalize l0.getD i Ux.zero = y at *
          have HLD := hide (load_unAt b1 (off + i * 12) y wr (hat0.keep hud.below (Nat.le_refl _)))
          obtain ⟨W3, hst3, hblk3, hb3⟩ := box_un wr y
          have HST := hide hst3
          have HBK3 := hide hblk3
          have HB3 := hide hb3
          have hbsd := HC.out.bs.keep (rBelow hud.below hb3) (Nat.le_refl _)
          obtain ⟨db, dof, hda, _⟩ := hbsd.2.2 i hdl
          subst hda
          have hx1 := hbsd.at i hdl
          have hxb := hbsd.2.1 (xs.getD i 0) (by have := hbsd.1; simp [List.getD, show i < xs.length by omega])
          generalize xs.getD i 0 = bt at *
          have HUD := hide hud
          have HM := hide hm
          have H6 := hide h6
          have H7 := hide h7
          have HK0 := hide hk0
          have HK1 := hide hk1
          have HG6L : Hid (g6 < wr.heap.size) := h6.lt
          have HG7L : Hid (g7 < wr.heap.size) := h7.lt
          clear hmem hat0 hst3 hblk3 hb3 hbsd hud hm h6 h7 hk0 hk1 hI
          by_cases hev : bt % 2 = 0
          · have hev1 : ((bt : Nat) : Int) % 2 = 0 := by omega
            clear hev
            go_wp2_with (first | refine wpList_load _ rfl 30 (.tmp 35) rfl (.pointer (some ⟨b1, off + i * 12, none⟩)) y.val rfl HLD.out ?_ | refine wpList_store _ rfl rfl 30 (.tmp 9) (.tmp 36) rfl (.pointer (some ⟨wr.heap.size, 0, none⟩)) y.val rfl rfl W3 HST.out ?_)
            refine Pl.region_is (ops := Pl.find 9 ((Try.f6.body).getD .skip)) (by kernel_rfl) ?_
            refine chn9_0 wr W3 g6 wr.heap.size c0 c1 H6.out y.u (.slice y.a y.n y.c) HBK3.out (Nat.le_refl _) i (by omega) HB3.out (by rfl) (by rfl) (by rfl) (by rfl) (by rfl) (by rfl) ?_
            intro u w4 hbk4 hb4
            simp only [Act.put, List.setIfInBounds_toArray, List.set_cons_zero, List.set_cons_succ]
            try clear hev1
            try clear hx1
            try clear hxb
            have x8 := hbk4.c8
            by_cases hc : 20 < y.n
            · have i3 : (20 : Int) < ((y.n : Nat) : Int) := by omega
              have HI1 : Hid (ChI w w4 ⟨sa, sl, sc⟩ g6 g7 (i + 1)) := ⟨l, c0, c1, p, q, m0, m1, HUD.out.keep hb4, HM.out, H6.out.keep hb4, H7.out.keep hb4, (HK0.out.keep hb4).more, (HK1.out.keep hb4).more⟩
              clear hc hbk4 hb4
              go_wp2_with fail
              go_roundw
              case rel => exact ⟨⟨sa, sl, sc⟩, i + 1, rfl, by go_num, by omega, by omega, by omega, HI1⟩
              case measure => simp only [intOf]; omega
            · have i3 : ¬ (20 : Int) < ((y.n : Nat) : Int) := by omega
              obtain ⟨xx, hxx⟩ : ∃ xx : Ux, xx = ⟨{ y.u with tx := 1 + ((0 : Nat) : Int), no := (i : Int) + 1, prev := c0 }, y.a, y.n, y.c⟩ := ⟨_, rfl⟩
              have hbk5 : UnBlk w4 wr.heap.size xx.u (.slice xx.a xx.n xx.c) := by rw [hxx]; exact hbk4
              have HL4 := hide (load_un _ xx.u (.slice xx.a xx.n xx.c) ⟨_, _, _, rfl⟩ _ hbk5)
              have hv4 : xx.u.val (.slice xx.a xx.n xx.c) = xx.val := rfl
              rw [hv4] at HL4
              have hud4 := HUD.out.keep hb4
              have hrg := HK0.out.z.range (by have := ((mayU_iff _).1 HM.out).hi; exact this)
              have hfx0 : Fs w xx.a xx.n xx.c xx.u.row.xs := by rw [hxx]; exact HFY.out
              have hft : xx.u.fits := by rw [hxx]; exact ⟨by simp [Lit.wf, IntKind.min, IntKind.max, IntKind.signed, IntKind.bits], by simp [Lit.wf, IntKind.min, IntKind.max, IntKind.signed, IntKind.bits]; omega, by simp [Lit.wf, IntKind.min, IntKind.max, IntKind.signed, IntKind.bits]; omega, HFT.out.kind, HFT.out.page, HFT.out.slot, HFT.out.row⟩
              have HPU := hide (putL_ok sa sl sc l _ hud4.us (hud4.few HM.out) xx (hfx0.keep hud4.below (Nat.le_refl _)) hft HM.out)
              have HPM := hide ((mayU_iff _).2 (putU_may ((mayU_iff _).1 HM.out) xx.u))
              have HPO : Hid ((putU (uns l) xx.u).e = 0 → _) := fun h => putU_ok h
              have HXN : Hid (xx.u.no = (i : Int) + 1) := by show _ = _; rw [hxx]
              have HXP : Hid (xx.u.prev = c0) := by show _ = _; rw [hxx]
              have HXT : Hid (xx.u.tx = 1) := by show _ = _; rw [hxx]; rfl
              have HFX := hide hfx0
              have HXF := hide hft
              have HBK4 := hide hbk5
              have HB4 := hide hb4
              have HUD4 := hide hud4
              clear hc hbk4 hbk5 hb4 hud4 hrg hfx0 hft hxx hv4
              go_wp2_with (refine wpList_load _ rfl 30 (.tmp 9) rfl (.pointer (some ⟨wr.heap.size, 0, none⟩)) xx.val rfl HL4.out ?_)
              refine HPU.out.mono ?_
              rintro e w5 ⟨⟨ta, tl, tc⟩, rfl, hrow5, hb5⟩
              have HRO5 := hide (hrow5.lower HUD4.out.below)
              have HB5 := hide (rBelow HB4.out hb5)
              have HBK5 := hide (HBK4.out.keep hb5)
              clear hrow5 hb5 HPU HL4 HBK4 HB4 HUD4 x8
              generalize putU (uns l) xx.u = PS at *
              obtain ⟨pl, pn, pe⟩ := PS
              simp only at HRO5 HPM HPO
              simp only [Sl.val]
              by_cases hpe : pe = 0
              · subst hpe
                obtain ⟨j, hj, hfi, hmy, _, hps⟩ := HPO.out rfl
                simp only [PutS.mk.injEq] at hps
                obtain ⟨rfl, rfl, _⟩ := hps
                obtain ⟨l5, hud5, he5, _⟩ := HRO5.out
                have hje := (idxU_some hfi).2.1
                have h6w := H6.out.keep HB5.out
                have h7w := H7.out.keep HB5.out
                have z0 := h6w.c0
                have z1 := h6w.fz 0
                have hset := h6w.set0 ((j : Int) + 1)
                have hfr6 := setC_frm w5 g6 0 (.int .i64 ((j : Int) + 1))
                have H6N := hide hset
                have H7N := hide (h7w.frm hfr6 (by omega))
                have HUD6 := hide (hud5.boxed h6w hg6 ⟨by decide, by decide⟩ hfr6)
                have HP0 := hide ((HK0.out.ud.keep HB5.out).boxed h6w hg6 ⟨by decide, by decide⟩ hfr6)
                have HP1 := hide ((HK1.out.ud.keep HB5.out).boxed h6w hg6 ⟨by decide, by decide⟩ hfr6)
                have HBK6 := hide (HBK5.out.frm hfr6 (by have := HG6L.out; omega))
                have HX6 := hide (Col.old HFX.out HUD6.out.below)
                have HJE := hide hje
                have HJ := hide hj
                have HEM := hide (Un.may_emp hmy)
                have HE5 := hide he5
                have HL15 : Hid (m0.length + 1 ≤ 1000000) := by show _ ≤ _; have := HK0.out.len; omega
                clear hud5 he5 hje h6w h7w hset hfr6 hj hfi hmy HRO5 HBK5 HPO
                go_wp2_with fail
                refine Pl.region_is (ops := Pl.find 15 ((Try.f6.body).getD .skip)) (by kernel_rfl) ?_
                refine chn15_0 w _ g7 wr.heap.size (by have := HG7L.out; omega) hg7 p q H7N.out xx HBK6.out HX6.out HXF.out m0 HP0.out HL15.out (by rfl) (by rfl) (by rfl) (by rfl) (by rfl) ?_
                intro u w7 s7 hud7 hbx7 hfr7
                simp only [Act.put, List.setIfInBounds_toArray, List.set_cons_zero, List.set_cons_succ]
                have hkn := HK0.out.put HJE.out HJ.out xx HEM.out HXP.out HXT.out HXN.out hud7
                have hko := (HK1.out.turn HJE.out xx.u (HP1.out.boxed H7N.out hg7 ⟨by decide, by decide⟩ hfr7)).more
                have HI1 : Hid (ChI w w7 ⟨ta, tl, tc⟩ g6 g7 (i + 1)) := by
                  have hl7 := HUD6.out.boxed H7N.out hg7 ⟨by decide, by decide⟩ hfr7
                  have h6n := H6N.out.frm hfr7 (by omega)
                  rw [← HE5.out] at hkn hko HPM
                  exact ⟨l5, (j : Int) + 1, c1, s7, q, xx :: m0, m1, hl7, HPM.out, h6n, hbx7, hkn, hko⟩
                clear hkn hko hud7 hbx7 hfr7 z0 z1
                go_wp2_with fail
                go_roundw
                case rel => exact ⟨⟨ta, tl, tc⟩, i + 1, rfl, by go_num, by omega, by omega, by omega, HI1⟩
                case measure => simp only [intOf]; omega
              · have hpe' : (pe == 0) = false := beq_eq_false_iff_ne.2 hpe
                have HI1 : Hid (ChI w w5 ⟨sa, sl, sc⟩ g6 g7 (i + 1)) := ⟨l, c0, c1, p, q, m0, m1, HUD.out.keep HB5.out, HM.out, H6.out.keep HB5.out, H7.out.keep HB5.out, (HK0.out.keep HB5.out).more, (HK1.out.keep HB5.out).more⟩
                clear hpe HRO5 HPM HPO
                go_wp2_with fail
                go_roundw
                case rel => exact ⟨⟨sa, sl, sc⟩, i + 1, rfl, by go_num, by omega, by omega, by omega, HI1⟩
                case measure => simp only [intOf]; omega
          · have hev1 : ((bt : Nat) : Int) % 2 = 1 := by omega
            clear hev
            go_wp2_with (first | refine wpList_load _ rfl 30 (.tmp 35) rfl (.pointer (some ⟨b1, off + i * 12, none⟩)) y.val rfl HLD.out ?_ | refine wpList_store _ rfl rfl 30 (.tmp 9) (.tmp 36) rfl (.pointer (some ⟨wr.heap.size, 0, none⟩)) y.val rfl rfl W3 HST.out ?_)
            refine Pl.region_is (ops := Pl.find 9 ((Try.f6.body).getD .skip)) (by kernel_rfl) ?_
            refine chn9_1 wr W3 g6 wr.heap.size c0 c1 H6.out y.u (.slice y.a y.n y.c) HBK3.out (Nat.le_refl _) i (by omega) HB3.out (by rfl) (by rfl) (by rfl) (by rfl) (by rfl) (by rfl) ?_
            intro u w4 hbk4 hb4
            simp only [Act.put, List.setIfInBounds_toArray, List.set_cons_zero, List.set_cons_succ]
            try clear hev1
            try clear hx1
            try clear hxb
            have x8 := hbk4.c8
            by_cases hc : 20 < y.n
            · have i3 : (20 : Int) < ((y.n : Nat) : Int) := by omega
              have HI1 : Hid (ChI w w4 ⟨sa, sl, sc⟩ g6 g7 (i + 1)) := ⟨l, c0, c1, p, q, m0, m1, HUD.out.keep hb4, HM.out, H6.out.keep hb4, H7.out.keep hb4, (HK0.out.keep hb4).more, (HK1.out.keep hb4).more⟩
              clear hc hbk4 hb4
              go_wp2_with fail
              go_roundw
              case rel => exact ⟨⟨sa, sl, sc⟩, i + 1, rfl, by go_num, by omega, by omega, by omega, HI1⟩
              case measure => simp only [intOf]; omega
            · have i3 : ¬ (20 : Int) < ((y.n : Nat) : Int) := by omega
              obtain ⟨xx, hxx⟩ : ∃ xx : Ux, xx = ⟨{ y.u with tx := 1 + ((1 : Nat) : Int), no := (i : Int) + 1, prev := c1 }, y.a, y.n, y.c⟩ := ⟨_, rfl⟩
              have hbk5 : UnBlk w4 wr.heap.size xx.u (.slice xx.a xx.n xx.c) := by rw [hxx]; exact hbk4
              have HL4 := hide (load_un _ xx.u (.slice xx.a xx.n xx.c) ⟨_, _, _, rfl⟩ _ hbk5)
              have hv4 : xx.u.val (.slice xx.a xx.n xx.c) = xx.val := rfl
              rw [hv4] at HL4
              have hud4 := HUD.out.keep hb4
              have hrg := HK1.out.z.range (by have := ((mayU_iff _).1 HM.out).hi; exact this)
              have hfx0 : Fs w xx.a xx.n xx.c xx.u.row.xs := by rw [hxx]; exact HFY.out
              have hft : xx.u.fits := by rw [hxx]; exact ⟨by simp [Lit.wf, IntKind.min, IntKind.max, IntKind.signed, IntKind.bits], by simp [Lit.wf, IntKind.min, IntKind.max, IntKind.signed, IntKind.bits]; omega, by simp [Lit.wf, IntKind.min, IntKind.max, IntKind.signed, IntKind.bits]; omega, HFT.out.kind, HFT.out.page, HFT.out.slot, HFT.out.row⟩
              have HPU := hide (putL_ok sa sl sc l _ hud4.us (hud4.few HM.out) xx (hfx0.keep hud4.below (Nat.le_refl _)) hft HM.out)
              have HPM := hide ((mayU_iff _).2 (putU_may ((mayU_iff _).1 HM.out) xx.u))
              have HPO : Hid ((putU (uns l) xx.u).e = 0 → _) := fun h => putU_ok h
              have HXN : Hid (xx.u.no = (i : Int) + 1) := by show _ = _; rw [hxx]
              have HXP : Hid (xx.u.prev = c1) := by show _ = _; rw [hxx]
              have HXT : Hid (xx.u.tx = 2) := by show _ = _; rw [hxx]; rfl
              have HFX := hide hfx0
              have HXF := hide hft
              have HBK4 := hide hbk5
              have HB4 := hide hb4
              have HUD4 := hide hud4
              clear hc hbk4 hbk5 hb4 hud4 hrg hfx0 hft hxx hv4
              go_wp2_with (refine wpList_load _ rfl 30 (.tmp 9) rfl (.pointer (some ⟨wr.heap.size, 0, none⟩)) xx.val rfl HL4.out ?_)
              refine HPU.out.mono ?_
              rintro e w5 ⟨⟨ta, tl, tc⟩, rfl, hrow5, hb5⟩
              have HRO5 := hide (hrow5.lower HUD4.out.below)
              have HB5 := hide (rBelow HB4.out hb5)
              have HBK5 := hide (HBK4.out.keep hb5)
              clear hrow5 hb5 HPU HL4 HBK4 HB4 HUD4 x8
              generalize putU (uns l) xx.u = PS at *
              obtain ⟨pl, pn, pe⟩ := PS
              simp only at HRO5 HPM HPO
              simp only [Sl.val]
              by_cases hpe : pe = 0
              · subst hpe
                obtain ⟨j, hj, hfi, hmy, _, hps⟩ := HPO.out rfl
                simp only [PutS.mk.injEq] at hps
                obtain ⟨rfl, rfl, _⟩ := hps
                obtain ⟨l5, hud5, he5, _⟩ := HRO5.out
                have hje := (idxU_some hfi).2.1
                have h6w := H6.out.keep HB5.out
                have h7w := H7.out.keep HB5.out
                have z0 := h6w.c1
                have z1 := h6w.fz 1
                have hset := h6w.set1 ((j : Int) + 1)
                have hfr6 := setC_frm w5 g6 1 (.int .i64 ((j : Int) + 1))
                have H6N := hide hset
                have H7N := hide (h7w.frm hfr6 (by omega))
                have HUD6 := hide (hud5.boxed h6w hg6 ⟨by decide, by decide⟩ hfr6)
                have HP0 := hide ((HK0.out.ud.keep HB5.out).boxed h6w hg6 ⟨by decide, by decide⟩ hfr6)
                have HP1 := hide ((HK1.out.ud.keep HB5.out).boxed h6w hg6 ⟨by decide, by decide⟩ hfr6)
                have HBK6 := hide (HBK5.out.frm hfr6 (by have := HG6L.out; omega))
                have HX6 := hide (Col.old HFX.out HUD6.out.below)
                have HJE := hide hje
                have HJ := hide hj
                have HEM := hide (Un.may_emp hmy)
                have HE5 := hide he5
                have HL15 : Hid (m1.length + 1 ≤ 1000000) := by show _ ≤ _; have := HK1.out.len; omega
                clear hud5 he5 hje h6w h7w hset hfr6 hj hfi hmy HRO5 HBK5 HPO
                go_wp2_with fail
                refine Pl.region_is (ops := Pl.find 15 ((Try.f6.body).getD .skip)) (by kernel_rfl) ?_
                refine chn15_1 w _ g7 wr.heap.size (by have := HG7L.out; omega) hg7 p q H7N.out xx HBK6.out HX6.out HXF.out m1 HP1.out HL15.out (by rfl) (by rfl) (by rfl) (by rfl) (by rfl) ?_
                intro u w7 s7 hud7 hbx7 hfr7
                simp only [Act.put, List.setIfInBounds_toArray, List.set_cons_zero, List.set_cons_succ]
                have hkn := HK1.out.put HJE.out HJ.out xx HEM.out HXP.out HXT.out HXN.out hud7
                have hko := (HK0.out.turn HJE.out xx.u (HP0.out.boxed H7N.out hg7 ⟨by decide, by decide⟩ hfr7)).more
                have HI1 : Hid (ChI w w7 ⟨ta, tl, tc⟩ g6 g7 (i + 1)) := by
                  have hl7 := HUD6.out.boxed H7N.out hg7 ⟨by decide, by decide⟩ hfr7
                  have h6n := H6N.out.frm hfr7 (by omega)
                  rw [← HE5.out] at hkn hko HPM
                  exact ⟨l5, c0, (j : Int) + 1, p, s7, m0, xx :: m1, hl7, HPM.out, h6n, hbx7, hko, hkn⟩
                clear hkn hko hud7 hbx7 hfr7 z0 z1
                go_wp2_with fail
                go_roundw
                case rel => exact ⟨⟨ta, tl, tc⟩, i + 1, rfl, by go_num, by omega, by omega, by omega, HI1⟩
                case measure => simp only [intOf]; omega
              · have hpe' : (pe == 0) = false := beq_eq_false_iff_ne.2 hpe
                have HI1 : Hid (ChI w w5 ⟨sa, sl, sc⟩ g6 g7 (i + 1)) := ⟨l, c0, c1, p, q, m0, m1, HUD.out.keep HB5.out, HM.out, H6.out.keep HB5.out, H7.out.keep HB5.out, (HK0.out.keep HB5.out).more, (HK1.out.keep HB5.out).more⟩
                clear hpe HRO5 HPM HPO
                go_wp2_with fail
                go_roundw
                case rel => exact ⟨⟨sa, sl, sc⟩, i + 1, rfl, by go_num, by omega, by omega, by omega, HI1⟩
                case measure => simp only [intOf]; omega
        · have i2 : ¬ ((i : Nat) : Int) < 20 := by omega
          have HBR : Hid (Below w.heap.size w wr) := hud.below
          have HCR0 := hide (hk0.z.r none (fun x _ => rfl))
          have HCR1 := hide (hk1.z.r none (fun x _ => rfl))
          have HR0 := hide hk0.ud.row
          have HR1 := hide hk1.ud.row
          have HL0 : Hid ((uns m0).length ≤ 1000000) := by show _ ≤ _; have := hk0.len; rw [uns_len]; omega
          have HL1 : Hid ((uns m1).length ≤ 1000000) := by show _ ≤ _; have := hk1.len; rw [uns_len]; omega
          have HFW : Hid (sl ≤ 1000000) := hud.few hm
          have HUS := hide hud.us
          have HM := hide hm
          have H6 := hide h6
          have H7 := hide h7
          clear hud hk0 hk1 hm h6 h7 hI
          go_wp2_with fail
          refine Pl.region_is (ops := Pl.find 16 ((Try.f6.body).getD .skip)) (by kernel_rfl) ?_
          refine chn16 wr wr sa sl sc l HUS.out HFW.out HM.out g6 g7 c0 c1 H6.out p q H7.out (uns m0) (uns m1) HCR0.out HCR1.out HR0.out HR1.out HL0.out HL1.out (Below.refl _ _) (by rfl) (by rfl) (by rfl) (by rfl) (by rfl) ?_
          intro u w10 hb10
          have HB10 := hide (rBelow HBR.out hb10)
          clear hb10
          simp only [Act.put, List.setIfInBounds_toArray, List.set_cons_zero, List.set_cons_succ]
          go_wp2_with fail
          go_ret
          exact ⟨rfl, HB10.out⟩
      · have d1 : ¬ ((i : Nat) : Int) < ((dn : Nat) : Int) := by omega
        have HBR : Hid (Below w.heap.size w wr) := hud.below
        have HCR0 := hide (hk0.z.r none (fun x _ => rfl))
        have HCR1 := hide (hk1.z.r none (fun x _ => rfl))
        have HR0 := hide hk0.ud.row
        have HR1 := hide hk1.ud.row
        have HL0 : Hid ((uns m0).length ≤ 1000000) := by show _ ≤ _; have := hk0.len; rw [uns_len]; omega
        have HL1 : Hid ((uns m1).length ≤ 1000000) := by show _ ≤ _; have := hk1.len; rw [uns_len]; omega
        have HFW : Hid (sl ≤ 1000000) := hud.few hm
        have HUS := hide hud.us
        have HM := hide hm
        have H6 := hide h6
        have H7 := hide h7
        clear hud hk0 hk1 hm h6 h7 hI
        go_wp2_with fail
        refine Pl.region_is (ops := Pl.find 16 ((Try.f6.body).getD .skip)) (by kernel_rfl) ?_
        refine chn16 wr wr sa sl sc l HUS.out HFW.out HM.out g6 g7 c0 c1 H6.out p q H7.out (uns m0) (uns m1) HCR0.out HCR1.out HR0.out HR1.out HL0.out HL1.out (Below.refl _ _) (by rfl) (by rfl) (by rfl) (by rfl) (by rfl) ?_
        intro u w10 hb10
        have HB10 := hide (rBelow HBR.out hb10)
        clear hb10
        simp only [Act.put, List.setIfInBounds_toArray, List.set_cons_zero, List.set_cons_succ]
        go_wp2_with fail
        go_ret
        exact ⟨rfl, HB10.out⟩
    · have i1 : ¬ ((i : Nat) : Int) < ((n : Nat) : Int) := by omega
      have HBR : Hid (Below w.heap.size w wr) := hud.below
      have HCR0 := hide (hk0.z.r none (fun x _ => rfl))
      have HCR1 := hide (hk1.z.r none (fun x _ => rfl))
      have HR0 := hide hk0.ud.row
      have HR1 := hide hk1.ud.row
      have HL0 : Hid ((uns m0).length ≤ 1000000) := by show _ ≤ _; have := hk0.len; rw [uns_len]; omega
      have HL1 : Hid ((uns m1).length ≤ 1000000) := by show _ ≤ _; have := hk1.len; rw [uns_len]; omega
      have HFW : Hid (sl ≤ 1000000) := hud.few hm
      have HUS := hide hud.us
      have HM := hide hm
      have H6 := hide h6
      have H7 := hide h7
      clear hud hk0 hk1 hm h6 h7 hI
      go_wp2_with fail
      refine Pl.region_is (ops := Pl.find 16 ((Try.f6.body).getD .skip)) (by kernel_rfl) ?_
      refine chn16 wr wr sa sl sc l HUS.out HFW.out HM.out g6 g7 c0 c1 H6.out p q H7.out (uns m0) (uns m1) HCR0.out HCR1.out HR0.out HR1.out HL0.out HL1.out (Below.refl _ _) (by rfl) (by rfl) (by rfl) (by rfl) (by rfl) ?_
      intro u w10 hb10
      have HB10 := hide (rBelow HBR.out hb10)
      clear hb10
      simp only [Act.put, List.setIfInBounds_toArray, List.set_cons_zero, List.set_cons_succ]
      go_wp2_with fail
      go_ret
      exact ⟨rfl, HB10.out⟩

end Go.Proofs.Ytpdkeghmpnanpaa
