/-
  The walk of the law on acts.
-/
import Derived.Test.YtokdeilcfkobfaaActK
namespace Go.Proofs.Ytokdeilcfkobfaa
open Go.RowKit
variable {K : Home}

/-- Both devices stand as they must behind so many acts. -/
def Stand (w0 : World) (n : Nat) (l : List Ao) (p q j : Nat) (w : World) : Prop := ∃ (D : Ds) (Ld : Dl) (d : Dv) (L : DvL) (K : Home), Mid w0.heap.size w0 p q w D Ld d L K ∧ Rel D d.abs ∧ Good n (apd l j) (4 * j) d.abs

theorem wf_le {i : Int} (h : (Lit.int .i64 i).wf = true) : i ≤ 9223372036854775807 := by
  simp [Lit.wf, IntKind.min, IntKind.max, IntKind.signed, IntKind.bits] at h
  omega
theorem AcBlk.c0 {w : World} {p : Nat} {x : Ac} {b q : Sl} (h : AcBlk w p x b q) : w.cell? ⟨p, 0, none⟩ = some (.int .i64 x.do_) := (Addr.cell0 h).trans rfl
theorem AcBlk.c1 {w : World} {p : Nat} {x : Ac} {b q : Sl} (h : AcBlk w p x b q) : w.cell? ⟨p, 1, none⟩ = some (.int .i64 x.pg) := (Addr.cell0 h).trans rfl
theorem store_acNew (x : Ac) (b q : Sl) (w : World) : (Instr.storeAt 39 (.pointer (some ⟨w.heap.size, 0, none⟩)) (.agg (x.cells b q))).run Try.prog (w.alloc (.cells #[.int .i64 0, .int .i64 0, .slice none 0 0, .int .i64 0, .slice none 0 0] 39)) = .ok () (w.alloc (.cells (x.cells b q) 39)) :=
  run_storeAt_new w 39 #[.int .i64 0, .int .i64 0, .slice none 0 0, .int .i64 0, .slice none 0 0] (x.cells b q) (by kernel_rfl) rfl (by simp [Ac.cells, Sl.val, Value.oneCell'])
theorem load_ao (b o : Nat) (t : Ao) (w : World) (h : AoAt w b o t) : (Instr.loadAt 39 (.pointer (some ⟨b, o, none⟩))).run Try.prog w = .ok (.agg (t.x.cells t.b t.q)) w := by
  obtain ⟨c0, c1, c2, c3, c4, _⟩ := h
  unfold Ac.cells Sl.val
  simp [go_sem, c0, c1, c2, c3, c4]

set_option maxHeartbeats 8000000 in
set_option maxRecDepth 100000 in
theorem acts_near (w : World) (n : Nat) (hn1 : 1 ≤ n) (hn2 : n ≤ 64) (a : Option Addr) (len cap : Nat) (l : List Ao) (hA : Acs w a len l) :
    Calls Try.prog 3 #[.int .i64 ((n : Nat) : Int), .slice a len cap] w fun e w' => e = .returned (.bool true) ∧ Below w.heap.size w w' := by
  have HN := hide (new_any w n hn1 hn2)
  have HA := hide hA
  have hbig := hA.big
  have HAW : Hid (∀ w', Calls Try.prog 9 #[] w' fun e w2 => e = .returned (.bool true) ∧ Below w'.heap.size w' w2) := awake_any
  have i1 : ¬ ((n : Nat) : Int) < 1 := by omega
  have i2 : ¬ (64 : Int) < ((n : Nat) : Int) := by omega
  clear hA
  unfold at0 at *
  go_enter Try.func3, Try.ntmps3
  go_wp2_with fail
  refine HN.out.mono ?_
  rintro e w1 ⟨hb1, p, L1, rfl, hd1, hf1⟩
  have HB1 := hide hb1
  have HD1 := hide hd1
  have HF1 := hide hf1
  have HLI := hide (light_any w1 a len cap l (HA.out.keep hb1))
  have HPG := hide (pages_any w1 p (Ds.new n) L1 hd1 n (by simp [Ds.new]) hn2)
  clear hb1 hd1 hf1 HN
  have hnil : ∀ w : World, (binOp .eql 23 (.pointer (some ⟨p, 0, none⟩)) (.pointer none)).run Try.prog w = .ok (.bool false) w := fun _ => rfl
  go_wp2_with fail
  refine HLI.out.mono ?_
  rintro e w1' ⟨rfl, r, rfl, hr⟩
  have HR := hide hr
  clear hr HLI
  by_cases hfar : r = false ∨ 4 < n
  · have HPG2 := HPG.out
    unfold at0 at HPG2
    have HPG3 := hide HPG2
    have go1 : ∀ (w2 : World), Below w.heap.size w w2 → True := fun _ _ => trivial
    cases r
    · go_wp2_with fail
      refine HPG3.out.mono ?_
      rintro e w2 ⟨rfl, rfl⟩
      go_wp2_with fail
      refine (HAW.out _).mono ?_
      rintro e w3 ⟨rfl, hb3⟩
      have HB3 := hide (rBelow HB1.out hb3)
      go_wp2_with fail
      go_ret
      exact ⟨rfl, HB3.out⟩
    · have i4 : (4 : Int) < ((n : Nat) : Int) := by rcases hfar with e | e; (· cases e); (· omega)
      clear hfar
      go_wp2_with fail
      refine HPG3.out.mono ?_
      rintro e w2 ⟨rfl, rfl⟩
      go_wp2_with fail
      refine (HAW.out _).mono ?_
      rintro e w3 ⟨rfl, hb3⟩
      have HB3 := hide (rBelow HB1.out hb3)
      go_wp2_with fail
      go_ret
      exact ⟨rfl, HB3.out⟩
  · obtain rfl : r = true := by cases r; (· exact absurd (.inl rfl) hfar); (· rfl)
    have hn4 : n ≤ 4 := by rcases Nat.lt_or_ge 4 n with e | e; (· exact absurd (.inr e) hfar); (· exact e)
    have i4 : ¬ (4 : Int) < ((n : Nat) : Int) := by omega
    clear hfar HPG
    have HL := hide (HR.out rfl)
    clear HR
    have HNEW := hide (refNew_any (K := homeOf HD1.out) w1' (Nat.le_refl _) n hn2)
    go_wp2_with fail
    refine HNEW.out.mono ?_
    rintro e w2 ⟨hb2, L, rfl, hdin⟩
    obtain ⟨W3, hW3⟩ : ∃ W3, W3 = setDv (w2.alloc (.cells #[.slice none 0 0, .int .i64 0, .slice none 0 0, .slice none 0 0, .int .i64 0, .slice none 0 0, .slice none 0 0, .bool false, .int .i64 0] 35)) w2.heap.size L.kp.val (Dv.new n).kept.base L.ks.val L.np.val (Dv.new n).now.base L.ns.val L.ds.val (Dv.new n).gone (Dv.new n).armed := ⟨_, rfl⟩
    have hz : DvBlk (w2.alloc (.cells #[.slice none 0 0, .int .i64 0, .slice none 0 0, .slice none 0 0, .int .i64 0, .slice none 0 0, .slice none 0 0, .bool false, .int .i64 0] 35)) w2.heap.size Sl.nil.val 0 Sl.nil.val Sl.nil.val 0 Sl.nil.val Sl.nil.val false 0 := dvBlk_new w2 _ _ _ _ _ _ _ _ _
    have hbz := below_alloc w2 (.cells #[.slice none 0 0, .int .i64 0, .slice none 0 0, .slice none 0 0, .int .i64 0, .slice none 0 0, .slice none 0 0, .bool false, .int .i64 0] 35)
    have HSD := hide (store_dv w2.heap.size (Dv.new n) L _ hz)
    have HST : Hid (Stand w n l p w2.heap.size 0 W3) := by
      have hq2 : w1'.heap.size ≤ w2.heap.size := hb2.size
      have hm2 : Mine w.heap.size w (w2.alloc (.cells #[.slice none 0 0, .int .i64 0, .slice none 0 0, .slice none 0 0, .int .i64 0, .slice none 0 0, .slice none 0 0, .bool false, .int .i64 0] 35)) p (Ds.new n) L1 := by
        have m0 : Mine w.heap.size w w1' p (Ds.new n) L1 := ⟨HD1.out, HF1.out, HB1.out, HB1.out.size⟩
        have m1 := m0.turn (Turned.same HD1.out hb2)
        exact m1.turn (Turned.same m1.dev hbz)
      have hmid : Mid w.heap.size w p w2.heap.size (w2.alloc (.cells #[.slice none 0 0, .int .i64 0, .slice none 0 0, .slice none 0 0, .int .i64 0, .slice none 0 0, .slice none 0 0, .bool false, .int .i64 0] 35)) (Ds.new n) L1 ⟨⟨[], 0, []⟩, ⟨[], 0, []⟩, [], false, 0⟩ ⟨Sl.nil, Sl.nil, Sl.nil, Sl.nil, Sl.nil⟩ (homeOf HD1.out) := by
        have hlow : w1'.heap.size ≤ (w2.alloc (.cells #[.slice none 0 0, .int .i64 0, .slice none 0 0, .slice none 0 0, .int .i64 0, .slice none 0 0, .slice none 0 0, .bool false, .int .i64 0] 35)).heap.size := Nat.le_trans hq2 hbz.size
        exact ⟨hm2, fun k hk => hk, fun k hk hf => by have := HF1.out k hf; omega, hlow, ⟨⟨bsS_nil _ hlow, bsS_nil _ hlow⟩, ⟨bsS_nil _ hlow, bsS_nil _ hlow⟩, ⟨rfl, (fun i hi => by cases hi), (fun j hj => absurd hj (Nat.not_lt_zero j))⟩, (fun _ => rfl), Nat.le_refl _⟩, hz, Nat.le_trans HB1.out.size hq2, fun hf => by have := HD1.out.lt hf; omega⟩
      rw [hW3]
      exact hide ⟨_, _, _, _, _, hmid.store (hdin.keep hbz (Nat.le_refl _)), Rel.new n, Good.new n⟩
    rw [← hW3] at HSD
    have HW3 := hide hW3
    clear hW3 hz hbz hdin hb2 HNEW
    go_wp2_with (refine wpList_store _ rfl rfl 35 (.tmp 7) (.tmp 53) rfl (.pointer (some ⟨w2.heap.size, 0, none⟩)) ((Dv.new n).val L) rfl rfl _ HSD.out ?_)
    clear HSD HW3 HB1 HD1 HF1
    generalize w2.heap.size = q at HST ⊢
    go_loopw [8] (fun i wr => ∃ j : Nat, j ≤ len ∧ j ≤ 40 ∧ i = .int .i64 j ∧ Hid (Stand w n l p q j wr)) (fun i _ => len - (intOf i).toNat)
    case atStart => exact ⟨0, by omega, by omega, rfl, HST⟩
    case round =>
      obtain ⟨j, hj, hj4, rfl, hS⟩ := hrel
      by_cases hgo : j < len ∧ j < 40
      · obtain ⟨hlt, hlt4⟩ := hgo
        have i5 : ((j : Nat) : Int) < ((len : Nat) : Int) := by omega
        have i6 : ((j : Nat) : Int) < 40 := by omega
        obtain ⟨D, Ld, d, L, K, hmid, hrl, hgd⟩ := hS.out
        have hlight := HL.out j hlt hlt4
        obtain ⟨b, off, ha, hat⟩ := (HA.out.keep hmid.mine.below).at_ j hlt
        obtain ⟨b', off', ha', hatw⟩ := HA.out.at_ j hlt
        subst ha
        obtain ⟨t, ht⟩ : ∃ t, t = l.getD j aoD := ⟨_, rfl⟩
        rw [← ht] at hat hatw hlight
        have HT := hide ht
        clear ht
        have HIN := hide hatw.inn
        have HLD := hide (load_ao b (off + j * 5) t wr hat)
        have HSA := hide (store_acNew t.x t.b t.q wr)
        have hba := below_alloc wr (.cells (t.x.cells t.b t.q) 39)
        have HBX : Hid (AcBlk (wr.alloc (.cells (t.x.cells t.b t.q) 39)) wr.heap.size t.x t.b t.q) := hide (heap_alloc_new wr _)
        have hmid1 := hmid.grow hba
        have hnF : ¬ Ld.F p wr.heap.size := fun hf => by have := hmid.mine.dev.lt hf; omega
        generalize wr.alloc (.cells (t.x.cells t.b t.q) 39) = W1 at HSA HBX hmid1 hba
        have HBT : Hid (∀ w4 : World, Frm (Ld.F p) W1 w4 → AcBlk w4 wr.heap.size t.x t.b t.q) := hide (fun w4 hf => (hf.block _ (Array.getElem?_eq_some_iff.1 HBX.out).1 hnF).trans HBX.out)
        have HCW : Hid (∀ w', Below w.heap.size w w' → Came w' t.b.a t.b.len t.b.cap t.bs) := hide (fun w' hb => (HIN.out.keep hb).b)
        have HPW : Hid (∀ w', Below w.heap.size w w' → Pat w' t.q.a t.q.len t.ps) := hide (fun w' hb => (HIN.out.keep hb).p)
        have HBL : Hid (∀ ad, t.b.a = some ad → 0 < t.b.len → ad.block < w.heap.size) := hide (fun ad e hl => by
          obtain ⟨b2, off2, e2, hc2⟩ := HIN.out.b.bs.2.2 0 hl
          rw [e] at e2
          obtain rfl := Option.some.inj e2
          exact World.block_lt_of_cell? w _ hc2)
        have HQL : Hid (∀ ad, t.q.a = some ad → 0 < t.q.len → ad.block < w.heap.size) := hide (fun ad e hl => by
          obtain ⟨b2, off2, e2, hc2⟩ := HIN.out.p.at_ 0 hl
          rw [e] at e2
          obtain rfl := Option.some.inj e2
          exact World.block_lt_of_cell? w _ hc2)
        have HNF := hide hnF
        have HQN : Hid (wr.heap.size ≠ q) := hide (fun e => by have := (Array.getElem?_eq_some_iff.1 hmid.box).1; omega)
        clear hmid hba hat hatw ha' hnF hS
        by_cases hdo : t.x.do_ = 1
        · have hap : apd l (j + 1) = apd l j + t.b.len := by show apd l j + _ = _; rw [← HT.out, if_pos hdo]
          obtain ⟨D', A', hR, hG, hdev, hdoc⟩ := append_pair hrl hgd (by omega) hn1 hn2 t.b.len t.bs HIN.out.b.bs.1 HIN.out.b.bs.2.1 (by rw [← hap]; exact hlight.1)
          rw [← hap, show 4 * j + 4 = 4 * (j + 1) by omega] at hG
          have HDEV := hide (hdev W1 p Ld t.b.a t.b.cap hmid1.mine.dev (HCW.out W1 hmid1.mine.below) (hmid1.mine.off HBL.out))
          unfold DevDoes at0 at HDEV
          have e0 := HBX.out.c0
          rw [hdo] at e0
          have e2 := HBX.out.c2
          go_wp2_with (first | refine wpList_load _ rfl 39 (.tmp 66) rfl (.pointer (some ⟨b, off + j * 5, none⟩)) (.agg (t.x.cells t.b t.q)) rfl HLD.out ?_ | refine wpList_store _ rfl rfl 39 (.tmp 11) (.tmp 67) rfl (.pointer (some ⟨wr.heap.size, 0, none⟩)) (.agg (t.x.cells t.b t.q)) rfl rfl _ HSA.out ?_)
          skip
          refine HDEV.out.mono ?_
          rintro e w4 ⟨rfl, Ld4, hT⟩
          clear e0 e2
          obtain ⟨K4, hmid4⟩ := hmid1.turn hT
          have hbx4 := HBT.out _ hT.frm
          have HLD4 := hide (load_dv q d L w4 hmid4.box)
          have HDOC := hide (hdoc K4 w4 L t.b.a t.b.cap hmid4.din ⟨HCW.out w4 hmid4.mine.below, hmid4.low, fun hl ad e => hmid4.inn _ (HBL.out ad e hl)⟩)
          unfold DocDoes at HDOC
          have e2 := hbx4.c2
          go_wp2_with (refine wpList_load _ rfl 35 (.tmp 7) rfl (.pointer (some ⟨q, 0, none⟩)) (d.val L) rfl HLD4.out ?_)
          refine HDOC.out.mono ?_
          rintro e w5 ⟨hb5, d', L', rfl, hdin5, habs⟩
          clear e2

          have hmid5 := hmid4.grow hb5
          have HSD5 := hide (store_dv q d' L' w5 hmid5.box)
          have hmid6 := hmid5.store hdin5
          obtain ⟨W6, hW6⟩ : ∃ W6, W6 = setDv w5 q L'.kp.val d'.kept.base L'.ks.val L'.np.val d'.now.base L'.ns.val L'.ds.val d'.gone d'.armed := ⟨_, rfl⟩
          rw [← hW6] at hmid6 HSD5
          have HLD6 := hide (load_dv q d' L' W6 hmid6.box)
          rw [← habs] at hR hG
          have HLK := hide (like_any W6 p D' Ld4 hmid6.mine.dev d' L' hmid6.din hR hG (by omega) (by omega) hn1 hn2)
          unfold at0 at HLK
          have HM6 := hide hmid6
          have f0 := hmid6.box.c0
          have f1 := hmid6.box.c1
          have f2 := hmid6.box.c2
          have f3 := hmid6.box.c3
          have f4 := hmid6.box.c4
          have f5 := hmid6.box.c5
          have f6 := hmid6.box.c6
          have f7 := hmid6.box.c7
          have f8 := hmid6.box.c8
          have HR6 := hide hR
          have HG6 := hide hG
          clear hW6 hmid5 hmid6 hR hG habs hdin5 hb5 hmid4
          go_wp2_with (first | refine wpList_store _ rfl rfl 35 (.tmp 7) (.tmp 112) rfl (.pointer (some ⟨q, 0, none⟩)) (d'.val L') rfl rfl _ HSD5.out ?_ | refine wpList_load _ rfl 35 (.tmp 7) rfl (.pointer (some ⟨q, 0, none⟩)) (d'.val L') rfl HLD6.out ?_)
          refine HLK.out.mono ?_
          rintro e w7 ⟨rfl, hb7⟩
          have HS7 : Hid (Stand w n l p q (j + 1) w7) := hide ⟨D', Ld4, d', L', K4, HM6.out.grow hb7, HR6.out, HG6.out⟩
          clear hb7 HLK HM6 HR6 HG6
          go_wp2_with fail
          go_roundw
          case rel => exact ⟨j + 1, by omega, by omega, by go_num, HS7⟩
          case measure => simp only [intOf]; omega
        · have c1 := hdo
          clear hdo
          by_cases hdo : t.x.do_ = 2
          · have hap : apd l (j + 1) = apd l j := by show apd l j + _ = _; rw [← HT.out, if_neg (by rw [hdo]; decide), Nat.add_zero]
            obtain ⟨r0, D', A', hR, hG, hdev, hdoc⟩ := trim_pair hrl hgd (by omega) (by omega) hn1 hn2 t.x.n HIN.out.wn
            rw [← hap, show 4 * j + 4 = 4 * (j + 1) by omega] at hG
            have HDEV := hide (hdev W1 p Ld hmid1.mine.dev)
            unfold DevDoes at0 at HDEV
            have e0 := HBX.out.c0
            rw [hdo] at e0
            have e3 := HBX.out.c3
            go_wp2_with (first | refine wpList_load _ rfl 39 (.tmp 66) rfl (.pointer (some ⟨b, off + j * 5, none⟩)) (.agg (t.x.cells t.b t.q)) rfl HLD.out ?_ | refine wpList_store _ rfl rfl 39 (.tmp 11) (.tmp 67) rfl (.pointer (some ⟨wr.heap.size, 0, none⟩)) (.agg (t.x.cells t.b t.q)) rfl rfl _ HSA.out ?_)
            refine HDEV.out.mono ?_
            rintro e w4 ⟨rfl, Ld4, hT⟩
            clear e0 e3
            obtain ⟨K4, hmid4⟩ := hmid1.turn hT
            have hbx4 := HBT.out _ hT.frm
            have HLD4 := hide (load_dv q d L w4 hmid4.box)
            have HDOC := hide (hdoc K4 w4 L hmid4.din)
            unfold DocDoes at HDOC
            have e3 := hbx4.c3
            go_wp2_with (refine wpList_load _ rfl 35 (.tmp 7) rfl (.pointer (some ⟨q, 0, none⟩)) (d.val L) rfl HLD4.out ?_)
            refine HDOC.out.mono ?_
            rintro e w5 ⟨hb5, d', L', rfl, hdin5, habs⟩
            clear e3

            have hmid5 := hmid4.grow hb5
            have HSD5 := hide (store_dv q d' L' w5 hmid5.box)
            have hmid6 := hmid5.store hdin5
            obtain ⟨W6, hW6⟩ : ∃ W6, W6 = setDv w5 q L'.kp.val d'.kept.base L'.ks.val L'.np.val d'.now.base L'.ns.val L'.ds.val d'.gone d'.armed := ⟨_, rfl⟩
            rw [← hW6] at hmid6 HSD5
            have HLD6 := hide (load_dv q d' L' W6 hmid6.box)
            rw [← habs] at hR hG
            have HLK := hide (like_any W6 p D' Ld4 hmid6.mine.dev d' L' hmid6.din hR hG (by omega) (by omega) hn1 hn2)
            unfold at0 at HLK
            have HM6 := hide hmid6
            have f0 := hmid6.box.c0
            have f1 := hmid6.box.c1
            have f2 := hmid6.box.c2
            have f3 := hmid6.box.c3
            have f4 := hmid6.box.c4
            have f5 := hmid6.box.c5
            have f6 := hmid6.box.c6
            have f7 := hmid6.box.c7
            have f8 := hmid6.box.c8
            have HR6 := hide hR
            have HG6 := hide hG
            clear hW6 hmid5 hmid6 hR hG habs hdin5 hb5 hmid4
            go_wp2_with (first | refine wpList_store _ rfl rfl 35 (.tmp 7) (.tmp 125) rfl (.pointer (some ⟨q, 0, none⟩)) (d'.val L') rfl rfl _ HSD5.out ?_ | refine wpList_load _ rfl 35 (.tmp 7) rfl (.pointer (some ⟨q, 0, none⟩)) (d'.val L') rfl HLD6.out ?_)
            refine HLK.out.mono ?_
            rintro e w7 ⟨rfl, hb7⟩
            have HS7 : Hid (Stand w n l p q (j + 1) w7) := hide ⟨D', Ld4, d', L', K4, HM6.out.grow hb7, HR6.out, HG6.out⟩
            clear hb7 HLK HM6 HR6 HG6
            go_wp2_with fail
            go_roundw
            case rel => exact ⟨j + 1, by omega, by omega, by go_num, HS7⟩
            case measure => simp only [intOf]; omega
          · have c2 := hdo
            clear hdo
            by_cases hdo : t.x.do_ = 3
            · have hap : apd l (j + 1) = apd l j := by show apd l j + _ = _; rw [← HT.out, if_neg (by rw [hdo]; decide), Nat.add_zero]
              obtain ⟨D', A', hR, hG, hdev, hdoc⟩ := sync_pair hrl hgd (by omega) (by omega) hn1 hn2 
              rw [← hap, show 4 * j + 4 = 4 * (j + 1) by omega] at hG
              have HDEV := hide (hdev W1 p Ld hmid1.mine.dev)
              unfold DevDoes at0 at HDEV
              have e0 := HBX.out.c0
              rw [hdo] at e0
              go_wp2_with (first | refine wpList_load _ rfl 39 (.tmp 66) rfl (.pointer (some ⟨b, off + j * 5, none⟩)) (.agg (t.x.cells t.b t.q)) rfl HLD.out ?_ | refine wpList_store _ rfl rfl 39 (.tmp 11) (.tmp 67) rfl (.pointer (some ⟨wr.heap.size, 0, none⟩)) (.agg (t.x.cells t.b t.q)) rfl rfl _ HSA.out ?_)
              refine HDEV.out.mono ?_
              rintro e w4 ⟨rfl, Ld4, hT⟩
              clear e0
              obtain ⟨K4, hmid4⟩ := hmid1.turn hT
              have hbx4 := HBT.out _ hT.frm
              have HLD4 := hide (load_dv q d L w4 hmid4.box)
              have HDOC := hide (hdoc K4 w4 L hmid4.din)
              unfold DocDoes at HDOC
              go_wp2_with (refine wpList_load _ rfl 35 (.tmp 7) rfl (.pointer (some ⟨q, 0, none⟩)) (d.val L) rfl HLD4.out ?_)
              refine HDOC.out.mono ?_
              rintro e w5 ⟨hb5, d', L', rfl, hdin5, habs⟩

              have hmid5 := hmid4.grow hb5
              have HSD5 := hide (store_dv q d' L' w5 hmid5.box)
              have hmid6 := hmid5.store hdin5
              obtain ⟨W6, hW6⟩ : ∃ W6, W6 = setDv w5 q L'.kp.val d'.kept.base L'.ks.val L'.np.val d'.now.base L'.ns.val L'.ds.val d'.gone d'.armed := ⟨_, rfl⟩
              rw [← hW6] at hmid6 HSD5
              have HLD6 := hide (load_dv q d' L' W6 hmid6.box)
              rw [← habs] at hR hG
              have HLK := hide (like_any W6 p D' Ld4 hmid6.mine.dev d' L' hmid6.din hR hG (by omega) (by omega) hn1 hn2)
              unfold at0 at HLK
              have HM6 := hide hmid6
              have f0 := hmid6.box.c0
              have f1 := hmid6.box.c1
              have f2 := hmid6.box.c2
              have f3 := hmid6.box.c3
              have f4 := hmid6.box.c4
              have f5 := hmid6.box.c5
              have f6 := hmid6.box.c6
              have f7 := hmid6.box.c7
              have f8 := hmid6.box.c8
              have HR6 := hide hR
              have HG6 := hide hG
              clear hW6 hmid5 hmid6 hR hG habs hdin5 hb5 hmid4
              go_wp2_with (first | refine wpList_store _ rfl rfl 35 (.tmp 7) (.tmp 132) rfl (.pointer (some ⟨q, 0, none⟩)) (d'.val L') rfl rfl _ HSD5.out ?_ | refine wpList_load _ rfl 35 (.tmp 7) rfl (.pointer (some ⟨q, 0, none⟩)) (d'.val L') rfl HLD6.out ?_)
              refine HLK.out.mono ?_
              rintro e w7 ⟨rfl, hb7⟩
              have HS7 : Hid (Stand w n l p q (j + 1) w7) := hide ⟨D', Ld4, d', L', K4, HM6.out.grow hb7, HR6.out, HG6.out⟩
              clear hb7 HLK HM6 HR6 HG6
              go_wp2_with fail
              go_roundw
              case rel => exact ⟨j + 1, by omega, by omega, by go_num, HS7⟩
              case measure => simp only [intOf]; omega
            · have c3 := hdo
              clear hdo
              by_cases hdo : t.x.do_ = 4
              · have hap : apd l (j + 1) = apd l j := by show apd l j + _ = _; rw [← HT.out, if_neg (by rw [hdo]; decide), Nat.add_zero]
                obtain ⟨D', A', hR, hG, hdev, hdoc⟩ := arm_pair hrl hgd (by omega) (by omega) hn1 hn2 t.x.n (wf_le HIN.out.wn)
                rw [← hap, show 4 * j + 4 = 4 * (j + 1) by omega] at hG
                have HDEV := hide (hdev W1 p Ld hmid1.mine.dev)
                unfold DevDoes at0 at HDEV
                have e0 := HBX.out.c0
                rw [hdo] at e0
                have e3 := HBX.out.c3
                go_wp2_with (first | refine wpList_load _ rfl 39 (.tmp 66) rfl (.pointer (some ⟨b, off + j * 5, none⟩)) (.agg (t.x.cells t.b t.q)) rfl HLD.out ?_ | refine wpList_store _ rfl rfl 39 (.tmp 11) (.tmp 67) rfl (.pointer (some ⟨wr.heap.size, 0, none⟩)) (.agg (t.x.cells t.b t.q)) rfl rfl _ HSA.out ?_)
                refine HDEV.out.mono ?_
                rintro e w4 ⟨rfl, Ld4, hT⟩
                clear e0 e3
                obtain ⟨K4, hmid4⟩ := hmid1.turn hT
                have hbx4 := HBT.out _ hT.frm
                have HLD4 := hide (load_dv q d L w4 hmid4.box)
                have HDOC := hide (hdoc K4 w4 L hmid4.din)
                unfold DocDoes at HDOC
                have e3 := hbx4.c3
                go_wp2_with (refine wpList_load _ rfl 35 (.tmp 7) rfl (.pointer (some ⟨q, 0, none⟩)) (d.val L) rfl HLD4.out ?_)
                refine HDOC.out.mono ?_
                rintro e w5 ⟨hb5, d', L', rfl, hdin5, habs⟩
                clear e3

                have hmid5 := hmid4.grow hb5
                have HSD5 := hide (store_dv q d' L' w5 hmid5.box)
                have hmid6 := hmid5.store hdin5
                obtain ⟨W6, hW6⟩ : ∃ W6, W6 = setDv w5 q L'.kp.val d'.kept.base L'.ks.val L'.np.val d'.now.base L'.ns.val L'.ds.val d'.gone d'.armed := ⟨_, rfl⟩
                rw [← hW6] at hmid6 HSD5
                have HLD6 := hide (load_dv q d' L' W6 hmid6.box)
                rw [← habs] at hR hG
                have HLK := hide (like_any W6 p D' Ld4 hmid6.mine.dev d' L' hmid6.din hR hG (by omega) (by omega) hn1 hn2)
                unfold at0 at HLK
                have HM6 := hide hmid6
                have f0 := hmid6.box.c0
                have f1 := hmid6.box.c1
                have f2 := hmid6.box.c2
                have f3 := hmid6.box.c3
                have f4 := hmid6.box.c4
                have f5 := hmid6.box.c5
                have f6 := hmid6.box.c6
                have f7 := hmid6.box.c7
                have f8 := hmid6.box.c8
                have HR6 := hide hR
                have HG6 := hide hG
                clear hW6 hmid5 hmid6 hR hG habs hdin5 hb5 hmid4
                go_wp2_with (first | refine wpList_store _ rfl rfl 35 (.tmp 7) (.tmp 142) rfl (.pointer (some ⟨q, 0, none⟩)) (d'.val L') rfl rfl _ HSD5.out ?_ | refine wpList_load _ rfl 35 (.tmp 7) rfl (.pointer (some ⟨q, 0, none⟩)) (d'.val L') rfl HLD6.out ?_)
                refine HLK.out.mono ?_
                rintro e w7 ⟨rfl, hb7⟩
                have HS7 : Hid (Stand w n l p q (j + 1) w7) := hide ⟨D', Ld4, d', L', K4, HM6.out.grow hb7, HR6.out, HG6.out⟩
                clear hb7 HLK HM6 HR6 HG6
                go_wp2_with fail
                go_roundw
                case rel => exact ⟨j + 1, by omega, by omega, by go_num, HS7⟩
                case measure => simp only [intOf]; omega
              · have c4 := hdo
                clear hdo
                by_cases hdo : t.x.do_ = 5
                · have hap : apd l (j + 1) = apd l j := by show apd l j + _ = _; rw [← HT.out, if_neg (by rw [hdo]; decide), Nat.add_zero]
                  obtain ⟨r0, D', A', hR, hG, hdev, hdoc⟩ := write_pair hrl hgd (by omega) (by omega) hn1 hn2 t.x.pg t.b.len t.bs HIN.out.b.bs.1 HIN.out.b.bs.2.1
                  rw [← hap, show 4 * j + 4 = 4 * (j + 1) by omega] at hG
                  have HDEV := hide (hdev W1 p Ld t.b.a t.b.cap hmid1.mine.dev (HCW.out W1 hmid1.mine.below) (hmid1.mine.off HBL.out))
                  unfold DevDoes at0 at HDEV
                  have e0 := HBX.out.c0
                  rw [hdo] at e0
                  have e1 := HBX.out.c1
                  have e2 := HBX.out.c2
                  go_wp2_with (first | refine wpList_load _ rfl 39 (.tmp 66) rfl (.pointer (some ⟨b, off + j * 5, none⟩)) (.agg (t.x.cells t.b t.q)) rfl HLD.out ?_ | refine wpList_store _ rfl rfl 39 (.tmp 11) (.tmp 67) rfl (.pointer (some ⟨wr.heap.size, 0, none⟩)) (.agg (t.x.cells t.b t.q)) rfl rfl _ HSA.out ?_)
                  refine HDEV.out.mono ?_
                  rintro e w4 ⟨rfl, Ld4, hT⟩
                  clear e0 e1 e2
                  obtain ⟨K4, hmid4⟩ := hmid1.turn hT
                  have hbx4 := HBT.out _ hT.frm
                  have HLD4 := hide (load_dv q d L w4 hmid4.box)
                  have HDOC := hide (hdoc K4 w4 L t.b.a t.b.cap hmid4.din ⟨HCW.out w4 hmid4.mine.below, hmid4.low, fun hl ad e => hmid4.inn _ (HBL.out ad e hl)⟩)
                  unfold DocDoes at HDOC
                  have e1 := hbx4.c1
                  have e2 := hbx4.c2
                  go_wp2_with (refine wpList_load _ rfl 35 (.tmp 7) rfl (.pointer (some ⟨q, 0, none⟩)) (d.val L) rfl HLD4.out ?_)
                  refine HDOC.out.mono ?_
                  rintro e w5 ⟨hb5, d', L', rfl, hdin5, habs⟩
                  clear e1 e2

                  have hmid5 := hmid4.grow hb5
                  have HSD5 := hide (store_dv q d' L' w5 hmid5.box)
                  have hmid6 := hmid5.store hdin5
                  obtain ⟨W6, hW6⟩ : ∃ W6, W6 = setDv w5 q L'.kp.val d'.kept.base L'.ks.val L'.np.val d'.now.base L'.ns.val L'.ds.val d'.gone d'.armed := ⟨_, rfl⟩
                  rw [← hW6] at hmid6 HSD5
                  have HLD6 := hide (load_dv q d' L' W6 hmid6.box)
                  rw [← habs] at hR hG
                  have HLK := hide (like_any W6 p D' Ld4 hmid6.mine.dev d' L' hmid6.din hR hG (by omega) (by omega) hn1 hn2)
                  unfold at0 at HLK
                  have HM6 := hide hmid6
                  have f0 := hmid6.box.c0
                  have f1 := hmid6.box.c1
                  have f2 := hmid6.box.c2
                  have f3 := hmid6.box.c3
                  have f4 := hmid6.box.c4
                  have f5 := hmid6.box.c5
                  have f6 := hmid6.box.c6
                  have f7 := hmid6.box.c7
                  have f8 := hmid6.box.c8
                  have HR6 := hide hR
                  have HG6 := hide hG
                  clear hW6 hmid5 hmid6 hR hG habs hdin5 hb5 hmid4
                  go_wp2_with (first | refine wpList_store _ rfl rfl 35 (.tmp 7) (.tmp 158) rfl (.pointer (some ⟨q, 0, none⟩)) (d'.val L') rfl rfl _ HSD5.out ?_ | refine wpList_load _ rfl 35 (.tmp 7) rfl (.pointer (some ⟨q, 0, none⟩)) (d'.val L') rfl HLD6.out ?_)
                  refine HLK.out.mono ?_
                  rintro e w7 ⟨rfl, hb7⟩
                  have HS7 : Hid (Stand w n l p q (j + 1) w7) := hide ⟨D', Ld4, d', L', K4, HM6.out.grow hb7, HR6.out, HG6.out⟩
                  clear hb7 HLK HM6 HR6 HG6
                  go_wp2_with fail
                  go_roundw
                  case rel => exact ⟨j + 1, by omega, by omega, by go_num, HS7⟩
                  case measure => simp only [intOf]; omega
                · have c5 := hdo
                  clear hdo
                  by_cases hdo : t.x.do_ = 0
                  · have hap : apd l (j + 1) = apd l j := by show apd l j + _ = _; rw [← HT.out, if_neg c1, Nat.add_zero]
                    obtain ⟨r0, D', A', hR, hG, hdev, hdoc⟩ := write_pair hrl hgd (by omega) (by omega) hn1 hn2 t.x.pg 512 (pageOf t.bs) (pageOf_length _) (pageOf_bytes _ HIN.out.b.bs.2.1)
                    rw [← hap, show 4 * j + 4 = 4 * (j + 1) by omega] at hG
                    have hbd := below_drew W1
                    have HR18 : Hid (∀ {Q : Exit → Act → World → Prop} {A0 : Act}, _) := fun {Q A0} => acts18 W1 p wr.heap.size t.x.pg r0 t.b.a t.b.len t.b.cap (some ⟨W1.drew.heap.size, 0, none⟩)
                      (fun w2 => Below W1.drew.heap.size W1.drew w2 ∧ Came w2 (some ⟨W1.drew.heap.size, 0, none⟩) 512 512 (pageOf t.bs))
                      (fun w3 => ∃ w2 Ld4, Below W1.heap.size W1 w2 ∧ Turned w2 p Ld w3 D' Ld4)
                      ⟨HBX.out.c1, HBX.out.c2⟩
                      ((page_any W1.drew t.b.a t.b.len t.b.cap t.bs (HCW.out _ (hmid1.grow hbd).mine.below)).mono (by rintro e w2 ⟨x1, x2, x3⟩; exact ⟨x2, x1, x3⟩))
                      (fun w2 hw2 => ⟨((HBX.out.keep hbd).keep hw2.1).c1, ((HBX.out.keep hbd).keep hw2.1).c2⟩)
                      (fun w2 hw2 => (hdev w2 p Ld _ 512 ((hmid1.grow hbd).grow hw2.1).mine.dev hw2.2 (fun ad e _ hf => by cases e; have := (hmid1.grow hbd).mine.dev.lt hf; simp only at this; omega)).mono (by rintro e w3 ⟨y1, Ld4, y2⟩; exact ⟨y1, w2, Ld4, rBelow hbd hw2.1, y2⟩))
                      (fun w3 hw3 => by
                        obtain ⟨w2, Ld4, z1, z2⟩ := hw3
                        have hk := HBX.out.keep z1
                        have hk3 : AcBlk w3 wr.heap.size t.x t.b t.q := (z2.frm.block _ (Array.getElem?_eq_some_iff.1 hk).1 HNF.out).trans hk
                        exact ⟨hk3.c1, hk3.c2⟩) (Q := Q) (A := A0)
                    have HBK : Hid (∀ w2 w3 Ld4, Below W1.heap.size W1 w2 → Turned w2 p Ld w3 D' Ld4 → AcBlk w3 wr.heap.size t.x t.b t.q) := hide (fun w2 w3 Ld4 z1 z2 => (z2.frm.block _ (Array.getElem?_eq_some_iff.1 (HBX.out.keep z1)).1 HNF.out).trans (HBX.out.keep z1))
                    have e0 := HBX.out.c0
                    rw [hdo] at e0
                    go_wp2_with (first | refine wpList_load _ rfl 39 (.tmp 66) rfl (.pointer (some ⟨b, off + j * 5, none⟩)) (.agg (t.x.cells t.b t.q)) rfl HLD.out ?_ | refine wpList_store _ rfl rfl 39 (.tmp 11) (.tmp 67) rfl (.pointer (some ⟨wr.heap.size, 0, none⟩)) (.agg (t.x.cells t.b t.q)) rfl rfl _ HSA.out ?_)
                    refine Pl.region_is (ops := Pl.find 18 ((Try.f3.body).getD .skip)) (by kernel_rfl) ?_
                    refine HR18.out (by rfl) rfl (by rfl) (by rfl) ?_
                    rintro uu w4 ⟨w2', Ld4, hb2', hT⟩
                    clear e0 HR18
                    obtain ⟨K4, hmid4⟩ := (hmid1.grow hb2').turn hT
                    have hbx4 := HBK.out _ _ _ hb2' hT
                    have hbd4 := below_drew w4
                    have HR19 : Hid (∀ {Q : Exit → Act → World → Prop} {A0 : Act}, _) := fun {Q A0} => acts19 w4 q wr.heap.size t.x.pg r0 t.b.a t.b.len t.b.cap (some ⟨w4.drew.heap.size, 0, none⟩) d L
                      (fun w5 => Below w4.drew.heap.size w4.drew w5 ∧ Came w5 (some ⟨w4.drew.heap.size, 0, none⟩) 512 512 (pageOf t.bs))
                      (fun w6 d2 L2 => Below w4.heap.size w4 w6 ∧ DvIn K4 w6 d2 L2 ∧ d2.abs = A')
                      ⟨hbx4.c1, hbx4.c2⟩ (hmid4.box.keep hbd4)
                      ((page_any w4.drew t.b.a t.b.len t.b.cap t.bs (HCW.out _ (hmid4.grow hbd4).mine.below)).mono (by rintro e w2 ⟨x1, x2, x3⟩; exact ⟨x2, x1, x3⟩))
                      (fun w5 hw5 => ⟨((hbx4.keep hbd4).keep hw5.1).c1, ((hbx4.keep hbd4).keep hw5.1).c2⟩)
                      (fun w5 hw5 => (hmid4.box.keep hbd4).keep hw5.1)
                      (fun w5 hw5 => (hdoc K4 w5 L _ 512 ((hmid4.grow hbd4).grow hw5.1).din ⟨hw5.2, ((hmid4.grow hbd4).grow hw5.1).low, fun _ ad e => by cases e; exact K4.all _ (hmid4.grow hbd4).low⟩).mono (by rintro e w6 ⟨y1, d2, L2, y2, y3, y4⟩; exact ⟨d2, L2, y2, rBelow (rBelow hbd4 hw5.1) y1, y3, y4⟩))
                      (fun w6 d2 L2 hw6 => by
                        have hk := hbx4.keep hw6.1
                        have hk3 : AcBlk (setDv w6 q L2.kp.val d2.kept.base L2.ks.val L2.np.val d2.now.base L2.ns.val L2.ds.val d2.gone d2.armed) wr.heap.size t.x t.b t.q := (setDv_other _ _ _ _ _ _ _ _ _ _ _ _ HQN.out).trans hk
                        exact ⟨⟨hk.c1, hk.c2⟩, ⟨hk3.c1, hk3.c2⟩, hmid4.box.keep hw6.1⟩) (Q := Q) (A := A0)
                    simp only [Act.put, List.setIfInBounds_toArray, List.set_cons_zero, List.set_cons_succ]
                    go_wp2_with fail
                    refine Pl.region_is (ops := Pl.find 19 ((Try.f3.body).getD .skip)) (by kernel_rfl) ?_
                    refine HR19.out (by rfl) rfl (by rfl) (by rfl) ?_
                    intro uu2 W6 w5 d' L' hW6 hP3
                    obtain ⟨hb5, hdin5, habs⟩ := hP3
                    clear HR19
                    have hmid6 := (hmid4.grow hb5).store hdin5
                    rw [← hW6] at hmid6
                    rw [← habs] at hR hG
                    have HLK := hide (like_any W6 p D' Ld4 hmid6.mine.dev d' L' hmid6.din hR hG (by omega) (by omega) hn1 hn2)
                    unfold at0 at HLK
                    have HM6 := hide hmid6
                    have f0 := hmid6.box.c0
                    have f1 := hmid6.box.c1
                    have f2 := hmid6.box.c2
                    have f3 := hmid6.box.c3
                    have f4 := hmid6.box.c4
                    have f5 := hmid6.box.c5
                    have f6 := hmid6.box.c6
                    have f7 := hmid6.box.c7
                    have f8 := hmid6.box.c8
                    have HR6 := hide hR
                    have HG6 := hide hG
                    clear hW6 hmid6 hR hG habs hdin5 hb5 hmid4 hT hb2' hbx4 hbd4
                    simp only [Act.put, List.setIfInBounds_toArray, List.set_cons_zero, List.set_cons_succ]
                    go_wp2_with fail
                    refine HLK.out.mono ?_
                    rintro e w7 ⟨rfl, hb7⟩
                    have HS7 : Hid (Stand w n l p q (j + 1) w7) := hide ⟨D', Ld4, d', L', K4, HM6.out.grow hb7, HR6.out, HG6.out⟩
                    clear hb7 HLK HM6 HR6 HG6
                    go_wp2_with fail
                    go_roundw
                    case rel => exact ⟨j + 1, by omega, by omega, by go_num, HS7⟩
                    case measure => simp only [intOf]; omega
                  · have c0 := hdo
                    clear hdo
                    have hap : apd l (j + 1) = apd l j := by show apd l j + _ = _; rw [← HT.out, if_neg c1, Nat.add_zero]
                    obtain ⟨D', A', hR, hG, hdev, hdoc⟩ := crash_pair hrl hgd (by omega) (by omega) hn1 hn2 t.x.n HIN.out.wn t.q.len (by omega) t.ps
                    rw [← hap, show 4 * j + 4 = 4 * (j + 1) by omega] at hG
                    have HDEV := hide (hdev W1 p Ld t.q.a t.q.cap hmid1.mine.dev (HPW.out W1 hmid1.mine.below) (hmid1.mine.off HQL.out))
                    unfold DevDoes at0 at HDEV
                    have e0 := HBX.out.c0
                    have e3 := HBX.out.c3
                    have e4 := HBX.out.c4
                    go_wp2_with (first | refine wpList_load _ rfl 39 (.tmp 66) rfl (.pointer (some ⟨b, off + j * 5, none⟩)) (.agg (t.x.cells t.b t.q)) rfl HLD.out ?_ | refine wpList_store _ rfl rfl 39 (.tmp 11) (.tmp 67) rfl (.pointer (some ⟨wr.heap.size, 0, none⟩)) (.agg (t.x.cells t.b t.q)) rfl rfl _ HSA.out ?_)
                    refine HDEV.out.mono ?_
                    rintro e w4 ⟨rfl, Ld4, hT⟩
                    clear e0 e3 e4
                    obtain ⟨K4, hmid4⟩ := hmid1.turn hT
                    have hbx4 := HBT.out _ hT.frm
                    have HLD4 := hide (load_dv q d L w4 hmid4.box)
                    have HDOC := hide (hdoc K4 w4 L t.q.a t.q.cap hmid4.din (HPW.out w4 hmid4.mine.below))
                    unfold DocDoes at HDOC
                    have e3 := hbx4.c3
                    have e4 := hbx4.c4
                    go_wp2_with (refine wpList_load _ rfl 35 (.tmp 7) rfl (.pointer (some ⟨q, 0, none⟩)) (d.val L) rfl HLD4.out ?_)
                    refine HDOC.out.mono ?_
                    rintro e w5 ⟨hb5, d', L', rfl, hdin5, habs⟩
                    clear e3 e4

                    have hmid5 := hmid4.grow hb5
                    have HSD5 := hide (store_dv q d' L' w5 hmid5.box)
                    have hmid6 := hmid5.store hdin5
                    obtain ⟨W6, hW6⟩ : ∃ W6, W6 = setDv w5 q L'.kp.val d'.kept.base L'.ks.val L'.np.val d'.now.base L'.ns.val L'.ds.val d'.gone d'.armed := ⟨_, rfl⟩
                    rw [← hW6] at hmid6 HSD5
                    have HLD6 := hide (load_dv q d' L' W6 hmid6.box)
                    rw [← habs] at hR hG
                    have HLK := hide (like_any W6 p D' Ld4 hmid6.mine.dev d' L' hmid6.din hR hG (by omega) (by omega) hn1 hn2)
                    unfold at0 at HLK
                    have HM6 := hide hmid6
                    have f0 := hmid6.box.c0
                    have f1 := hmid6.box.c1
                    have f2 := hmid6.box.c2
                    have f3 := hmid6.box.c3
                    have f4 := hmid6.box.c4
                    have f5 := hmid6.box.c5
                    have f6 := hmid6.box.c6
                    have f7 := hmid6.box.c7
                    have f8 := hmid6.box.c8
                    have HR6 := hide hR
                    have HG6 := hide hG
                    clear hW6 hmid5 hmid6 hR hG habs hdin5 hb5 hmid4
                    go_wp2_with (first | refine wpList_store _ rfl rfl 35 (.tmp 7) (.tmp 81) rfl (.pointer (some ⟨q, 0, none⟩)) (d'.val L') rfl rfl _ HSD5.out ?_ | refine wpList_load _ rfl 35 (.tmp 7) rfl (.pointer (some ⟨q, 0, none⟩)) (d'.val L') rfl HLD6.out ?_)
                    refine HLK.out.mono ?_
                    rintro e w7 ⟨rfl, hb7⟩
                    have HS7 : Hid (Stand w n l p q (j + 1) w7) := hide ⟨D', Ld4, d', L', K4, HM6.out.grow hb7, HR6.out, HG6.out⟩
                    clear hb7 HLK HM6 HR6 HG6
                    go_wp2_with fail
                    go_roundw
                    case rel => exact ⟨j + 1, by omega, by omega, by go_num, HS7⟩
                    case measure => simp only [intOf]; omega
      · by_cases h5 : j < len
        · have i5 : ((j : Nat) : Int) < ((len : Nat) : Int) := by omega
          obtain rfl : j = 40 := by omega
          go_wp2_with fail
          refine (HAW.out _).mono ?_
          rintro e w3 ⟨rfl, hb3⟩
          have HB3 : Hid (Below w.heap.size w w3) := by obtain ⟨_, _, _, _, _, hm, _⟩ := hS.out; exact hide (hm.mine.below.trans (hb3.mono hm.mine.below.size))
          go_wp2_with fail
          go_ret
          exact ⟨rfl, HB3.out⟩
        · obtain rfl : j = len := by omega
          go_wp2_with fail
          refine (HAW.out _).mono ?_
          rintro e w3 ⟨rfl, hb3⟩
          have HB3 : Hid (Below w.heap.size w w3) := by obtain ⟨_, _, _, _, _, hm, _⟩ := hS.out; exact hide (hm.mine.below.trans (hb3.mono hm.mine.below.size))
          go_wp2_with fail
          go_ret
          exact ⟨rfl, HB3.out⟩

end Go.Proofs.Ytokdeilcfkobfaa
