/-
  The walk of the law of acts.
-/
import Derived.Test.YtcaaiihjolnkgaaGreatEf
namespace Go.Proofs.YtcaaiihjolnkgaaGreat
open Go.RowKit
set_option maxRecDepth 100000
set_option linter.unusedVariables false

/-- What stands between two rounds. -/
def ActsI (w : World) (p d gb n : Nat) (l : List Ao) (j : Nat) (wr : World) : Prop := ∃ (P : Po) (tot m : Nat), PaX w wr p d gb n tot m P P (fun _ => False) ∧ P.Fine n (20 * j) ∧ tot ≤ apd l j ∧ m ≤ 20 * j
theorem ActsI.below {w : World} {p d gb n : Nat} {l : List Ao} {j : Nat} {wr : World} (h : ActsI w p d gb n l j wr) : Below w.heap.size w wr := by
  obtain ⟨P, tot, m, h, _⟩ := h
  exact h.below
theorem apart_old {w0 w : World} {a : Option Addr} {len cap : Nat} {xs : List Nat} (h : Came w0 a len cap xs) : Apart w0 w a len := by
  intro ad e hl
  obtain ⟨b, off, e', hc⟩ := h.bs.2.2 0 hl
  rw [e] at e'
  obtain rfl := Option.some.inj e'
  exact .inl (World.block_lt_of_cell? w0 _ hc)
theorem page_bytes {b : List Nat} (h : Bytes b) : Bytes (pageOf b) := by
  exact pageOf_bytes b h
theorem ss_small {w0 w : World} {p dp gb n tot m : Nat} {P : Po} {A : Nat → Prop} (h : PaX w0 w p dp gb n tot m P P A) {k : Nat} (hk : tot + k ≤ 600) : P.D.ss.length + k ≤ 65536 := by
  obtain ⟨K, L, X, d, Ld, v, s, h⟩ := h
  have h1 := h.rp.rel.ss
  have h2 := h.rp.good.nt
  rw [h1]
  omega
theorem bs_empty (w : World) (g : Nat) : Bs w (some ⟨g, 0, none⟩) 0 [] := ⟨rfl, (fun x hx => by cases hx), fun i hi => absurd hi (Nat.not_lt_zero _)⟩
theorem bs_none (w : World) : Bs w none 0 [] := ⟨rfl, (fun x hx => by cases hx), fun i hi => absurd hi (Nat.not_lt_zero _)⟩
theorem con_bytes {P : Po} {n c : Nat} (h : P.Fine n c) (k : Nat) : Bytes (P.con k) := by
  unfold Po.con
  cases e : P.m k with
  | none => exact (h.wet.dev.bs.drop _).take _
  | some s => exact (h.wet.sh k s e).2.2
/-- Both pools are made. -/
theorem both_new {w w2 w3 : World} {p d n f : Nat} {K : Home} {L : Dl} {X : Nat → Prop} (hm : Mp poM w w2 p d (Po.new (Ds.new n) f) L X) (hK : ∀ k, K.G k ↔ ¬ (X k ∨ L.F d k)) (hb : Below w2.heap.size w2 w3) {x : Value} (hs : RpSays K n 0 0 (Po.new (Ds.new n) f) x w3) :
    ∃ W, (Instr.storeAt 43 (.pointer (some ⟨w3.heap.size, 0, none⟩)) x).run Tryz.prog (w3.alloc (.cells (rCells dv0 dvl0 Sl.nil 0 Sl.nil 0) 43)) = .ok () W ∧ PaX w W p d w3.heap.size n 0 0 (Po.new (Ds.new n) f) (Po.new (Ds.new n) f) (fun _ => False) := by
  obtain ⟨d2, Ld2, v2, s2, rfl, hI⟩ := hs
  have hA := below_alloc w3 (.cells (rCells dv0 dvl0 Sl.nil 0 Sl.nil 0) 43)
  have hk := rBlk_new w3 dv0 dvl0 Sl.nil 0 Sl.nil 0
  obtain ⟨W, hst, hB, hf, hsz⟩ := stR hk d2 Ld2 v2 (Po.new (Ds.new n) f).h s2 (Po.new (Ds.new n) f).sy
  have hm3 := (hm.keep poolS_holds hb).keep poolS_holds hA
  have hge : w.heap.size ≤ w3.heap.size := Nat.le_trans hm.below.size hb.size
  have hnb : ¬ (X w3.heap.size ∨ L.F d w3.heap.size) := po_not hm3.m hk (.inr (.inr rfl))
  refine ⟨W, hst, K, L, X, d2, Ld2, v2, s2, poolS_holds.frm hm3.m hf (fun k e q => hnb (by rw [← q]; exact e)), hm.foot, hK, (hI.keep hA).box hf ⟨_, _, _, _, _, _, hk⟩, hB, hge, fun _ e => e.elim, hm3.below.trans (hf.below hm3.below.size (fun k e => by rw [e]; exact hge))⟩
theorem home_new {w2 : World} {w : World} {p d : Nat} {P : Po} {L : Dl} {X : Nat → Prop} (hm : Mp poM w w2 p d P L X) : ∃ K : Home, (∀ k, K.G k ↔ ¬ (X k ∨ L.F d k)) ∧ K.low = w2.heap.size :=
  ⟨⟨fun k => ¬ (X k ∨ L.F d k), w2.heap.size, fun k hk e => by
    rcases e with e | e
    · have := poolS_holds.lt hm.m k e; omega
    · have := (poolS_holds.dev hm.m).lt e; omega⟩, fun k => Iff.rfl, rfl⟩

set_option maxHeartbeats 32000000 in
set_option maxRecDepth 100000 in
theorem acts_walk (w : World) (pn fr : Nat) (hpn : pn ≤ 255) (hfr : fr ≤ 255) (a : Option Addr) (len cap : Nat) (l : List Ao) (hA : Acs w a len l) :
    Calls Tryz.prog 3 #[.int .u8 ((pn : Nat) : Int), .int .u8 ((fr : Nat) : Int), .slice a len cap] w fun e w' => e = .returned (.bool true) ∧ Below w.heap.size w w' := by
  obtain ⟨k0, hk0⟩ : ∃ k, k = pn % 5 := ⟨_, rfl⟩
  obtain ⟨k1, hk1⟩ : ∃ k, k = fr % 4 := ⟨_, rfl⟩
  obtain ⟨n, hn⟩ : ∃ n, n = k0 + 1 := ⟨_, rfl⟩
  obtain ⟨f, hf⟩ : ∃ f, f = k1 + 1 := ⟨_, rfl⟩
  have hn1 : 1 ≤ n := by omega
  have hn5 : n ≤ 5 := by omega
  have hf1 : 1 ≤ f := by omega
  have hf4 : f ≤ 4 := by omega
  have HN := hide (new_any w n (by omega) (by omega))
  have HPN : Hid (∀ w1 d L, Below w.heap.size w w1 → DevM w1 d (Ds.new n) L → (∀ k, L.F d k → w.heap.size ≤ k) → Calls Tryz.prog 5 #[at0 d, .int .i64 ((f : Nat) : Int)] w1 fun e w' => ∃ p, e = .returned (.tuple #[at0 p, .int .i64 0]) ∧ Our poM w w' p d (Po.new (Ds.new n) f)) := fun w1 d L hb hd hf => our_new poolS_holds (n := n) w f (by omega) (by omega) hf1 (by omega) d w1 L hb hd hf
  have HFN := hide (Po.Fine.new (n := n) (f := f) (by omega) (by omega) hf1 (by omega))
  have HAW : Hid (∀ w', Calls Tryz.prog 7 #[] w' fun e w2 => e = .returned (.bool true) ∧ Below w'.heap.size w' w2) := fun w' => awakeP_any poolS_holds w'
  have HA := hide hA
  have hbig := hA.big
  have HNK : Hid ((1 : Int) + ((k0 : Nat) : Int) = ((n : Nat) : Int)) := by show _ = _; omega
  have HFK : Hid ((1 : Int) + ((k1 : Nat) : Int) = ((f : Nat) : Int)) := by show _ = _; omega
  have hcv : ∀ w : World, (convert 5 3 (.int .u8 (((pn : Nat) : Int) % 5))).run Tryz.prog w = .ok (.int .i64 ((k0 : Nat) : Int)) w := by
    intro w
    have e1 : ((pn : Nat) : Int) % 5 = ((k0 : Nat) : Int) := by omega
    have e2 : IntKind.i64.wrap ((k0 : Nat) : Int) = ((k0 : Nat) : Int) := by rw [IntKind.wrap_i64]; omega
    simp [go_sem, e1, e2]
  have hcv2 : ∀ w : World, (convert 5 3 (.int .u8 (((fr : Nat) : Int) % 4))).run Tryz.prog w = .ok (.int .i64 ((k1 : Nat) : Int)) w := by
    intro w
    have e1 : ((fr : Nat) : Int) % 4 = ((k1 : Nat) : Int) := by omega
    have e2 : IntKind.i64.wrap ((k1 : Nat) : Int) = ((k1 : Nat) : Int) := by rw [IntKind.wrap_i64]; omega
    simp [go_sem, e1, e2]
  have hk06 : k0 < 5 := by omega
  have hk07 : k1 < 4 := by omega
  clear hk0 hk1 hn hf hA
  unfold at0 at *
  go_enter Tryz.func3, Tryz.ntmps3
  go_wp2_with fail
  simp only [HNK.out, HFK.out]
  refine HN.out.mono ?_
  rintro e w1 ⟨hb1, d, L1, rfl, hd1, hf1'⟩
  have HPN1 := hide (HPN.out w1 d L1 hb1 hd1 hf1')
  clear hb1 hd1 hf1' HPN HN
  go_wp2_with fail
  refine HPN1.out.mono ?_
  rintro e w2 ⟨p, rfl, ho⟩
  have O2 := hide ho
  clear ho HPN1 HNK HFK hcv hcv2
  have hnil : ∀ w : World, (binOp .eql 27 (.pointer (some ⟨p, 0, none⟩)) (.pointer none)).run Tryz.prog w = .ok (.bool false) w := fun _ => rfl
  have hnil2 : ∀ w : World, (binOp .neq 27 (.pointer (some ⟨p, 0, none⟩)) (.pointer none)).run Tryz.prog w = .ok (.bool true) w := fun _ => rfl
  have HLI := hide (light_any w2 a len cap l (HA.out.keep O2.out.below))
  go_wp2_with fail
  refine HLI.out.mono ?_
  rintro e w2' ⟨rfl, r, rfl, hr⟩
  cases r
  · clear hr
    go_wp2_with fail
    refine (HAW.out _).mono ?_
    rintro e w3 ⟨rfl, hb3⟩
    have HB3 := hide (O2.out.below.trans (hb3.mono O2.out.below.size))
    clear hb3
    go_wp2_with fail
    go_ret
    exact ⟨rfl, HB3.out⟩
  have HLT := hide (hr rfl)
  clear hr HLI
  obtain ⟨L2, X2, hM2⟩ := O2.out
  obtain ⟨K2, hK2, hlow2⟩ := home_new hM2
  have HRN := hide (refNew_any (K := K2) w2' (by omega) n (by omega))
  have HM2 := hide hM2
  have HK2 := hide hK2
  have HLO2 := hide hlow2
  clear hM2 hK2 hlow2 O2
  go_wp2_with fail
  refine HRN.out.mono ?_
  rintro e w3 ⟨hb3, Ld3, rfl, hd3⟩
  have HRN2 := hide (rNew_any (K := K2) hd3 (Rel.new n) (Good.new n) (by have := HLO2.out; have := hb3.size; omega) f (by omega))
  have HB3 := hide hb3
  clear hb3 hd3 HRN
  go_wp2_with fail
  refine HRN2.out.mono ?_
  rintro e w4 ⟨hb4, x4, rfl, hs4⟩
  obtain ⟨W5, hst5, hP5⟩ := both_new HM2.out HK2.out (HB3.out.trans (hb4.mono HB3.out.size)) hs4
  obtain ⟨gb, hgb⟩ : ∃ gb, gb = w4.heap.size := ⟨_, rfl⟩
  have HS5 := hide hst5
  rw [r0_is] at HS5
  rw [← hgb] at hP5
  have HST : Hid (ActsI w p d gb n l 0 W5) := ⟨_, 0, 0, hP5, HFN.out, Nat.le_refl _, Nat.le_refl _⟩
  have HGB := hide hgb
  clear hb4 hs4 hst5 hP5 HRN2 HB3 HM2 HK2 HLO2 HFN hgb
  go_wp2_with (refine wpList_store _ rfl rfl 43 (.tmp 13) (.tmp 58) rfl (.pointer (some ⟨w4.heap.size, 0, none⟩)) x4 rfl rfl W5 HS5.out ?_)
  rw [← HGB.out]
  clear HS5 HGB
  go_loopw [14] (fun i wr => ∃ j : Nat, j ≤ len ∧ j ≤ 40 ∧ i = .int .i64 j ∧ Hid (ActsI w p d gb n l j wr)) (fun i _ => len - (intOf i).toNat)
  case atStart => exact ⟨0, by omega, by omega, rfl, HST⟩
  case round =>
    obtain ⟨j, hj, hj4, rfl, hSt⟩ := hrel
    clear HST
    by_cases hgo : j < len ∧ j < 40
    · obtain ⟨hlt, hlt4⟩ := hgo
      have i5 : ((j : Nat) : Int) < ((len : Nat) : Int) := by omega
      have i6 : ((j : Nat) : Int) < 40 := by omega
      obtain ⟨P, tot, m, hP, hF, htot, hm⟩ := hSt.out
      have hap := (HLT.out j hlt hlt4).1
      obtain ⟨wa, hwa⟩ : ∃ wa, wa = (wr.alloc (.cells #[] 5)).alloc (.cells #[] 5) := ⟨_, rfl⟩
      have hbwa : Below wr.heap.size wr wa := by rw [hwa]; exact below_two wr _ _
      obtain ⟨b, off, ha, hat⟩ := (HA.out.keep hP.below).at_ j hlt
      obtain ⟨b', off', ha', hat2⟩ := (HA.out.keep (hP.below.trans (hbwa.mono hP.below.size))).at_ j hlt
      obtain ⟨b'', off'', ha'', hat0⟩ := HA.out.at_ j hlt
      rw [ha] at ha' ha''
      cases ha'
      cases ha''
      obtain ⟨t, ht⟩ : ∃ t, t = l.getD j aoD := ⟨_, rfl⟩
      have hapd : apd l (j + 1) = apd l j + t.b.len := by rw [ht]; rfl
      rw [← ht] at hat2 hat0
      have HLD := hide (load_ao b (off + j * 5) t wa hat2)
      have HSA := hide (store_acNew t.x t.b t.q wa)
      have hba := below_alloc wa (.cells (t.x.cells t.b t.q) 48)
      have hbx : AcBlk (wa.alloc (.cells (t.x.cells t.b t.q) 48)) wa.heap.size t.x t.b t.q := heap_alloc_new wa _
      have hlt' := (Array.getElem?_eq_some_iff.1 hbx).1
      obtain ⟨W1, hW1⟩ : ∃ W1, W1 = wa.alloc (.cells (t.x.cells t.b t.q) 48) := ⟨_, rfl⟩
      rw [← hW1] at HSA hbx hba hlt'
      obtain ⟨ga, hga⟩ : ∃ ga, ga = wa.heap.size := ⟨_, rfl⟩
      have hga2 : wa.heap.size = wr.heap.size + 2 := by rw [hwa]; simp
      obtain ⟨hP1, hne⟩ := hP.more (hbwa.trans (hba.mono hbwa.size)) (g := ga) (by have := hbwa.size; omega) (by omega)
      have HIN := hide hat0.inn
      rw [← hga] at hbx
      have BX1 := hide hbx
      have P1 := hide hP1
      have hnA : ¬ (fun k => k = ga) gb := fun e => hne e.symm
      have HNA := hide hnA
      have F1 := hide hF
      have e0 := hbx.c0
      have e1 := hbx.c1
      have e2 := hbx.c2
      have e3 := hbx.c3
      have HSA' : Hid (wa = (wr.alloc (.cells #[] 5)).alloc (.cells #[] 5)) := hwa
      have hga3 : ga = wr.heap.size + 1 + 1 := by omega
      clear hat hat0 hat2 ht hP hF hSt hba hbx hlt' hW1 hwa hbwa hP1 hne hnA hga hga2
      subst ha
      subst hga3
      simp only [HSA'.out, alloc_size] at HLD HSA
      by_cases h0 : t.x.do_ = 0
      · rw [h0] at e0
        as_aux_lemma =>
          by_cases hpg : 0 ≤ t.x.pg ∧ t.x.pg < ((n : Nat) : Int)
          · obtain ⟨k, hk⟩ : ∃ k : Nat, t.x.pg = ((k : Nat) : Int) := ⟨t.x.pg.toNat, by omega⟩
            rw [hk] at e1 hpg
            have hkn : k < n := by omega
            have HR1 := hide (pa_read P1.out F1.out k hkn)
            unfold at0 at HR1
            clear hpg
            go_wp2_with (first | refine wpList_load _ rfl 48 (.tmp 73) rfl (.pointer (some ⟨b, off + j * 5, none⟩)) _ rfl HLD.out ?_ | refine wpList_store _ rfl rfl 48 (.tmp 19) (.tmp 74) rfl (.pointer (some ⟨wr.heap.size + 1 + 1, 0, none⟩)) _ rfl rfl W1 HSA.out ?_)
            refine HR1.out.mono ?_
            rintro e w2 ⟨⟨hP2, hG2⟩, ⟨sa, sl, sc⟩, rfl, hown, hsl⟩
            have P2 := hide hP2
            have BX2 := hide (BX1.out.keepG hG2 rfl)
            have FQ := hide (F1.out.letIn (by omega) hkn)
            have HBY : Hid (Bytes ((P.letIn k).con k)) := con_bytes FQ.out k
            have HCM := hide (Own.came hown HBY.out)
            obtain ⟨d2, Ld2, v2, s2, hbx2, hcall⟩ := pd_read hP2 HNA.out F1.out (by omega) (by omega) k hkn
            have HLR2 := hide (ldR hbx2)
            have HC2 := hide hcall
            have f1 := BX2.out.c1
            rw [hk] at f1
            clear hP2 hG2 hown hsl hbx2 hcall HR1
            simp only [Sl.val]
            go_wp2_with (first | refine wpList_load _ rfl 43 (.tmp 13) rfl (.pointer (some ⟨gb, 0, none⟩)) _ rfl HLR2.out ?_)
            refine HC2.out.mono ?_
            rintro e w3 ⟨x3, ⟨qa, ql, qc⟩, rfl, ⟨W3, hst3, hP3, hG3, hC3, _⟩, hq3⟩
            have HS3 := hide hst3
            have P3 := hide hP3
            have HV1 := hide (run_string_of sc (hC3 _ _ _ _ (.inl HCM.out)).bs)
            have HV2 := hide (run_string_of qc (hC3 _ _ _ _ (.inr hq3)).bs)
            clear hst3 hP3 hG3 hC3 hq3 HC2 HLR2
            simp only [Sl.val]
            obtain ⟨K9, L9, X9, d9, Ld9, v9, s9, hPa9⟩ := P3.out
            have HLR9 := hide (ldR hPa9.box)
            have HLK9 := hide (plike_any poolS_holds hPa9.mm FQ.out hPa9.rp (by omega) (by omega))
            have HI9 : Hid (∀ w9, Below (W3 : World).heap.size W3 w9 → ActsI w p d gb n l (j + 1) w9) := fun w9 hb9 => ⟨P.letIn k, tot, m + 4, (P3.out.keep hb9).drop, FQ.out.more (by omega) (by omega), by omega, by omega⟩
            unfold at0 at HLK9
            clear hPa9
            go_wp2_with (first | refine wpList_store _ rfl rfl 43 (.tmp 13) (.tmp 101) rfl (.pointer (some ⟨gb, 0, none⟩)) x3 rfl rfl W3 HS3.out ?_ | refine wpList_convG _ (by rfl) 32 9 (.tmp 194) rfl (.slice sa sl sc) _ rfl _ HV1.out ?_ | refine wpList_convG _ (by rfl) 32 9 (.tmp 196) rfl (.slice qa ql qc) _ rfl _ HV2.out ?_ | refine wpList_loadG _ (by rfl) 43 (.tmp 13) rfl (.pointer (some ⟨gb, 0, none⟩)) _ rfl HLR9.out ?_)
            refine HLK9.out.mono ?_
            rintro e w9 ⟨rfl, hb9⟩
            have HJ9 := hide (HI9.out w9 hb9)
            clear hb9 HI9 HLK9 HLR9
            go_wp2_with fail
            go_roundw
            case rel => exact ⟨j + 1, by omega, by omega, by go_num, HJ9⟩
            case measure => simp only [intOf]; omega
          · have HR1 := hide (pa_readN P1.out F1.out t.x.pg hpg)
            unfold at0 at HR1
            have HPG := hide hpg
            clear hpg
            go_wp2_with (first | refine wpList_load _ rfl 48 (.tmp 73) rfl (.pointer (some ⟨b, off + j * 5, none⟩)) _ rfl HLD.out ?_ | refine wpList_store _ rfl rfl 48 (.tmp 19) (.tmp 74) rfl (.pointer (some ⟨wr.heap.size + 1 + 1, 0, none⟩)) _ rfl rfl W1 HSA.out ?_)
            refine HR1.out.mono ?_
            rintro e w2 ⟨⟨hP2, hG2⟩, rfl⟩
            have P2 := hide hP2
            have BX2 := hide (BX1.out.keepG hG2 rfl)
            obtain ⟨d2, Ld2, v2, s2, hbx2, hcall⟩ := pd_readN hP2 HNA.out (by omega) t.x.pg HPG.out
            have HLR2 := hide (ldR hbx2)
            have HC2 := hide hcall
            have f1 := BX2.out.c1
            clear hP2 hG2 hbx2 hcall HR1
            go_wp2_with (first | refine wpList_load _ rfl 43 (.tmp 13) rfl (.pointer (some ⟨gb, 0, none⟩)) _ rfl HLR2.out ?_)
            refine HC2.out.mono ?_
            rintro e w3 ⟨x3, rfl, ⟨W3, hst3, hP3, hG3, hC3, _⟩⟩
            have HS3 := hide hst3
            have P3 := hide hP3
            have HV1 := hide (run_string_of 0 (bs_none W3))
            clear hst3 hP3 hG3 hC3 HC2 HLR2
            obtain ⟨K9, L9, X9, d9, Ld9, v9, s9, hPa9⟩ := P3.out
            have HLR9 := hide (ldR hPa9.box)
            have HLK9 := hide (plike_any poolS_holds hPa9.mm F1.out hPa9.rp (by omega) (by omega))
            have HI9 : Hid (∀ w9, Below (W3 : World).heap.size W3 w9 → ActsI w p d gb n l (j + 1) w9) := fun w9 hb9 => ⟨P, tot, m, (P3.out.keep hb9).drop, F1.out.more (by omega) (by omega), by omega, by omega⟩
            unfold at0 at HLK9
            clear hPa9
            go_wp2_with (first | refine wpList_store _ rfl rfl 43 (.tmp 13) (.tmp 101) rfl (.pointer (some ⟨gb, 0, none⟩)) x3 rfl rfl W3 HS3.out ?_ | refine wpList_convG _ (by rfl) 32 9 (.tmp 194) rfl (.slice none 0 0) _ rfl _ HV1.out ?_ | refine wpList_convG _ (by rfl) 32 9 (.tmp 196) rfl (.slice none 0 0) _ rfl _ HV1.out ?_ | refine wpList_loadG _ (by rfl) 43 (.tmp 13) rfl (.pointer (some ⟨gb, 0, none⟩)) _ rfl HLR9.out ?_)
            refine HLK9.out.mono ?_
            rintro e w9 ⟨rfl, hb9⟩
            have HJ9 := hide (HI9.out w9 hb9)
            clear hb9 HI9 HLK9 HLR9
            go_wp2_with fail
            go_roundw
            case rel => exact ⟨j + 1, by omega, by omega, by go_num, HJ9⟩
            case measure => simp only [intOf]; omega
      by_cases h1 : t.x.do_ = 1
      · rw [h1] at e0
        as_aux_lemma =>
          by_cases hpg : 0 ≤ t.x.pg ∧ t.x.pg < ((n : Nat) : Int)
          · obtain ⟨k, hk⟩ : ∃ k : Nat, t.x.pg = ((k : Nat) : Int) := ⟨t.x.pg.toNat, by omega⟩
            have hkn : k < n := by omega
            have HKN := hide hkn
            have HK := hide hk
            have FQ := hide (F1.out.set (by omega) hkn (pageOf_length _) (page_bytes HIN.out.b.bs.2.1) t.x.n)
            clear hpg hk hkn
            have HCW : Hid (Came W1 t.b.a t.b.len t.b.cap t.bs) := ⟨HIN.out.b.bs.keep P1.out.below (Nat.le_refl _), HIN.out.b.nil, HIN.out.b.le, HIN.out.b.big⟩
            have H24 : Hid (∀ {Q : Exit → Act → World → Prop} {A' : Act}, _) := fun {Q A'} => acts24 W1 p (wr.heap.size + 1 + 1) t.x t.b t.q 0 (Pg W1 t.bs) (fun w3 => PaX w w3 p d gb n tot m (P.set k (pageOf t.bs) t.x.n) P (fun k => k = wr.heap.size + 1 + 1) ∧ KeptG (fun k => k = wr.heap.size + 1 + 1) W1 w3) BX1.out (page24 HCW.out) (fun y w2 hp => BX1.out.keep hp.1) (fun y w2 hp => put24 P1.out F1.out HK.out HKN.out HIN.out.wn y w2 hp) (fun w3 hp => BX1.out.keepG hp.2 rfl) (Q := Q) (A := A')
            go_wp2_with (first | refine wpList_load _ rfl 48 (.tmp 73) rfl (.pointer (some ⟨b, off + j * 5, none⟩)) _ rfl HLD.out ?_ | refine wpList_store _ rfl rfl 48 (.tmp 19) (.tmp 74) rfl (.pointer (some ⟨wr.heap.size + 1 + 1, 0, none⟩)) _ rfl rfl W1 HSA.out ?_)
            refine Pl.region_is (ops := Pl.find 24 ((Tryz.f3.body).getD .skip)) (by kernel_rfl) ?_
            refine H24.out (by rfl) rfl (by rfl) (by rfl) ?_
            rintro u2 w2 ⟨hP2, hG2⟩
            simp only [Act.put, List.setIfInBounds_toArray, List.set_cons_zero, List.set_cons_succ]
            have P2 := hide hP2
            have BX2 := hide (BX1.out.keepG hG2 rfl)
            have HCW2 : Hid (Came w2 t.b.a t.b.len t.b.cap t.bs) := ⟨HIN.out.b.bs.keep P2.out.below (Nat.le_refl _), HIN.out.b.nil, HIN.out.b.le, HIN.out.b.big⟩
            obtain ⟨d2, Ld2, v2, s2, hbx2, hcall⟩ := pd_put hP2 HNA.out F1.out (by omega) (by omega) k HKN.out t.x.n
            have H25 : Hid (∀ {Q : Exit → Act → World → Prop} {A' : Act}, _) := fun {Q A'} => acts25 w2 gb (wr.heap.size + 1 + 1) t.x t.b t.q 0 d2 Ld2 v2 P.h s2 P.sy (Pg w2 t.bs) (fun z w3 => Dn w w2 p d gb n tot (m + 4) (P.set k (pageOf t.bs) t.x.n) (P.set k (pageOf t.bs) t.x.n) (fun k => k = wr.heap.size + 1 + 1) z w3) (fun W => PaX w W p d gb n tot (m + 4) (P.set k (pageOf t.bs) t.x.n) (P.set k (pageOf t.bs) t.x.n) (fun k => k = wr.heap.size + 1 + 1)) BX2.out (RBlk.below hbx2 (below_drew w2)) (page24 HCW2.out) (fun y w2 hp => BX2.out.keep hp.1) (fun y w3 hp => RBlk.below hbx2 hp.1) (fun y w3 hp => by rw [HK.out]; obtain ⟨hb, rfl, hc⟩ := hp; exact hcall w3 _ _ _ hb hc apart_new) (fun z w3 hp => BX2.out.keep hp.choose_spec.2.2.2.2) (fun z w3 hp => by
              obtain ⟨W, q1, q2, q3, _, _⟩ := hp
              exact ⟨W, q1, BX2.out.keepG q3 rfl, q2⟩) (Q := Q) (A := A')
            clear hP2 hG2 hcall hbx2 H24
            go_wp2_with fail
            refine Pl.region_is (ops := Pl.find 25 ((Tryz.f3.body).getD .skip)) (by kernel_rfl) ?_
            refine H25.out (by rfl) rfl (by rfl) (by rfl) ?_
            rintro u3 W3 hP3
            simp only [Act.put, List.setIfInBounds_toArray, List.set_cons_zero, List.set_cons_succ]
            have P3 := hide hP3
            have HV1 := hide (run_string_of 0 (bs_empty W3 wr.heap.size))
            have HV2 := hide (run_string_of 0 (bs_empty W3 (wr.heap.size + 1)))
            clear hP3 H25

            obtain ⟨K9, L9, X9, d9, Ld9, v9, s9, hPa9⟩ := P3.out
            have HLR9 := hide (ldR hPa9.box)
            have HLK9 := hide (plike_any poolS_holds hPa9.mm FQ.out hPa9.rp (by omega) (by omega))
            have HI9 : Hid (∀ w9, Below (W3 : World).heap.size W3 w9 → ActsI w p d gb n l (j + 1) w9) := fun w9 hb9 => ⟨P.set k (pageOf t.bs) t.x.n, tot, m + 4, (P3.out.keep hb9).drop, FQ.out.more (by omega) (by omega), by omega, by omega⟩
            unfold at0 at HLK9
            clear hPa9
            go_wp2_with (first | refine wpList_convG _ (by rfl) 32 9 (.tmp 194) rfl (.slice (some ⟨wr.heap.size, 0, none⟩) 0 0) _ rfl _ HV1.out ?_ | refine wpList_convG _ (by rfl) 32 9 (.tmp 196) rfl (.slice (some ⟨wr.heap.size + 1, 0, none⟩) 0 0) _ rfl _ HV2.out ?_ | refine wpList_loadG _ (by rfl) 43 (.tmp 13) rfl (.pointer (some ⟨gb, 0, none⟩)) _ rfl HLR9.out ?_)
            refine HLK9.out.mono ?_
            rintro e w9 ⟨rfl, hb9⟩
            have HJ9 := hide (HI9.out w9 hb9)
            clear hb9 HI9 HLK9 HLR9
            go_wp2_with fail
            go_roundw
            case rel => exact ⟨j + 1, by omega, by omega, by go_num, HJ9⟩
            case measure => simp only [intOf]; omega
          · have HPG := hide hpg
            clear hpg
            have HCW : Hid (Came W1 t.b.a t.b.len t.b.cap t.bs) := ⟨HIN.out.b.bs.keep P1.out.below (Nat.le_refl _), HIN.out.b.nil, HIN.out.b.le, HIN.out.b.big⟩
            have H24 : Hid (∀ {Q : Exit → Act → World → Prop} {A' : Act}, _) := fun {Q A'} => acts24 W1 p (wr.heap.size + 1 + 1) t.x t.b t.q 3 (Pg W1 t.bs) (fun w3 => PaX w w3 p d gb n tot m (P) P (fun k => k = wr.heap.size + 1 + 1) ∧ KeptG (fun k => k = wr.heap.size + 1 + 1) W1 w3) BX1.out (page24 HCW.out) (fun y w2 hp => BX1.out.keep hp.1) (fun y w2 hp => put24N P1.out F1.out HPG.out y w2 hp) (fun w3 hp => BX1.out.keepG hp.2 rfl) (Q := Q) (A := A')
            go_wp2_with (first | refine wpList_load _ rfl 48 (.tmp 73) rfl (.pointer (some ⟨b, off + j * 5, none⟩)) _ rfl HLD.out ?_ | refine wpList_store _ rfl rfl 48 (.tmp 19) (.tmp 74) rfl (.pointer (some ⟨wr.heap.size + 1 + 1, 0, none⟩)) _ rfl rfl W1 HSA.out ?_)
            refine Pl.region_is (ops := Pl.find 24 ((Tryz.f3.body).getD .skip)) (by kernel_rfl) ?_
            refine H24.out (by rfl) rfl (by rfl) (by rfl) ?_
            rintro u2 w2 ⟨hP2, hG2⟩
            simp only [Act.put, List.setIfInBounds_toArray, List.set_cons_zero, List.set_cons_succ]
            have P2 := hide hP2
            have BX2 := hide (BX1.out.keepG hG2 rfl)
            have HCW2 : Hid (Came w2 t.b.a t.b.len t.b.cap t.bs) := ⟨HIN.out.b.bs.keep P2.out.below (Nat.le_refl _), HIN.out.b.nil, HIN.out.b.le, HIN.out.b.big⟩
            obtain ⟨d2, Ld2, v2, s2, hbx2, hcall⟩ := pd_putN hP2 HNA.out (by omega) t.x.pg HPG.out
            have H25 : Hid (∀ {Q : Exit → Act → World → Prop} {A' : Act}, _) := fun {Q A'} => acts25 w2 gb (wr.heap.size + 1 + 1) t.x t.b t.q 3 d2 Ld2 v2 P.h s2 P.sy (Pg w2 t.bs) (fun z w3 => Dn w w2 p d gb n tot (m) (P) (P) (fun k => k = wr.heap.size + 1 + 1) z w3) (fun W => PaX w W p d gb n tot (m) (P) (P) (fun k => k = wr.heap.size + 1 + 1)) BX2.out (RBlk.below hbx2 (below_drew w2)) (page24 HCW2.out) (fun y w2 hp => BX2.out.keep hp.1) (fun y w3 hp => RBlk.below hbx2 hp.1) (fun y w3 hp => hcall w3 _ _ hp.1) (fun z w3 hp => BX2.out.keep hp.choose_spec.2.2.2.2) (fun z w3 hp => by
              obtain ⟨W, q1, q2, q3, _, _⟩ := hp
              exact ⟨W, q1, BX2.out.keepG q3 rfl, q2⟩) (Q := Q) (A := A')
            clear hP2 hG2 hcall hbx2 H24
            go_wp2_with fail
            refine Pl.region_is (ops := Pl.find 25 ((Tryz.f3.body).getD .skip)) (by kernel_rfl) ?_
            refine H25.out (by rfl) rfl (by rfl) (by rfl) ?_
            rintro u3 W3 hP3
            simp only [Act.put, List.setIfInBounds_toArray, List.set_cons_zero, List.set_cons_succ]
            have P3 := hide hP3
            have HV1 := hide (run_string_of 0 (bs_empty W3 wr.heap.size))
            have HV2 := hide (run_string_of 0 (bs_empty W3 (wr.heap.size + 1)))
            clear hP3 H25

            obtain ⟨K9, L9, X9, d9, Ld9, v9, s9, hPa9⟩ := P3.out
            have HLR9 := hide (ldR hPa9.box)
            have HLK9 := hide (plike_any poolS_holds hPa9.mm F1.out hPa9.rp (by omega) (by omega))
            have HI9 : Hid (∀ w9, Below (W3 : World).heap.size W3 w9 → ActsI w p d gb n l (j + 1) w9) := fun w9 hb9 => ⟨P, tot, m, (P3.out.keep hb9).drop, F1.out.more (by omega) (by omega), by omega, by omega⟩
            unfold at0 at HLK9
            clear hPa9
            go_wp2_with (first | refine wpList_convG _ (by rfl) 32 9 (.tmp 194) rfl (.slice (some ⟨wr.heap.size, 0, none⟩) 0 0) _ rfl _ HV1.out ?_ | refine wpList_convG _ (by rfl) 32 9 (.tmp 196) rfl (.slice (some ⟨wr.heap.size + 1, 0, none⟩) 0 0) _ rfl _ HV2.out ?_ | refine wpList_loadG _ (by rfl) 43 (.tmp 13) rfl (.pointer (some ⟨gb, 0, none⟩)) _ rfl HLR9.out ?_)
            refine HLK9.out.mono ?_
            rintro e w9 ⟨rfl, hb9⟩
            have HJ9 := hide (HI9.out w9 hb9)
            clear hb9 HI9 HLK9 HLR9
            go_wp2_with fail
            go_roundw
            case rel => exact ⟨j + 1, by omega, by omega, by go_num, HJ9⟩
            case measure => simp only [intOf]; omega
      by_cases h2 : t.x.do_ = 2
      · rw [h2] at e0
        as_aux_lemma =>
          by_cases hpg : 0 ≤ t.x.pg ∧ t.x.pg < ((n : Nat) : Int)
          · obtain ⟨k, hk⟩ : ∃ k : Nat, t.x.pg = ((k : Nat) : Int) := ⟨t.x.pg.toNat, by omega⟩
            have hkn : k < n := by omega
            have HKN := hide hkn
            have HK := hide hk
            rw [hk] at e1
            have HCW : Hid (Came W1 t.b.a t.b.len t.b.cap t.bs) := ⟨HIN.out.b.bs.keep P1.out.below (Nat.le_refl _), HIN.out.b.nil, HIN.out.b.le, HIN.out.b.big⟩
            by_cases h512 : t.b.len = 512
            · have HC5 : Hid (Came W1 t.b.a 512 t.b.cap t.bs) := by have q := HCW.out; rw [h512] at q; exact q
              have HAP : Hid (∀ w', Apart w w' t.b.a 512) := fun w' => by have q := apart_old (w := w') HIN.out.b; rw [h512] at q; exact q
              have HLEN := hide h512
              rw [h512] at e2
              have FQ := hide (F1.out.set (by omega) hkn (by rw [HC5.out.bs.1]) HIN.out.b.bs.2.1 t.x.n)
              clear hpg hk hkn h512
              have HR1 := hide (pa_put P1.out F1.out k HKN.out W1 (Below.refl _ _) t.b.a t.b.cap t.bs HC5.out (HAP.out W1) t.x.n HIN.out.wn)
              unfold at0 at HR1
              go_wp2_with (first | refine wpList_load _ rfl 48 (.tmp 73) rfl (.pointer (some ⟨b, off + j * 5, none⟩)) _ rfl HLD.out ?_ | refine wpList_store _ rfl rfl 48 (.tmp 19) (.tmp 74) rfl (.pointer (some ⟨wr.heap.size + 1 + 1, 0, none⟩)) _ rfl rfl W1 HSA.out ?_)
              refine HR1.out.mono ?_
              rintro e w2 ⟨rfl, hP2, hG2⟩
              have P2 := hide hP2
              have BX2 := hide (BX1.out.keepG hG2 rfl)
              obtain ⟨d2, Ld2, v2, s2, hbx2, hcall⟩ := pd_put hP2 HNA.out F1.out (by omega) (by omega) k HKN.out t.x.n
              have HLR2 := hide (ldR hbx2)
              have HC2 := hide hcall
              replace HC2 := hide (HC2.out w2 t.b.a t.b.cap t.bs (Below.refl _ _) (by have q : Came w2 t.b.a t.b.len t.b.cap t.bs := ⟨HIN.out.b.bs.keep P2.out.below (Nat.le_refl _), HIN.out.b.nil, HIN.out.b.le, HIN.out.b.big⟩; rw [HLEN.out] at q; exact q) (HAP.out w2))
              have f1 := BX2.out.c1
              have f2 := BX2.out.c2
              have f3 := BX2.out.c3
              rw [HK.out] at f1
              rw [HLEN.out] at f2
              clear hP2 hG2 hbx2 hcall HR1
              go_wp2_with (first | refine wpList_load _ rfl 43 (.tmp 13) rfl (.pointer (some ⟨gb, 0, none⟩)) _ rfl HLR2.out ?_)
              refine HC2.out.mono ?_
              rintro e w3 ⟨x3, rfl, ⟨W3, hst3, hP3, hG3, hC3, _⟩⟩
              have HS3 := hide hst3
              have P3 := hide hP3
              have HV1 := hide (run_string_of 0 (bs_empty W3 wr.heap.size))
              have HV2 := hide (run_string_of 0 (bs_empty W3 (wr.heap.size + 1)))
              clear hst3 hP3 hG3 hC3 HC2 HLR2

              obtain ⟨K9, L9, X9, d9, Ld9, v9, s9, hPa9⟩ := P3.out
              have HLR9 := hide (ldR hPa9.box)
              have HLK9 := hide (plike_any poolS_holds hPa9.mm FQ.out hPa9.rp (by omega) (by omega))
              have HI9 : Hid (∀ w9, Below (W3 : World).heap.size W3 w9 → ActsI w p d gb n l (j + 1) w9) := fun w9 hb9 => ⟨P.set k t.bs t.x.n, tot, m + 4, (P3.out.keep hb9).drop, FQ.out.more (by omega) (by omega), by omega, by omega⟩
              unfold at0 at HLK9
              clear hPa9
              go_wp2_with (first | refine wpList_store _ rfl rfl 43 (.tmp 13) (.tmp 146) rfl (.pointer (some ⟨gb, 0, none⟩)) x3 rfl rfl W3 HS3.out ?_ | refine wpList_convG _ (by rfl) 32 9 (.tmp 194) rfl (.slice (some ⟨wr.heap.size, 0, none⟩) 0 0) _ rfl _ HV1.out ?_ | refine wpList_convG _ (by rfl) 32 9 (.tmp 196) rfl (.slice (some ⟨wr.heap.size + 1, 0, none⟩) 0 0) _ rfl _ HV2.out ?_ | refine wpList_loadG _ (by rfl) 43 (.tmp 13) rfl (.pointer (some ⟨gb, 0, none⟩)) _ rfl HLR9.out ?_)
              refine HLK9.out.mono ?_
              rintro e w9 ⟨rfl, hb9⟩
              have HJ9 := hide (HI9.out w9 hb9)
              clear hb9 HI9 HLK9 HLR9
              go_wp2_with fail
              go_roundw
              case rel => exact ⟨j + 1, by omega, by omega, by go_num, HJ9⟩
              case measure => simp only [intOf]; omega
            · have HL5 := hide h512
              have HBIG := hide HIN.out.b.big
              clear hpg hk hkn h512
              have HR1 := hide (pa_putA P1.out F1.out k HKN.out t.b.a t.b.len t.b.cap HL5.out HBIG.out t.x.n)
              unfold at0 at HR1
              go_wp2_with (first | refine wpList_load _ rfl 48 (.tmp 73) rfl (.pointer (some ⟨b, off + j * 5, none⟩)) _ rfl HLD.out ?_ | refine wpList_store _ rfl rfl 48 (.tmp 19) (.tmp 74) rfl (.pointer (some ⟨wr.heap.size + 1 + 1, 0, none⟩)) _ rfl rfl W1 HSA.out ?_)
              refine HR1.out.mono ?_
              rintro e w2 ⟨rfl, hP2, hG2⟩
              have P2 := hide hP2
              have BX2 := hide (BX1.out.keepG hG2 rfl)
              obtain ⟨d2, Ld2, v2, s2, hbx2, hcall⟩ := pd_putA hP2 HNA.out (by omega) k HKN.out t.b.a t.b.len t.b.cap (.int .i64 t.x.n) HL5.out
              have HLR2 := hide (ldR hbx2)
              have HC2 := hide hcall
              have f1 := BX2.out.c1
              have f2 := BX2.out.c2
              have f3 := BX2.out.c3
              rw [HK.out] at f1
              clear hP2 hG2 hbx2 hcall HR1
              go_wp2_with (first | refine wpList_load _ rfl 43 (.tmp 13) rfl (.pointer (some ⟨gb, 0, none⟩)) _ rfl HLR2.out ?_)
              refine HC2.out.mono ?_
              rintro e w3 ⟨x3, rfl, ⟨W3, hst3, hP3, hG3, hC3, _⟩⟩
              have HS3 := hide hst3
              have P3 := hide hP3
              have HV1 := hide (run_string_of 0 (bs_empty W3 wr.heap.size))
              have HV2 := hide (run_string_of 0 (bs_empty W3 (wr.heap.size + 1)))
              clear hst3 hP3 hG3 hC3 HC2 HLR2

              obtain ⟨K9, L9, X9, d9, Ld9, v9, s9, hPa9⟩ := P3.out
              have HLR9 := hide (ldR hPa9.box)
              have HLK9 := hide (plike_any poolS_holds hPa9.mm F1.out hPa9.rp (by omega) (by omega))
              have HI9 : Hid (∀ w9, Below (W3 : World).heap.size W3 w9 → ActsI w p d gb n l (j + 1) w9) := fun w9 hb9 => ⟨P, tot, m, (P3.out.keep hb9).drop, F1.out.more (by omega) (by omega), by omega, by omega⟩
              unfold at0 at HLK9
              clear hPa9
              go_wp2_with (first | refine wpList_store _ rfl rfl 43 (.tmp 13) (.tmp 146) rfl (.pointer (some ⟨gb, 0, none⟩)) x3 rfl rfl W3 HS3.out ?_ | refine wpList_convG _ (by rfl) 32 9 (.tmp 194) rfl (.slice (some ⟨wr.heap.size, 0, none⟩) 0 0) _ rfl _ HV1.out ?_ | refine wpList_convG _ (by rfl) 32 9 (.tmp 196) rfl (.slice (some ⟨wr.heap.size + 1, 0, none⟩) 0 0) _ rfl _ HV2.out ?_ | refine wpList_loadG _ (by rfl) 43 (.tmp 13) rfl (.pointer (some ⟨gb, 0, none⟩)) _ rfl HLR9.out ?_)
              refine HLK9.out.mono ?_
              rintro e w9 ⟨rfl, hb9⟩
              have HJ9 := hide (HI9.out w9 hb9)
              clear hb9 HI9 HLK9 HLR9
              go_wp2_with fail
              go_roundw
              case rel => exact ⟨j + 1, by omega, by omega, by go_num, HJ9⟩
              case measure => simp only [intOf]; omega
          · have HPG := hide hpg
            clear hpg
            have HR1 := hide (pa_putN P1.out F1.out t.x.pg HPG.out W1 (Below.refl _ _) t.b.a t.b.len t.b.cap t.x.n)
            unfold at0 at HR1
            go_wp2_with (first | refine wpList_load _ rfl 48 (.tmp 73) rfl (.pointer (some ⟨b, off + j * 5, none⟩)) _ rfl HLD.out ?_ | refine wpList_store _ rfl rfl 48 (.tmp 19) (.tmp 74) rfl (.pointer (some ⟨wr.heap.size + 1 + 1, 0, none⟩)) _ rfl rfl W1 HSA.out ?_)
            refine HR1.out.mono ?_
            rintro e w2 ⟨rfl, hP2, hG2⟩
            have P2 := hide hP2
            have BX2 := hide (BX1.out.keepG hG2 rfl)
            obtain ⟨d2, Ld2, v2, s2, hbx2, hcall⟩ := pd_putN hP2 HNA.out (by omega) t.x.pg HPG.out
            have HLR2 := hide (ldR hbx2)
            have HC2 := hide hcall
            replace HC2 := hide (HC2.out w2 (.slice t.b.a t.b.len t.b.cap) (.int .i64 t.x.n) (Below.refl _ _))
            have f1 := BX2.out.c1
            have f2 := BX2.out.c2
            have f3 := BX2.out.c3
            clear hP2 hG2 hbx2 hcall HR1
            go_wp2_with (first | refine wpList_load _ rfl 43 (.tmp 13) rfl (.pointer (some ⟨gb, 0, none⟩)) _ rfl HLR2.out ?_)
            refine HC2.out.mono ?_
            rintro e w3 ⟨x3, rfl, ⟨W3, hst3, hP3, hG3, hC3, _⟩⟩
            have HS3 := hide hst3
            have P3 := hide hP3
            have HV1 := hide (run_string_of 0 (bs_empty W3 wr.heap.size))
            have HV2 := hide (run_string_of 0 (bs_empty W3 (wr.heap.size + 1)))
            clear hst3 hP3 hG3 hC3 HC2 HLR2

            obtain ⟨K9, L9, X9, d9, Ld9, v9, s9, hPa9⟩ := P3.out
            have HLR9 := hide (ldR hPa9.box)
            have HLK9 := hide (plike_any poolS_holds hPa9.mm F1.out hPa9.rp (by omega) (by omega))
            have HI9 : Hid (∀ w9, Below (W3 : World).heap.size W3 w9 → ActsI w p d gb n l (j + 1) w9) := fun w9 hb9 => ⟨P, tot, m, (P3.out.keep hb9).drop, F1.out.more (by omega) (by omega), by omega, by omega⟩
            unfold at0 at HLK9
            clear hPa9
            go_wp2_with (first | refine wpList_store _ rfl rfl 43 (.tmp 13) (.tmp 146) rfl (.pointer (some ⟨gb, 0, none⟩)) x3 rfl rfl W3 HS3.out ?_ | refine wpList_convG _ (by rfl) 32 9 (.tmp 194) rfl (.slice (some ⟨wr.heap.size, 0, none⟩) 0 0) _ rfl _ HV1.out ?_ | refine wpList_convG _ (by rfl) 32 9 (.tmp 196) rfl (.slice (some ⟨wr.heap.size + 1, 0, none⟩) 0 0) _ rfl _ HV2.out ?_ | refine wpList_loadG _ (by rfl) 43 (.tmp 13) rfl (.pointer (some ⟨gb, 0, none⟩)) _ rfl HLR9.out ?_)
            refine HLK9.out.mono ?_
            rintro e w9 ⟨rfl, hb9⟩
            have HJ9 := hide (HI9.out w9 hb9)
            clear hb9 HI9 HLK9 HLR9
            go_wp2_with fail
            go_roundw
            case rel => exact ⟨j + 1, by omega, by omega, by go_num, HJ9⟩
            case measure => simp only [intOf]; omega
      by_cases h3 : t.x.do_ = 3
      · rw [h3] at e0
        as_aux_lemma =>
          obtain ⟨d2, Ld2, v2, s2, hbx2, hcall⟩ := pd_lists P1.out (by omega)
          have HLR1 := hide (ldR hbx2)
          have HC1 := hide hcall
          clear hbx2 hcall
          go_wp2_with (first | refine wpList_load _ rfl 48 (.tmp 73) rfl (.pointer (some ⟨b, off + j * 5, none⟩)) _ rfl HLD.out ?_ | refine wpList_store _ rfl rfl 48 (.tmp 19) (.tmp 74) rfl (.pointer (some ⟨wr.heap.size + 1 + 1, 0, none⟩)) _ rfl rfl W1 HSA.out ?_ | refine wpList_load _ rfl 43 (.tmp 13) rfl (.pointer (some ⟨gb, 0, none⟩)) _ rfl HLR1.out ?_)
          refine HC1.out.mono ?_
          rintro e w2 ⟨⟨hP2, hG2⟩, ⟨ia, il, ic⟩, ⟨ja, jl, jc⟩, rfl, hjl⟩
          simp only at hjl
          have P2 := hide hP2
          have HR2 := hide (pa_flush hP2 F1.out)
          unfold at0 at HR2
          rw [← hjl] at HR2
          clear hP2 hG2 HC1 HLR1 hjl
          simp only [Sl.val]
          go_wp2_with fail
          refine HR2.out.mono ?_
          rintro e w3 ⟨⟨hP3, hG3⟩, rfl⟩
          have P4 := hide hP3
          have FQ := hide (F1.out.flush (by omega))
          obtain ⟨d4, Ld4, v4, s4, hbx4, hcall4⟩ := pd_flush hP3 HNA.out F1.out (by omega) (by omega)
          have HLR2 := hide (ldR hbx4)
          have HC2 := hide hcall4
          clear hP3 hG3 hbx4 hcall4 HR2
          go_wp2_with (first | refine wpList_load _ rfl 43 (.tmp 13) rfl (.pointer (some ⟨gb, 0, none⟩)) _ rfl HLR2.out ?_)
          refine HC2.out.mono ?_
          rintro e w5 ⟨x3, m2, rfl, hm2, ⟨W3, hst3, hP3, hG3, hC3, _⟩⟩
          have HS3 := hide hst3
          have P3 := hide hP3
          have HV1 := hide (run_string_of 0 (bs_empty W3 wr.heap.size))
          have HV2 := hide (run_string_of 0 (bs_empty W3 (wr.heap.size + 1)))
          clear hst3 hP3 hG3 hC3 HC2 HLR2

          obtain ⟨K9, L9, X9, d9, Ld9, v9, s9, hPa9⟩ := P3.out
          have HLR9 := hide (ldR hPa9.box)
          have HLK9 := hide (plike_any poolS_holds hPa9.mm FQ.out hPa9.rp (by omega) (by omega))
          have HI9 : Hid (∀ w9, Below (W3 : World).heap.size W3 w9 → ActsI w p d gb n l (j + 1) w9) := fun w9 hb9 => ⟨P.flush n, tot, m2, (P3.out.keep hb9).drop, FQ.out.more (by omega) (by omega), by omega, by omega⟩
          unfold at0 at HLK9
          clear hPa9
          go_wp2_with (first | refine wpList_store _ rfl rfl 43 (.tmp 13) (.tmp 161) rfl (.pointer (some ⟨gb, 0, none⟩)) x3 rfl rfl W3 HS3.out ?_ | refine wpList_convG _ (by rfl) 32 9 (.tmp 194) rfl (.slice (some ⟨wr.heap.size, 0, none⟩) 0 0) _ rfl _ HV1.out ?_ | refine wpList_convG _ (by rfl) 32 9 (.tmp 196) rfl (.slice (some ⟨wr.heap.size + 1, 0, none⟩) 0 0) _ rfl _ HV2.out ?_ | refine wpList_loadG _ (by rfl) 43 (.tmp 13) rfl (.pointer (some ⟨gb, 0, none⟩)) _ rfl HLR9.out ?_)
          refine HLK9.out.mono ?_
          rintro e w9 ⟨rfl, hb9⟩
          have HJ9 := hide (HI9.out w9 hb9)
          clear hb9 HI9 HLK9 HLR9
          go_wp2_with fail
          go_roundw
          case rel => exact ⟨j + 1, by omega, by omega, by go_num, HJ9⟩
          case measure => simp only [intOf]; omega
      by_cases h4 : t.x.do_ = 4
      · rw [h4] at e0
        as_aux_lemma =>
          by_cases hpg : 0 ≤ t.x.pg ∧ (P.m t.x.pg.toNat).isSome = true
          · obtain ⟨k, hk⟩ : ∃ k : Nat, t.x.pg = ((k : Nat) : Int) := ⟨t.x.pg.toNat, by omega⟩
            rw [hk, Int.toNat_natCast] at hpg
            rw [hk] at e1
            have HKS := hide hpg.2
            have HK := hide hk
            have FQ := hide (F1.out.evict (by omega) k hpg.2)
            clear hpg hk
            have HR1 := hide (pa_evict P1.out F1.out k HKS.out)
            unfold at0 at HR1
            go_wp2_with (first | refine wpList_load _ rfl 48 (.tmp 73) rfl (.pointer (some ⟨b, off + j * 5, none⟩)) _ rfl HLD.out ?_ | refine wpList_store _ rfl rfl 48 (.tmp 19) (.tmp 74) rfl (.pointer (some ⟨wr.heap.size + 1 + 1, 0, none⟩)) _ rfl rfl W1 HSA.out ?_)
            refine HR1.out.mono ?_
            rintro e w2 ⟨⟨hP2, hG2⟩, rfl⟩
            have P2 := hide hP2
            have BX2 := hide (BX1.out.keepG hG2 rfl)
            obtain ⟨d2, Ld2, v2, s2, hbx2, hcall⟩ := pd_evict hP2 HNA.out F1.out (by omega) (by omega) k HKS.out
            have HLR2 := hide (ldR hbx2)
            have HC2 := hide hcall
            have f1 := BX2.out.c1
            rw [HK.out] at f1
            clear hP2 hG2 hbx2 hcall HR1
            go_wp2_with (first | refine wpList_load _ rfl 43 (.tmp 13) rfl (.pointer (some ⟨gb, 0, none⟩)) _ rfl HLR2.out ?_)
            refine HC2.out.mono ?_
            rintro e w3 ⟨x3, rfl, ⟨W3, hst3, hP3, hG3, hC3, _⟩⟩
            have HS3 := hide hst3
            have P3 := hide hP3
            have HV1 := hide (run_string_of 0 (bs_empty W3 wr.heap.size))
            have HV2 := hide (run_string_of 0 (bs_empty W3 (wr.heap.size + 1)))
            clear hst3 hP3 hG3 hC3 HC2 HLR2

            obtain ⟨K9, L9, X9, d9, Ld9, v9, s9, hPa9⟩ := P3.out
            have HLR9 := hide (ldR hPa9.box)
            have HLK9 := hide (plike_any poolS_holds hPa9.mm FQ.out hPa9.rp (by omega) (by omega))
            have HI9 : Hid (∀ w9, Below (W3 : World).heap.size W3 w9 → ActsI w p d gb n l (j + 1) w9) := fun w9 hb9 => ⟨P.evict k, tot, m + 4, (P3.out.keep hb9).drop, FQ.out.more (by omega) (by omega), by omega, by omega⟩
            unfold at0 at HLK9
            clear hPa9
            go_wp2_with (first | refine wpList_store _ rfl rfl 43 (.tmp 13) (.tmp 173) rfl (.pointer (some ⟨gb, 0, none⟩)) x3 rfl rfl W3 HS3.out ?_ | refine wpList_convG _ (by rfl) 32 9 (.tmp 194) rfl (.slice (some ⟨wr.heap.size, 0, none⟩) 0 0) _ rfl _ HV1.out ?_ | refine wpList_convG _ (by rfl) 32 9 (.tmp 196) rfl (.slice (some ⟨wr.heap.size + 1, 0, none⟩) 0 0) _ rfl _ HV2.out ?_ | refine wpList_loadG _ (by rfl) 43 (.tmp 13) rfl (.pointer (some ⟨gb, 0, none⟩)) _ rfl HLR9.out ?_)
            refine HLK9.out.mono ?_
            rintro e w9 ⟨rfl, hb9⟩
            have HJ9 := hide (HI9.out w9 hb9)
            clear hb9 HI9 HLK9 HLR9
            go_wp2_with fail
            go_roundw
            case rel => exact ⟨j + 1, by omega, by omega, by go_num, HJ9⟩
            case measure => simp only [intOf]; omega
          · have HPG := hide hpg
            clear hpg
            have HR1 := hide (pa_evictN P1.out F1.out t.x.pg HPG.out HIN.out.wp)
            unfold at0 at HR1
            go_wp2_with (first | refine wpList_load _ rfl 48 (.tmp 73) rfl (.pointer (some ⟨b, off + j * 5, none⟩)) _ rfl HLD.out ?_ | refine wpList_store _ rfl rfl 48 (.tmp 19) (.tmp 74) rfl (.pointer (some ⟨wr.heap.size + 1 + 1, 0, none⟩)) _ rfl rfl W1 HSA.out ?_)
            refine HR1.out.mono ?_
            rintro e w2 ⟨⟨hP2, hG2⟩, rfl⟩
            have P2 := hide hP2
            have BX2 := hide (BX1.out.keepG hG2 rfl)
            obtain ⟨d2, Ld2, v2, s2, hbx2, hcall⟩ := pd_evictN hP2 HNA.out t.x.pg HPG.out
            have HLR2 := hide (ldR hbx2)
            have HC2 := hide hcall
            have f1 := BX2.out.c1
            clear hP2 hG2 hbx2 hcall HR1
            go_wp2_with (first | refine wpList_load _ rfl 43 (.tmp 13) rfl (.pointer (some ⟨gb, 0, none⟩)) _ rfl HLR2.out ?_)
            refine HC2.out.mono ?_
            rintro e w3 ⟨x3, rfl, ⟨W3, hst3, hP3, hG3, hC3, _⟩⟩
            have HS3 := hide hst3
            have P3 := hide hP3
            have HV1 := hide (run_string_of 0 (bs_empty W3 wr.heap.size))
            have HV2 := hide (run_string_of 0 (bs_empty W3 (wr.heap.size + 1)))
            clear hst3 hP3 hG3 hC3 HC2 HLR2

            obtain ⟨K9, L9, X9, d9, Ld9, v9, s9, hPa9⟩ := P3.out
            have HLR9 := hide (ldR hPa9.box)
            have HLK9 := hide (plike_any poolS_holds hPa9.mm F1.out hPa9.rp (by omega) (by omega))
            have HI9 : Hid (∀ w9, Below (W3 : World).heap.size W3 w9 → ActsI w p d gb n l (j + 1) w9) := fun w9 hb9 => ⟨P, tot, m, (P3.out.keep hb9).drop, F1.out.more (by omega) (by omega), by omega, by omega⟩
            unfold at0 at HLK9
            clear hPa9
            go_wp2_with (first | refine wpList_store _ rfl rfl 43 (.tmp 13) (.tmp 173) rfl (.pointer (some ⟨gb, 0, none⟩)) x3 rfl rfl W3 HS3.out ?_ | refine wpList_convG _ (by rfl) 32 9 (.tmp 194) rfl (.slice (some ⟨wr.heap.size, 0, none⟩) 0 0) _ rfl _ HV1.out ?_ | refine wpList_convG _ (by rfl) 32 9 (.tmp 196) rfl (.slice (some ⟨wr.heap.size + 1, 0, none⟩) 0 0) _ rfl _ HV2.out ?_ | refine wpList_loadG _ (by rfl) 43 (.tmp 13) rfl (.pointer (some ⟨gb, 0, none⟩)) _ rfl HLR9.out ?_)
            refine HLK9.out.mono ?_
            rintro e w9 ⟨rfl, hb9⟩
            have HJ9 := hide (HI9.out w9 hb9)
            clear hb9 HI9 HLK9 HLR9
            go_wp2_with fail
            go_roundw
            case rel => exact ⟨j + 1, by omega, by omega, by go_num, HJ9⟩
            case measure => simp only [intOf]; omega
      by_cases h5 : t.x.do_ = 5
      · rw [h5] at e0
        as_aux_lemma =>
          have HCW : Hid (Came W1 t.b.a t.b.len t.b.cap t.bs) := ⟨HIN.out.b.bs.keep P1.out.below (Nat.le_refl _), HIN.out.b.nil, HIN.out.b.le, HIN.out.b.big⟩
          have HSS : Hid (P.D.ss.length + t.b.len ≤ 65536) := ss_small P1.out (by omega)
          have FQ := hide (F1.out.append t.bs (by rw [HCW.out.bs.1]; exact HSS.out))

          have HR1 := hide (pa_append P1.out F1.out t.b.a t.b.len t.b.cap t.bs HCW.out (apart_old HIN.out.b) HSS.out)
          unfold at0 at HR1
          go_wp2_with (first | refine wpList_load _ rfl 48 (.tmp 73) rfl (.pointer (some ⟨b, off + j * 5, none⟩)) _ rfl HLD.out ?_ | refine wpList_store _ rfl rfl 48 (.tmp 19) (.tmp 74) rfl (.pointer (some ⟨wr.heap.size + 1 + 1, 0, none⟩)) _ rfl rfl W1 HSA.out ?_)
          refine HR1.out.mono ?_
          rintro e w2 ⟨⟨hP2, hG2⟩, rfl⟩
          have P2 := hide hP2
          have BX2 := hide (BX1.out.keepG hG2 rfl)
          obtain ⟨d2, Ld2, v2, s2, hbx2, hcall⟩ := pd_append hP2 HNA.out F1.out (by omega) t.b.a t.b.len t.b.cap t.bs ⟨HIN.out.b.bs.keep P2.out.below (Nat.le_refl _), HIN.out.b.nil, HIN.out.b.le, HIN.out.b.big⟩ (apart_old HIN.out.b) (by omega)
          have HLR2 := hide (ldRD hbx2)
          have HC2 := hide hcall
          have f2 := BX2.out.c2
          clear hP2 hG2 hbx2 hcall HR1
          go_wp2_with (first | refine wpList_load _ rfl 37 (.tmp 182) rfl (.pointer (some ⟨gb, 0, none⟩)) _ rfl HLR2.out ?_)
          refine HC2.out.mono ?_
          rintro e w3 ⟨x3, rfl, ⟨W3, hst3, hP3, hG3, hC3⟩⟩
          have HS3 := hide hst3
          have P3 := hide hP3
          have HV1 := hide (run_string_of 0 (bs_empty W3 wr.heap.size))
          have HV2 := hide (run_string_of 0 (bs_empty W3 (wr.heap.size + 1)))
          clear hst3 hP3 hG3 hC3 HC2 HLR2

          obtain ⟨K9, L9, X9, d9, Ld9, v9, s9, hPa9⟩ := P3.out
          have HLR9 := hide (ldR hPa9.box)
          have HLK9 := hide (plike_any poolS_holds hPa9.mm FQ.out hPa9.rp (by omega) (by omega))
          have HI9 : Hid (∀ w9, Below (W3 : World).heap.size W3 w9 → ActsI w p d gb n l (j + 1) w9) := fun w9 hb9 => ⟨{ P with D := P.D.append t.bs }, tot + t.b.len, m + 1, (P3.out.keep hb9).drop, FQ.out.more (by omega) (by omega), by omega, by omega⟩
          unfold at0 at HLK9
          clear hPa9
          go_wp2_with (first | refine wpList_store _ rfl rfl 37 (.tmp 189) (.tmp 187) rfl (.pointer (some ⟨gb, 0, none⟩)) x3 rfl rfl W3 HS3.out ?_ | refine wpList_convG _ (by rfl) 32 9 (.tmp 194) rfl (.slice (some ⟨wr.heap.size, 0, none⟩) 0 0) _ rfl _ HV1.out ?_ | refine wpList_convG _ (by rfl) 32 9 (.tmp 196) rfl (.slice (some ⟨wr.heap.size + 1, 0, none⟩) 0 0) _ rfl _ HV2.out ?_ | refine wpList_loadG _ (by rfl) 43 (.tmp 13) rfl (.pointer (some ⟨gb, 0, none⟩)) _ rfl HLR9.out ?_)
          refine HLK9.out.mono ?_
          rintro e w9 ⟨rfl, hb9⟩
          have HJ9 := hide (HI9.out w9 hb9)
          clear hb9 HI9 HLK9 HLR9
          go_wp2_with fail
          go_roundw
          case rel => exact ⟨j + 1, by omega, by omega, by go_num, HJ9⟩
          case measure => simp only [intOf]; omega
      as_aux_lemma =>
        have FS := hide F1.out.sync
        have FQ := hide FS.out.synced
        have HR1 := hide (pa_sync P1.out F1.out)
        unfold at0 at HR1
        go_wp2_with (first | refine wpList_load _ rfl 48 (.tmp 73) rfl (.pointer (some ⟨b, off + j * 5, none⟩)) _ rfl HLD.out ?_ | refine wpList_store _ rfl rfl 48 (.tmp 19) (.tmp 74) rfl (.pointer (some ⟨wr.heap.size + 1 + 1, 0, none⟩)) _ rfl rfl W1 HSA.out ?_)
        refine HR1.out.mono ?_
        rintro e w2 ⟨⟨hP2, hG2⟩, rfl⟩
        have HR2 := hide (pa_synced hP2 FS.out)
        unfold at0 at HR2
        clear hP2 hG2 HR1
        go_wp2_with fail
        refine HR2.out.mono ?_
        rintro e w3 ⟨⟨hP3, hG3⟩, rfl⟩
        obtain ⟨d2, Ld2, v2, s2, hbx2, hcall⟩ := pd_sync hP3 HNA.out (by omega)
        have HLR2 := hide (ldRD hbx2)
        have HC2 := hide hcall
        clear hP3 hG3 hbx2 hcall HR2
        go_wp2_with (first | refine wpList_load _ rfl 37 (.tmp 81) rfl (.pointer (some ⟨gb, 0, none⟩)) _ rfl HLR2.out ?_)
        refine HC2.out.mono ?_
        rintro e w4 ⟨y4, rfl, ⟨W4, hst4, hP4, hG4, hC4⟩⟩
        have HS4 := hide hst4
        obtain ⟨d5, Ld5, v5, s5, hbx5, hcall5⟩ := pd_synced hP4 HNA.out (by omega)
        have HLR1 := hide (ldR hbx5)
        have HC5 := hide hcall5
        clear hst4 hP4 hG4 hC4 hbx5 hcall5 HC2 HLR2
        go_wp2_with (first | refine wpList_store _ rfl rfl 37 (.tmp 84) (.tmp 83) rfl (.pointer (some ⟨gb, 0, none⟩)) y4 rfl rfl W4 HS4.out ?_ | refine wpList_load _ rfl 43 (.tmp 13) rfl (.pointer (some ⟨gb, 0, none⟩)) _ rfl HLR1.out ?_)
        refine HC5.out.mono ?_
        rintro e w5 ⟨x3, rfl, ⟨W3, hst3, hP3, hG3, hC3, _⟩⟩
        have HS3 := hide hst3
        have P3 := hide hP3
        have HV1 := hide (run_string_of 0 (bs_empty W3 wr.heap.size))
        have HV2 := hide (run_string_of 0 (bs_empty W3 (wr.heap.size + 1)))
        clear hst3 hP3 hG3 hC3 HC5 HLR1

        obtain ⟨K9, L9, X9, d9, Ld9, v9, s9, hPa9⟩ := P3.out
        have HLR9 := hide (ldR hPa9.box)
        have HLK9 := hide (plike_any poolS_holds hPa9.mm FQ.out hPa9.rp (by omega) (by omega))
        have HI9 : Hid (∀ w9, Below (W3 : World).heap.size W3 w9 → ActsI w p d gb n l (j + 1) w9) := fun w9 hb9 => ⟨({ P with D := P.D.sync } : Po).synced, tot, m, (P3.out.keep hb9).drop, FQ.out.more (by omega) (by omega), by omega, by omega⟩
        unfold at0 at HLK9
        clear hPa9
        go_wp2_with (first | refine wpList_store _ rfl rfl 43 (.tmp 13) (.tmp 86) rfl (.pointer (some ⟨gb, 0, none⟩)) x3 rfl rfl W3 HS3.out ?_ | refine wpList_convG _ (by rfl) 32 9 (.tmp 194) rfl (.slice (some ⟨wr.heap.size, 0, none⟩) 0 0) _ rfl _ HV1.out ?_ | refine wpList_convG _ (by rfl) 32 9 (.tmp 196) rfl (.slice (some ⟨wr.heap.size + 1, 0, none⟩) 0 0) _ rfl _ HV2.out ?_ | refine wpList_loadG _ (by rfl) 43 (.tmp 13) rfl (.pointer (some ⟨gb, 0, none⟩)) _ rfl HLR9.out ?_)
        refine HLK9.out.mono ?_
        rintro e w9 ⟨rfl, hb9⟩
        have HJ9 := hide (HI9.out w9 hb9)
        clear hb9 HI9 HLK9 HLR9
        go_wp2_with fail
        go_roundw
        case rel => exact ⟨j + 1, by omega, by omega, by go_num, HJ9⟩
        case measure => simp only [intOf]; omega
    · have HB5 := hide hSt.out.below
      clear hSt
      have hout : (((j : Nat) : Int) < ((len : Nat) : Int) ∧ j = 40) ∨ ¬ ((j : Nat) : Int) < ((len : Nat) : Int) := by omega
      rcases hout with ⟨i5, hj60⟩ | i5
      · have i6 : ¬ (((j : Nat) : Int) < 40) := by omega
        clear hj60
        go_wp2_with fail
        refine (HAW.out _).mono ?_
        rintro e w9 ⟨rfl, hb9⟩
        have HB9 := hide (HB5.out.trans (hb9.mono HB5.out.size))
        clear hb9
        go_wp2_with fail
        go_ret
        exact ⟨rfl, HB9.out⟩
      · go_wp2_with fail
        refine (HAW.out _).mono ?_
        rintro e w9 ⟨rfl, hb9⟩
        have HB9 := hide (HB5.out.trans (hb9.mono HB5.out.size))
        clear hb9
        go_wp2_with fail
        go_ret
        exact ⟨rfl, HB9.out⟩
end Go.Proofs.YtcaaiihjolnkgaaGreat
