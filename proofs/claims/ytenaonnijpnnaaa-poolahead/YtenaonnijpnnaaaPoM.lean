/-
  The walk of the law of writing ahead, over what the landed pool says.
-/
import Derived.Test.YtenaonnijpnnaaaPoL
namespace Go.Proofs.Ytenaonnijpnnaaa
open Go.RowKit
set_option maxRecDepth 100000
set_option linter.unusedVariables false

theorem Po.Fine.append {P : Po} {n c : Nat} (h : P.Fine n c) (b : List Nat) (hs : P.D.ss.length + b.length ≤ 65536) : ({ P with D := P.D.append b } : Po).Fine n c := by
  have e := h.wet.dev.append_is b
  have hsp : (P.D.append b).sp = P.D.sp := by rw [e]
  refine ⟨⟨⟨by show (P.D.append b).sp.length = _; rw [hsp]; exact h.ok.sp, h.ok.n64, h.ok.sh, fun k s hk hd => by show s.b = (P.D.append b).page k; unfold Ds.page; rw [hsp]; exact h.ok.clean k s hk hd⟩, ⟨h.ok.may, h.ok.pin, h.ok.inn⟩⟩, ⟨h.wet.dev.append b, h.wet.sh⟩, h.cap, ?_⟩
  show (P.D.append b).ss.length ≤ _
  rw [e]
  show (P.D.ss ++ b).length ≤ _
  rw [List.length_append]
  exact hs
theorem append_ssl {P : Po} {n c : Nat} (h : P.Fine n c) (b : List Nat) : ({ P with D := P.D.append b } : Po).D.ss.length = P.D.ss.length + b.length := by
  show (P.D.append b).ss.length = _
  rw [h.wet.dev.append_is b]
  show (P.D.ss ++ b).length = _
  rw [List.length_append]
theorem page_pairs (nn : Nat) : PairsLe nn (pageOf [nn, 0]) := by
  intro i hi
  rw [pageOf_length] at hi
  have e1 : (pageOf [nn, 0]).getD (2 * i) 0 = nn := by
    rw [List.getD_eq_getElem?_getD, pageOf_get _ _ (by omega)]
    simp
  have e2 : (pageOf [nn, 0]).getD (2 * i + 1) 0 = 0 := by
    rw [List.getD_eq_getElem?_getD, pageOf_get _ _ (by omega)]
    have : (2 * i + 1) % 2 = 1 := by omega
    simp [this]
  rw [e1, e2]
  omega
theorem two_bytes (nn : Nat) (h : nn ≤ 60) : Bytes [nn, 0] := by
  intro x hx
  simp only [List.mem_cons, List.not_mem_nil, or_false] at hx
  omega
/-- What stands between two rounds. -/
def AheadI (M : PoM) (w : World) (p d j nn : Nat) (wr : World) : Prop := ∃ P : Po, Our M w wr p d P ∧ P.Fine 4 (16 * j) ∧ P.Ahd nn ∧ nn ≤ j
/-- The device behind the crash. -/
structure Fallen (w wr : World) (d : Nat) (D : Ds) (L : Dl) : Prop where
  dev : DevM wr d D L
  sp : D.sp.length = 512 * 4
  le : PairsLe D.ss.length D.sp
  ss : D.ss.length ≤ 65536
  bt : Bytes D.sp
  below : Below w.heap.size w wr
theorem Fallen.keep {w wr w' : World} {d : Nat} {D : Ds} {L : Dl} (h : Fallen w wr d D L) (hb : Below wr.heap.size wr w') : Fallen w w' d D L := ⟨h.dev.keep hb, h.sp, h.le, h.ss, h.bt, h.below.trans (hb.mono h.below.size)⟩
theorem fall_any {M : PoM} (S : PoolS M) {w wr : World} {p d nn j : Nat} (h : AheadI M w p d j nn wr) (pa : Option Addr) (pl pc : Nat) (bs : List Bool) (hp : Pat w pa pl bs) (hpl : pl ≤ 9223372036854775807) :
    Calls Try.prog 17 #[at0 d, .slice pa pl pc, .int .i64 0] wr fun e w' => e = .returned (.tuple #[]) ∧ ∃ D L, Fallen w w' d D L := by
  obtain ⟨P, ⟨L, X, hm⟩, hf, ha, hn⟩ := h
  have hpw : Pat wr pa pl bs := hp.keep hm.below
  have hoff : Off (L.F d) pa pl := by
    intro ad e hl hk
    have h1 := hm.foot _ (.inr hk)
    obtain ⟨b, off, e2, hc⟩ := hp.at_ 0 hl
    rw [e2] at e
    cases e
    have h2 : b < w.heap.size := World.block_lt_of_cell? w _ hc
    have h1' : w.heap.size ≤ b := h1
    omega
  have hsane := hf.wet.dev.sane (by have := hf.cap; omega) (by have := hf.ss; omega)
  refine (crash_any wr d P.D L (S.dev hm.m) 4 hsane pa pl pc bs hpw hoff hpl 0 0 0 (by unfold Ds.count; rw [if_neg (by omega), if_pos (by omega)]; rfl) hf.wet.dev.fit0).mono ?_
  rintro e w' ⟨r, L', ht⟩
  have hc := ha.crash hf.wet bs
  refine ⟨r, _, L', ht.dev, hc.2, hc.1, ?_, ht.dev.byt .sp, hm.below.trans (ht.frm.below hm.below.size (fun k hk => hm.foot k (.inr hk)))⟩
  have e1 : (P.D.crash bs 0 0).ss = P.D.ks := by show P.D.ks ++ P.D.ap.take 0 = _; simp
  rw [e1]
  have := hf.wet.dev.ss
  have := hf.ss
  omega

set_option maxHeartbeats 16000000 in
set_option maxRecDepth 100000 in
theorem ahead_walk {M : PoM} (S : PoolS M) (w : World) (fr : Nat) (hfr : fr ≤ 255) (a : Option Addr) (len cap : Nat) (l : List Ao) (hA : Acs w a len l) (pa : Option Addr) (pl pc : Nat) (bs : List Bool) (hp : Pat w pa pl bs) (hpl : pl ≤ 9223372036854775807) :
    Calls Try.prog 4 #[.int .u8 ((fr : Nat) : Int), .slice a len cap, .slice pa pl pc] w fun e w' => e = .returned (.bool true) ∧ Below w.heap.size w w' := by
  obtain ⟨k0, hk0⟩ : ∃ k, k = fr % 3 := ⟨_, rfl⟩
  obtain ⟨f, hf⟩ : ∃ f, f = k0 + 1 := ⟨_, rfl⟩
  have hf1 : 1 ≤ f := by omega
  have hf6 : f ≤ 3 := by omega
  have HN := hide (new_any w 4 (by omega) (by omega))
  have HPN : Hid (∀ w1 d L, Below w.heap.size w w1 → DevM w1 d (Ds.new 4) L → (∀ k, L.F d k → w.heap.size ≤ k) → Calls Try.prog 8 #[at0 d, .int .i64 ((f : Nat) : Int)] w1 fun e w' => ∃ p, e = .returned (.tuple #[at0 p, .int .i64 0]) ∧ Our M w w' p d (Po.new (Ds.new 4) f)) := fun w1 d L hb hd hf => our_new S (n := 4) w f (by omega) (by omega) hf1 (by omega) d w1 L hb hd hf
  have HFN := hide (Po.Fine.new (n := 4) (f := f) (by omega) (by omega) hf1 (by omega))
  have HAW : Hid (∀ w', Calls Try.prog 10 #[] w' fun e w2 => e = .returned (.bool true) ∧ Below w'.heap.size w' w2) := fun w' => awakeP_any S w'
  have HS := hide S
  have HA := hide hA
  have HPT := hide hp
  have HPL := hide hpl
  have hbig := hA.big
  have HNK : Hid ((1 : Int) + ((k0 : Nat) : Int) = ((f : Nat) : Int)) := by show _ = _; omega
  have hcv : ∀ w : World, (convert 5 3 (.int .u8 (((fr : Nat) : Int) % 3))).run Try.prog w = .ok (.int .i64 ((k0 : Nat) : Int)) w := by
    intro w
    have e1 : ((fr : Nat) : Int) % 3 = ((k0 : Nat) : Int) := by omega
    have e2 : IntKind.i64.wrap ((k0 : Nat) : Int) = ((k0 : Nat) : Int) := by rw [IntKind.wrap_i64]; omega
    simp [go_sem, e1, e2]
  have hk06 : k0 < 3 := by omega
  clear hk0 hf hA S hp
  unfold at0 at *
  go_enter Try.func4, Try.ntmps4
  go_wp2_with fail
  refine HN.out.mono ?_
  rintro e w1 ⟨hb1, d, L1, rfl, hd1, hf1'⟩
  have HPN1 := hide (HPN.out w1 d L1 hb1 hd1 hf1')
  clear hb1 hd1 hf1' HPN HN
  go_wp2_with fail
  simp only [HNK.out]
  refine HPN1.out.mono ?_
  rintro e w2 ⟨p, rfl, ho⟩
  have O2 := hide ho
  clear ho HPN1 HNK hcv
  have hnil : ∀ w : World, (binOp .eql 27 (.pointer (some ⟨p, 0, none⟩)) (.pointer none)).run Try.prog w = .ok (.bool false) w := fun _ => rfl
  have hnil2 : ∀ w : World, (binOp .neq 27 (.pointer (some ⟨p, 0, none⟩)) (.pointer none)).run Try.prog w = .ok (.bool true) w := fun _ => rfl
  have HLI := hide (light_any w2 a len cap l (HA.out.keep O2.out.below))
  go_wp2_with fail
  refine HLI.out.mono ?_
  rintro e w2' ⟨rfl, r, rfl, hr⟩
  clear hr HLI
  cases r
  · go_wp2_with fail
    refine (HAW.out _).mono ?_
    rintro e w3 ⟨rfl, hb3⟩
    have HB3 := hide (O2.out.below.trans (hb3.mono O2.out.below.size))
    clear hb3
    go_wp2_with fail
    go_ret
    exact ⟨rfl, HB3.out⟩
  by_cases hp60 : (60 : Int) < ((pl : Nat) : Int)
  · go_wp2_with fail
    refine (HAW.out _).mono ?_
    rintro e w3 ⟨rfl, hb3⟩
    have HB3 := hide (O2.out.below.trans (hb3.mono O2.out.below.size))
    clear hb3
    go_wp2_with fail
    go_ret
    exact ⟨rfl, HB3.out⟩
  have HST : Hid (AheadI M w p d 0 0 w2') := hide ⟨_, O2.out, HFN.out, Po.Ahd.new, Nat.le_refl _⟩
  clear O2 HFN
  go_wp2_with fail
  go_loopw [11, 12] (fun n i wr => ∃ j nn : Nat, j ≤ len ∧ j ≤ 60 ∧ nn ≤ j ∧ i = .int .i64 j ∧ n = .int .i64 ((nn : Nat) : Int) ∧ Hid (AheadI M w p d j nn wr)) (fun _ i _ => len - (intOf i).toNat)
  case atStart => exact ⟨0, 0, by omega, by omega, by omega, rfl, rfl, HST⟩
  case round =>
    obtain ⟨j, nn, hj, hj4, hnj, rfl, rfl, hSt⟩ := hrel
    clear HST
    by_cases hgo : j < len ∧ j < 60
    · obtain ⟨hlt, hlt4⟩ := hgo
      have i5 : ((j : Nat) : Int) < ((len : Nat) : Int) := by omega
      have i6 : ((j : Nat) : Int) < 60 := by omega
      obtain ⟨P, ho, hfi, hah, _⟩ := hSt.out
      obtain ⟨b, off, ha, hat⟩ := (HA.out.keep ho.below).at_ j hlt
      obtain ⟨t, ht⟩ : ∃ t, t = l.getD j aoD := ⟨_, rfl⟩
      rw [← ht] at hat
      have HLD := hide (load_ao b (off + j * 5) t wr hat)
      have HSA := hide (store_acNew t.x t.b t.q wr)
      have hba := below_alloc wr (.cells (t.x.cells t.b t.q) 36)
      have hbx : AcBlk (wr.alloc (.cells (t.x.cells t.b t.q) 36)) wr.heap.size t.x t.b t.q := heap_alloc_new wr _
      have hlt' := (Array.getElem?_eq_some_iff.1 hbx).1
      have O3 := hide ((ho.oug.more HS.out hba (Nat.le_refl _) hlt').mono (G' := fun k => k = wr.heap.size) (fun k hk => .inr hk))
      have BX3 := hide hbx
      have F3 := hide hfi
      have A3 := hide hah
      have e0 := hbx.c0
      have e1 := hbx.c1
      obtain ⟨W1, hW1⟩ : ∃ W1, W1 = wr.alloc (.cells (t.x.cells t.b t.q) 36) := ⟨_, rfl⟩
      rw [← hW1] at HSA O3 BX3 e0 e1
      clear hat ht ho hfi hah hSt hba hbx hlt' hW1
      subst ha
      by_cases hpg : 0 ≤ t.x.pg ∧ t.x.pg ≤ 3
      · obtain ⟨k, hk⟩ : ∃ k : Nat, t.x.pg = ((k : Nat) : Int) := ⟨t.x.pg.toNat, by omega⟩
        rw [hk] at e1 hpg
        have i7 : ¬ ((k : Nat) : Int) < 0 := by omega
        have i8 : ¬ (3 : Int) < ((k : Nat) : Int) := by omega
        have hk6 : k < 4 := by omega
        clear hpg
        by_cases c1 : t.x.do_ = 1
        · rw [c1] at e0
          have hn1 : nn + 1 ≤ 60 := by omega
          have hba1 := below_alloc W1 (.cells #[.int .u8 1] 5)
          have HAP := hide (oug_append HS.out O3.out F3.out (W1.alloc (.cells #[.int .u8 1] 5)) hba1 W1.heap.size 1 1 (Nat.le_refl _) [1] (came_one W1 1 (by omega)) (by rw [A3.out.fin]; omega))
          have F4 := hide (F3.out.append [1] (by rw [A3.out.fin]; simp; omega))
          have A4 := hide (A3.out.append F3.out.wet 1)
          have hw1 : IntKind.i64.wrap (((nn : Nat) : Int) + 1) = ((nn + 1 : Nat) : Int) := by rw [IntKind.wrap_i64]; omega
          generalize ({ P with D := P.D.append [1] } : Po) = P4 at *
          unfold at0 at HAP
          clear hba1
          go_wp2_with (first | refine wpList_load _ rfl 36 (.tmp 78) rfl (.pointer (some ⟨b, off + j * 5, none⟩)) (.agg (t.x.cells t.b t.q)) rfl HLD.out ?_ | refine wpList_store _ rfl rfl 36 (.tmp 13) (.tmp 79) rfl (.pointer (some ⟨wr.heap.size, 0, none⟩)) (.agg (t.x.cells t.b t.q)) rfl rfl _ HSA.out ?_)
          refine HAP.out.mono ?_
          rintro e w4 ⟨rfl, ho4, hk4⟩
          have BX4 := hide (BX3.out.keepG hk4 rfl)
          have hbd := below_drew w4
          obtain ⟨O4d, K4d⟩ := ho4.keep HS.out hbd
          have hbl := below_alloc w4.drew (.cells #[.int .u8 ((nn + 1 : Nat) : Int), .int .u8 0] 5)
          obtain ⟨_, K4e⟩ := O4d.keep HS.out hbl
          have z1 := BX4.out.c1
          rw [hk] at z1
          have HPAGE : Hid (Calls Try.prog 12 #[.slice (some ⟨w4.drew.heap.size, 0, none⟩) 2 2] (w4.drew.alloc (.cells #[.int .u8 ((nn + 1 : Nat) : Int), .int .u8 0] 5)) fun e w2 => e = .returned (.slice (some ⟨(w4.drew.alloc (.cells #[.int .u8 ((nn + 1 : Nat) : Int), .int .u8 0] 5)).heap.size, 0, none⟩) 512 512) ∧ (Below w4.drew.heap.size w4.drew w2 ∧ Came w2 (some ⟨(w4.drew.alloc (.cells #[.int .u8 ((nn + 1 : Nat) : Int), .int .u8 0] 5)).heap.size, 0, none⟩) 512 512 (pageOf [nn + 1, 0]))) := hide ((page_any _ _ _ _ _ ((own_made w4.drew 2 (by omega) [nn + 1, 0] rfl).came (two_bytes (nn + 1) hn1))).mono (by rintro e w2 ⟨x1, x2, x3⟩; exact ⟨x2, hbl.trans (x1.mono hbl.size), x3⟩))
          have HR18 : Hid (∀ {Q : Exit → Act → World → Prop} {A0 : Act}, _) := fun {Q A0} => ahead18 w4 p wr.heap.size (nn + 1) hn1 ((k : Nat) : Int) (some ⟨(w4.drew.alloc (.cells #[.int .u8 ((nn + 1 : Nat) : Int), .int .u8 0] 5)).heap.size, 0, none⟩)
            (fun w2 => Below w4.drew.heap.size w4.drew w2 ∧ Came w2 (some ⟨(w4.drew.alloc (.cells #[.int .u8 ((nn + 1 : Nat) : Int), .int .u8 0] 5)).heap.size, 0, none⟩) 512 512 (pageOf [nn + 1, 0]))
            (fun w3 => Oug M w (fun k => k = wr.heap.size) w3 p d (P4.set k (pageOf [nn + 1, 0]) ((nn + 1 : Nat) : Int)) ∧ KeptG (fun k => k = wr.heap.size) w4.drew w3)
            z1 (by have := ((BX4.out.keepG K4d rfl).keepG K4e rfl).c1; rw [hk] at this; exact this) HPAGE.out
            (fun w2 hw2 => by have := ((BX4.out.keepG K4d rfl).keepG (O4d.keep HS.out hw2.1).2 rfl).c1; rw [hk] at this; exact this)
            (fun w2 hw2 => oug_put HS.out O4d F4.out k hk6 w2 hw2.1 _ 512 hbl.size _ hw2.2 _ (by simp [Lit.wf, IntKind.min, IntKind.max, IntKind.signed, IntKind.bits]; omega))
            (fun w3 hw3 => by have := ((BX4.out.keepG K4d rfl).keepG hw3.2 rfl).c1; rw [hk] at this; exact this) (Q := Q) (A := A0)
          have F5 := hide ((F4.out.set (by omega) hk6 (pageOf_length [nn + 1, 0]) (pageOf_bytes _ (two_bytes (nn + 1) hn1)) ((nn + 1 : Nat) : Int)).more (c' := 16 * (j + 1)) (by omega) (by omega))
          have A5 : Hid ((P4.set k (pageOf [nn + 1, 0]) ((nn + 1 : Nat) : Int)).Ahd (nn + 1)) := hide (A4.out.set F4.out.wet k (by omega) (by rw [Int.toNat_natCast]; exact page_pairs (nn + 1)))
          clear ho4 hk4 hbd O4d K4d hbl K4e HAP
          go_wp2_with fail
          refine Pl.region_is (ops := Pl.find 18 ((Try.f4.body).getD .skip)) (by kernel_rfl) ?_
          refine HR18.out (by rfl) rfl (by rfl) (by rfl) (by rfl) ?_
          rintro uu w5 ⟨ho5, _⟩
          have HRS1 : Hid (AheadI M w p d (j + 1) (nn + 1) w5) := hide ⟨_, ho5.our, F5.out, A5.out, by omega⟩
          clear ho5 HR18 HPAGE
          simp only [Act.put, List.setIfInBounds_toArray, List.set_cons_zero, List.set_cons_succ]
          go_wp2_with fail
          go_roundw
          case rel => exact ⟨j + 1, nn + 1, by omega, by omega, by omega, by go_num, rfl, HRS1⟩
          case measure => simp only [intOf]; omega
        by_cases c2 : t.x.do_ = 2
        · rw [c2] at e0
          have hn1 : nn + 1 ≤ 60 := by omega
          have hba1 := below_alloc W1 (.cells #[.int .u8 1] 5)
          have HAP := hide (oug_append HS.out O3.out F3.out (W1.alloc (.cells #[.int .u8 1] 5)) hba1 W1.heap.size 1 1 (Nat.le_refl _) [1] (came_one W1 1 (by omega)) (by rw [A3.out.fin]; omega))
          have F4 := hide (F3.out.append [1] (by rw [A3.out.fin]; simp; omega))
          have A4 := hide (A3.out.append F3.out.wet 1)
          have hw1 : IntKind.i64.wrap (((nn : Nat) : Int) + 1) = ((nn + 1 : Nat) : Int) := by rw [IntKind.wrap_i64]; omega
          generalize ({ P with D := P.D.append [1] } : Po) = P4 at *
          unfold at0 at HAP
          clear hba1
          go_wp2_with (first | refine wpList_load _ rfl 36 (.tmp 78) rfl (.pointer (some ⟨b, off + j * 5, none⟩)) (.agg (t.x.cells t.b t.q)) rfl HLD.out ?_ | refine wpList_store _ rfl rfl 36 (.tmp 13) (.tmp 79) rfl (.pointer (some ⟨wr.heap.size, 0, none⟩)) (.agg (t.x.cells t.b t.q)) rfl rfl _ HSA.out ?_)
          refine HAP.out.mono ?_
          rintro e w4 ⟨rfl, ho4, hk4⟩
          have BX4 := hide (BX3.out.keepG hk4 rfl)
          have hbd := below_drew w4
          obtain ⟨O4d, K4d⟩ := ho4.keep HS.out hbd
          have hbl := below_alloc w4.drew (.cells #[.int .u8 ((nn + 1 : Nat) : Int), .int .u8 0] 5)
          obtain ⟨_, K4e⟩ := O4d.keep HS.out hbl
          have z1 := BX4.out.c1
          rw [hk] at z1
          have HPAGE : Hid (Calls Try.prog 12 #[.slice (some ⟨w4.drew.heap.size, 0, none⟩) 2 2] (w4.drew.alloc (.cells #[.int .u8 ((nn + 1 : Nat) : Int), .int .u8 0] 5)) fun e w2 => e = .returned (.slice (some ⟨(w4.drew.alloc (.cells #[.int .u8 ((nn + 1 : Nat) : Int), .int .u8 0] 5)).heap.size, 0, none⟩) 512 512) ∧ (Below w4.drew.heap.size w4.drew w2 ∧ Came w2 (some ⟨(w4.drew.alloc (.cells #[.int .u8 ((nn + 1 : Nat) : Int), .int .u8 0] 5)).heap.size, 0, none⟩) 512 512 (pageOf [nn + 1, 0]))) := hide ((page_any _ _ _ _ _ ((own_made w4.drew 2 (by omega) [nn + 1, 0] rfl).came (two_bytes (nn + 1) hn1))).mono (by rintro e w2 ⟨x1, x2, x3⟩; exact ⟨x2, hbl.trans (x1.mono hbl.size), x3⟩))
          have HR18 : Hid (∀ {Q : Exit → Act → World → Prop} {A0 : Act}, _) := fun {Q A0} => ahead18 w4 p wr.heap.size (nn + 1) hn1 ((k : Nat) : Int) (some ⟨(w4.drew.alloc (.cells #[.int .u8 ((nn + 1 : Nat) : Int), .int .u8 0] 5)).heap.size, 0, none⟩)
            (fun w2 => Below w4.drew.heap.size w4.drew w2 ∧ Came w2 (some ⟨(w4.drew.alloc (.cells #[.int .u8 ((nn + 1 : Nat) : Int), .int .u8 0] 5)).heap.size, 0, none⟩) 512 512 (pageOf [nn + 1, 0]))
            (fun w3 => Oug M w (fun k => k = wr.heap.size) w3 p d (P4.set k (pageOf [nn + 1, 0]) ((nn + 1 : Nat) : Int)) ∧ KeptG (fun k => k = wr.heap.size) w4.drew w3)
            z1 (by have := ((BX4.out.keepG K4d rfl).keepG K4e rfl).c1; rw [hk] at this; exact this) HPAGE.out
            (fun w2 hw2 => by have := ((BX4.out.keepG K4d rfl).keepG (O4d.keep HS.out hw2.1).2 rfl).c1; rw [hk] at this; exact this)
            (fun w2 hw2 => oug_put HS.out O4d F4.out k hk6 w2 hw2.1 _ 512 hbl.size _ hw2.2 _ (by simp [Lit.wf, IntKind.min, IntKind.max, IntKind.signed, IntKind.bits]; omega))
            (fun w3 hw3 => by have := ((BX4.out.keepG K4d rfl).keepG hw3.2 rfl).c1; rw [hk] at this; exact this) (Q := Q) (A := A0)
          have F5 := hide ((F4.out.set (by omega) hk6 (pageOf_length [nn + 1, 0]) (pageOf_bytes _ (two_bytes (nn + 1) hn1)) ((nn + 1 : Nat) : Int)).more (c' := 16 * (j + 1)) (by omega) (by omega))
          have A5 : Hid ((P4.set k (pageOf [nn + 1, 0]) ((nn + 1 : Nat) : Int)).Ahd (nn + 1)) := hide (A4.out.set F4.out.wet k (by omega) (by rw [Int.toNat_natCast]; exact page_pairs (nn + 1)))
          clear ho4 hk4 hbd O4d K4d hbl K4e HAP
          go_wp2_with fail
          refine Pl.region_is (ops := Pl.find 18 ((Try.f4.body).getD .skip)) (by kernel_rfl) ?_
          refine HR18.out (by rfl) rfl (by rfl) (by rfl) (by rfl) ?_
          rintro uu w5 ⟨ho5, _⟩
          have HRS1 : Hid (AheadI M w p d (j + 1) (nn + 1) w5) := hide ⟨_, ho5.our, F5.out, A5.out, by omega⟩
          clear ho5 HR18 HPAGE
          simp only [Act.put, List.setIfInBounds_toArray, List.set_cons_zero, List.set_cons_succ]
          go_wp2_with fail
          go_roundw
          case rel => exact ⟨j + 1, nn + 1, by omega, by omega, by omega, by go_num, rfl, HRS1⟩
          case measure => simp only [intOf]; omega
        by_cases c3 : t.x.do_ = 3
        · rw [c3] at e0
          have HRa := hide (oug_flush HS.out O3.out F3.out)
          have F4 := hide ((F3.out.flush (by omega)).more (c' := 16 * (j + 1)) (by omega) (by omega))
          have A4 := hide (A3.out.flush F3.out.wet)
          unfold at0 at HRa
          go_wp2_with (first | refine wpList_load _ rfl 36 (.tmp 78) rfl (.pointer (some ⟨b, off + j * 5, none⟩)) (.agg (t.x.cells t.b t.q)) rfl HLD.out ?_ | refine wpList_store _ rfl rfl 36 (.tmp 13) (.tmp 79) rfl (.pointer (some ⟨wr.heap.size, 0, none⟩)) (.agg (t.x.cells t.b t.q)) rfl rfl _ HSA.out ?_)
          refine HRa.out.mono ?_
          rintro e w4 ⟨⟨ho4, hk4⟩, r4, rfl⟩
          have HRS1 : Hid (AheadI M w p d (j + 1) nn w4) := hide ⟨_, ho4.our, F4.out, A4.out, by omega⟩
          clear ho4 hk4 HRa
          go_wp2_with fail
          go_roundw
          case rel => exact ⟨j + 1, nn, by omega, by omega, by omega, by go_num, rfl, HRS1⟩
          case measure => simp only [intOf]; omega
        by_cases c4 : t.x.do_ = 4
        · rw [c4] at e0
          have HRa := hide (oug_evict HS.out O3.out F3.out ((k : Nat) : Int) (wf_page k (by omega)))
          have F4 := hide ((F3.out.evictAny (by omega) ((k : Nat) : Int)).1.more (c' := 16 * (j + 1)) (by omega) (by omega))
          have A4 : Hid ((P.evictAny ((k : Nat) : Int)).Ahd nn) := by
            unfold Po.evictAny
            split
            · exact hide (A3.out.evict F3.out.wet _)
            · exact hide A3.out
          unfold at0 at HRa
          go_wp2_with (first | refine wpList_load _ rfl 36 (.tmp 78) rfl (.pointer (some ⟨b, off + j * 5, none⟩)) (.agg (t.x.cells t.b t.q)) rfl HLD.out ?_ | refine wpList_store _ rfl rfl 36 (.tmp 13) (.tmp 79) rfl (.pointer (some ⟨wr.heap.size, 0, none⟩)) (.agg (t.x.cells t.b t.q)) rfl rfl _ HSA.out ?_)
          refine HRa.out.mono ?_
          rintro e w4 ⟨⟨ho4, hk4⟩, r4, rfl⟩
          have HRS1 : Hid (AheadI M w p d (j + 1) nn w4) := hide ⟨_, ho4.our, F4.out, A4.out, by omega⟩
          clear ho4 hk4 HRa
          go_wp2_with fail
          go_roundw
          case rel => exact ⟨j + 1, nn, by omega, by omega, by omega, by go_num, rfl, HRS1⟩
          case measure => simp only [intOf]; omega
        have HRa := hide (oug_read HS.out O3.out F3.out k hk6)
        have F4 := hide ((F3.out.letIn (by omega) hk6).more (c' := 16 * (j + 1)) (by omega) (by omega))
        have A4 := hide (A3.out.letIn F3.out.wet k)
        unfold at0 at HRa
        go_wp2_with (first | refine wpList_load _ rfl 36 (.tmp 78) rfl (.pointer (some ⟨b, off + j * 5, none⟩)) (.agg (t.x.cells t.b t.q)) rfl HLD.out ?_ | refine wpList_store _ rfl rfl 36 (.tmp 13) (.tmp 79) rfl (.pointer (some ⟨wr.heap.size, 0, none⟩)) (.agg (t.x.cells t.b t.q)) rfl rfl _ HSA.out ?_)
        refine HRa.out.mono ?_
        rintro e w4 ⟨⟨ho4, hk4⟩, s4, rfl, _, _⟩
        have HRS1 : Hid (AheadI M w p d (j + 1) nn w4) := hide ⟨_, ho4.our, F4.out, A4.out, by omega⟩
        clear ho4 hk4 HRa
        go_wp2_with fail
        go_roundw
        case rel => exact ⟨j + 1, nn, by omega, by omega, by omega, by go_num, rfl, HRS1⟩
        case measure => simp only [intOf]; omega
      · have HRS1 : Hid (AheadI M w p d (j + 1) nn W1) := hide ⟨P, O3.out.our, F3.out.more (by omega) (by omega), A3.out, by omega⟩
        by_cases i7 : t.x.pg < 0
        · go_wp2_with (first | refine wpList_load _ rfl 36 (.tmp 78) rfl (.pointer (some ⟨b, off + j * 5, none⟩)) (.agg (t.x.cells t.b t.q)) rfl HLD.out ?_ | refine wpList_store _ rfl rfl 36 (.tmp 13) (.tmp 79) rfl (.pointer (some ⟨wr.heap.size, 0, none⟩)) (.agg (t.x.cells t.b t.q)) rfl rfl _ HSA.out ?_)
          go_roundw
          case rel => exact ⟨j + 1, nn, by omega, by omega, by omega, by go_num, rfl, HRS1⟩
          case measure => simp only [intOf]; omega
        · have i8 : (3 : Int) < t.x.pg := by omega
          go_wp2_with (first | refine wpList_load _ rfl 36 (.tmp 78) rfl (.pointer (some ⟨b, off + j * 5, none⟩)) (.agg (t.x.cells t.b t.q)) rfl HLD.out ?_ | refine wpList_store _ rfl rfl 36 (.tmp 13) (.tmp 79) rfl (.pointer (some ⟨wr.heap.size, 0, none⟩)) (.agg (t.x.cells t.b t.q)) rfl rfl _ HSA.out ?_)
          go_roundw
          case rel => exact ⟨j + 1, nn, by omega, by omega, by omega, by go_num, rfl, HRS1⟩
          case measure => simp only [intOf]; omega
    · have HCR := hide (fall_any HS.out hSt.out pa pl pc bs HPT.out HPL.out)
      unfold at0 at HCR
      clear hSt
      have hout : (((j : Nat) : Int) < ((len : Nat) : Int) ∧ j = 60) ∨ ¬ ((j : Nat) : Int) < ((len : Nat) : Int) := by omega
      rcases hout with ⟨i5, hj60⟩ | i5
      · have i6 : ¬ (((j : Nat) : Int) < 60) := by omega
        clear hj60
        go_wp2_with fail
        refine HCR.out.mono ?_
        rintro e w3 ⟨rfl, D, L3, hfa⟩
        have FA3 := hide hfa
        have HSR := hide (stream_any w3 d D L3 hfa.dev 4 hfa.sp (by omega) (by omega) (by have := hfa.ss; omega))
        unfold at0 at HSR
        clear hfa HCR
        go_wp2_with fail
        refine HSR.out.mono ?_
        rintro e w4 ⟨hb4, s4, rfl, _, hl4, _⟩
        have FA4 := hide (FA3.out.keep hb4)
        have HL4 := hide hl4
        obtain ⟨a4, l4, c4⟩ := s4
        unfold Sl.val
        clear hb4 hl4 HSR FA3
        go_wp2_with fail
        go_loopw [16] (fun i W => ∃ m : Nat, m ≤ 4 ∧ i = .int .i64 ((m : Nat) : Int) ∧ Hid (Fallen w W d D L3)) (fun i _ => 4 - (intOf i).toNat)
        case atStart => exact ⟨0, by omega, rfl, FA4⟩
        case round =>
          obtain ⟨m, hm, rfl, hF⟩ := hrel
          by_cases hm4 : m < 4
          · have i9 : ((m : Nat) : Int) < 4 := by omega
            have HRD := hide (read_any wr d D L3 hF.out.dev 4 hF.out.sp (by omega) m hm4)
            have HPR : Hid (PairsLe l4 ((D.sp.drop (512 * m)).take 512)) := by
              have h1 := (hF.out.le.drop (256 * m)).take 512
              rw [show 2 * (256 * m) = 512 * m by omega] at h1
              have h2 : l4 = D.ss.length := HL4.out
              rw [h2]
              exact hide h1
            have HBY : Hid (Bytes ((D.sp.drop (512 * m)).take 512)) := hide ((hF.out.bt.drop _).take _)
            generalize ((D.sp.drop (512 * m)).take 512) = xs at *
            unfold at0 at HRD
            go_wp2_with fail
            refine HRD.out.mono ?_
            rintro e w5 ⟨hb5, s5, rfl, hown5, hl5, _⟩
            have F5 := hide (hF.out.keep hb5)
            obtain ⟨hxl, g5, o5, c5, rfl, hcell⟩ := page_cells hown5 hl5
            have HC5 := hide hcell
            have HXL := hide hxl
            unfold Sl.val
            clear hb5 hown5 hl5 hcell hxl HRD hF
            go_wp2_with fail
            go_loopw [19] (fun kk W => ∃ q : Nat, q ≤ 256 ∧ kk = .int .i64 ((2 * q : Nat) : Int) ∧ Hid (Below w5.heap.size w5 W)) (fun kk _ => 512 - (intOf kk).toNat)
            case atStart => exact ⟨0, by omega, rfl, hide (Below.refl _ _)⟩
            case round =>
              obtain ⟨q, hq, rfl, hB⟩ := hrel
              obtain ⟨kk, hkk⟩ : ∃ kk, kk = 2 * q := ⟨_, rfl⟩
              rw [← hkk]
              by_cases hq2 : q < 256
              · have j1 : ((kk : Nat) : Int) < 512 := by omega
                have hk1 : kk + 1 < 512 := by omega
                have h35 := HPR.out q (by rw [HXL.out]; omega)
                rw [← hkk] at h35
                have H35 : Hid (∀ {Q : Exit → Act → World → Prop} {A : Act}, _) := fun {Q A} => ahead35 wr g5 o5 c5 kk l4 c4 a4 xs HBY.out hk1 (fun j hj => (hB.out.cell (World.block_lt_of_cell? w5 _ (HC5.out j hj))).trans (HC5.out j hj)) (by omega) (Q := Q) (A := A)
                have HB2 := hide (hB.out.trans ((below_drew wr).mono hB.out.size))
                have HKN : Hid (((kk : Nat) : Int) + 2 = ((2 * (q + 1) : Nat) : Int)) := hide (by omega)
                have hwr : IntKind.i64.wrap (((kk : Nat) : Int) + 2) = ((kk : Nat) : Int) + 2 := by rw [IntKind.wrap_i64]; omega
                have hkq : kk ≤ 512 := by omega
                clear h35 hkk
                go_wp2_with fail
                refine Pl.region_is (ops := Pl.find 35 ((Try.f4.body).getD .skip)) (by kernel_rfl) ?_
                refine H35.out (by rfl) rfl (by rfl) (by rfl) (by rfl) ?_
                intro uu w' hw'
                subst hw'
                simp only [Act.put, List.setIfInBounds_toArray, List.set_cons_zero, List.set_cons_succ]
                go_wp2_with fail
                go_roundw
                case rel => exact ⟨q + 1, by omega, by rw [HKN.out], HB2⟩
                case measure => simp only [intOf]; omega
              · have j1 : ¬ ((kk : Nat) : Int) < 512 := by omega
                have F6 := hide (F5.out.keep hB.out)
                clear hkk
                go_wp2_with fail
                go_roundw
                case rel => exact ⟨m + 1, by omega, by go_num, F6⟩
                case measure => simp only [intOf]; omega
          · have i9 : ¬ ((m : Nat) : Int) < 4 := by omega
            have HB5 := hide hF.out.below
            clear hF
            go_wp2_with fail
            refine (HAW.out _).mono ?_
            rintro e w8 ⟨rfl, hb8⟩
            have HB8 := hide (HB5.out.trans (hb8.mono HB5.out.size))
            clear hb8
            go_wp2_with fail
            go_ret
            exact ⟨rfl, HB8.out⟩
      · have HI5 := hide i5
        go_wp2_with fail
        refine HCR.out.mono ?_
        rintro e w3 ⟨rfl, D, L3, hfa⟩
        have FA3 := hide hfa
        have HSR := hide (stream_any w3 d D L3 hfa.dev 4 hfa.sp (by omega) (by omega) (by have := hfa.ss; omega))
        unfold at0 at HSR
        clear hfa HCR
        go_wp2_with fail
        refine HSR.out.mono ?_
        rintro e w4 ⟨hb4, s4, rfl, _, hl4, _⟩
        have FA4 := hide (FA3.out.keep hb4)
        have HL4 := hide hl4
        obtain ⟨a4, l4, c4⟩ := s4
        unfold Sl.val
        clear hb4 hl4 HSR FA3
        go_wp2_with fail
        go_loopw [16] (fun i W => ∃ m : Nat, m ≤ 4 ∧ i = .int .i64 ((m : Nat) : Int) ∧ Hid (Fallen w W d D L3)) (fun i _ => 4 - (intOf i).toNat)
        case atStart => exact ⟨0, by omega, rfl, FA4⟩
        case round =>
          obtain ⟨m, hm, rfl, hF⟩ := hrel
          by_cases hm4 : m < 4
          · have i9 : ((m : Nat) : Int) < 4 := by omega
            have HRD := hide (read_any wr d D L3 hF.out.dev 4 hF.out.sp (by omega) m hm4)
            have HPR : Hid (PairsLe l4 ((D.sp.drop (512 * m)).take 512)) := by
              have h1 := (hF.out.le.drop (256 * m)).take 512
              rw [show 2 * (256 * m) = 512 * m by omega] at h1
              have h2 : l4 = D.ss.length := HL4.out
              rw [h2]
              exact hide h1
            have HBY : Hid (Bytes ((D.sp.drop (512 * m)).take 512)) := hide ((hF.out.bt.drop _).take _)
            generalize ((D.sp.drop (512 * m)).take 512) = xs at *
            unfold at0 at HRD
            go_wp2_with fail
            refine HRD.out.mono ?_
            rintro e w5 ⟨hb5, s5, rfl, hown5, hl5, _⟩
            have F5 := hide (hF.out.keep hb5)
            obtain ⟨hxl, g5, o5, c5, rfl, hcell⟩ := page_cells hown5 hl5
            have HC5 := hide hcell
            have HXL := hide hxl
            unfold Sl.val
            clear hb5 hown5 hl5 hcell hxl HRD hF
            go_wp2_with fail
            go_loopw [19] (fun kk W => ∃ q : Nat, q ≤ 256 ∧ kk = .int .i64 ((2 * q : Nat) : Int) ∧ Hid (Below w5.heap.size w5 W)) (fun kk _ => 512 - (intOf kk).toNat)
            case atStart => exact ⟨0, by omega, rfl, hide (Below.refl _ _)⟩
            case round =>
              obtain ⟨q, hq, rfl, hB⟩ := hrel
              obtain ⟨kk, hkk⟩ : ∃ kk, kk = 2 * q := ⟨_, rfl⟩
              rw [← hkk]
              by_cases hq2 : q < 256
              · have j1 : ((kk : Nat) : Int) < 512 := by omega
                have hk1 : kk + 1 < 512 := by omega
                have h35 := HPR.out q (by rw [HXL.out]; omega)
                rw [← hkk] at h35
                have H35 : Hid (∀ {Q : Exit → Act → World → Prop} {A : Act}, _) := fun {Q A} => ahead35 wr g5 o5 c5 kk l4 c4 a4 xs HBY.out hk1 (fun j hj => (hB.out.cell (World.block_lt_of_cell? w5 _ (HC5.out j hj))).trans (HC5.out j hj)) (by omega) (Q := Q) (A := A)
                have HB2 := hide (hB.out.trans ((below_drew wr).mono hB.out.size))
                have HKN : Hid (((kk : Nat) : Int) + 2 = ((2 * (q + 1) : Nat) : Int)) := hide (by omega)
                have hwr : IntKind.i64.wrap (((kk : Nat) : Int) + 2) = ((kk : Nat) : Int) + 2 := by rw [IntKind.wrap_i64]; omega
                have hkq : kk ≤ 512 := by omega
                clear h35 hkk
                go_wp2_with fail
                refine Pl.region_is (ops := Pl.find 35 ((Try.f4.body).getD .skip)) (by kernel_rfl) ?_
                refine H35.out (by rfl) rfl (by rfl) (by rfl) (by rfl) ?_
                intro uu w' hw'
                subst hw'
                simp only [Act.put, List.setIfInBounds_toArray, List.set_cons_zero, List.set_cons_succ]
                go_wp2_with fail
                go_roundw
                case rel => exact ⟨q + 1, by omega, by rw [HKN.out], HB2⟩
                case measure => simp only [intOf]; omega
              · have j1 : ¬ ((kk : Nat) : Int) < 512 := by omega
                have F6 := hide (F5.out.keep hB.out)
                clear hkk
                go_wp2_with fail
                go_roundw
                case rel => exact ⟨m + 1, by omega, by go_num, F6⟩
                case measure => simp only [intOf]; omega
          · have i9 : ¬ ((m : Nat) : Int) < 4 := by omega
            have HB5 := hide hF.out.below
            clear hF
            go_wp2_with fail
            refine (HAW.out _).mono ?_
            rintro e w8 ⟨rfl, hb8⟩
            have HB8 := hide (HB5.out.trans (hb8.mono HB5.out.size))
            clear hb8
            go_wp2_with fail
            go_ret
            exact ⟨rfl, HB8.out⟩

end Go.Proofs.Ytenaonnijpnnaaa
