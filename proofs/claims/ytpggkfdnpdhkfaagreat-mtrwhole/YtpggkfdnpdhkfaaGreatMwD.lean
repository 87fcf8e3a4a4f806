/-
  Layer 13: the walk of the theorem of groups.
-/
import Derived.Test.YtpggkfdnpdhkfaaGreatWb
namespace Go.Proofs.YtpggkfdnpdhkfaaGreat
open Go.RowKit
set_option maxRecDepth 100000
set_option linter.unusedVariables false

theorem bstr_append (xs ys : List Nat) : bstr xs ++ bstr ys = bstr (xs ++ ys) := by
  have h : (bstr xs ++ bstr ys).data.toList = (bstr (xs ++ ys)).data.toList := by
    unfold bstr
    simp [strOfNums]
  have h2 := Array.toList_inj.1 h
  cases hX : bstr xs ++ bstr ys
  cases hY : bstr (xs ++ ys)
  rw [hX, hY] at h2
  simp only at h2
  rw [h2]
theorem bstr_size (xs : List Nat) : (bstr xs).size = xs.length := by
  show (bstr xs).data.size = _
  unfold bstr
  simp [strOfNums]
theorem strNe {x y : ByteArray} (h : x ≠ y) : (x.toList == y.toList) = false := by
  rw [beq_eq_false_iff_ne]
  intro e
  rw [ByteArray.toList_eq, ByteArray.toList_eq] at e
  exact h (ByteArray.ext (Array.toList_inj.1 e))
theorem box0 {wr w3 : World} {C : Array Value} (hk : Kept6 (fun k => wr.heap.size ≤ k ∧ k < (wr.alloc (.cells C 50)).heap.size) (wr.alloc (.cells C 50)) w3) : w3.heap[wr.heap.size]? = some (.cells C 50 (0, 0)) := by
  have hs : (wr.alloc (.cells C 50)).heap.size = wr.heap.size + 1 := by simp
  rw [hk wr.heap.size ⟨Nat.le_refl _, by omega⟩ (by omega)]
  exact heap_alloc_new wr _

set_option maxHeartbeats 64000000 in
set_option maxRecDepth 100000 in
theorem whole_walk {M : PoM} (S : PoolS M) (w : World) (fr : Nat) (hfr : fr ≤ 255) (a : Option Addr) (len cap : Nat) (l : List Ag) (hA : Ags w a len l) (ca : Option Addr) (cl cc : Nat) (lc : List Ag) (hAc : Ags w ca cl lc) :
    Calls Tryz.prog 4 #[.int .u8 ((fr : Nat) : Int), .slice a len cap, .slice ca cl cc] w fun e w' => e = .returned (.bool true) ∧ Below w.heap.size w w' := by
  obtain ⟨k0, hk0⟩ : ∃ k, k = fr % 4 := ⟨_, rfl⟩
  obtain ⟨f, hf⟩ : ∃ f, f = k0 + 1 := ⟨_, rfl⟩
  have hf1 : 1 ≤ f := by omega
  have hf4 : f ≤ 4 := by omega
  have HN := hide (od_new w 4 (by omega) (by omega))
  have HOP : Hid (∀ w1 d, OD (fun _ => False) w w1 d (Ds.new 4) → Calls Tryz.prog 8 #[at0 d, .int .i64 ((f : Nat) : Int)] w1 fun e w' => ∃ m p, e = .returned (.tuple #[at0 m, .int .i64 0]) ∧ OM M (fun _ => False) w w' m p d (Po.opened (Ds.new 4) 4 f) ∧ Kept6 (fun _ => False) w1 w') := fun w1 d h => od_open S h (Ds.Easy.new (by omega) (by omega)) (by show (0 : Nat) ≤ _; omega) (by omega) hf1 (by omega) (by show 0 + 65536 ≤ _; omega)
  have HAW : Hid (∀ w', Calls Tryz.prog 10 #[] w' fun e w2 => e = .returned (.bool true) ∧ Below w'.heap.size w' w2) := fun w' => awakeM_any S w'
  have HA := hide hA
  have HAC := hide hAc
  have HS := hide S
  have hbig := hA.big
  have hbigc := hAc.big
  have hFK : (1 : Int) + ((k0 : Nat) : Int) = ((f : Nat) : Int) := by omega
  have HFK := hide hFK
  have hcv : ∀ w : World, (convert 5 3 (.int .u8 (((fr : Nat) : Int) % 4))).run Tryz.prog w = .ok (.int .i64 ((k0 : Nat) : Int)) w := by
    intro w
    have e1 : ((fr : Nat) : Int) % 4 = ((k0 : Nat) : Int) := by omega
    have e2 : IntKind.i64.wrap ((k0 : Nat) : Int) = ((k0 : Nat) : Int) := by rw [IntKind.wrap_i64]; omega
    simp [go_sem, e1, e2]
  have HCVF := hide hcv
  have hk07 : k0 < 4 := by omega
  obtain ⟨C, hC⟩ : ∃ C, C = (.cells (vals (List.replicate 512 0)).toArray 5 : Obj) := ⟨_, rfl⟩
  have HCE := hide hC
  have HMK : Hid (∀ wr : World, (Instr.makeSlice 32 (.int .i64 512) (.int .i64 512)).run Tryz.prog wr = .ok (.slice (some ⟨wr.heap.size, 0, none⟩) 512 512) (wr.alloc C)) := fun wr => by rw [hC]; exact make_bytes 512 (by omega) wr
  clear hk0 hf hA hAc S hC hFK
  unfold at0 at *
  go_enter Tryz.func4, Tryz.ntmps4
  go_wp2_with fail
  refine HN.out.mono ?_
  rintro e w1 ⟨d, rfl, hd⟩
  have H1 := hide (HOP.out w1 d hd)
  clear hd HOP HN
  unfold at0 at *
  go_wp2_with fail
  simp only [HFK.out]
  refine H1.out.mono ?_
  rintro e w2 ⟨m, p, rfl, ho, _⟩
  have O2 := hide ho
  have HLI := hide (lightA_any w2 a len cap l (HA.out.keep ho.below))
  have HLC := hide (lightA_any w2 ca cl cc lc (HAC.out.keep ho.below))
  clear ho H1 hcv
  unfold at0 at *
  have hnil : ∀ w : World, (binOp .eql 27 (.pointer (some ⟨m, 0, none⟩)) (.pointer none)).run Tryz.prog w = .ok (.bool false) w := fun _ => rfl
  go_wp2_with fail
  refine HLI.out.mono ?_
  rintro e w2' ⟨hw2, r, rfl⟩
  obtain rfl := hw2.symm
  clear hw2 HLI
  cases r
  · clear HLC
    go_wp2_with fail
    refine (HAW.out _).mono ?_
    rintro e w3 ⟨rfl, hb3⟩
    have HB3 := hide (rBelowM O2.out.below hb3)
    clear hb3
    go_wp2_with fail
    go_ret
    exact ⟨rfl, HB3.out⟩
  go_wp2_with fail
  refine HLC.out.mono ?_
  rintro e w2' ⟨hw2, r, rfl⟩
  obtain rfl := hw2.symm
  clear hw2 HLC
  cases r
  · go_wp2_with fail
    refine (HAW.out _).mono ?_
    rintro e w3 ⟨rfl, hb3⟩
    have HB3 := hide (rBelowM O2.out.below hb3)
    clear hb3
    go_wp2_with fail
    go_ret
    exact ⟨rfl, HB3.out⟩
  by_cases hcl : cl = 0
  · subst hcl
    go_wp2_with fail
    refine (HAW.out _).mono ?_
    rintro e w3 ⟨rfl, hb3⟩
    have HB3 := hide (rBelowM O2.out.below hb3)
    clear hb3
    go_wp2_with fail
    go_ret
    exact ⟨rfl, HB3.out⟩
  have icl : ¬ ((cl : Nat) : Int) = 0 := by omega
  have icl2 : (((cl : Nat) : Int) == 0) = false := by simpa using icl
  have HZ0 : Hid (ZI w2 (w2.alloc (.cells #[] 76)) ⟨some ⟨w2.heap.size, 0, none⟩, 0, 0⟩ [] 0) := ⟨GI.new _ _ w2 (Nat.le_refl _), rfl, below_alloc w2 _⟩
  go_wp2_with fail
  go_loopw [11, 12] (fun nv iv wr => ∃ (k : Nat) (v : Sl) (li : List Ix), k ≤ 4 ∧ v.len = k ∧ iv = .int .i64 k ∧ nv = v.val ∧ Hid (ZI w2 wr v li k)) (fun _ iv _ => 4 - (intOf iv).toNat)
  case atStart => exact ⟨0, _, _, by omega, rfl, rfl, rfl, HZ0⟩
  case round =>
    obtain ⟨k, ⟨va, vl, vc⟩, li, hk4, hvl, rfl, rfl, hZ⟩ := hrel
    clear HZ0
    simp only at hvl
    subst hvl
    simp only [Sl.val]
    by_cases hk : vl < 4
    · have i3 : ((vl : Nat) : Int) < 4 := by omega
      have HM := hide (HMK.out wr)
      have HOW := hide ((hZ.out.1.keep (below_alloc wr C)).own)
      go_wp2_with (first | refine wpList_make _ rfl 32 (.const (.int .i64 512)) (.const (.int .i64 512)) rfl (.int .i64 512) (.int .i64 512) (.slice (some ⟨wr.heap.size, 0, none⟩) 512 512) rfl rfl (wr.alloc C) HM.out ?_ | (at_builtin; refine wpList_append_im (wr.alloc C) ⟨((vl : Nat) : Int), ⟨some ⟨wr.heap.size, 0, none⟩, 512, 512⟩, List.replicate 512 0⟩ rfl (.tmp 72) (.tmp 76) rfl ⟨va, vl, vc⟩ li rfl (by rw [alloc_size]; rfl) HOW.out (by show vl + 1 ≤ 1000000; omega) ?_))
      intro v6 w6 ho6 hl6 hf6 hb6
      have HZ6 := hide (zi_step hZ.out HCE.out ho6 hf6 (by rw [alloc_size]; exact hb6))
      clear ho6 hf6 hb6 HOW HM hZ
      obtain ⟨va6, vl6, vc6⟩ := v6
      simp only at hl6
      subst hl6
      simp only [Sl.val]
      go_wp2_with fail
      go_roundw
      case rel => exact ⟨vl + 1, ⟨va6, vl + 1, vc6⟩, _, by omega, rfl, by go_num, rfl, HZ6⟩
      case measure => simp only [intOf]; omega
    · obtain rfl : vl = 4 := by omega
      have i3 : ¬ (4 : Int) < 4 := by omega
      have HPG := hide (wg_start HS.out hf1 (by omega) O2.out hZ.out (by show 4 ≤ 1000; omega))
      unfold at0 at HPG
      clear hZ O2 HMK HCE
      go_wp2_with fail
      refine HPG.out.mono ?_
      rintro e w3 ⟨x3, rfl, b3, h3⟩
      have HST : Hid (WG M w (w3.alloc (.cells #[.string x3] 9)) m p d (600 + 60 * 0) (65536 * 0) 0 ⟨va, 4, vc⟩ ⟨some ⟨w3.heap.size, 0, none⟩, 1, 1⟩ [x3] b3 false (fun _ => False)) := h3.more (by omega) (by omega) (by omega)
      clear h3 HPG
      go_wp2_with fail
      go_loopw [11, 13, 14, 15] (fun nv tv yv iv wr => ∃ (j : Nat) (v sv : Sl) (ss : List ByteArray) (syn : Nat) (b : Bool), j ≤ len ∧ j ≤ 20 ∧ ss.length ≤ j + 1 ∧ iv = .int .i64 j ∧ nv = v.val ∧ tv = sv.val ∧ yv = .int .i64 ((syn : Nat) : Int) ∧ Hid (WG M w wr m p d (600 + 60 * j) (65536 * j) syn v sv ss b false (fun _ => False))) (fun _ _ _ iv _ => 20 - (intOf iv).toNat)
      case atStart => exact ⟨0, ⟨va, 4, vc⟩, ⟨some ⟨w3.heap.size, 0, none⟩, 1, 1⟩, [x3], 0, b3, by omega, by omega, Nat.le_refl _, rfl, rfl, rfl, rfl, HST⟩
      case round =>
        obtain ⟨j, ⟨va, vl, vc⟩, ⟨sa, sl, sc⟩, ss, syn, bb0, hj, hj2, hssj, rfl, rfl, rfl, rfl, hL⟩ := hrel
        clear HST
        simp only [Sl.val]
        by_cases hgo : j < len ∧ j < 20
        · obtain ⟨hlt, hlt2⟩ := hgo
          have i5 : ((j : Nat) : Int) < ((len : Nat) : Int) := by omega
          have i6 : ((j : Nat) : Int) < 20 := by omega
          obtain ⟨b, off, ha, hat⟩ := (HA.out.keep hL.out.below).at_ j hlt
          have d0 := hat.c0
          have d1 := hat.c1
          have d2 := hat.c2
          have d3 := hat.c3
          have d4 := hat.c4
          have hin := hat.inn
          clear hat
          subst ha
          generalize l.getD j agD = t at *
          obtain ⟨dd, ⟨pa, pl, pc⟩, ⟨ba, bl, bc⟩, nn, ⟨qa, ql, qc⟩, ps, bb, pat⟩ := t
          simp only at d0 d1 d2 d3 d4
          have hbx := below_alloc wr (.cells #[.int .i64 dd, .slice pa pl pc, .slice ba bl bc, .int .i64 nn, .slice qa ql qc] 50)
          have HLW := hide (hL.out.box HS.out hbx)
          have HIN := hide (hin.keep hbx)
          clear hL hin hbx
          by_cases h0 : dd = 0
          · subst h0
            as_aux_lemma =>
              have HG := hide (group_any _ _ HIN.out)
              unfold Ag.cells at HG
              simp only [Sl.val] at HG
              have HGN := hide (wg_gone HS.out HLW.out)
              unfold at0 at HGN
              cases bb0
              · -- the power is there
                go_wp2_with fail
                refine HGN.out.mono ?_
                rintro e w' ⟨rfl, hw⟩
                obtain rfl := hw.symm
                clear hw HGN
                go_wp2_with fail
                refine HG.out.mono ?_
                rintro e w2 ⟨⟨v2a, v2l, v2c⟩, l2, rfl, hg2, hi2, hb2⟩
                have hl9 : v2l ≤ 9 := by
                  have h1 : l2.length = v2l := hg2.len
                  have h2 : l2.length = cnt pl bl := by
                    have h3 := congrArg List.length hi2
                    rw [ims_length] at h3
                    rw [h3]
                    exact imgsOf_length _ _ _
                  have : cnt pl bl ≤ 9 := Nat.min_le_right _ _
                  omega
                obtain ⟨r, hap⟩ := wg_apply HS.out HLW.out (by omega) hb2 hg2 hl9
                have HAP := hide hap
                have HIB : Hid (∀ w3 : World, True) := hide (fun _ => trivial)
                unfold at0 at HAP
                simp only [Sl.val] at HAP ⊢
                clear hap hg2 hi2 hb2 hl9 HG HLW HIN HIB
                go_wp2_with fail
                refine HAP.out.mono ?_
                rintro e w3 ⟨rfl, hn, hz⟩
                by_cases hr : r = 0
                · subst hr
                  have HRA := hide (hz rfl)
                  clear hn hz HAP
                  go_wp2_with fail
                  refine HRA.out.mono ?_
                  rintro e w4 ⟨⟨va4, vl4, vc4⟩, rfl, ⟨b4, h4⟩, hk4'⟩
                  have HK4 := hide hk4'
                  clear hk4'
                  obtain ⟨F, ⟨nb, no, hva, hvl, hcells⟩, hstep⟩ := wg_now h4
                  simp only at hva hvl
                  subst hva
                  subst hvl
                  have HCE := hide hcells
                  have HSTEP := hide hstep
                  have HOW : Hid (OwnW w4 ⟨sa, sl, sc⟩ ss) := by obtain ⟨_, _, _, _, _, _, _, q, _⟩ := h4; exact q.own
                  have H4 := hide h4
                  obtain ⟨WR, hWR⟩ : ∃ W : World, W = wr := ⟨_, rfl⟩
                  have KLT : Hid (∀ k, (wr.heap.size ≤ k ∧ k < (wr.alloc (.cells #[.int .i64 0, .slice pa pl pc, .slice ba bl bc, .int .i64 nn, .slice qa ql qc] 50)).heap.size) → k < w4.heap.size) := fun k hk => by obtain ⟨_, _, _, _, _, _, _, q, qE, _⟩ := h4; exact q.om.lt (qE k hk)
                  rw [← hWR] at HK4 KLT HSTEP
                  have HWR := hide hWR
                  clear h4 HRA hcells hstep hWR
                  simp only
                  go_wp2_with fail
                  go_loopw [18, 19] (fun tv iv wz => wz = w4 ∧ ∃ k : Nat, k ≤ 4 ∧ iv = .int .i64 k ∧ tv = .string (bstr (cat F k))) (fun _ iv _ => 4 - (intOf iv).toNat)
                  case atStart => exact ⟨rfl, 0, by omega, rfl, rfl⟩
                  case round =>
                    obtain ⟨rfl, k, hk4, rfl, rfl⟩ := hrel
                    by_cases hk : k < 4
                    · have i7 : ((k : Nat) : Int) < 4 := by omega
                      obtain ⟨xa, xc, hcell, hbs⟩ := HCE.out k hk
                      have HCV := hide (run_string_of xc hbs)
                      have hlc : (cat F k).length = 512 * k := cat_len (fun i hi => (HCE.out i (by omega)).elim (fun _ q => q.elim (fun _ q => q.2.1)))
                      have hsz : (bstr (cat F k)).size + (bstr (F k)).size ≤ 9223372036854775807 := by rw [bstr_size, bstr_size, hlc, hbs.1]; omega
                      have happ : bstr (cat F k) ++ bstr (F k) = bstr (cat F (k + 1)) := by rw [bstr_append, cat_succ]
                      clear hlc
                      clear hbs
                      go_wp2_with (refine wpList_convW _ rfl 32 9 (.tmp 122) rfl (.slice xa 512 xc) _ rfl _ HCV.out ?_)
                      go_roundw
                      case rel => exact ⟨by trivial, k + 1, by omega, by go_num, rfl⟩
                      case measure => simp only [intOf]; omega
                    · obtain rfl : k = 4 := by omega
                      have i7 : ¬ (4 : Int) < 4 := by omega
                      have hsl : sl + 1 ≤ 1000000 := by have := HOW.out.len; simp only at this; omega
                      go_wp2_with (at_builtin; refine wpList_append_strW wr (bstr (cat F 4)) rfl (.tmp 125) (.tmp 127) rfl ⟨sa, sl, sc⟩ ss rfl rfl HOW.out hsl ?_)
                      intro sv6 w6 ho6 hl6 hf6 hb6
                      obtain ⟨hL6, hk6⟩ := HSTEP.out w6 sv6 ho6 HOW.out hf6 hb6 HS.out
                      have e0 : w6.cell? ⟨WR.heap.size, 0, none⟩ = some (.int .i64 0) := (Addr.cell0 (box0 (fun k hk hl => (hk6 k hk (KLT.out k hk)).trans (HK4.out k hk hl)))).trans rfl
                      rw [HWR.out] at e0
                      have HL : Hid (WG M w w6 m p d (600 + 60 * (j + 1)) (65536 * (j + 1)) syn ⟨some ⟨nb, no, none⟩, 4, vc4⟩ sv6 (ss ++ [bstr (cat F 4)]) b4 false (fun _ => False)) := (hL6.more (by omega) (by omega) (by omega)).free
                      clear hL6 hk6 HK4 KLT ho6 hf6 hb6 HSTEP HOW H4 HCE
                      obtain ⟨sa6, sl6, sc6⟩ := sv6
                      simp only at hl6
                      have HSL : Hid (ss ++ [bstr (cat F 4)] = ss ++ [bstr (cat F 4)] ∧ (ss ++ [bstr (cat F 4)]).length ≤ j + 1 + 1) := ⟨rfl, by rw [List.length_append]; simp only [List.length_cons, List.length_nil]; omega⟩
                      generalize ss ++ [bstr (cat F 4)] = ss6 at *
                      have hss6 := HSL.out.2
                      simp only [Sl.val]
                      go_wp2_with fail
                      go_roundw
                      case rel => exact ⟨j + 1, ⟨some ⟨nb, no, none⟩, 4, vc4⟩, ⟨sa6, sl6, sc6⟩, ss6, syn, _, by omega, by omega, hss6, by go_num, rfl, rfl, rfl, HL⟩
                      case measure => simp only [intOf]; omega
                · have gr : (r == 0) = false := by simpa using hr
                  have HL : Hid (WG M w w3 m p d (600 + 60 * (j + 1)) (65536 * (j + 1)) syn ⟨va, vl, vc⟩ ⟨sa, sl, sc⟩ ss false false (fun _ => False)) := ((hn hr).1.more (by omega) (by omega) (by omega)).free
                  have e0 : w3.cell? ⟨wr.heap.size, 0, none⟩ = some (.int .i64 0) := (Addr.cell0 (box0 (hn hr).2)).trans rfl
                  clear hn hz HAP
                  go_wp2_with fail
                  go_roundw
                  case rel => exact ⟨j + 1, ⟨va, vl, vc⟩, ⟨sa, sl, sc⟩, ss, syn, _, by omega, by omega, by omega, by go_num, rfl, rfl, rfl, HL⟩
                  case measure => simp only [intOf]; omega
              · have HL : Hid (WG M w (wr.alloc (.cells #[.int .i64 0, .slice pa pl pc, .slice ba bl bc, .int .i64 nn, .slice qa ql qc] 50)) m p d (600 + 60 * (j + 1)) (65536 * (j + 1)) syn ⟨va, vl, vc⟩ ⟨sa, sl, sc⟩ ss true false (fun _ => False)) := (HLW.out.free).more (by omega) (by omega) (by omega)
                clear HLW HIN HG
                go_wp2_with fail
                refine HGN.out.mono ?_
                rintro e w' ⟨rfl, hw⟩
                obtain rfl := hw.symm
                clear hw HGN
                go_wp2_with fail
                go_roundw
                case rel => exact ⟨j + 1, ⟨va, vl, vc⟩, ⟨sa, sl, sc⟩, ss, syn, _, by omega, by omega, by omega, by go_num, rfl, rfl, rfl, HL⟩
                case measure => simp only [intOf]; omega
          by_cases h1 : dd = 1
          · subst h1
            as_aux_lemma =>
              have HSY := hide (wg_sync HS.out HLW.out)
              unfold at0 at HSY
              have HSLN : Hid (sl = ss.length) := HLW.out.len.1
              have hsl1 : 1 ≤ sl := by rw [HSLN.out]; exact HLW.out.len.2.1
              have hsl2 : sl ≤ 21 := by rw [HSLN.out]; omega
              clear HIN
              cases bb0
              · rw [if_neg (by decide)] at HSY
                go_wp2_with fail
                refine HSY.out.mono ?_
                rintro e w3 ⟨rfl, h3, hk3⟩
                have e0 : w3.cell? ⟨wr.heap.size, 0, none⟩ = some (.int .i64 1) := (Addr.cell0 (box0 hk3)).trans rfl
                have HGN := hide (wg_gone HS.out h3)
                have HL : Hid (WG M w w3 m p d (600 + 60 * (j + 1)) (65536 * (j + 1)) (ss.length - 1) ⟨va, vl, vc⟩ ⟨sa, sl, sc⟩ ss false false (fun _ => False)) := (h3.more (by omega) (by omega) (by omega)).free
                unfold at0 at HGN
                have HS2 : Hid (((sl : Nat) : Int) - 1 = ((ss.length - 1 : Nat) : Int)) := by show _ = _; have := HSLN.out; omega
                clear h3 hk3 HSY HLW
                go_wp2_with fail
                refine HGN.out.mono ?_
                rintro e w' ⟨rfl, hw⟩
                obtain rfl := hw.symm
                clear hw HGN
                go_wp2_with fail
                go_roundw
                case rel => exact ⟨j + 1, ⟨va, vl, vc⟩, ⟨sa, sl, sc⟩, ss, ss.length - 1, _, by omega, by omega, by omega, by go_num, rfl, rfl, by rw [HS2.out], HL⟩
                case measure => simp only [intOf]; omega
              · rw [if_pos rfl] at HSY
                go_wp2_with fail
                refine HSY.out.mono ?_
                rintro e w3 ⟨rfl, h3, hk3⟩
                have e0 : w3.cell? ⟨wr.heap.size, 0, none⟩ = some (.int .i64 1) := (Addr.cell0 (box0 hk3)).trans rfl
                have HGN := hide (wg_gone HS.out h3)
                have HL : Hid (WG M w w3 m p d (600 + 60 * (j + 1)) (65536 * (j + 1)) syn ⟨va, vl, vc⟩ ⟨sa, sl, sc⟩ ss true false (fun _ => False)) := (h3.more (by omega) (by omega) (by omega)).free
                unfold at0 at HGN
                clear h3 hk3 HSY HLW
                go_wp2_with fail
                refine HGN.out.mono ?_
                rintro e w' ⟨rfl, hw⟩
                obtain rfl := hw.symm
                clear hw HGN
                go_wp2_with fail
                go_roundw
                case rel => exact ⟨j + 1, ⟨va, vl, vc⟩, ⟨sa, sl, sc⟩, ss, syn, _, by omega, by omega, by omega, by go_num, rfl, rfl, rfl, HL⟩
                case measure => simp only [intOf]; omega
          by_cases h2 : dd = 2
          · subst h2
            as_aux_lemma =>
              have HCK := hide (wg_check HS.out HLW.out (by omega) (by omega))
              unfold at0 at HCK
              clear HLW HIN
              go_wp2_with fail
              refine HCK.out.mono ?_
              rintro e w3 ⟨rfl, ⟨b3, h3⟩, hk3⟩
              have e0 : w3.cell? ⟨wr.heap.size, 0, none⟩ = some (.int .i64 2) := (Addr.cell0 (box0 hk3)).trans rfl
              have HL : Hid (WG M w w3 m p d (600 + 60 * (j + 1)) (65536 * (j + 1)) syn ⟨va, vl, vc⟩ ⟨sa, sl, sc⟩ ss b3 false (fun _ => False)) := (h3.more (by omega) (by omega) (by omega)).free
              clear h3 hk3 HCK
              go_wp2_with fail
              go_roundw
              case rel => exact ⟨j + 1, ⟨va, vl, vc⟩, ⟨sa, sl, sc⟩, ss, syn, _, by omega, by omega, by omega, by go_num, rfl, rfl, rfl, HL⟩
              case measure => simp only [intOf]; omega
          by_cases h3 : dd = 3
          · subst h3
            as_aux_lemma =>
              have HEV := hide (wg_evict HS.out HLW.out (by omega) nn HIN.out.wn)
              unfold at0 at HEV
              clear HLW HIN
              go_wp2_with fail
              refine HEV.out.mono ?_
              rintro e w3 ⟨r, rfl, ⟨b3, h3⟩, hk3⟩
              have e0 : w3.cell? ⟨wr.heap.size, 0, none⟩ = some (.int .i64 3) := (Addr.cell0 (box0 hk3)).trans rfl
              have HL : Hid (WG M w w3 m p d (600 + 60 * (j + 1)) (65536 * (j + 1)) syn ⟨va, vl, vc⟩ ⟨sa, sl, sc⟩ ss b3 false (fun _ => False)) := (h3.more (by omega) (by omega) (by omega)).free
              clear h3 hk3 HEV
              go_wp2_with fail
              go_roundw
              case rel => exact ⟨j + 1, ⟨va, vl, vc⟩, ⟨sa, sl, sc⟩, ss, syn, _, by omega, by omega, by omega, by go_num, rfl, rfl, rfl, HL⟩
              case measure => simp only [intOf]; omega
          by_cases h5 : dd = 5
          · subst h5
            as_aux_lemma =>
              have HAR := hide (wg_arm HS.out HLW.out nn HIN.out.wn)
              unfold at0 at HAR
              clear HLW HIN
              go_wp2_with fail
              refine HAR.out.mono ?_
              rintro e w3 ⟨rfl, h3, hk3⟩
              have e0 : w3.cell? ⟨wr.heap.size, 0, none⟩ = some (.int .i64 5) := (Addr.cell0 (box0 hk3)).trans rfl
              have HL : Hid (WG M w w3 m p d (600 + 60 * (j + 1)) (65536 * (j + 1)) syn ⟨va, vl, vc⟩ ⟨sa, sl, sc⟩ ss bb0 false (fun _ => False)) := (h3.more (by omega) (by omega) (by omega)).free
              clear h3 hk3 HAR
              go_wp2_with fail
              go_roundw
              case rel => exact ⟨j + 1, ⟨va, vl, vc⟩, ⟨sa, sl, sc⟩, ss, syn, _, by omega, by omega, by omega, by go_num, rfl, rfl, rfl, HL⟩
              case measure => simp only [intOf]; omega
          as_aux_lemma =>
            have g0 : (dd == 0) = false := by simpa using h0
            have g1 : (dd == 1) = false := by simpa using h1
            have g2 : (dd == 2) = false := by simpa using h2
            have g3 : (dd == 3) = false := by simpa using h3
            have g5 : (dd == 5) = false := by simpa using h5
            have HL : Hid (WG M w (wr.alloc (.cells #[.int .i64 dd, .slice pa pl pc, .slice ba bl bc, .int .i64 nn, .slice qa ql qc] 50)) m p d (600 + 60 * (j + 1)) (65536 * (j + 1)) syn ⟨va, vl, vc⟩ ⟨sa, sl, sc⟩ ss bb0 false (fun _ => False)) := (HLW.out.free).more (by omega) (by omega) (by omega)
            clear HLW HIN
            go_wp2_with fail
            go_roundw
            case rel => exact ⟨j + 1, ⟨va, vl, vc⟩, ⟨sa, sl, sc⟩, ss, syn, _, by omega, by omega, by omega, by go_num, rfl, rfl, rfl, HL⟩
            case measure => simp only [intOf]; omega
        · have HCG : Hid (CG w wr d (600 + 60 * j) (65536 * j) syn ⟨sa, sl, sc⟩ ss) := hL.out.cg HS.out
          have hlen := hL.out.len
          simp only at hlen
          have HC0 : Hid (CG w wr d 1800 (65536 * 24) syn ⟨sa, sl, sc⟩ ss) := by
            obtain ⟨A, D, gs, N, B, t, q1, q2, q3, q4, q5⟩ := HCG.out
            exact ⟨A, D, gs, N, B, t, q1, q2.more (by omega), q3, Nat.le_trans q4 (by omega), q5⟩
          clear hL HCG
          have hout : (((j : Nat) : Int) < ((len : Nat) : Int) ∧ ¬ (((j : Nat) : Int) < 20)) ∨ ¬ ((j : Nat) : Int) < ((len : Nat) : Int) := by omega
          clear hgo
          rcases hout with ⟨i5, i6⟩ | i5
          · as_aux_lemma =>
              obtain ⟨hs1, g, so, hsa, _⟩ := HC0.out.at_ (k := 0) (by omega)
              simp only at hs1 hsa
              subst hsa
              have HSL := hide hs1
              have hslen : sl = ss.length := hs1
              have hs21 : sl ≤ 21 := by omega
              have hsy1 : syn < sl := by omega
              clear hlen hs1 hslen
              have hcv := HCVF.out
              go_wp2_with fail
              go_loopw [20] (fun iv wr => ∃ i : Nat, i ≤ 4 ∧ i ≤ cl ∧ iv = .int .i64 i ∧ Hid (CG w wr d 1800 (65536 * (24 + i)) syn ⟨some ⟨g, so, none⟩, sl, sc⟩ ss)) (fun iv _ => 4 - (intOf iv).toNat)
              case atStart => exact ⟨0, by omega, by omega, rfl, HC0⟩
              case round =>
                obtain ⟨i, hi4, hicl, rfl, hG⟩ := hrel
                clear HC0
                by_cases hgo2 : i < cl ∧ i < 4
                · obtain ⟨hic, hi4'⟩ := hgo2
                  have i7 : ((i : Nat) : Int) < ((cl : Nat) : Int) := by omega
                  have i8 : ((i : Nat) : Int) < 4 := by omega
                  obtain ⟨cb, co, hca, hcat0⟩ := HAC.out.at_ i hic
                  have HCAT : Hid (∀ w' : World, Below w.heap.size w w' → w'.cell? ⟨cb, co + i * 5 + 4, none⟩ = some (.slice (lc.getD i agD).q.a (lc.getD i agD).q.len (lc.getD i agD).q.cap) ∧ w'.cell? ⟨cb, co + i * 5 + 3, none⟩ = some (.int .i64 (lc.getD i agD).n)) := fun w' hb => ⟨(hcat0.keep hb).c4, (hcat0.keep hb).c3⟩
                  have HPT := hide hcat0.inn.q
                  have HPL := hide hcat0.inn.ql
                  have HWN := hide hcat0.inn.wn
                  clear hcat0
                  subst hca
                  generalize lc.getD i agD = ti at *
                  obtain ⟨tdd, tp, tb, tn, ⟨ta, tl, tc⟩, tps, tbb, tpat⟩ := ti
                  simp only at HCAT HPT HPL HWN
                  have HCR := cg_crash (hG.out.keep (below_drew wr)) (by omega) ta tl tc tpat HPT.out HPL.out tn
                  have HR41 : Hid (∀ {Q : Exit → Act → World → Prop} {A : Act}, _) := fun {Q A} => whole41 wr cb co cl cc i d ta tl tc tn hic (fun w2 => CR w w2 d (65536 * (24 + i)) syn ⟨some ⟨g, so, none⟩, sl, sc⟩ ss) (HCAT.out wr hG.out.below) HCR (fun w2 h2 => HCAT.out w2 h2.below) (Q := Q) (A := A)
                  clear HCR hG
                  go_wp2_with fail
                  refine Pl.region_is (ops := Pl.find 41 ((Tryz.f4.body).getD .skip)) (by kernel_rfl) ?_
                  refine HR41.out (by rfl) (by rfl) (by rfl) (by rfl) (by rfl) (fun u w5 hw5 => ?_)
                  clear HR41
                  simp only [Act.put, List.setIfInBounds_toArray, List.set_cons_zero, List.set_cons_succ]
                  have HOPN : Hid (∀ w6, CR w w6 d (65536 * (24 + i)) syn ⟨some ⟨g, so, none⟩, sl, sc⟩ ss → Calls Tryz.prog 8 #[.pointer (some ⟨d, 0, none⟩), .int .i64 ((f : Nat) : Int)] w6 fun e w' => ∃ m p b, e = .returned (.tuple #[at0 m, .int .i64 0]) ∧ CO M w w' m p d (65536 * (24 + (i + 1))) syn ⟨some ⟨g, so, none⟩, sl, sc⟩ ss b) := fun w6 h6 => by
                    have := cr_open HS.out h6 hf1 (by omega) (by omega)
                    rw [show 65536 * (24 + i) + 65536 = 65536 * (24 + (i + 1)) by omega] at this
                    exact this
                  have HARM : Hid (∀ k : Int, k ≤ 9223372036854775807 → Calls Tryz.prog 24 #[.pointer (some ⟨d, 0, none⟩), .int .i64 k] w5 fun e w' => e = .returned (.tuple #[]) ∧ CR w w' d (65536 * (24 + i)) syn ⟨some ⟨g, so, none⟩, sl, sc⟩ ss) := fun k hk => cr_arm hw5 k hk
                  have d3 := (HCAT.out w5 hw5.below).2
                  have HW5 := hide hw5
                  clear hw5 HCAT HPT HPL
                  by_cases hi0 : i = 0
                  · subst hi0
                    have HO5 := hide (HOPN.out w5 HW5.out)
                    clear HOPN HARM HW5 d3
                    go_wp2_with fail
                    simp only [HFK.out]
                    refine HO5.out.mono ?_
                    rintro e w7 ⟨m2, p2, b2, rfl, h7⟩
                    have H7 := hide h7
                    have HGN := hide (co_gone HS.out h7)
                    unfold at0 at *
                    clear h7 HO5
                    have hnil2 : ∀ w : World, (binOp .eql 27 (.pointer (some ⟨m2, 0, none⟩)) (.pointer none)).run Tryz.prog w = .ok (.bool false) w := fun _ => rfl
                    go_wp2_with fail
                    refine HGN.out.mono ?_
                    rintro e w' ⟨rfl, hw⟩
                    obtain rfl := hw.symm
                    clear hw HGN
                    cases b2
                    · obtain ⟨kN, hk1, hk2, hcall⟩ := co_text HS.out H7.out
                      have HTX := hide hcall
                      have hkN : kN < sl := by have := HSL.out; omega
                      unfold at0 at HTX
                      clear hcall hk2 H7
                      go_wp2_with fail
                      refine HTX.out.mono ?_
                      rintro e w8 ⟨rfl, h8⟩
                      have H8 := hide h8
                      clear h8 HTX
                      obtain ⟨y, hy⟩ : ∃ y, y = ss.getD kN ByteArray.empty := ⟨_, rfl⟩
                      rw [← hy]
                      have HY := hide hy
                      clear hy
                      go_wp2_with fail
                      go_loopw [24, 25] (fun av kv wz => wz = w8 ∧ ∃ (kk : Nat) (at_ : Int), syn ≤ kk ∧ kk ≤ sl ∧ kv = .int .i64 kk ∧ av = .int .i64 at_ ∧ -1 ≤ at_ ∧ (kN < kk → 0 ≤ at_)) (fun _ kv _ => sl - (intOf kv).toNat)
                      case atStart => exact ⟨rfl, syn, -1, by omega, by omega, rfl, rfl, by omega, by omega⟩
                      case round =>
                        obtain ⟨rfl, kk, at_, hkk1, hkk2, rfl, rfl, hat1, hat2⟩ := hrel
                        by_cases hkk : kk < sl
                        · have j1 : ((kk : Nat) : Int) < ((sl : Nat) : Int) := by omega
                          obtain ⟨_, g2, so2, hga, hcell⟩ := H8.out.at_ (k := kk) (by have := HSL.out; omega)
                          simp only at hga
                          cases hga
                          obtain ⟨x, hx⟩ : ∃ x, x = ss.getD kk ByteArray.empty := ⟨_, rfl⟩
                          rw [← hx] at hcell
                          by_cases hxy : x = y
                          · subst hxy
                            clear hx
                            go_wp2_with fail
                            go_roundw
                            case rel => exact ⟨by trivial, kk + 1, ((kk : Nat) : Int), by omega, by omega, by go_num, rfl, by omega, by omega⟩
                            case measure => simp only [intOf]; omega
                          · have hne : kk ≠ kN := fun e => hxy (by rw [hx, HY.out, e])
                            have hxl : (x.toList == y.toList) = false := strNe hxy
                            clear hx
                            go_wp2_with fail
                            go_roundw
                            case rel => exact ⟨by trivial, kk + 1, at_, by omega, by omega, by go_num, rfl, by omega, fun e => hat2 (by omega)⟩
                            case measure => simp only [intOf]; omega
                        · obtain rfl : kk = sl := by omega
                          have j1 : ¬ ((kk : Nat) : Int) < ((kk : Nat) : Int) := by omega
                          have j2 : ¬ at_ < 0 := by have := hat2 hkN; omega
                          have HN : Hid (CG w wr d 1800 (65536 * (24 + (0 + 1))) syn ⟨some ⟨g, so, none⟩, kk, sc⟩ ss) := H8.out.up (by omega)
                          clear H8 hat1 hat2
                          go_wp2_with fail
                          go_roundw
                          case rel => exact ⟨0 + 1, by omega, by omega, by go_num, HN⟩
                          case measure => simp only [intOf]; omega
                    · have HN : Hid (CG w w7 d 1800 (65536 * (24 + (0 + 1))) syn ⟨some ⟨g, so, none⟩, sl, sc⟩ ss) := (H7.out.cg HS.out).up (by omega)
                      clear H7
                      go_wp2_with fail
                      go_roundw
                      case rel => exact ⟨0 + 1, by omega, by omega, by go_num, HN⟩
                      case measure => simp only [intOf]; omega
                  · have i9 : (0 : Int) < ((i : Nat) : Int) := by omega
                    go_wp2_with fail
                    refine (HARM.out _ ?_).mono ?_
                    · have := Int.tmod_lt_of_pos tn (show (0 : Int) < 40 by omega)
                      omega
                    rintro e w6 ⟨rfl, h6⟩
                    have HO5 := hide (HOPN.out w6 h6)
                    clear HOPN HARM HW5 d3 h6
                    go_wp2_with fail
                    simp only [HFK.out]
                    refine HO5.out.mono ?_
                    rintro e w7 ⟨m2, p2, b2, rfl, h7⟩
                    have H7 := hide h7
                    have HGN := hide (co_gone HS.out h7)
                    unfold at0 at *
                    clear h7 HO5
                    have hnil2 : ∀ w : World, (binOp .eql 27 (.pointer (some ⟨m2, 0, none⟩)) (.pointer none)).run Tryz.prog w = .ok (.bool false) w := fun _ => rfl
                    go_wp2_with fail
                    refine HGN.out.mono ?_
                    rintro e w' ⟨rfl, hw⟩
                    obtain rfl := hw.symm
                    clear hw HGN
                    cases b2
                    · obtain ⟨kN, hk1, hk2, hcall⟩ := co_text HS.out H7.out
                      have HTX := hide hcall
                      have hkN : kN < sl := by have := HSL.out; omega
                      unfold at0 at HTX
                      clear hcall hk2 H7
                      go_wp2_with fail
                      refine HTX.out.mono ?_
                      rintro e w8 ⟨rfl, h8⟩
                      have H8 := hide h8
                      clear h8 HTX
                      obtain ⟨y, hy⟩ : ∃ y, y = ss.getD kN ByteArray.empty := ⟨_, rfl⟩
                      rw [← hy]
                      have HY := hide hy
                      clear hy
                      go_wp2_with fail
                      go_loopw [24, 25] (fun av kv wz => wz = w8 ∧ ∃ (kk : Nat) (at_ : Int), syn ≤ kk ∧ kk ≤ sl ∧ kv = .int .i64 kk ∧ av = .int .i64 at_ ∧ -1 ≤ at_ ∧ (kN < kk → 0 ≤ at_)) (fun _ kv _ => sl - (intOf kv).toNat)
                      case atStart => exact ⟨rfl, syn, -1, by omega, by omega, rfl, rfl, by omega, by omega⟩
                      case round =>
                        obtain ⟨rfl, kk, at_, hkk1, hkk2, rfl, rfl, hat1, hat2⟩ := hrel
                        by_cases hkk : kk < sl
                        · have j1 : ((kk : Nat) : Int) < ((sl : Nat) : Int) := by omega
                          obtain ⟨_, g2, so2, hga, hcell⟩ := H8.out.at_ (k := kk) (by have := HSL.out; omega)
                          simp only at hga
                          cases hga
                          obtain ⟨x, hx⟩ : ∃ x, x = ss.getD kk ByteArray.empty := ⟨_, rfl⟩
                          rw [← hx] at hcell
                          by_cases hxy : x = y
                          · subst hxy
                            clear hx
                            go_wp2_with fail
                            go_roundw
                            case rel => exact ⟨by trivial, kk + 1, ((kk : Nat) : Int), by omega, by omega, by go_num, rfl, by omega, by omega⟩
                            case measure => simp only [intOf]; omega
                          · have hne : kk ≠ kN := fun e => hxy (by rw [hx, HY.out, e])
                            have hxl : (x.toList == y.toList) = false := strNe hxy
                            clear hx
                            go_wp2_with fail
                            go_roundw
                            case rel => exact ⟨by trivial, kk + 1, at_, by omega, by omega, by go_num, rfl, by omega, fun e => hat2 (by omega)⟩
                            case measure => simp only [intOf]; omega
                        · obtain rfl : kk = sl := by omega
                          have j1 : ¬ ((kk : Nat) : Int) < ((kk : Nat) : Int) := by omega
                          have j2 : ¬ at_ < 0 := by have := hat2 hkN; omega
                          have HN : Hid (CG w wr d 1800 (65536 * (24 + (i + 1))) syn ⟨some ⟨g, so, none⟩, kk, sc⟩ ss) := H8.out.up (by omega)
                          clear H8 hat1 hat2
                          go_wp2_with fail
                          go_roundw
                          case rel => exact ⟨i + 1, by omega, by omega, by go_num, HN⟩
                          case measure => simp only [intOf]; omega
                    · have HN : Hid (CG w w7 d 1800 (65536 * (24 + (i + 1))) syn ⟨some ⟨g, so, none⟩, sl, sc⟩ ss) := (H7.out.cg HS.out).up (by omega)
                      clear H7
                      go_wp2_with fail
                      go_roundw
                      case rel => exact ⟨i + 1, by omega, by omega, by go_num, HN⟩
                      case measure => simp only [intOf]; omega
                · have HCR := hide (cg_crash hG.out (by omega) none 0 0 [] ⟨rfl, fun i hi => absurd hi (Nat.not_lt_zero i)⟩ (by omega) 0)
                  unfold at0 at HCR
                  clear hG
                  have hout2 : (((i : Nat) : Int) < ((cl : Nat) : Int) ∧ ¬ (((i : Nat) : Int) < 4)) ∨ ¬ ((i : Nat) : Int) < ((cl : Nat) : Int) := by omega
                  have hi24 : 65536 * (24 + i) + 65536 ≤ 900000000000 := by omega
                  clear hgo2
                  rcases hout2 with ⟨i7, i8⟩ | i7
                  · go_wp2_with fail
                    refine HCR.out.mono ?_
                    rintro e w5 ⟨rfl, h5⟩
                    have HO5 := hide (cr_open HS.out h5 (f := 2) (by omega) (by omega) hi24)
                    clear h5 HCR
                    unfold at0 at HO5
                    go_wp2_with fail
                    refine HO5.out.mono ?_
                    rintro e w7 ⟨m2, p2, b2, rfl, h7⟩
                    obtain ⟨kN, hk1, hk2, hcall⟩ := co_text HS.out h7
                    have HTX := hide hcall
                    have hkN : kN < sl := by have := HSL.out; omega
                    unfold at0 at *
                    clear hcall hk2 h7 HO5
                    have hnil2 : ∀ w : World, (binOp .eql 27 (.pointer (some ⟨m2, 0, none⟩)) (.pointer none)).run Tryz.prog w = .ok (.bool false) w := fun _ => rfl
                    go_wp2_with fail
                    refine HTX.out.mono ?_
                    rintro e w8 ⟨rfl, h8⟩
                    have H8 := hide h8
                    clear h8 HTX
                    obtain ⟨y, hy⟩ : ∃ y, y = ss.getD kN ByteArray.empty := ⟨_, rfl⟩
                    rw [← hy]
                    have HY := hide hy
                    clear hy
                    go_wp2_with fail
                    go_loopw [29] (fun kv wz => wz = w8 ∧ ∃ kk : Nat, syn ≤ kk ∧ kk ≤ kN ∧ kv = .int .i64 kk) (fun kv _ => sl - (intOf kv).toNat)
                    case atStart => exact ⟨rfl, syn, by omega, by omega, rfl⟩
                    case round =>
                      obtain ⟨rfl, kk, hkk1, hkk2, rfl⟩ := hrel
                      have j1 : ((kk : Nat) : Int) < ((sl : Nat) : Int) := by omega
                      obtain ⟨_, g2, so2, hga, hcell⟩ := H8.out.at_ (k := kk) (by have := HSL.out; omega)
                      simp only at hga
                      cases hga
                      obtain ⟨x, hx⟩ : ∃ x, x = ss.getD kk ByteArray.empty := ⟨_, rfl⟩
                      rw [← hx] at hcell
                      by_cases hxy : x = y
                      · subst hxy
                        have HB8 := hide H8.out.below
                        clear hx H8
                        go_wp2_with fail
                        refine (HAW.out _).mono ?_
                        rintro e w9 ⟨rfl, hb9⟩
                        have HB9 := hide (rBelowM HB8.out hb9)
                        clear hb9
                        go_wp2_with fail
                        go_ret
                        exact ⟨rfl, HB9.out⟩
                      · have hne : kk ≠ kN := fun e => hxy (by rw [hx, HY.out, e])
                        have hxl : (x.toList == y.toList) = false := strNe hxy
                        clear hx
                        go_wp2_with fail
                        go_roundw
                        case rel => exact ⟨by trivial, kk + 1, by omega, by omega, by go_num⟩
                        case measure => simp only [intOf]; omega
                  · go_wp2_with fail
                    refine HCR.out.mono ?_
                    rintro e w5 ⟨rfl, h5⟩
                    have HO5 := hide (cr_open HS.out h5 (f := 2) (by omega) (by omega) hi24)
                    clear h5 HCR
                    unfold at0 at HO5
                    go_wp2_with fail
                    refine HO5.out.mono ?_
                    rintro e w7 ⟨m2, p2, b2, rfl, h7⟩
                    obtain ⟨kN, hk1, hk2, hcall⟩ := co_text HS.out h7
                    have HTX := hide hcall
                    have hkN : kN < sl := by have := HSL.out; omega
                    unfold at0 at *
                    clear hcall hk2 h7 HO5
                    have hnil2 : ∀ w : World, (binOp .eql 27 (.pointer (some ⟨m2, 0, none⟩)) (.pointer none)).run Tryz.prog w = .ok (.bool false) w := fun _ => rfl
                    go_wp2_with fail
                    refine HTX.out.mono ?_
                    rintro e w8 ⟨rfl, h8⟩
                    have H8 := hide h8
                    clear h8 HTX
                    obtain ⟨y, hy⟩ : ∃ y, y = ss.getD kN ByteArray.empty := ⟨_, rfl⟩
                    rw [← hy]
                    have HY := hide hy
                    clear hy
                    go_wp2_with fail
                    go_loopw [29] (fun kv wz => wz = w8 ∧ ∃ kk : Nat, syn ≤ kk ∧ kk ≤ kN ∧ kv = .int .i64 kk) (fun kv _ => sl - (intOf kv).toNat)
                    case atStart => exact ⟨rfl, syn, by omega, by omega, rfl⟩
                    case round =>
                      obtain ⟨rfl, kk, hkk1, hkk2, rfl⟩ := hrel
                      have j1 : ((kk : Nat) : Int) < ((sl : Nat) : Int) := by omega
                      obtain ⟨_, g2, so2, hga, hcell⟩ := H8.out.at_ (k := kk) (by have := HSL.out; omega)
                      simp only at hga
                      cases hga
                      obtain ⟨x, hx⟩ : ∃ x, x = ss.getD kk ByteArray.empty := ⟨_, rfl⟩
                      rw [← hx] at hcell
                      by_cases hxy : x = y
                      · subst hxy
                        have HB8 := hide H8.out.below
                        clear hx H8
                        go_wp2_with fail
                        refine (HAW.out _).mono ?_
                        rintro e w9 ⟨rfl, hb9⟩
                        have HB9 := hide (rBelowM HB8.out hb9)
                        clear hb9
                        go_wp2_with fail
                        go_ret
                        exact ⟨rfl, HB9.out⟩
                      · have hne : kk ≠ kN := fun e => hxy (by rw [hx, HY.out, e])
                        have hxl : (x.toList == y.toList) = false := strNe hxy
                        clear hx
                        go_wp2_with fail
                        go_roundw
                        case rel => exact ⟨by trivial, kk + 1, by omega, by omega, by go_num⟩
                        case measure => simp only [intOf]; omega
          · as_aux_lemma =>
              obtain ⟨hs1, g, so, hsa, _⟩ := HC0.out.at_ (k := 0) (by omega)
              simp only at hs1 hsa
              subst hsa
              have HSL := hide hs1
              have hslen : sl = ss.length := hs1
              have hs21 : sl ≤ 21 := by omega
              have hsy1 : syn < sl := by omega
              clear hlen hs1 hslen
              have hcv := HCVF.out
              go_wp2_with fail
              go_loopw [20] (fun iv wr => ∃ i : Nat, i ≤ 4 ∧ i ≤ cl ∧ iv = .int .i64 i ∧ Hid (CG w wr d 1800 (65536 * (24 + i)) syn ⟨some ⟨g, so, none⟩, sl, sc⟩ ss)) (fun iv _ => 4 - (intOf iv).toNat)
              case atStart => exact ⟨0, by omega, by omega, rfl, HC0⟩
              case round =>
                obtain ⟨i, hi4, hicl, rfl, hG⟩ := hrel
                clear HC0
                by_cases hgo2 : i < cl ∧ i < 4
                · obtain ⟨hic, hi4'⟩ := hgo2
                  have i7 : ((i : Nat) : Int) < ((cl : Nat) : Int) := by omega
                  have i8 : ((i : Nat) : Int) < 4 := by omega
                  obtain ⟨cb, co, hca, hcat0⟩ := HAC.out.at_ i hic
                  have HCAT : Hid (∀ w' : World, Below w.heap.size w w' → w'.cell? ⟨cb, co + i * 5 + 4, none⟩ = some (.slice (lc.getD i agD).q.a (lc.getD i agD).q.len (lc.getD i agD).q.cap) ∧ w'.cell? ⟨cb, co + i * 5 + 3, none⟩ = some (.int .i64 (lc.getD i agD).n)) := fun w' hb => ⟨(hcat0.keep hb).c4, (hcat0.keep hb).c3⟩
                  have HPT := hide hcat0.inn.q
                  have HPL := hide hcat0.inn.ql
                  have HWN := hide hcat0.inn.wn
                  clear hcat0
                  subst hca
                  generalize lc.getD i agD = ti at *
                  obtain ⟨tdd, tp, tb, tn, ⟨ta, tl, tc⟩, tps, tbb, tpat⟩ := ti
                  simp only at HCAT HPT HPL HWN
                  have HCR := cg_crash (hG.out.keep (below_drew wr)) (by omega) ta tl tc tpat HPT.out HPL.out tn
                  have HR41 : Hid (∀ {Q : Exit → Act → World → Prop} {A : Act}, _) := fun {Q A} => whole41 wr cb co cl cc i d ta tl tc tn hic (fun w2 => CR w w2 d (65536 * (24 + i)) syn ⟨some ⟨g, so, none⟩, sl, sc⟩ ss) (HCAT.out wr hG.out.below) HCR (fun w2 h2 => HCAT.out w2 h2.below) (Q := Q) (A := A)
                  clear HCR hG
                  go_wp2_with fail
                  refine Pl.region_is (ops := Pl.find 41 ((Tryz.f4.body).getD .skip)) (by kernel_rfl) ?_
                  refine HR41.out (by rfl) (by rfl) (by rfl) (by rfl) (by rfl) (fun u w5 hw5 => ?_)
                  clear HR41
                  simp only [Act.put, List.setIfInBounds_toArray, List.set_cons_zero, List.set_cons_succ]
                  have HOPN : Hid (∀ w6, CR w w6 d (65536 * (24 + i)) syn ⟨some ⟨g, so, none⟩, sl, sc⟩ ss → Calls Tryz.prog 8 #[.pointer (some ⟨d, 0, none⟩), .int .i64 ((f : Nat) : Int)] w6 fun e w' => ∃ m p b, e = .returned (.tuple #[at0 m, .int .i64 0]) ∧ CO M w w' m p d (65536 * (24 + (i + 1))) syn ⟨some ⟨g, so, none⟩, sl, sc⟩ ss b) := fun w6 h6 => by
                    have := cr_open HS.out h6 hf1 (by omega) (by omega)
                    rw [show 65536 * (24 + i) + 65536 = 65536 * (24 + (i + 1)) by omega] at this
                    exact this
                  have HARM : Hid (∀ k : Int, k ≤ 9223372036854775807 → Calls Tryz.prog 24 #[.pointer (some ⟨d, 0, none⟩), .int .i64 k] w5 fun e w' => e = .returned (.tuple #[]) ∧ CR w w' d (65536 * (24 + i)) syn ⟨some ⟨g, so, none⟩, sl, sc⟩ ss) := fun k hk => cr_arm hw5 k hk
                  have d3 := (HCAT.out w5 hw5.below).2
                  have HW5 := hide hw5
                  clear hw5 HCAT HPT HPL
                  by_cases hi0 : i = 0
                  · subst hi0
                    have HO5 := hide (HOPN.out w5 HW5.out)
                    clear HOPN HARM HW5 d3
                    go_wp2_with fail
                    simp only [HFK.out]
                    refine HO5.out.mono ?_
                    rintro e w7 ⟨m2, p2, b2, rfl, h7⟩
                    have H7 := hide h7
                    have HGN := hide (co_gone HS.out h7)
                    unfold at0 at *
                    clear h7 HO5
                    have hnil2 : ∀ w : World, (binOp .eql 27 (.pointer (some ⟨m2, 0, none⟩)) (.pointer none)).run Tryz.prog w = .ok (.bool false) w := fun _ => rfl
                    go_wp2_with fail
                    refine HGN.out.mono ?_
                    rintro e w' ⟨rfl, hw⟩
                    obtain rfl := hw.symm
                    clear hw HGN
                    cases b2
                    · obtain ⟨kN, hk1, hk2, hcall⟩ := co_text HS.out H7.out
                      have HTX := hide hcall
                      have hkN : kN < sl := by have := HSL.out; omega
                      unfold at0 at HTX
                      clear hcall hk2 H7
                      go_wp2_with fail
                      refine HTX.out.mono ?_
                      rintro e w8 ⟨rfl, h8⟩
                      have H8 := hide h8
                      clear h8 HTX
                      obtain ⟨y, hy⟩ : ∃ y, y = ss.getD kN ByteArray.empty := ⟨_, rfl⟩
                      rw [← hy]
                      have HY := hide hy
                      clear hy
                      go_wp2_with fail
                      go_loopw [24, 25] (fun av kv wz => wz = w8 ∧ ∃ (kk : Nat) (at_ : Int), syn ≤ kk ∧ kk ≤ sl ∧ kv = .int .i64 kk ∧ av = .int .i64 at_ ∧ -1 ≤ at_ ∧ (kN < kk → 0 ≤ at_)) (fun _ kv _ => sl - (intOf kv).toNat)
                      case atStart => exact ⟨rfl, syn, -1, by omega, by omega, rfl, rfl, by omega, by omega⟩
                      case round =>
                        obtain ⟨rfl, kk, at_, hkk1, hkk2, rfl, rfl, hat1, hat2⟩ := hrel
                        by_cases hkk : kk < sl
                        · have j1 : ((kk : Nat) : Int) < ((sl : Nat) : Int) := by omega
                          obtain ⟨_, g2, so2, hga, hcell⟩ := H8.out.at_ (k := kk) (by have := HSL.out; omega)
                          simp only at hga
                          cases hga
                          obtain ⟨x, hx⟩ : ∃ x, x = ss.getD kk ByteArray.empty := ⟨_, rfl⟩
                          rw [← hx] at hcell
                          by_cases hxy : x = y
                          · subst hxy
                            clear hx
                            go_wp2_with fail
                            go_roundw
                            case rel => exact ⟨by trivial, kk + 1, ((kk : Nat) : Int), by omega, by omega, by go_num, rfl, by omega, by omega⟩
                            case measure => simp only [intOf]; omega
                          · have hne : kk ≠ kN := fun e => hxy (by rw [hx, HY.out, e])
                            have hxl : (x.toList == y.toList) = false := strNe hxy
                            clear hx
                            go_wp2_with fail
                            go_roundw
                            case rel => exact ⟨by trivial, kk + 1, at_, by omega, by omega, by go_num, rfl, by omega, fun e => hat2 (by omega)⟩
                            case measure => simp only [intOf]; omega
                        · obtain rfl : kk = sl := by omega
                          have j1 : ¬ ((kk : Nat) : Int) < ((kk : Nat) : Int) := by omega
                          have j2 : ¬ at_ < 0 := by have := hat2 hkN; omega
                          have HN : Hid (CG w wr d 1800 (65536 * (24 + (0 + 1))) syn ⟨some ⟨g, so, none⟩, kk, sc⟩ ss) := H8.out.up (by omega)
                          clear H8 hat1 hat2
                          go_wp2_with fail
                          go_roundw
                          case rel => exact ⟨0 + 1, by omega, by omega, by go_num, HN⟩
                          case measure => simp only [intOf]; omega
                    · have HN : Hid (CG w w7 d 1800 (65536 * (24 + (0 + 1))) syn ⟨some ⟨g, so, none⟩, sl, sc⟩ ss) := (H7.out.cg HS.out).up (by omega)
                      clear H7
                      go_wp2_with fail
                      go_roundw
                      case rel => exact ⟨0 + 1, by omega, by omega, by go_num, HN⟩
                      case measure => simp only [intOf]; omega
                  · have i9 : (0 : Int) < ((i : Nat) : Int) := by omega
                    go_wp2_with fail
                    refine (HARM.out _ ?_).mono ?_
                    · have := Int.tmod_lt_of_pos tn (show (0 : Int) < 40 by omega)
                      omega
                    rintro e w6 ⟨rfl, h6⟩
                    have HO5 := hide (HOPN.out w6 h6)
                    clear HOPN HARM HW5 d3 h6
                    go_wp2_with fail
                    simp only [HFK.out]
                    refine HO5.out.mono ?_
                    rintro e w7 ⟨m2, p2, b2, rfl, h7⟩
                    have H7 := hide h7
                    have HGN := hide (co_gone HS.out h7)
                    unfold at0 at *
                    clear h7 HO5
                    have hnil2 : ∀ w : World, (binOp .eql 27 (.pointer (some ⟨m2, 0, none⟩)) (.pointer none)).run Tryz.prog w = .ok (.bool false) w := fun _ => rfl
                    go_wp2_with fail
                    refine HGN.out.mono ?_
                    rintro e w' ⟨rfl, hw⟩
                    obtain rfl := hw.symm
                    clear hw HGN
                    cases b2
                    · obtain ⟨kN, hk1, hk2, hcall⟩ := co_text HS.out H7.out
                      have HTX := hide hcall
                      have hkN : kN < sl := by have := HSL.out; omega
                      unfold at0 at HTX
                      clear hcall hk2 H7
                      go_wp2_with fail
                      refine HTX.out.mono ?_
                      rintro e w8 ⟨rfl, h8⟩
                      have H8 := hide h8
                      clear h8 HTX
                      obtain ⟨y, hy⟩ : ∃ y, y = ss.getD kN ByteArray.empty := ⟨_, rfl⟩
                      rw [← hy]
                      have HY := hide hy
                      clear hy
                      go_wp2_with fail
                      go_loopw [24, 25] (fun av kv wz => wz = w8 ∧ ∃ (kk : Nat) (at_ : Int), syn ≤ kk ∧ kk ≤ sl ∧ kv = .int .i64 kk ∧ av = .int .i64 at_ ∧ -1 ≤ at_ ∧ (kN < kk → 0 ≤ at_)) (fun _ kv _ => sl - (intOf kv).toNat)
                      case atStart => exact ⟨rfl, syn, -1, by omega, by omega, rfl, rfl, by omega, by omega⟩
                      case round =>
                        obtain ⟨rfl, kk, at_, hkk1, hkk2, rfl, rfl, hat1, hat2⟩ := hrel
                        by_cases hkk : kk < sl
                        · have j1 : ((kk : Nat) : Int) < ((sl : Nat) : Int) := by omega
                          obtain ⟨_, g2, so2, hga, hcell⟩ := H8.out.at_ (k := kk) (by have := HSL.out; omega)
                          simp only at hga
                          cases hga
                          obtain ⟨x, hx⟩ : ∃ x, x = ss.getD kk ByteArray.empty := ⟨_, rfl⟩
                          rw [← hx] at hcell
                          by_cases hxy : x = y
                          · subst hxy
                            clear hx
                            go_wp2_with fail
                            go_roundw
                            case rel => exact ⟨by trivial, kk + 1, ((kk : Nat) : Int), by omega, by omega, by go_num, rfl, by omega, by omega⟩
                            case measure => simp only [intOf]; omega
                          · have hne : kk ≠ kN := fun e => hxy (by rw [hx, HY.out, e])
                            have hxl : (x.toList == y.toList) = false := strNe hxy
                            clear hx
                            go_wp2_with fail
                            go_roundw
                            case rel => exact ⟨by trivial, kk + 1, at_, by omega, by omega, by go_num, rfl, by omega, fun e => hat2 (by omega)⟩
                            case measure => simp only [intOf]; omega
                        · obtain rfl : kk = sl := by omega
                          have j1 : ¬ ((kk : Nat) : Int) < ((kk : Nat) : Int) := by omega
                          have j2 : ¬ at_ < 0 := by have := hat2 hkN; omega
                          have HN : Hid (CG w wr d 1800 (65536 * (24 + (i + 1))) syn ⟨some ⟨g, so, none⟩, kk, sc⟩ ss) := H8.out.up (by omega)
                          clear H8 hat1 hat2
                          go_wp2_with fail
                          go_roundw
                          case rel => exact ⟨i + 1, by omega, by omega, by go_num, HN⟩
                          case measure => simp only [intOf]; omega
                    · have HN : Hid (CG w w7 d 1800 (65536 * (24 + (i + 1))) syn ⟨some ⟨g, so, none⟩, sl, sc⟩ ss) := (H7.out.cg HS.out).up (by omega)
                      clear H7
                      go_wp2_with fail
                      go_roundw
                      case rel => exact ⟨i + 1, by omega, by omega, by go_num, HN⟩
                      case measure => simp only [intOf]; omega
                · have HCR := hide (cg_crash hG.out (by omega) none 0 0 [] ⟨rfl, fun i hi => absurd hi (Nat.not_lt_zero i)⟩ (by omega) 0)
                  unfold at0 at HCR
                  clear hG
                  have hout2 : (((i : Nat) : Int) < ((cl : Nat) : Int) ∧ ¬ (((i : Nat) : Int) < 4)) ∨ ¬ ((i : Nat) : Int) < ((cl : Nat) : Int) := by omega
                  have hi24 : 65536 * (24 + i) + 65536 ≤ 900000000000 := by omega
                  clear hgo2
                  rcases hout2 with ⟨i7, i8⟩ | i7
                  · go_wp2_with fail
                    refine HCR.out.mono ?_
                    rintro e w5 ⟨rfl, h5⟩
                    have HO5 := hide (cr_open HS.out h5 (f := 2) (by omega) (by omega) hi24)
                    clear h5 HCR
                    unfold at0 at HO5
                    go_wp2_with fail
                    refine HO5.out.mono ?_
                    rintro e w7 ⟨m2, p2, b2, rfl, h7⟩
                    obtain ⟨kN, hk1, hk2, hcall⟩ := co_text HS.out h7
                    have HTX := hide hcall
                    have hkN : kN < sl := by have := HSL.out; omega
                    unfold at0 at *
                    clear hcall hk2 h7 HO5
                    have hnil2 : ∀ w : World, (binOp .eql 27 (.pointer (some ⟨m2, 0, none⟩)) (.pointer none)).run Tryz.prog w = .ok (.bool false) w := fun _ => rfl
                    go_wp2_with fail
                    refine HTX.out.mono ?_
                    rintro e w8 ⟨rfl, h8⟩
                    have H8 := hide h8
                    clear h8 HTX
                    obtain ⟨y, hy⟩ : ∃ y, y = ss.getD kN ByteArray.empty := ⟨_, rfl⟩
                    rw [← hy]
                    have HY := hide hy
                    clear hy
                    go_wp2_with fail
                    go_loopw [29] (fun kv wz => wz = w8 ∧ ∃ kk : Nat, syn ≤ kk ∧ kk ≤ kN ∧ kv = .int .i64 kk) (fun kv _ => sl - (intOf kv).toNat)
                    case atStart => exact ⟨rfl, syn, by omega, by omega, rfl⟩
                    case round =>
                      obtain ⟨rfl, kk, hkk1, hkk2, rfl⟩ := hrel
                      have j1 : ((kk : Nat) : Int) < ((sl : Nat) : Int) := by omega
                      obtain ⟨_, g2, so2, hga, hcell⟩ := H8.out.at_ (k := kk) (by have := HSL.out; omega)
                      simp only at hga
                      cases hga
                      obtain ⟨x, hx⟩ : ∃ x, x = ss.getD kk ByteArray.empty := ⟨_, rfl⟩
                      rw [← hx] at hcell
                      by_cases hxy : x = y
                      · subst hxy
                        have HB8 := hide H8.out.below
                        clear hx H8
                        go_wp2_with fail
                        refine (HAW.out _).mono ?_
                        rintro e w9 ⟨rfl, hb9⟩
                        have HB9 := hide (rBelowM HB8.out hb9)
                        clear hb9
                        go_wp2_with fail
                        go_ret
                        exact ⟨rfl, HB9.out⟩
                      · have hne : kk ≠ kN := fun e => hxy (by rw [hx, HY.out, e])
                        have hxl : (x.toList == y.toList) = false := strNe hxy
                        clear hx
                        go_wp2_with fail
                        go_roundw
                        case rel => exact ⟨by trivial, kk + 1, by omega, by omega, by go_num⟩
                        case measure => simp only [intOf]; omega
                  · go_wp2_with fail
                    refine HCR.out.mono ?_
                    rintro e w5 ⟨rfl, h5⟩
                    have HO5 := hide (cr_open HS.out h5 (f := 2) (by omega) (by omega) hi24)
                    clear h5 HCR
                    unfold at0 at HO5
                    go_wp2_with fail
                    refine HO5.out.mono ?_
                    rintro e w7 ⟨m2, p2, b2, rfl, h7⟩
                    obtain ⟨kN, hk1, hk2, hcall⟩ := co_text HS.out h7
                    have HTX := hide hcall
                    have hkN : kN < sl := by have := HSL.out; omega
                    unfold at0 at *
                    clear hcall hk2 h7 HO5
                    have hnil2 : ∀ w : World, (binOp .eql 27 (.pointer (some ⟨m2, 0, none⟩)) (.pointer none)).run Tryz.prog w = .ok (.bool false) w := fun _ => rfl
                    go_wp2_with fail
                    refine HTX.out.mono ?_
                    rintro e w8 ⟨rfl, h8⟩
                    have H8 := hide h8
                    clear h8 HTX
                    obtain ⟨y, hy⟩ : ∃ y, y = ss.getD kN ByteArray.empty := ⟨_, rfl⟩
                    rw [← hy]
                    have HY := hide hy
                    clear hy
                    go_wp2_with fail
                    go_loopw [29] (fun kv wz => wz = w8 ∧ ∃ kk : Nat, syn ≤ kk ∧ kk ≤ kN ∧ kv = .int .i64 kk) (fun kv _ => sl - (intOf kv).toNat)
                    case atStart => exact ⟨rfl, syn, by omega, by omega, rfl⟩
                    case round =>
                      obtain ⟨rfl, kk, hkk1, hkk2, rfl⟩ := hrel
                      have j1 : ((kk : Nat) : Int) < ((sl : Nat) : Int) := by omega
                      obtain ⟨_, g2, so2, hga, hcell⟩ := H8.out.at_ (k := kk) (by have := HSL.out; omega)
                      simp only at hga
                      cases hga
                      obtain ⟨x, hx⟩ : ∃ x, x = ss.getD kk ByteArray.empty := ⟨_, rfl⟩
                      rw [← hx] at hcell
                      by_cases hxy : x = y
                      · subst hxy
                        have HB8 := hide H8.out.below
                        clear hx H8
                        go_wp2_with fail
                        refine (HAW.out _).mono ?_
                        rintro e w9 ⟨rfl, hb9⟩
                        have HB9 := hide (rBelowM HB8.out hb9)
                        clear hb9
                        go_wp2_with fail
                        go_ret
                        exact ⟨rfl, HB9.out⟩
                      · have hne : kk ≠ kN := fun e => hxy (by rw [hx, HY.out, e])
                        have hxl : (x.toList == y.toList) = false := strNe hxy
                        clear hx
                        go_wp2_with fail
                        go_roundw
                        case rel => exact ⟨by trivial, kk + 1, by omega, by omega, by go_num⟩
                        case measure => simp only [intOf]; omega

end Go.Proofs.YtpggkfdnpdhkfaaGreat
