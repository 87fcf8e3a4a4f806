/-
  The walk of the law on how few pages are in, over what the landed pool says.
-/
import Derived.Test.YtenaonnijpnnaaaPoH
namespace Go.Proofs.Ytenaonnijpnnaaa
open Go.RowKit
set_option maxRecDepth 100000
set_option linter.unusedVariables false

/-! ### How those that are dirty are met among those that are in -/
theorem few_yes (g : Nat → Bool) (xs : List Nat) (m : Nat) (hm : m < xs.length) (h : g (xs.getD m 0) = true) : ((xs.take m).filter g).length < (xs.filter g).length ∧ (xs.filter g).getD ((xs.take m).filter g).length 0 = xs.getD m 0 ∧ ((xs.take (m + 1)).filter g).length = ((xs.take m).filter g).length + 1 := by
  have e0 : xs.getD m 0 = xs[m] := by simp [List.getD, hm]
  rw [e0] at h ⊢
  have e1 : xs = xs.take m ++ xs[m] :: xs.drop (m + 1) := by rw [List.getElem_cons_drop, List.take_append_drop]
  have e2 : xs.filter g = (xs.take m).filter g ++ xs[m] :: (xs.drop (m + 1)).filter g := by
    conv => lhs; rw [e1]
    rw [List.filter_append, List.filter_cons, if_pos h]
  refine ⟨?_, ?_, ?_⟩
  · rw [e2, List.length_append, List.length_cons]; omega
  · rw [e2]
    simp [List.getD]
  · rw [List.take_succ_eq_append_getElem hm, List.filter_append, List.length_append, List.filter_cons, if_pos h]
    rfl
theorem few_no (g : Nat → Bool) (xs : List Nat) (m : Nat) (hm : m < xs.length) (h : g (xs.getD m 0) = false) : (((xs.take m).filter g).length < (xs.filter g).length → ¬ (xs.filter g).getD ((xs.take m).filter g).length 0 = xs.getD m 0) ∧ ((xs.take (m + 1)).filter g).length = ((xs.take m).filter g).length := by
  refine ⟨fun hk e => ?_, ?_⟩
  · have hmem : (xs.filter g).getD ((xs.take m).filter g).length 0 ∈ xs.filter g := by
      rw [List.getD_eq_getElem?_getD, List.getElem?_eq_getElem hk]
      exact List.getElem_mem hk
    have := (List.mem_filter.1 hmem).2
    rw [e, h] at this
    cases this
  · have e0 : xs.getD m 0 = xs[m] := by simp [List.getD, hm]
    rw [e0] at h
    rw [List.take_succ_eq_append_getElem hm, List.filter_append, List.length_append, List.filter_cons, if_neg (by rw [h]; decide)]
    rfl
theorem inn_rise (P : Po) (n m : Nat) (h0 : 0 < m) (hm : m < (P.inn n).length) : ¬ (((P.inn n).getD m 0 : Nat) : Int) ≤ (((P.inn n).getD (m - 1) 0 : Nat) : Int) := by
  have hp : (P.inn n).Pairwise (· < ·) := List.Pairwise.filter _ List.pairwise_lt_range
  have := List.pairwise_iff_getElem.1 hp (m - 1) m (by omega) hm (by omega)
  have e1 : (P.inn n).getD m 0 = (P.inn n)[m] := by simp [List.getD, hm]
  have e2 : (P.inn n).getD (m - 1) 0 = (P.inn n)[m - 1] := by simp [List.getD, show m - 1 < (P.inn n).length by omega]
  rw [e1, e2]
  omega
/-- What stands between two rounds. -/
def FewI (M : PoM) (w : World) (p d f j : Nat) (wr : World) : Prop := ∃ P : Po, Our M w wr p d P ∧ P.Fine 5 (4 * j) ∧ P.l.length = f
/-- What In and Dirty tell, in memory. -/
structure InDi (W : World) (a : Option Addr) (len cap : Nat) (ad : Option Addr) (lend capd : Nat) (xs ds : List Nat) : Prop where
  l1 : len = xs.length
  l2 : lend = ds.length
  c1 : 0 < len → ∃ b off, a = some ⟨b, off, none⟩ ∧ ∀ j, j < len → W.cell? ⟨b, off + j, none⟩ = some (.int .i64 ((xs.getD j 0 : Nat) : Int))
  c2 : 0 < lend → ∃ b off, ad = some ⟨b, off, none⟩ ∧ ∀ j, j < lend → W.cell? ⟨b, off + j, none⟩ = some (.int .i64 ((ds.getD j 0 : Nat) : Int))
theorem InDi.keep {W W' : World} {a : Option Addr} {len cap : Nat} {ad : Option Addr} {lend capd : Nat} {xs ds : List Nat} (h : InDi W a len cap ad lend capd xs ds) (hb : Below W.heap.size W W') : InDi W' a len cap ad lend capd xs ds := by
  refine ⟨h.l1, h.l2, fun h0 => ?_, fun h0 => ?_⟩
  · obtain ⟨b, off, e, hc⟩ := h.c1 h0
    exact ⟨b, off, e, fun j hj => (hb.cell (World.block_lt_of_cell? W _ (hc j hj))).trans (hc j hj)⟩
  · obtain ⟨b, off, e, hc⟩ := h.c2 h0
    exact ⟨b, off, e, fun j hj => (hb.cell (World.block_lt_of_cell? W _ (hc j hj))).trans (hc j hj)⟩
theorem InDi.of {w5 w6 : World} {s5 s6 : Sl} {xs ds : List Nat} (h5 : Own 3 1 w5 s5 (ivals xs)) (hb : Below w5.heap.size w5 w6) (h6 : Own 3 1 w6 s6 (ivals ds)) : InDi w6 s5.a s5.len s5.cap s6.a s6.len s6.cap xs ds := by
  have h5' : Own 3 1 w6 s5 (ivals xs) := h5.frame (fun k hk => hb.block k (h5.lt hk))
  refine ⟨h5.ilen, h6.ilen, fun h0 => ?_, fun h0 => ?_⟩
  · obtain ⟨b, off, e⟩ := h5'.iadr (by rw [← h5.ilen]; exact h0)
    obtain ⟨a5, l5, c5⟩ := s5
    subst e
    exact ⟨b, off, rfl, fun j hj => ints_at h5' j (by rw [← h5.ilen]; exact hj)⟩
  · obtain ⟨b, off, e⟩ := h6.iadr (by rw [← h6.ilen]; exact h0)
    obtain ⟨a5, l5, c5⟩ := s6
    subst e
    exact ⟨b, off, rfl, fun j hj => ints_at h6 j (by rw [← h6.ilen]; exact hj)⟩

set_option maxHeartbeats 16000000 in
set_option maxRecDepth 100000 in
theorem few_walk {M : PoM} (S : PoolS M) (w : World) (fr : Nat) (hfr : fr ≤ 255) (a : Option Addr) (len cap : Nat) (l : List Ao) (hA : Acs w a len l) :
    Calls Try.prog 6 #[.int .u8 ((fr : Nat) : Int), .slice a len cap] w fun e w' => e = .returned (.bool true) ∧ Below w.heap.size w w' := by
  obtain ⟨k0, hk0⟩ : ∃ k, k = fr % 6 := ⟨_, rfl⟩
  obtain ⟨f, hf⟩ : ∃ f, f = k0 + 1 := ⟨_, rfl⟩
  have hf1 : 1 ≤ f := by omega
  have hf6 : f ≤ 6 := by omega
  have HN := hide (new_any w 5 (by omega) (by omega))
  have HPN : Hid (∀ w1 d L, Below w.heap.size w w1 → DevM w1 d (Ds.new 5) L → (∀ k, L.F d k → w.heap.size ≤ k) → Calls Try.prog 8 #[at0 d, .int .i64 ((f : Nat) : Int)] w1 fun e w' => ∃ p, e = .returned (.tuple #[at0 p, .int .i64 0]) ∧ Our M w w' p d (Po.new (Ds.new 5) f)) := fun w1 d L hb hd hf => our_new S (n := 5) w f (by omega) (by omega) hf1 (by omega) d w1 L hb hd hf
  have HFN := hide (Po.Fine.new (n := 5) (f := f) (by omega) (by omega) hf1 (by omega))
  have HAW : Hid (∀ w', Calls Try.prog 10 #[] w' fun e w2 => e = .returned (.bool true) ∧ Below w'.heap.size w' w2) := fun w' => awakeP_any S w'
  have HS := hide S
  have HA := hide hA
  have hbig := hA.big
  have HNK : Hid ((1 : Int) + ((k0 : Nat) : Int) = ((f : Nat) : Int)) := by show _ = _; omega
  have hcv : ∀ w : World, (convert 5 3 (.int .u8 (((fr : Nat) : Int) % 6))).run Try.prog w = .ok (.int .i64 ((k0 : Nat) : Int)) w := by
    intro w
    have e1 : ((fr : Nat) : Int) % 6 = ((k0 : Nat) : Int) := by omega
    have e2 : IntKind.i64.wrap ((k0 : Nat) : Int) = ((k0 : Nat) : Int) := by rw [IntKind.wrap_i64]; omega
    simp [go_sem, e1, e2]
  have hk06 : k0 < 6 := by omega
  clear hk0 hf hA S
  unfold at0 at *
  go_enter Try.func6, Try.ntmps6
  go_wp2_with fail
  refine HN.out.mono ?_
  rintro e w1 ⟨hb1, d, L1, rfl, hd1, hf1'⟩
  have HPN1 := hide (HPN.out w1 d L1 hb1 hd1 hf1')
  clear hb1 hd1 hf1' HPN HN hcv
  go_wp2_with fail
  simp only [HNK.out]
  refine HPN1.out.mono ?_
  rintro e w2 ⟨p, rfl, ho⟩
  have O2 := hide ho
  clear ho HPN1 HNK
  have hnil : ∀ w : World, (binOp .eql 27 (.pointer (some ⟨p, 0, none⟩)) (.pointer none)).run Try.prog w = .ok (.bool false) w := fun _ => rfl
  have hnil2 : ∀ w : World, (binOp .neq 27 (.pointer (some ⟨p, 0, none⟩)) (.pointer none)).run Try.prog w = .ok (.bool true) w := fun _ => rfl
  have HLI := hide (light_any w2 a len cap l (HA.out.keep O2.out.below))
  go_wp2_with fail
  refine HLI.out.mono ?_
  rintro e w2' ⟨rfl, r, rfl, hr⟩
  clear hr HLI
  cases r
  · go_wp2_with fail
    refine (HAW.out _).mono ?_
    rintro e w3 ⟨rfl, hb3⟩
    have HB3 := hide (O2.out.below.trans (hb3.mono O2.out.below.size))
    clear hb3
    go_wp2_with fail
    go_ret
    exact ⟨rfl, HB3.out⟩
  have HST : Hid (FewI M w p d f 0 w2') := hide ⟨_, O2.out, HFN.out, by simp [Po.new]⟩
  clear O2 HFN
  go_wp2_with fail
  go_loopw [10] (fun i wr => ∃ j : Nat, j ≤ len ∧ j ≤ 60 ∧ i = .int .i64 j ∧ Hid (FewI M w p d f j wr)) (fun i _ => len - (intOf i).toNat)
  case atStart => exact ⟨0, by omega, by omega, rfl, HST⟩
  case round =>
    obtain ⟨j, hj, hj4, rfl, hSt⟩ := hrel
    clear HST
    by_cases hgo : j < len ∧ j < 60
    · obtain ⟨hlt, hlt4⟩ := hgo
      have i5 : ((j : Nat) : Int) < ((len : Nat) : Int) := by omega
      have i6 : ((j : Nat) : Int) < 60 := by omega
      obtain ⟨P, ho, hfi, hpl⟩ := hSt.out
      have O3 := hide ho
      have F3 := hide hfi
      have PL3 := hide hpl
      obtain ⟨b, off, ha, hat0⟩ := HA.out.at_ j hlt
      obtain ⟨b', off', ha', hat⟩ := (HA.out.keep ho.below).at_ j hlt
      rw [ha] at ha'
      cases ha'
      obtain ⟨t, ht⟩ : ∃ t, t = l.getD j aoD := ⟨_, rfl⟩
      rw [← ht] at hat hat0
      clear ht ho hfi hpl hSt
      subst ha
      have d0 := hat.c0
      have d1 := hat.c1
      have d2 := hat.c2
      have HIN := hide hat.inn
      have HKC0 : Hid (∀ w3, Below w.heap.size w w3 → w3.cell? ⟨b, off + j * 5 + 1, none⟩ = some (.int .i64 t.x.pg) ∧ w3.cell? ⟨b, off + j * 5 + 2, none⟩ = some (.slice t.b.a t.b.len t.b.cap)) := hide (fun w3 hb3 => ⟨(hb3.cell (World.block_lt_of_cell? w _ hat0.c1)).trans hat0.c1, (hb3.cell (World.block_lt_of_cell? w _ hat0.c2)).trans hat0.c2⟩)
      clear hat hat0
      by_cases c0 : t.x.do_ = 0
      · rw [c0] at d0
        by_cases hpg : 0 ≤ t.x.pg ∧ t.x.pg < 5
        · obtain ⟨k, hk⟩ : ∃ k : Nat, t.x.pg = ((k : Nat) : Int) := ⟨t.x.pg.toNat, by omega⟩
          rw [hk] at d1 hpg
          have HR := hide (our_read HS.out O3.out F3.out k (by omega))
          have F4 : Hid ((P.letIn k).Fine 5 (4 * (j + 1))) := hide ((F3.out.letIn (by omega) (by omega)).more (by omega) (by omega))
          have PL4 : Hid ((P.letIn k).l.length = f) := hide ((F3.out.ok.letIn (p := k) (by omega)).len.trans PL3.out)
          unfold at0 at HR
          go_wp2_with fail
          refine HR.out.mono ?_
          rintro e w4 ⟨ho4, s4, rfl, _, _⟩
          have O4 := hide ho4
          generalize P.letIn k = P4 at *
          clear ho4 HR O3 F3 PL3
          have HII := hide (our_inn HS.out O4.out F4.out)
          unfold at0 at HII
          go_wp2_with fail
          refine HII.out.mono ?_
          rintro e w5 ⟨ho5, hb5, s5, rfl, hown5⟩
          have HDD := hide (our_dirty HS.out ho5 F4.out)
          have HO5 := hide hown5
          clear ho5 hb5 hown5 HII
          unfold at0 at HDD
          go_wp2_with fail
          refine HDD.out.mono ?_
          rintro e w6 ⟨ho6, hb6, s6, rfl, hown6⟩
          have HID := hide (InDi.of HO5.out hb6 hown6)
          have O6 := hide ho6
          have hfew : (P4.inn 5).length ≤ f := by have := F4.out.ok.few; rw [PL4.out] at this; exact this
          have hdle := dirty_le P4 5
          have HRISE := hide (inn_rise P4 5)
          have hdis := dirty_inn P4 5
          have hx5 : (P4.inn 5).length ≤ 5 := by
            have := List.length_filter_le (fun k => (P4.m k).isSome) (List.range 5)
            rw [List.length_range] at this
            exact this
          obtain ⟨xs, hxs⟩ : ∃ xs, xs = P4.inn 5 := ⟨_, rfl⟩
          rw [← hxs] at hfew hdle HRISE HID hx5 hdis
          rw [hdis] at hdle HID
          obtain ⟨g, hg⟩ : ∃ g, g = P4.isDirty := ⟨_, rfl⟩
          rw [← hg] at hdle HID
          obtain ⟨a5, l5, c5⟩ := s5
          obtain ⟨a6, l6, c6⟩ := s6
          unfold Sl.val
          simp only at HID ⊢
          have hl5 := HID.out.l1
          have hl6 := HID.out.l2
          have HL5 := hide hl5
          have HL6 := hide hl6
          clear hxs hg hdis ho6 hb6 hown6 HDD HO5
          have j1 : ¬ ((f : Nat) : Int) < ((l5 : Nat) : Int) := by omega
          have j2 : ¬ ((l5 : Nat) : Int) < ((l6 : Nat) : Int) := by omega
          have j3 : l5 ≤ 5 := by omega
          clear hl5 hl6 hdle hfew hx5
          go_wp2_with fail
          go_loopw [13, 14] (fun kk mm W => ∃ m : Nat, m ≤ l5 ∧ mm = .int .i64 ((m : Nat) : Int) ∧ kk = .int .i64 ((((xs.take m).filter g).length : Nat) : Int) ∧ Hid (Below w6.heap.size w6 W)) (fun _ mm _ => l5 - (intOf mm).toNat)
          case atStart => exact ⟨0, by omega, rfl, by rw [List.take_zero]; rfl, hide (Below.refl _ _)⟩
          case round =>
            obtain ⟨m, hm, rfl, rfl, hB⟩ := hrel
            by_cases hml : m < l5
            · have i7 : ((m : Nat) : Int) < ((l5 : Nat) : Int) := by omega
              obtain ⟨bx, ox, ex, hcx⟩ := (HID.out.keep hB.out).c1 (by omega)
              subst ex
              have HCX := hide hcx
              have hmx : m < xs.length := by have := HL5.out; omega
              obtain ⟨kk, hkk⟩ : ∃ kk, kk = ((xs.take m).filter g).length := ⟨_, rfl⟩
              have HKK := hide hkk
              have hkl : kk ≤ m := by rw [hkk]; exact Nat.le_trans (List.length_filter_le _ _) (by rw [List.length_take]; omega)
              rw [← hkk]
              clear hcx hkk
              have HB1 := hide (hB.out.trans ((below_drew wr).mono hB.out.size))
              have HB2 := hide (HB1.out.trans ((below_drew wr.drew).mono HB1.out.size))
              have HCD : Hid (∀ j, j < l5 → wr.drew.cell? ⟨bx, ox + j, none⟩ = some (.int .i64 ((xs.getD j 0 : Nat) : Int))) := hide (fun j hj => HCX.out j hj)
              have HDD2 := hide ((HID.out.keep HB1.out).c2)
              have H23 : Hid (∀ {Q : Exit → Act → World → Prop} {A : Act}, A.tmps.size = 178 → A.defers = [] → A.tmps.getD 11 undef = .slice (some ⟨bx, ox, none⟩) l5 c5 → A.tmps.getD 14 undef = .int .i64 ((m : Nat) : Int) → (∀ (u : Nat → Value), Q .normal (((((((((((((((A).put (some 127) (u 127)).put (some 128) (u 128)).put (some 129) (u 129)).put (some 130) (u 130)).put (some 131) (u 131)).put (some 132) (u 132)).put (some 133) (u 133)).put (some 134) (u 134)).put (some 135) (u 135)).put (some 136) (u 136)).put (some 137) (u 137)).put (some 138) (u 138)).put (some 139) (u 139)).put (some 140) (.bool false)) wr.drew) → (Code.region 23 (Pl.find 23 ((Try.f6.body).getD .skip)) true).wp Try.prog Q A wr) := by
                intro Q A e1 e2 e3 e4 hQ
                rcases Nat.eq_zero_or_pos m with h0 | h0
                · subst h0
                  exact few23b wr _ _ _ e1 e2 e3 e4 (fun u w' h' => by rw [h']; exact hQ u)
                · exact few23a wr bx ox l5 c5 m xs HCX.out hml (by omega) h0 (by have := HRISE.out m h0 hmx; omega) e1 e2 e3 e4 (fun u w' h' => by rw [h']; exact hQ u)
              go_wp2_with fail
              refine Pl.region_is (ops := Pl.find 23 ((Try.f6.body).getD .skip)) (by kernel_rfl) ?_
              refine H23.out (by rfl) rfl (by rfl) (by rfl) ?_
              intro uu
              simp only [Act.put, List.setIfInBounds_toArray, List.set_cons_zero, List.set_cons_succ]
              by_cases hdm : g (xs.getD m 0) = true
              · obtain ⟨y1, y2, y3⟩ := few_yes g xs m hmx hdm
                rw [← HKK.out] at y1 y2 y3
                rw [← HL6.out] at y1
                obtain ⟨bd, od, ed, hcd⟩ := HDD2.out (by omega)
                subst ed
                have H25' : Hid (∀ {Q : Exit → Act → World → Prop} {A : Act}, _) := fun {Q A} => few25a wr.drew bx ox l5 c5 m bd od l6 c6 kk xs _ HCD.out hcd hml y1 y2 (Q := Q) (A := A)
                have HY3 : Hid (((kk : Nat) : Int) + 1 = ((((xs.take (m + 1)).filter g).length : Nat) : Int)) := by rw [y3]; exact hide (by omega)
                have hw3 : IntKind.i64.wrap (((kk : Nat) : Int) + 1) = ((kk : Nat) : Int) + 1 := by rw [IntKind.wrap_i64]; omega
                clear hcd y2 y3
                go_wp2_with fail
                refine Pl.region_is (ops := Pl.find 25 ((Try.f6.body).getD .skip)) (by kernel_rfl) ?_
                refine H25'.out (by rfl) rfl (by rfl) (by rfl) (by rfl) (by rfl) ?_
                intro uu2 w' hw'
                subst hw'
                simp only [Act.put, List.setIfInBounds_toArray, List.set_cons_zero, List.set_cons_succ]
                go_wp2_with fail
                go_roundw
                case rel => exact ⟨m + 1, by omega, by go_num, by rw [HY3.out], HB2⟩
                case measure => simp only [intOf]; omega
              · have hdm' : g (xs.getD m 0) = false := by simpa using hdm
                obtain ⟨y1, y3⟩ := few_no g xs m hmx hdm'
                rw [← HKK.out] at y1 y3
                have HY3 : Hid (((kk : Nat) : Int) = ((((xs.take (m + 1)).filter g).length : Nat) : Int)) := by rw [y3]; exact hide rfl
                have HD25 : Hid (∀ {Q : Exit → Act → World → Prop} {A : Act}, A.tmps.size = 178 → A.defers = [] → A.tmps.getD 11 undef = .slice (some ⟨bx, ox, none⟩) l5 c5 → A.tmps.getD 12 undef = .slice a6 l6 c6 → A.tmps.getD 13 undef = .int .i64 ((kk : Nat) : Int) → A.tmps.getD 14 undef = .int .i64 ((m : Nat) : Int) → (∀ (u : Nat → Value), Q .normal ((((((((((((((((A).put (some 141) (u 141)).put (some 142) (u 142)).put (some 143) (u 143)).put (some 144) (u 144)).put (some 145) (u 145)).put (some 146) (u 146)).put (some 147) (u 147)).put (some 148) (u 148)).put (some 149) (u 149)).put (some 150) (u 150)).put (some 151) (u 151)).put (some 152) (u 152)).put (some 153) (u 153)).put (some 154) (u 154)).put (some 155) (.bool false)) wr.drew.drew) → (Code.region 25 (Pl.find 25 ((Try.f6.body).getD .skip)) true).wp Try.prog Q A wr.drew) := by
                  intro Q A e1 e2 e3 e4 e5 e6 hQ
                  by_cases hkd : kk < l6
                  · obtain ⟨bd, od, ed, hcd⟩ := HDD2.out (by omega)
                    subst ed
                    exact few25b wr.drew bx ox l5 c5 m bd od l6 c6 kk xs _ HCD.out hcd hml hkd (y1 (by rw [← HL6.out]; exact hkd)) e1 e2 e3 e4 e5 e6 (fun u w' h' => by rw [h']; exact hQ u)
                  · exact few25c wr.drew _ _ l5 c5 l6 c6 kk m (by omega) e1 e2 e3 e4 e5 e6 (fun u w' h' => by rw [h']; exact hQ u)
                clear y1 y3
                go_wp2_with fail
                refine Pl.region_is (ops := Pl.find 25 ((Try.f6.body).getD .skip)) (by kernel_rfl) ?_
                refine HD25.out (by rfl) rfl (by rfl) (by rfl) (by rfl) (by rfl) ?_
                intro uu2
                simp only [Act.put, List.setIfInBounds_toArray, List.set_cons_zero, List.set_cons_succ]
                go_wp2_with fail
                go_roundw
                case rel => exact ⟨m + 1, by omega, by go_num, by rw [HY3.out], HB2⟩
                case measure => simp only [intOf]; omega
            · have i7 : ¬ ((m : Nat) : Int) < ((l5 : Nat) : Int) := by omega
              have hkend : ((xs.take m).filter g).length = l6 := by rw [HL6.out, List.take_of_length_le (by have := HL5.out; omega)]
              rw [hkend]
              have O7 := hide (O6.out.keep HS.out hB.out)
              go_wp2_with fail
              go_roundw
              case rel => exact ⟨j + 1, by omega, by omega, by go_num, hide ⟨P4, O7.out, F4.out, PL4.out⟩⟩
              case measure => simp only [intOf]; omega
        · have HR := hide (our_readNone HS.out O3.out F3.out t.x.pg hpg)
          have F4 : Hid (P.Fine 5 (4 * (j + 1))) := hide (F3.out.more (by omega) (by omega))
          unfold at0 at HR
          go_wp2_with fail
          refine HR.out.mono ?_
          rintro e w4 ⟨ho4, hb4, rfl⟩
          have O4 := hide ho4
          have PL4 := PL3
          generalize P = P4 at *
          clear ho4 hb4 HR O3 F3 PL3
          have HII := hide (our_inn HS.out O4.out F4.out)
          unfold at0 at HII
          go_wp2_with fail
          refine HII.out.mono ?_
          rintro e w5 ⟨ho5, hb5, s5, rfl, hown5⟩
          have HDD := hide (our_dirty HS.out ho5 F4.out)
          have HO5 := hide hown5
          clear ho5 hb5 hown5 HII
          unfold at0 at HDD
          go_wp2_with fail
          refine HDD.out.mono ?_
          rintro e w6 ⟨ho6, hb6, s6, rfl, hown6⟩
          have HID := hide (InDi.of HO5.out hb6 hown6)
          have O6 := hide ho6
          have hfew : (P4.inn 5).length ≤ f := by have := F4.out.ok.few; rw [PL4.out] at this; exact this
          have hdle := dirty_le P4 5
          have HRISE := hide (inn_rise P4 5)
          have hdis := dirty_inn P4 5
          have hx5 : (P4.inn 5).length ≤ 5 := by
            have := List.length_filter_le (fun k => (P4.m k).isSome) (List.range 5)
            rw [List.length_range] at this
            exact this
          obtain ⟨xs, hxs⟩ : ∃ xs, xs = P4.inn 5 := ⟨_, rfl⟩
          rw [← hxs] at hfew hdle HRISE HID hx5 hdis
          rw [hdis] at hdle HID
          obtain ⟨g, hg⟩ : ∃ g, g = P4.isDirty := ⟨_, rfl⟩
          rw [← hg] at hdle HID
          obtain ⟨a5, l5, c5⟩ := s5
          obtain ⟨a6, l6, c6⟩ := s6
          unfold Sl.val
          simp only at HID ⊢
          have hl5 := HID.out.l1
          have hl6 := HID.out.l2
          have HL5 := hide hl5
          have HL6 := hide hl6
          clear hxs hg hdis ho6 hb6 hown6 HDD HO5
          have j1 : ¬ ((f : Nat) : Int) < ((l5 : Nat) : Int) := by omega
          have j2 : ¬ ((l5 : Nat) : Int) < ((l6 : Nat) : Int) := by omega
          have j3 : l5 ≤ 5 := by omega
          clear hl5 hl6 hdle hfew hx5
          go_wp2_with fail
          go_loopw [13, 14] (fun kk mm W => ∃ m : Nat, m ≤ l5 ∧ mm = .int .i64 ((m : Nat) : Int) ∧ kk = .int .i64 ((((xs.take m).filter g).length : Nat) : Int) ∧ Hid (Below w6.heap.size w6 W)) (fun _ mm _ => l5 - (intOf mm).toNat)
          case atStart => exact ⟨0, by omega, rfl, by rw [List.take_zero]; rfl, hide (Below.refl _ _)⟩
          case round =>
            obtain ⟨m, hm, rfl, rfl, hB⟩ := hrel
            by_cases hml : m < l5
            · have i7 : ((m : Nat) : Int) < ((l5 : Nat) : Int) := by omega
              obtain ⟨bx, ox, ex, hcx⟩ := (HID.out.keep hB.out).c1 (by omega)
              subst ex
              have HCX := hide hcx
              have hmx : m < xs.length := by have := HL5.out; omega
              obtain ⟨kk, hkk⟩ : ∃ kk, kk = ((xs.take m).filter g).length := ⟨_, rfl⟩
              have HKK := hide hkk
              have hkl : kk ≤ m := by rw [hkk]; exact Nat.le_trans (List.length_filter_le _ _) (by rw [List.length_take]; omega)
              rw [← hkk]
              clear hcx hkk
              have HB1 := hide (hB.out.trans ((below_drew wr).mono hB.out.size))
              have HB2 := hide (HB1.out.trans ((below_drew wr.drew).mono HB1.out.size))
              have HCD : Hid (∀ j, j < l5 → wr.drew.cell? ⟨bx, ox + j, none⟩ = some (.int .i64 ((xs.getD j 0 : Nat) : Int))) := hide (fun j hj => HCX.out j hj)
              have HDD2 := hide ((HID.out.keep HB1.out).c2)
              have H23 : Hid (∀ {Q : Exit → Act → World → Prop} {A : Act}, A.tmps.size = 178 → A.defers = [] → A.tmps.getD 11 undef = .slice (some ⟨bx, ox, none⟩) l5 c5 → A.tmps.getD 14 undef = .int .i64 ((m : Nat) : Int) → (∀ (u : Nat → Value), Q .normal (((((((((((((((A).put (some 127) (u 127)).put (some 128) (u 128)).put (some 129) (u 129)).put (some 130) (u 130)).put (some 131) (u 131)).put (some 132) (u 132)).put (some 133) (u 133)).put (some 134) (u 134)).put (some 135) (u 135)).put (some 136) (u 136)).put (some 137) (u 137)).put (some 138) (u 138)).put (some 139) (u 139)).put (some 140) (.bool false)) wr.drew) → (Code.region 23 (Pl.find 23 ((Try.f6.body).getD .skip)) true).wp Try.prog Q A wr) := by
                intro Q A e1 e2 e3 e4 hQ
                rcases Nat.eq_zero_or_pos m with h0 | h0
                · subst h0
                  exact few23b wr _ _ _ e1 e2 e3 e4 (fun u w' h' => by rw [h']; exact hQ u)
                · exact few23a wr bx ox l5 c5 m xs HCX.out hml (by omega) h0 (by have := HRISE.out m h0 hmx; omega) e1 e2 e3 e4 (fun u w' h' => by rw [h']; exact hQ u)
              go_wp2_with fail
              refine Pl.region_is (ops := Pl.find 23 ((Try.f6.body).getD .skip)) (by kernel_rfl) ?_
              refine H23.out (by rfl) rfl (by rfl) (by rfl) ?_
              intro uu
              simp only [Act.put, List.setIfInBounds_toArray, List.set_cons_zero, List.set_cons_succ]
              by_cases hdm : g (xs.getD m 0) = true
              · obtain ⟨y1, y2, y3⟩ := few_yes g xs m hmx hdm
                rw [← HKK.out] at y1 y2 y3
                rw [← HL6.out] at y1
                obtain ⟨bd, od, ed, hcd⟩ := HDD2.out (by omega)
                subst ed
                have H25' : Hid (∀ {Q : Exit → Act → World → Prop} {A : Act}, _) := fun {Q A} => few25a wr.drew bx ox l5 c5 m bd od l6 c6 kk xs _ HCD.out hcd hml y1 y2 (Q := Q) (A := A)
                have HY3 : Hid (((kk : Nat) : Int) + 1 = ((((xs.take (m + 1)).filter g).length : Nat) : Int)) := by rw [y3]; exact hide (by omega)
                have hw3 : IntKind.i64.wrap (((kk : Nat) : Int) + 1) = ((kk : Nat) : Int) + 1 := by rw [IntKind.wrap_i64]; omega
                clear hcd y2 y3
                go_wp2_with fail
                refine Pl.region_is (ops := Pl.find 25 ((Try.f6.body).getD .skip)) (by kernel_rfl) ?_
                refine H25'.out (by rfl) rfl (by rfl) (by rfl) (by rfl) (by rfl) ?_
                intro uu2 w' hw'
                subst hw'
                simp only [Act.put, List.setIfInBounds_toArray, List.set_cons_zero, List.set_cons_succ]
                go_wp2_with fail
                go_roundw
                case rel => exact ⟨m + 1, by omega, by go_num, by rw [HY3.out], HB2⟩
                case measure => simp only [intOf]; omega
              · have hdm' : g (xs.getD m 0) = false := by simpa using hdm
                obtain ⟨y1, y3⟩ := few_no g xs m hmx hdm'
                rw [← HKK.out] at y1 y3
                have HY3 : Hid (((kk : Nat) : Int) = ((((xs.take (m + 1)).filter g).length : Nat) : Int)) := by rw [y3]; exact hide rfl
                have HD25 : Hid (∀ {Q : Exit → Act → World → Prop} {A : Act}, A.tmps.size = 178 → A.defers = [] → A.tmps.getD 11 undef = .slice (some ⟨bx, ox, none⟩) l5 c5 → A.tmps.getD 12 undef = .slice a6 l6 c6 → A.tmps.getD 13 undef = .int .i64 ((kk : Nat) : Int) → A.tmps.getD 14 undef = .int .i64 ((m : Nat) : Int) → (∀ (u : Nat → Value), Q .normal ((((((((((((((((A).put (some 141) (u 141)).put (some 142) (u 142)).put (some 143) (u 143)).put (some 144) (u 144)).put (some 145) (u 145)).put (some 146) (u 146)).put (some 147) (u 147)).put (some 148) (u 148)).put (some 149) (u 149)).put (some 150) (u 150)).put (some 151) (u 151)).put (some 152) (u 152)).put (some 153) (u 153)).put (some 154) (u 154)).put (some 155) (.bool false)) wr.drew.drew) → (Code.region 25 (Pl.find 25 ((Try.f6.body).getD .skip)) true).wp Try.prog Q A wr.drew) := by
                  intro Q A e1 e2 e3 e4 e5 e6 hQ
                  by_cases hkd : kk < l6
                  · obtain ⟨bd, od, ed, hcd⟩ := HDD2.out (by omega)
                    subst ed
                    exact few25b wr.drew bx ox l5 c5 m bd od l6 c6 kk xs _ HCD.out hcd hml hkd (y1 (by rw [← HL6.out]; exact hkd)) e1 e2 e3 e4 e5 e6 (fun u w' h' => by rw [h']; exact hQ u)
                  · exact few25c wr.drew _ _ l5 c5 l6 c6 kk m (by omega) e1 e2 e3 e4 e5 e6 (fun u w' h' => by rw [h']; exact hQ u)
                clear y1 y3
                go_wp2_with fail
                refine Pl.region_is (ops := Pl.find 25 ((Try.f6.body).getD .skip)) (by kernel_rfl) ?_
                refine HD25.out (by rfl) rfl (by rfl) (by rfl) (by rfl) (by rfl) ?_
                intro uu2
                simp only [Act.put, List.setIfInBounds_toArray, List.set_cons_zero, List.set_cons_succ]
                go_wp2_with fail
                go_roundw
                case rel => exact ⟨m + 1, by omega, by go_num, by rw [HY3.out], HB2⟩
                case measure => simp only [intOf]; omega
            · have i7 : ¬ ((m : Nat) : Int) < ((l5 : Nat) : Int) := by omega
              have hkend : ((xs.take m).filter g).length = l6 := by rw [HL6.out, List.take_of_length_le (by have := HL5.out; omega)]
              rw [hkend]
              have O7 := hide (O6.out.keep HS.out hB.out)
              go_wp2_with fail
              go_roundw
              case rel => exact ⟨j + 1, by omega, by omega, by go_num, hide ⟨P4, O7.out, F4.out, PL4.out⟩⟩
              case measure => simp only [intOf]; omega
      by_cases c1 : t.x.do_ = 1
      · rw [c1] at d0
        have hbd := below_drew wr
        have O3d := hide (O3.out.keep HS.out hbd)
        have HKC : Hid (∀ w3, Below w.heap.size w w3 → w3.cell? ⟨b, off + j * 5 + 1, none⟩ = some (.int .i64 t.x.pg) ∧ w3.cell? ⟨b, off + j * 5 + 2, none⟩ = some (.slice t.b.a t.b.len t.b.cap)) := HKC0
        have HPAGE : Hid (Calls Try.prog 12 #[.slice t.b.a t.b.len t.b.cap] wr.drew fun e w2 => e = .returned (.slice (some ⟨wr.drew.heap.size, 0, none⟩) 512 512) ∧ (Below wr.drew.heap.size wr.drew w2 ∧ Came w2 (some ⟨wr.drew.heap.size, 0, none⟩) 512 512 (pageOf t.bs))) := hide ((page_any wr.drew t.b.a t.b.len t.b.cap t.bs ((HIN.out.keep hbd).b)).mono (by rintro e w2 ⟨x1, x2, x3⟩; exact ⟨x2, x1, x3⟩))
        have HPB := hide (pageOf_bytes t.bs HIN.out.b.bs.2.1)
        by_cases hpg : 0 ≤ t.x.pg ∧ t.x.pg < 5
        · obtain ⟨k, hk⟩ : ∃ k : Nat, t.x.pg = ((k : Nat) : Int) := ⟨t.x.pg.toNat, by omega⟩
          rw [hk] at d1 hpg HKC
          have F4 : Hid ((P.set k (pageOf t.bs) 0).Fine 5 (4 * (j + 1))) := hide ((F3.out.set (by omega) (by omega) (pageOf_length _) HPB.out 0).more (by omega) (by omega))
          have PL4 : Hid ((P.set k (pageOf t.bs) 0).l.length = f) := hide ((F3.out.ok.set (p := k) (by omega) (pageOf_length t.bs) 0).2.2.trans PL3.out)
          have HR13 : Hid (∀ {Q : Exit → Act → World → Prop} {A0 : Act}, _) := fun {Q A0} => few13 wr b off len cap j hlt p ((k : Nat) : Int) 0 t.b.a t.b.len t.b.cap (some ⟨wr.drew.heap.size, 0, none⟩)
            (fun w2 => Below wr.drew.heap.size wr.drew w2 ∧ Came w2 (some ⟨wr.drew.heap.size, 0, none⟩) 512 512 (pageOf t.bs))
            (fun w3 => Our M w w3 p d (P.set k (pageOf t.bs) 0) ∧ BoxP b (off + j * 5 + 1) (off + j * 5 + 2) ((k : Nat) : Int) t.b.a t.b.len t.b.cap w3)
            ⟨d1, d2⟩ HPAGE.out (fun w2 hw2 => ⟨(hw2.1.cell (World.block_lt_of_cell? wr.drew _ d1)).trans d1, (hw2.1.cell (World.block_lt_of_cell? wr.drew _ d2)).trans d2⟩)
            (fun w2 hw2 => by
              obtain ⟨L, X, hmp⟩ := O3d.out
              have o2 := hmp.offNew HS.out (o := 0) (len := 512) (Nat.le_refl wr.drew.heap.size)
              have k2 := hmp.keep HS.out hw2.1
              refine (HS.out.put w2 p d P L X 5 (4 * j) k _ 512 _ 0 k2.m F3.out (by omega) hw2.2 o2 (by decide)).mono ?_
              rintro e w3 ⟨hac, r⟩
              have hO := k2.act hac
              exact ⟨r, hO, HKC.out w3 hO.below⟩)
            (fun w3 hw3 => hw3.2) (Q := Q) (A := A0)
          generalize P.set k (pageOf t.bs) 0 = P4 at *
          go_wp2_with fail
          refine Pl.region_is (ops := Pl.find 13 ((Try.f6.body).getD .skip)) (by kernel_rfl) ?_
          refine HR13.out (by rfl) rfl (by rfl) (by rfl) (by rfl) ?_
          intro uu w4 hP3
          have O4 := hide hP3.1
          clear hP3 HR13 HPAGE HPB O3 O3d F3 PL3
          have HII := hide (our_inn HS.out O4.out F4.out)
          unfold at0 at HII
          simp only [Act.put, List.setIfInBounds_toArray, List.set_cons_zero, List.set_cons_succ]
          go_wp2_with fail
          refine HII.out.mono ?_
          rintro e w5 ⟨ho5, hb5, s5, rfl, hown5⟩
          have HDD := hide (our_dirty HS.out ho5 F4.out)
          have HO5 := hide hown5
          clear ho5 hb5 hown5 HII
          unfold at0 at HDD
          go_wp2_with fail
          refine HDD.out.mono ?_
          rintro e w6 ⟨ho6, hb6, s6, rfl, hown6⟩
          have HID := hide (InDi.of HO5.out hb6 hown6)
          have O6 := hide ho6
          have hfew : (P4.inn 5).length ≤ f := by have := F4.out.ok.few; rw [PL4.out] at this; exact this
          have hdle := dirty_le P4 5
          have HRISE := hide (inn_rise P4 5)
          have hdis := dirty_inn P4 5
          have hx5 : (P4.inn 5).length ≤ 5 := by
            have := List.length_filter_le (fun k => (P4.m k).isSome) (List.range 5)
            rw [List.length_range] at this
            exact this
          obtain ⟨xs, hxs⟩ : ∃ xs, xs = P4.inn 5 := ⟨_, rfl⟩
          rw [← hxs] at hfew hdle HRISE HID hx5 hdis
          rw [hdis] at hdle HID
          obtain ⟨g, hg⟩ : ∃ g, g = P4.isDirty := ⟨_, rfl⟩
          rw [← hg] at hdle HID
          obtain ⟨a5, l5, c5⟩ := s5
          obtain ⟨a6, l6, c6⟩ := s6
          unfold Sl.val
          simp only at HID ⊢
          have hl5 := HID.out.l1
          have hl6 := HID.out.l2
          have HL5 := hide hl5
          have HL6 := hide hl6
          clear hxs hg hdis ho6 hb6 hown6 HDD HO5
          have j1 : ¬ ((f : Nat) : Int) < ((l5 : Nat) : Int) := by omega
          have j2 : ¬ ((l5 : Nat) : Int) < ((l6 : Nat) : Int) := by omega
          have j3 : l5 ≤ 5 := by omega
          clear hl5 hl6 hdle hfew hx5
          go_wp2_with fail
          go_loopw [13, 14] (fun kk mm W => ∃ m : Nat, m ≤ l5 ∧ mm = .int .i64 ((m : Nat) : Int) ∧ kk = .int .i64 ((((xs.take m).filter g).length : Nat) : Int) ∧ Hid (Below w6.heap.size w6 W)) (fun _ mm _ => l5 - (intOf mm).toNat)
          case atStart => exact ⟨0, by omega, rfl, by rw [List.take_zero]; rfl, hide (Below.refl _ _)⟩
          case round =>
            obtain ⟨m, hm, rfl, rfl, hB⟩ := hrel
            by_cases hml : m < l5
            · have i7 : ((m : Nat) : Int) < ((l5 : Nat) : Int) := by omega
              obtain ⟨bx, ox, ex, hcx⟩ := (HID.out.keep hB.out).c1 (by omega)
              subst ex
              have HCX := hide hcx
              have hmx : m < xs.length := by have := HL5.out; omega
              obtain ⟨kk, hkk⟩ : ∃ kk, kk = ((xs.take m).filter g).length := ⟨_, rfl⟩
              have HKK := hide hkk
              have hkl : kk ≤ m := by rw [hkk]; exact Nat.le_trans (List.length_filter_le _ _) (by rw [List.length_take]; omega)
              rw [← hkk]
              clear hcx hkk
              have HB1 := hide (hB.out.trans ((below_drew wr).mono hB.out.size))
              have HB2 := hide (HB1.out.trans ((below_drew wr.drew).mono HB1.out.size))
              have HCD : Hid (∀ j, j < l5 → wr.drew.cell? ⟨bx, ox + j, none⟩ = some (.int .i64 ((xs.getD j 0 : Nat) : Int))) := hide (fun j hj => HCX.out j hj)
              have HDD2 := hide ((HID.out.keep HB1.out).c2)
              have H23 : Hid (∀ {Q : Exit → Act → World → Prop} {A : Act}, A.tmps.size = 178 → A.defers = [] → A.tmps.getD 11 undef = .slice (some ⟨bx, ox, none⟩) l5 c5 → A.tmps.getD 14 undef = .int .i64 ((m : Nat) : Int) → (∀ (u : Nat → Value), Q .normal (((((((((((((((A).put (some 127) (u 127)).put (some 128) (u 128)).put (some 129) (u 129)).put (some 130) (u 130)).put (some 131) (u 131)).put (some 132) (u 132)).put (some 133) (u 133)).put (some 134) (u 134)).put (some 135) (u 135)).put (some 136) (u 136)).put (some 137) (u 137)).put (some 138) (u 138)).put (some 139) (u 139)).put (some 140) (.bool false)) wr.drew) → (Code.region 23 (Pl.find 23 ((Try.f6.body).getD .skip)) true).wp Try.prog Q A wr) := by
                intro Q A e1 e2 e3 e4 hQ
                rcases Nat.eq_zero_or_pos m with h0 | h0
                · subst h0
                  exact few23b wr _ _ _ e1 e2 e3 e4 (fun u w' h' => by rw [h']; exact hQ u)
                · exact few23a wr bx ox l5 c5 m xs HCX.out hml (by omega) h0 (by have := HRISE.out m h0 hmx; omega) e1 e2 e3 e4 (fun u w' h' => by rw [h']; exact hQ u)
              go_wp2_with fail
              refine Pl.region_is (ops := Pl.find 23 ((Try.f6.body).getD .skip)) (by kernel_rfl) ?_
              refine H23.out (by rfl) rfl (by rfl) (by rfl) ?_
              intro uu
              simp only [Act.put, List.setIfInBounds_toArray, List.set_cons_zero, List.set_cons_succ]
              by_cases hdm : g (xs.getD m 0) = true
              · obtain ⟨y1, y2, y3⟩ := few_yes g xs m hmx hdm
                rw [← HKK.out] at y1 y2 y3
                rw [← HL6.out] at y1
                obtain ⟨bd, od, ed, hcd⟩ := HDD2.out (by omega)
                subst ed
                have H25' : Hid (∀ {Q : Exit → Act → World → Prop} {A : Act}, _) := fun {Q A} => few25a wr.drew bx ox l5 c5 m bd od l6 c6 kk xs _ HCD.out hcd hml y1 y2 (Q := Q) (A := A)
                have HY3 : Hid (((kk : Nat) : Int) + 1 = ((((xs.take (m + 1)).filter g).length : Nat) : Int)) := by rw [y3]; exact hide (by omega)
                have hw3 : IntKind.i64.wrap (((kk : Nat) : Int) + 1) = ((kk : Nat) : Int) + 1 := by rw [IntKind.wrap_i64]; omega
                clear hcd y2 y3
                go_wp2_with fail
                refine Pl.region_is (ops := Pl.find 25 ((Try.f6.body).getD .skip)) (by kernel_rfl) ?_
                refine H25'.out (by rfl) rfl (by rfl) (by rfl) (by rfl) (by rfl) ?_
                intro uu2 w' hw'
                subst hw'
                simp only [Act.put, List.setIfInBounds_toArray, List.set_cons_zero, List.set_cons_succ]
                go_wp2_with fail
                go_roundw
                case rel => exact ⟨m + 1, by omega, by go_num, by rw [HY3.out], HB2⟩
                case measure => simp only [intOf]; omega
              · have hdm' : g (xs.getD m 0) = false := by simpa using hdm
                obtain ⟨y1, y3⟩ := few_no g xs m hmx hdm'
                rw [← HKK.out] at y1 y3
                have HY3 : Hid (((kk : Nat) : Int) = ((((xs.take (m + 1)).filter g).length : Nat) : Int)) := by rw [y3]; exact hide rfl
                have HD25 : Hid (∀ {Q : Exit → Act → World → Prop} {A : Act}, A.tmps.size = 178 → A.defers = [] → A.tmps.getD 11 undef = .slice (some ⟨bx, ox, none⟩) l5 c5 → A.tmps.getD 12 undef = .slice a6 l6 c6 → A.tmps.getD 13 undef = .int .i64 ((kk : Nat) : Int) → A.tmps.getD 14 undef = .int .i64 ((m : Nat) : Int) → (∀ (u : Nat → Value), Q .normal ((((((((((((((((A).put (some 141) (u 141)).put (some 142) (u 142)).put (some 143) (u 143)).put (some 144) (u 144)).put (some 145) (u 145)).put (some 146) (u 146)).put (some 147) (u 147)).put (some 148) (u 148)).put (some 149) (u 149)).put (some 150) (u 150)).put (some 151) (u 151)).put (some 152) (u 152)).put (some 153) (u 153)).put (some 154) (u 154)).put (some 155) (.bool false)) wr.drew.drew) → (Code.region 25 (Pl.find 25 ((Try.f6.body).getD .skip)) true).wp Try.prog Q A wr.drew) := by
                  intro Q A e1 e2 e3 e4 e5 e6 hQ
                  by_cases hkd : kk < l6
                  · obtain ⟨bd, od, ed, hcd⟩ := HDD2.out (by omega)
                    subst ed
                    exact few25b wr.drew bx ox l5 c5 m bd od l6 c6 kk xs _ HCD.out hcd hml hkd (y1 (by rw [← HL6.out]; exact hkd)) e1 e2 e3 e4 e5 e6 (fun u w' h' => by rw [h']; exact hQ u)
                  · exact few25c wr.drew _ _ l5 c5 l6 c6 kk m (by omega) e1 e2 e3 e4 e5 e6 (fun u w' h' => by rw [h']; exact hQ u)
                clear y1 y3
                go_wp2_with fail
                refine Pl.region_is (ops := Pl.find 25 ((Try.f6.body).getD .skip)) (by kernel_rfl) ?_
                refine HD25.out (by rfl) rfl (by rfl) (by rfl) (by rfl) (by rfl) ?_
                intro uu2
                simp only [Act.put, List.setIfInBounds_toArray, List.set_cons_zero, List.set_cons_succ]
                go_wp2_with fail
                go_roundw
                case rel => exact ⟨m + 1, by omega, by go_num, by rw [HY3.out], HB2⟩
                case measure => simp only [intOf]; omega
            · have i7 : ¬ ((m : Nat) : Int) < ((l5 : Nat) : Int) := by omega
              have hkend : ((xs.take m).filter g).length = l6 := by rw [HL6.out, List.take_of_length_le (by have := HL5.out; omega)]
              rw [hkend]
              have O7 := hide (O6.out.keep HS.out hB.out)
              go_wp2_with fail
              go_roundw
              case rel => exact ⟨j + 1, by omega, by omega, by go_num, hide ⟨P4, O7.out, F4.out, PL4.out⟩⟩
              case measure => simp only [intOf]; omega
        · have F4 : Hid (P.Fine 5 (4 * (j + 1))) := hide (F3.out.more (by omega) (by omega))
          have HR13 : Hid (∀ {Q : Exit → Act → World → Prop} {A0 : Act}, _) := fun {Q A0} => few13 wr b off len cap j hlt p t.x.pg 3 t.b.a t.b.len t.b.cap (some ⟨wr.drew.heap.size, 0, none⟩)
            (fun w2 => Below wr.drew.heap.size wr.drew w2 ∧ Came w2 (some ⟨wr.drew.heap.size, 0, none⟩) 512 512 (pageOf t.bs))
            (fun w3 => Our M w w3 p d P ∧ BoxP b (off + j * 5 + 1) (off + j * 5 + 2) t.x.pg t.b.a t.b.len t.b.cap w3)
            ⟨d1, d2⟩ HPAGE.out (fun w2 hw2 => ⟨(hw2.1.cell (World.block_lt_of_cell? wr.drew _ d1)).trans d1, (hw2.1.cell (World.block_lt_of_cell? wr.drew _ d2)).trans d2⟩)
            (fun w2 hw2 => by
              obtain ⟨L, X, hmp⟩ := O3d.out
              have k2 := hmp.keep HS.out hw2.1
              refine (HS.out.putNone w2 p d P L X 5 (4 * j) t.x.pg _ 512 512 0 k2.m F3.out hpg).mono ?_
              rintro e w3 ⟨hb3, r⟩
              have hO : Our M w w3 p d P := ⟨L, X, k2.keep HS.out hb3⟩
              exact ⟨r, hO, HKC.out w3 hO.below⟩)
            (fun w3 hw3 => hw3.2) (Q := Q) (A := A0)
          have PL4 := PL3
          generalize P = P4 at *
          go_wp2_with fail
          refine Pl.region_is (ops := Pl.find 13 ((Try.f6.body).getD .skip)) (by kernel_rfl) ?_
          refine HR13.out (by rfl) rfl (by rfl) (by rfl) (by rfl) ?_
          intro uu w4 hP3
          have O4 := hide hP3.1
          clear hP3 HR13 HPAGE HPB O3 O3d F3 PL3
          have HII := hide (our_inn HS.out O4.out F4.out)
          unfold at0 at HII
          simp only [Act.put, List.setIfInBounds_toArray, List.set_cons_zero, List.set_cons_succ]
          go_wp2_with fail
          refine HII.out.mono ?_
          rintro e w5 ⟨ho5, hb5, s5, rfl, hown5⟩
          have HDD := hide (our_dirty HS.out ho5 F4.out)
          have HO5 := hide hown5
          clear ho5 hb5 hown5 HII
          unfold at0 at HDD
          go_wp2_with fail
          refine HDD.out.mono ?_
          rintro e w6 ⟨ho6, hb6, s6, rfl, hown6⟩
          have HID := hide (InDi.of HO5.out hb6 hown6)
          have O6 := hide ho6
          have hfew : (P4.inn 5).length ≤ f := by have := F4.out.ok.few; rw [PL4.out] at this; exact this
          have hdle := dirty_le P4 5
          have HRISE := hide (inn_rise P4 5)
          have hdis := dirty_inn P4 5
          have hx5 : (P4.inn 5).length ≤ 5 := by
            have := List.length_filter_le (fun k => (P4.m k).isSome) (List.range 5)
            rw [List.length_range] at this
            exact this
          obtain ⟨xs, hxs⟩ : ∃ xs, xs = P4.inn 5 := ⟨_, rfl⟩
          rw [← hxs] at hfew hdle HRISE HID hx5 hdis
          rw [hdis] at hdle HID
          obtain ⟨g, hg⟩ : ∃ g, g = P4.isDirty := ⟨_, rfl⟩
          rw [← hg] at hdle HID
          obtain ⟨a5, l5, c5⟩ := s5
          obtain ⟨a6, l6, c6⟩ := s6
          unfold Sl.val
          simp only at HID ⊢
          have hl5 := HID.out.l1
          have hl6 := HID.out.l2
          have HL5 := hide hl5
          have HL6 := hide hl6
          clear hxs hg hdis ho6 hb6 hown6 HDD HO5
          have j1 : ¬ ((f : Nat) : Int) < ((l5 : Nat) : Int) := by omega
          have j2 : ¬ ((l5 : Nat) : Int) < ((l6 : Nat) : Int) := by omega
          have j3 : l5 ≤ 5 := by omega
          clear hl5 hl6 hdle hfew hx5
          go_wp2_with fail
          go_loopw [13, 14] (fun kk mm W => ∃ m : Nat, m ≤ l5 ∧ mm = .int .i64 ((m : Nat) : Int) ∧ kk = .int .i64 ((((xs.take m).filter g).length : Nat) : Int) ∧ Hid (Below w6.heap.size w6 W)) (fun _ mm _ => l5 - (intOf mm).toNat)
          case atStart => exact ⟨0, by omega, rfl, by rw [List.take_zero]; rfl, hide (Below.refl _ _)⟩
          case round =>
            obtain ⟨m, hm, rfl, rfl, hB⟩ := hrel
            by_cases hml : m < l5
            · have i7 : ((m : Nat) : Int) < ((l5 : Nat) : Int) := by omega
              obtain ⟨bx, ox, ex, hcx⟩ := (HID.out.keep hB.out).c1 (by omega)
              subst ex
              have HCX := hide hcx
              have hmx : m < xs.length := by have := HL5.out; omega
              obtain ⟨kk, hkk⟩ : ∃ kk, kk = ((xs.take m).filter g).length := ⟨_, rfl⟩
              have HKK := hide hkk
              have hkl : kk ≤ m := by rw [hkk]; exact Nat.le_trans (List.length_filter_le _ _) (by rw [List.length_take]; omega)
              rw [← hkk]
              clear hcx hkk
              have HB1 := hide (hB.out.trans ((below_drew wr).mono hB.out.size))
              have HB2 := hide (HB1.out.trans ((below_drew wr.drew).mono HB1.out.size))
              have HCD : Hid (∀ j, j < l5 → wr.drew.cell? ⟨bx, ox + j, none⟩ = some (.int .i64 ((xs.getD j 0 : Nat) : Int))) := hide (fun j hj => HCX.out j hj)
              have HDD2 := hide ((HID.out.keep HB1.out).c2)
              have H23 : Hid (∀ {Q : Exit → Act → World → Prop} {A : Act}, A.tmps.size = 178 → A.defers = [] → A.tmps.getD 11 undef = .slice (some ⟨bx, ox, none⟩) l5 c5 → A.tmps.getD 14 undef = .int .i64 ((m : Nat) : Int) → (∀ (u : Nat → Value), Q .normal (((((((((((((((A).put (some 127) (u 127)).put (some 128) (u 128)).put (some 129) (u 129)).put (some 130) (u 130)).put (some 131) (u 131)).put (some 132) (u 132)).put (some 133) (u 133)).put (some 134) (u 134)).put (some 135) (u 135)).put (some 136) (u 136)).put (some 137) (u 137)).put (some 138) (u 138)).put (some 139) (u 139)).put (some 140) (.bool false)) wr.drew) → (Code.region 23 (Pl.find 23 ((Try.f6.body).getD .skip)) true).wp Try.prog Q A wr) := by
                intro Q A e1 e2 e3 e4 hQ
                rcases Nat.eq_zero_or_pos m with h0 | h0
                · subst h0
                  exact few23b wr _ _ _ e1 e2 e3 e4 (fun u w' h' => by rw [h']; exact hQ u)
                · exact few23a wr bx ox l5 c5 m xs HCX.out hml (by omega) h0 (by have := HRISE.out m h0 hmx; omega) e1 e2 e3 e4 (fun u w' h' => by rw [h']; exact hQ u)
              go_wp2_with fail
              refine Pl.region_is (ops := Pl.find 23 ((Try.f6.body).getD .skip)) (by kernel_rfl) ?_
              refine H23.out (by rfl) rfl (by rfl) (by rfl) ?_
              intro uu
              simp only [Act.put, List.setIfInBounds_toArray, List.set_cons_zero, List.set_cons_succ]
              by_cases hdm : g (xs.getD m 0) = true
              · obtain ⟨y1, y2, y3⟩ := few_yes g xs m hmx hdm
                rw [← HKK.out] at y1 y2 y3
                rw [← HL6.out] at y1
                obtain ⟨bd, od, ed, hcd⟩ := HDD2.out (by omega)
                subst ed
                have H25' : Hid (∀ {Q : Exit → Act → World → Prop} {A : Act}, _) := fun {Q A} => few25a wr.drew bx ox l5 c5 m bd od l6 c6 kk xs _ HCD.out hcd hml y1 y2 (Q := Q) (A := A)
                have HY3 : Hid (((kk : Nat) : Int) + 1 = ((((xs.take (m + 1)).filter g).length : Nat) : Int)) := by rw [y3]; exact hide (by omega)
                have hw3 : IntKind.i64.wrap (((kk : Nat) : Int) + 1) = ((kk : Nat) : Int) + 1 := by rw [IntKind.wrap_i64]; omega
                clear hcd y2 y3
                go_wp2_with fail
                refine Pl.region_is (ops := Pl.find 25 ((Try.f6.body).getD .skip)) (by kernel_rfl) ?_
                refine H25'.out (by rfl) rfl (by rfl) (by rfl) (by rfl) (by rfl) ?_
                intro uu2 w' hw'
                subst hw'
                simp only [Act.put, List.setIfInBounds_toArray, List.set_cons_zero, List.set_cons_succ]
                go_wp2_with fail
                go_roundw
                case rel => exact ⟨m + 1, by omega, by go_num, by rw [HY3.out], HB2⟩
                case measure => simp only [intOf]; omega
              · have hdm' : g (xs.getD m 0) = false := by simpa using hdm
                obtain ⟨y1, y3⟩ := few_no g xs m hmx hdm'
                rw [← HKK.out] at y1 y3
                have HY3 : Hid (((kk : Nat) : Int) = ((((xs.take (m + 1)).filter g).length : Nat) : Int)) := by rw [y3]; exact hide rfl
                have HD25 : Hid (∀ {Q : Exit → Act → World → Prop} {A : Act}, A.tmps.size = 178 → A.defers = [] → A.tmps.getD 11 undef = .slice (some ⟨bx, ox, none⟩) l5 c5 → A.tmps.getD 12 undef = .slice a6 l6 c6 → A.tmps.getD 13 undef = .int .i64 ((kk : Nat) : Int) → A.tmps.getD 14 undef = .int .i64 ((m : Nat) : Int) → (∀ (u : Nat → Value), Q .normal ((((((((((((((((A).put (some 141) (u 141)).put (some 142) (u 142)).put (some 143) (u 143)).put (some 144) (u 144)).put (some 145) (u 145)).put (some 146) (u 146)).put (some 147) (u 147)).put (some 148) (u 148)).put (some 149) (u 149)).put (some 150) (u 150)).put (some 151) (u 151)).put (some 152) (u 152)).put (some 153) (u 153)).put (some 154) (u 154)).put (some 155) (.bool false)) wr.drew.drew) → (Code.region 25 (Pl.find 25 ((Try.f6.body).getD .skip)) true).wp Try.prog Q A wr.drew) := by
                  intro Q A e1 e2 e3 e4 e5 e6 hQ
                  by_cases hkd : kk < l6
                  · obtain ⟨bd, od, ed, hcd⟩ := HDD2.out (by omega)
                    subst ed
                    exact few25b wr.drew bx ox l5 c5 m bd od l6 c6 kk xs _ HCD.out hcd hml hkd (y1 (by rw [← HL6.out]; exact hkd)) e1 e2 e3 e4 e5 e6 (fun u w' h' => by rw [h']; exact hQ u)
                  · exact few25c wr.drew _ _ l5 c5 l6 c6 kk m (by omega) e1 e2 e3 e4 e5 e6 (fun u w' h' => by rw [h']; exact hQ u)
                clear y1 y3
                go_wp2_with fail
                refine Pl.region_is (ops := Pl.find 25 ((Try.f6.body).getD .skip)) (by kernel_rfl) ?_
                refine HD25.out (by rfl) rfl (by rfl) (by rfl) (by rfl) (by rfl) ?_
                intro uu2
                simp only [Act.put, List.setIfInBounds_toArray, List.set_cons_zero, List.set_cons_succ]
                go_wp2_with fail
                go_roundw
                case rel => exact ⟨m + 1, by omega, by go_num, by rw [HY3.out], HB2⟩
                case measure => simp only [intOf]; omega
            · have i7 : ¬ ((m : Nat) : Int) < ((l5 : Nat) : Int) := by omega
              have hkend : ((xs.take m).filter g).length = l6 := by rw [HL6.out, List.take_of_length_le (by have := HL5.out; omega)]
              rw [hkend]
              have O7 := hide (O6.out.keep HS.out hB.out)
              go_wp2_with fail
              go_roundw
              case rel => exact ⟨j + 1, by omega, by omega, by go_num, hide ⟨P4, O7.out, F4.out, PL4.out⟩⟩
              case measure => simp only [intOf]; omega
      by_cases c4 : t.x.do_ = 4
      · rw [c4] at d0
        have HR := hide (our_evict HS.out O3.out F3.out t.x.pg HIN.out.wp)
        obtain ⟨z1, _, z3⟩ := F3.out.evictAny (by omega) t.x.pg
        have F4 : Hid ((P.evictAny t.x.pg).Fine 5 (4 * (j + 1))) := hide (z1.more (by omega) (by omega))
        have PL4 : Hid ((P.evictAny t.x.pg).l.length = f) := hide (z3.trans PL3.out)
        unfold at0 at HR
        clear z1 z3
        go_wp2_with fail
        refine HR.out.mono ?_
        rintro e w4 ⟨ho4, he4⟩
        obtain ⟨r4, rfl⟩ : ∃ r4 : Int, e = .returned (.int .i64 r4) := ⟨_, he4⟩
        clear he4
        have O4 := hide ho4
        generalize P.evictAny t.x.pg = P4 at *
        clear ho4 HR O3 F3 PL3
        have HII := hide (our_inn HS.out O4.out F4.out)
        unfold at0 at HII
        go_wp2_with fail
        refine HII.out.mono ?_
        rintro e w5 ⟨ho5, hb5, s5, rfl, hown5⟩
        have HDD := hide (our_dirty HS.out ho5 F4.out)
        have HO5 := hide hown5
        clear ho5 hb5 hown5 HII
        unfold at0 at HDD
        go_wp2_with fail
        refine HDD.out.mono ?_
        rintro e w6 ⟨ho6, hb6, s6, rfl, hown6⟩
        have HID := hide (InDi.of HO5.out hb6 hown6)
        have O6 := hide ho6
        have hfew : (P4.inn 5).length ≤ f := by have := F4.out.ok.few; rw [PL4.out] at this; exact this
        have hdle := dirty_le P4 5
        have HRISE := hide (inn_rise P4 5)
        have hdis := dirty_inn P4 5
        have hx5 : (P4.inn 5).length ≤ 5 := by
          have := List.length_filter_le (fun k => (P4.m k).isSome) (List.range 5)
          rw [List.length_range] at this
          exact this
        obtain ⟨xs, hxs⟩ : ∃ xs, xs = P4.inn 5 := ⟨_, rfl⟩
        rw [← hxs] at hfew hdle HRISE HID hx5 hdis
        rw [hdis] at hdle HID
        obtain ⟨g, hg⟩ : ∃ g, g = P4.isDirty := ⟨_, rfl⟩
        rw [← hg] at hdle HID
        obtain ⟨a5, l5, c5⟩ := s5
        obtain ⟨a6, l6, c6⟩ := s6
        unfold Sl.val
        simp only at HID ⊢
        have hl5 := HID.out.l1
        have hl6 := HID.out.l2
        have HL5 := hide hl5
        have HL6 := hide hl6
        clear hxs hg hdis ho6 hb6 hown6 HDD HO5
        have j1 : ¬ ((f : Nat) : Int) < ((l5 : Nat) : Int) := by omega
        have j2 : ¬ ((l5 : Nat) : Int) < ((l6 : Nat) : Int) := by omega
        have j3 : l5 ≤ 5 := by omega
        clear hl5 hl6 hdle hfew hx5
        go_wp2_with fail
        go_loopw [13, 14] (fun kk mm W => ∃ m : Nat, m ≤ l5 ∧ mm = .int .i64 ((m : Nat) : Int) ∧ kk = .int .i64 ((((xs.take m).filter g).length : Nat) : Int) ∧ Hid (Below w6.heap.size w6 W)) (fun _ mm _ => l5 - (intOf mm).toNat)
        case atStart => exact ⟨0, by omega, rfl, by rw [List.take_zero]; rfl, hide (Below.refl _ _)⟩
        case round =>
          obtain ⟨m, hm, rfl, rfl, hB⟩ := hrel
          by_cases hml : m < l5
          · have i7 : ((m : Nat) : Int) < ((l5 : Nat) : Int) := by omega
            obtain ⟨bx, ox, ex, hcx⟩ := (HID.out.keep hB.out).c1 (by omega)
            subst ex
            have HCX := hide hcx
            have hmx : m < xs.length := by have := HL5.out; omega
            obtain ⟨kk, hkk⟩ : ∃ kk, kk = ((xs.take m).filter g).length := ⟨_, rfl⟩
            have HKK := hide hkk
            have hkl : kk ≤ m := by rw [hkk]; exact Nat.le_trans (List.length_filter_le _ _) (by rw [List.length_take]; omega)
            rw [← hkk]
            clear hcx hkk
            have HB1 := hide (hB.out.trans ((below_drew wr).mono hB.out.size))
            have HB2 := hide (HB1.out.trans ((below_drew wr.drew).mono HB1.out.size))
            have HCD : Hid (∀ j, j < l5 → wr.drew.cell? ⟨bx, ox + j, none⟩ = some (.int .i64 ((xs.getD j 0 : Nat) : Int))) := hide (fun j hj => HCX.out j hj)
            have HDD2 := hide ((HID.out.keep HB1.out).c2)
            have H23 : Hid (∀ {Q : Exit → Act → World → Prop} {A : Act}, A.tmps.size = 178 → A.defers = [] → A.tmps.getD 11 undef = .slice (some ⟨bx, ox, none⟩) l5 c5 → A.tmps.getD 14 undef = .int .i64 ((m : Nat) : Int) → (∀ (u : Nat → Value), Q .normal (((((((((((((((A).put (some 127) (u 127)).put (some 128) (u 128)).put (some 129) (u 129)).put (some 130) (u 130)).put (some 131) (u 131)).put (some 132) (u 132)).put (some 133) (u 133)).put (some 134) (u 134)).put (some 135) (u 135)).put (some 136) (u 136)).put (some 137) (u 137)).put (some 138) (u 138)).put (some 139) (u 139)).put (some 140) (.bool false)) wr.drew) → (Code.region 23 (Pl.find 23 ((Try.f6.body).getD .skip)) true).wp Try.prog Q A wr) := by
              intro Q A e1 e2 e3 e4 hQ
              rcases Nat.eq_zero_or_pos m with h0 | h0
              · subst h0
                exact few23b wr _ _ _ e1 e2 e3 e4 (fun u w' h' => by rw [h']; exact hQ u)
              · exact few23a wr bx ox l5 c5 m xs HCX.out hml (by omega) h0 (by have := HRISE.out m h0 hmx; omega) e1 e2 e3 e4 (fun u w' h' => by rw [h']; exact hQ u)
            go_wp2_with fail
            refine Pl.region_is (ops := Pl.find 23 ((Try.f6.body).getD .skip)) (by kernel_rfl) ?_
            refine H23.out (by rfl) rfl (by rfl) (by rfl) ?_
            intro uu
            simp only [Act.put, List.setIfInBounds_toArray, List.set_cons_zero, List.set_cons_succ]
            by_cases hdm : g (xs.getD m 0) = true
            · obtain ⟨y1, y2, y3⟩ := few_yes g xs m hmx hdm
              rw [← HKK.out] at y1 y2 y3
              rw [← HL6.out] at y1
              obtain ⟨bd, od, ed, hcd⟩ := HDD2.out (by omega)
              subst ed
              have H25' : Hid (∀ {Q : Exit → Act → World → Prop} {A : Act}, _) := fun {Q A} => few25a wr.drew bx ox l5 c5 m bd od l6 c6 kk xs _ HCD.out hcd hml y1 y2 (Q := Q) (A := A)
              have HY3 : Hid (((kk : Nat) : Int) + 1 = ((((xs.take (m + 1)).filter g).length : Nat) : Int)) := by rw [y3]; exact hide (by omega)
              have hw3 : IntKind.i64.wrap (((kk : Nat) : Int) + 1) = ((kk : Nat) : Int) + 1 := by rw [IntKind.wrap_i64]; omega
              clear hcd y2 y3
              go_wp2_with fail
              refine Pl.region_is (ops := Pl.find 25 ((Try.f6.body).getD .skip)) (by kernel_rfl) ?_
              refine H25'.out (by rfl) rfl (by rfl) (by rfl) (by rfl) (by rfl) ?_
              intro uu2 w' hw'
              subst hw'
              simp only [Act.put, List.setIfInBounds_toArray, List.set_cons_zero, List.set_cons_succ]
              go_wp2_with fail
              go_roundw
              case rel => exact ⟨m + 1, by omega, by go_num, by rw [HY3.out], HB2⟩
              case measure => simp only [intOf]; omega
            · have hdm' : g (xs.getD m 0) = false := by simpa using hdm
              obtain ⟨y1, y3⟩ := few_no g xs m hmx hdm'
              rw [← HKK.out] at y1 y3
              have HY3 : Hid (((kk : Nat) : Int) = ((((xs.take (m + 1)).filter g).length : Nat) : Int)) := by rw [y3]; exact hide rfl
              have HD25 : Hid (∀ {Q : Exit → Act → World → Prop} {A : Act}, A.tmps.size = 178 → A.defers = [] → A.tmps.getD 11 undef = .slice (some ⟨bx, ox, none⟩) l5 c5 → A.tmps.getD 12 undef = .slice a6 l6 c6 → A.tmps.getD 13 undef = .int .i64 ((kk : Nat) : Int) → A.tmps.getD 14 undef = .int .i64 ((m : Nat) : Int) → (∀ (u : Nat → Value), Q .normal ((((((((((((((((A).put (some 141) (u 141)).put (some 142) (u 142)).put (some 143) (u 143)).put (some 144) (u 144)).put (some 145) (u 145)).put (some 146) (u 146)).put (some 147) (u 147)).put (some 148) (u 148)).put (some 149) (u 149)).put (some 150) (u 150)).put (some 151) (u 151)).put (some 152) (u 152)).put (some 153) (u 153)).put (some 154) (u 154)).put (some 155) (.bool false)) wr.drew.drew) → (Code.region 25 (Pl.find 25 ((Try.f6.body).getD .skip)) true).wp Try.prog Q A wr.drew) := by
                intro Q A e1 e2 e3 e4 e5 e6 hQ
                by_cases hkd : kk < l6
                · obtain ⟨bd, od, ed, hcd⟩ := HDD2.out (by omega)
                  subst ed
                  exact few25b wr.drew bx ox l5 c5 m bd od l6 c6 kk xs _ HCD.out hcd hml hkd (y1 (by rw [← HL6.out]; exact hkd)) e1 e2 e3 e4 e5 e6 (fun u w' h' => by rw [h']; exact hQ u)
                · exact few25c wr.drew _ _ l5 c5 l6 c6 kk m (by omega) e1 e2 e3 e4 e5 e6 (fun u w' h' => by rw [h']; exact hQ u)
              clear y1 y3
              go_wp2_with fail
              refine Pl.region_is (ops := Pl.find 25 ((Try.f6.body).getD .skip)) (by kernel_rfl) ?_
              refine HD25.out (by rfl) rfl (by rfl) (by rfl) (by rfl) (by rfl) ?_
              intro uu2
              simp only [Act.put, List.setIfInBounds_toArray, List.set_cons_zero, List.set_cons_succ]
              go_wp2_with fail
              go_roundw
              case rel => exact ⟨m + 1, by omega, by go_num, by rw [HY3.out], HB2⟩
              case measure => simp only [intOf]; omega
          · have i7 : ¬ ((m : Nat) : Int) < ((l5 : Nat) : Int) := by omega
            have hkend : ((xs.take m).filter g).length = l6 := by rw [HL6.out, List.take_of_length_le (by have := HL5.out; omega)]
            rw [hkend]
            have O7 := hide (O6.out.keep HS.out hB.out)
            go_wp2_with fail
            go_roundw
            case rel => exact ⟨j + 1, by omega, by omega, by go_num, hide ⟨P4, O7.out, F4.out, PL4.out⟩⟩
            case measure => simp only [intOf]; omega
      have F4 : Hid (P.Fine 5 (4 * (j + 1))) := hide (F3.out.more (by omega) (by omega))
      have PL4 := PL3
      have O4 := O3
      generalize P = P4 at *
      clear O3 F3 PL3
      have HII := hide (our_inn HS.out O4.out F4.out)
      unfold at0 at HII
      go_wp2_with fail
      refine HII.out.mono ?_
      rintro e w5 ⟨ho5, hb5, s5, rfl, hown5⟩
      have HDD := hide (our_dirty HS.out ho5 F4.out)
      have HO5 := hide hown5
      clear ho5 hb5 hown5 HII
      unfold at0 at HDD
      go_wp2_with fail
      refine HDD.out.mono ?_
      rintro e w6 ⟨ho6, hb6, s6, rfl, hown6⟩
      have HID := hide (InDi.of HO5.out hb6 hown6)
      have O6 := hide ho6
      have hfew : (P4.inn 5).length ≤ f := by have := F4.out.ok.few; rw [PL4.out] at this; exact this
      have hdle := dirty_le P4 5
      have HRISE := hide (inn_rise P4 5)
      have hdis := dirty_inn P4 5
      have hx5 : (P4.inn 5).length ≤ 5 := by
        have := List.length_filter_le (fun k => (P4.m k).isSome) (List.range 5)
        rw [List.length_range] at this
        exact this
      obtain ⟨xs, hxs⟩ : ∃ xs, xs = P4.inn 5 := ⟨_, rfl⟩
      rw [← hxs] at hfew hdle HRISE HID hx5 hdis
      rw [hdis] at hdle HID
      obtain ⟨g, hg⟩ : ∃ g, g = P4.isDirty := ⟨_, rfl⟩
      rw [← hg] at hdle HID
      obtain ⟨a5, l5, c5⟩ := s5
      obtain ⟨a6, l6, c6⟩ := s6
      unfold Sl.val
      simp only at HID ⊢
      have hl5 := HID.out.l1
      have hl6 := HID.out.l2
      have HL5 := hide hl5
      have HL6 := hide hl6
      clear hxs hg hdis ho6 hb6 hown6 HDD HO5
      have j1 : ¬ ((f : Nat) : Int) < ((l5 : Nat) : Int) := by omega
      have j2 : ¬ ((l5 : Nat) : Int) < ((l6 : Nat) : Int) := by omega
      have j3 : l5 ≤ 5 := by omega
      clear hl5 hl6 hdle hfew hx5
      go_wp2_with fail
      go_loopw [13, 14] (fun kk mm W => ∃ m : Nat, m ≤ l5 ∧ mm = .int .i64 ((m : Nat) : Int) ∧ kk = .int .i64 ((((xs.take m).filter g).length : Nat) : Int) ∧ Hid (Below w6.heap.size w6 W)) (fun _ mm _ => l5 - (intOf mm).toNat)
      case atStart => exact ⟨0, by omega, rfl, by rw [List.take_zero]; rfl, hide (Below.refl _ _)⟩
      case round =>
        obtain ⟨m, hm, rfl, rfl, hB⟩ := hrel
        by_cases hml : m < l5
        · have i7 : ((m : Nat) : Int) < ((l5 : Nat) : Int) := by omega
          obtain ⟨bx, ox, ex, hcx⟩ := (HID.out.keep hB.out).c1 (by omega)
          subst ex
          have HCX := hide hcx
          have hmx : m < xs.length := by have := HL5.out; omega
          obtain ⟨kk, hkk⟩ : ∃ kk, kk = ((xs.take m).filter g).length := ⟨_, rfl⟩
          have HKK := hide hkk
          have hkl : kk ≤ m := by rw [hkk]; exact Nat.le_trans (List.length_filter_le _ _) (by rw [List.length_take]; omega)
          rw [← hkk]
          clear hcx hkk
          have HB1 := hide (hB.out.trans ((below_drew wr).mono hB.out.size))
          have HB2 := hide (HB1.out.trans ((below_drew wr.drew).mono HB1.out.size))
          have HCD : Hid (∀ j, j < l5 → wr.drew.cell? ⟨bx, ox + j, none⟩ = some (.int .i64 ((xs.getD j 0 : Nat) : Int))) := hide (fun j hj => HCX.out j hj)
          have HDD2 := hide ((HID.out.keep HB1.out).c2)
          have H23 : Hid (∀ {Q : Exit → Act → World → Prop} {A : Act}, A.tmps.size = 178 → A.defers = [] → A.tmps.getD 11 undef = .slice (some ⟨bx, ox, none⟩) l5 c5 → A.tmps.getD 14 undef = .int .i64 ((m : Nat) : Int) → (∀ (u : Nat → Value), Q .normal (((((((((((((((A).put (some 127) (u 127)).put (some 128) (u 128)).put (some 129) (u 129)).put (some 130) (u 130)).put (some 131) (u 131)).put (some 132) (u 132)).put (some 133) (u 133)).put (some 134) (u 134)).put (some 135) (u 135)).put (some 136) (u 136)).put (some 137) (u 137)).put (some 138) (u 138)).put (some 139) (u 139)).put (some 140) (.bool false)) wr.drew) → (Code.region 23 (Pl.find 23 ((Try.f6.body).getD .skip)) true).wp Try.prog Q A wr) := by
            intro Q A e1 e2 e3 e4 hQ
            rcases Nat.eq_zero_or_pos m with h0 | h0
            · subst h0
              exact few23b wr _ _ _ e1 e2 e3 e4 (fun u w' h' => by rw [h']; exact hQ u)
            · exact few23a wr bx ox l5 c5 m xs HCX.out hml (by omega) h0 (by have := HRISE.out m h0 hmx; omega) e1 e2 e3 e4 (fun u w' h' => by rw [h']; exact hQ u)
          go_wp2_with fail
          refine Pl.region_is (ops := Pl.find 23 ((Try.f6.body).getD .skip)) (by kernel_rfl) ?_
          refine H23.out (by rfl) rfl (by rfl) (by rfl) ?_
          intro uu
          simp only [Act.put, List.setIfInBounds_toArray, List.set_cons_zero, List.set_cons_succ]
          by_cases hdm : g (xs.getD m 0) = true
          · obtain ⟨y1, y2, y3⟩ := few_yes g xs m hmx hdm
            rw [← HKK.out] at y1 y2 y3
            rw [← HL6.out] at y1
            obtain ⟨bd, od, ed, hcd⟩ := HDD2.out (by omega)
            subst ed
            have H25' : Hid (∀ {Q : Exit → Act → World → Prop} {A : Act}, _) := fun {Q A} => few25a wr.drew bx ox l5 c5 m bd od l6 c6 kk xs _ HCD.out hcd hml y1 y2 (Q := Q) (A := A)
            have HY3 : Hid (((kk : Nat) : Int) + 1 = ((((xs.take (m + 1)).filter g).length : Nat) : Int)) := by rw [y3]; exact hide (by omega)
            have hw3 : IntKind.i64.wrap (((kk : Nat) : Int) + 1) = ((kk : Nat) : Int) + 1 := by rw [IntKind.wrap_i64]; omega
            clear hcd y2 y3
            go_wp2_with fail
            refine Pl.region_is (ops := Pl.find 25 ((Try.f6.body).getD .skip)) (by kernel_rfl) ?_
            refine H25'.out (by rfl) rfl (by rfl) (by rfl) (by rfl) (by rfl) ?_
            intro uu2 w' hw'
            subst hw'
            simp only [Act.put, List.setIfInBounds_toArray, List.set_cons_zero, List.set_cons_succ]
            go_wp2_with fail
            go_roundw
            case rel => exact ⟨m + 1, by omega, by go_num, by rw [HY3.out], HB2⟩
            case measure => simp only [intOf]; omega
          · have hdm' : g (xs.getD m 0) = false := by simpa using hdm
            obtain ⟨y1, y3⟩ := few_no g xs m hmx hdm'
            rw [← HKK.out] at y1 y3
            have HY3 : Hid (((kk : Nat) : Int) = ((((xs.take (m + 1)).filter g).length : Nat) : Int)) := by rw [y3]; exact hide rfl
            have HD25 : Hid (∀ {Q : Exit → Act → World → Prop} {A : Act}, A.tmps.size = 178 → A.defers = [] → A.tmps.getD 11 undef = .slice (some ⟨bx, ox, none⟩) l5 c5 → A.tmps.getD 12 undef = .slice a6 l6 c6 → A.tmps.getD 13 undef = .int .i64 ((kk : Nat) : Int) → A.tmps.getD 14 undef = .int .i64 ((m : Nat) : Int) → (∀ (u : Nat → Value), Q .normal ((((((((((((((((A).put (some 141) (u 141)).put (some 142) (u 142)).put (some 143) (u 143)).put (some 144) (u 144)).put (some 145) (u 145)).put (some 146) (u 146)).put (some 147) (u 147)).put (some 148) (u 148)).put (some 149) (u 149)).put (some 150) (u 150)).put (some 151) (u 151)).put (some 152) (u 152)).put (some 153) (u 153)).put (some 154) (u 154)).put (some 155) (.bool false)) wr.drew.drew) → (Code.region 25 (Pl.find 25 ((Try.f6.body).getD .skip)) true).wp Try.prog Q A wr.drew) := by
              intro Q A e1 e2 e3 e4 e5 e6 hQ
              by_cases hkd : kk < l6
              · obtain ⟨bd, od, ed, hcd⟩ := HDD2.out (by omega)
                subst ed
                exact few25b wr.drew bx ox l5 c5 m bd od l6 c6 kk xs _ HCD.out hcd hml hkd (y1 (by rw [← HL6.out]; exact hkd)) e1 e2 e3 e4 e5 e6 (fun u w' h' => by rw [h']; exact hQ u)
              · exact few25c wr.drew _ _ l5 c5 l6 c6 kk m (by omega) e1 e2 e3 e4 e5 e6 (fun u w' h' => by rw [h']; exact hQ u)
            clear y1 y3
            go_wp2_with fail
            refine Pl.region_is (ops := Pl.find 25 ((Try.f6.body).getD .skip)) (by kernel_rfl) ?_
            refine HD25.out (by rfl) rfl (by rfl) (by rfl) (by rfl) (by rfl) ?_
            intro uu2
            simp only [Act.put, List.setIfInBounds_toArray, List.set_cons_zero, List.set_cons_succ]
            go_wp2_with fail
            go_roundw
            case rel => exact ⟨m + 1, by omega, by go_num, by rw [HY3.out], HB2⟩
            case measure => simp only [intOf]; omega
        · have i7 : ¬ ((m : Nat) : Int) < ((l5 : Nat) : Int) := by omega
          have hkend : ((xs.take m).filter g).length = l6 := by rw [HL6.out, List.take_of_length_le (by have := HL5.out; omega)]
          rw [hkend]
          have O7 := hide (O6.out.keep HS.out hB.out)
          go_wp2_with fail
          go_roundw
          case rel => exact ⟨j + 1, by omega, by omega, by go_num, hide ⟨P4, O7.out, F4.out, PL4.out⟩⟩
          case measure => simp only [intOf]; omega
    · obtain ⟨P, ho, hfi, hpl⟩ := hSt.out
      have HFI := hide hfi
      have HDI := hide (our_dirty HS.out ho hfi)
      unfold at0 at HDI
      clear ho hpl hSt
      have hout : (((j : Nat) : Int) < ((len : Nat) : Int) ∧ j = 60) ∨ ¬ ((j : Nat) : Int) < ((len : Nat) : Int) := by omega
      rcases hout with ⟨i5, rfl⟩ | i5
      · have i6 : ¬ (((60 : Nat) : Int) < 60) := by omega
        go_wp2_with fail
        refine HDI.out.mono ?_
        rintro e w5 ⟨ho5, hb5, s5, rfl, hown5⟩
        have hl5 := hown5.ilen
        have HFL := hide (our_flush HS.out ho5 HFI.out)
        have FFL := hide (HFI.out.flush (by omega))
        have HNO : Hid ((P.flush 5).dirty 5 = []) := hide (HFI.out.ok.flush).2
        unfold at0 at HFL
        obtain ⟨a5, l5, c5⟩ := s5
        unfold Sl.val
        simp only at hl5 ⊢
        subst hl5
        clear ho5 hb5 hown5 HDI
        go_wp2_with fail
        refine HFL.out.mono ?_
        rintro e w6 ⟨ho6, rfl⟩
        have HDI2 := hide (our_dirty HS.out ho6 FFL.out)
        unfold at0 at HDI2
        clear ho6 HFL
        go_wp2_with fail
        refine HDI2.out.mono ?_
        rintro e w7 ⟨ho7, hb7, s7, rfl, hown7⟩
        have hl7 := hown7.ilen
        rw [HNO.out] at hl7
        have HB7 := hide (Our.below ho7)
        obtain ⟨a7, l7, c7⟩ := s7
        unfold Sl.val
        simp only [List.length_nil] at hl7 ⊢
        subst hl7
        clear ho7 hb7 hown7 HDI2
        go_wp2_with fail
        refine (HAW.out _).mono ?_
        rintro e w8 ⟨rfl, hb8⟩
        have HB8 := hide (HB7.out.trans (hb8.mono HB7.out.size))
        clear hb8
        go_wp2_with fail
        go_ret
        exact ⟨rfl, HB8.out⟩
      · have HI5 := hide i5
        go_wp2_with fail
        refine HDI.out.mono ?_
        rintro e w5 ⟨ho5, hb5, s5, rfl, hown5⟩
        have hl5 := hown5.ilen
        have HFL := hide (our_flush HS.out ho5 HFI.out)
        have FFL := hide (HFI.out.flush (by omega))
        have HNO : Hid ((P.flush 5).dirty 5 = []) := hide (HFI.out.ok.flush).2
        unfold at0 at HFL
        obtain ⟨a5, l5, c5⟩ := s5
        unfold Sl.val
        simp only at hl5 ⊢
        subst hl5
        clear ho5 hb5 hown5 HDI
        go_wp2_with fail
        refine HFL.out.mono ?_
        rintro e w6 ⟨ho6, rfl⟩
        have HDI2 := hide (our_dirty HS.out ho6 FFL.out)
        unfold at0 at HDI2
        clear ho6 HFL
        go_wp2_with fail
        refine HDI2.out.mono ?_
        rintro e w7 ⟨ho7, hb7, s7, rfl, hown7⟩
        have hl7 := hown7.ilen
        rw [HNO.out] at hl7
        have HB7 := hide (Our.below ho7)
        obtain ⟨a7, l7, c7⟩ := s7
        unfold Sl.val
        simp only [List.length_nil] at hl7 ⊢
        subst hl7
        clear ho7 hb7 hown7 HDI2
        go_wp2_with fail
        refine (HAW.out _).mono ?_
        rintro e w8 ⟨rfl, hb8⟩
        have HB8 := hide (HB7.out.trans (hb8.mono HB7.out.size))
        clear hb8
        go_wp2_with fail
        go_ret
        exact ⟨rfl, HB8.out⟩

end Go.Proofs.Ytenaonnijpnnaaa
