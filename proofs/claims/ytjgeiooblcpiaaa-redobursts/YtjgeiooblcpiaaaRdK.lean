/-
  Layer 6: a record of which some bits are turned.
-/
import Derived.Test.YtjgeiooblcpiaaaRdJ
namespace Go.Proofs.Ytjgeiooblcpiaaa
open Go.RowKit

theorem bit_int (p n : Nat) : (((p : Int) / 2 ^ n).tmod 2 == 1) = decide (p / 2 ^ n % 2 = 1) := by
  have e1 : ((p : Int) / 2 ^ n).tmod 2 = ((p / 2 ^ n % 2 : Nat) : Int) := by
    have : ((p : Int) / 2 ^ n) = ((p / 2 ^ n : Nat) : Int) := by simp
    rw [this]
    rfl
  rw [e1]
  have : p / 2 ^ n % 2 < 2 := Nat.mod_lt _ (by decide)
  rcases Ta.bit_cases _ this with h | h <;> rw [h] <;> rfl

theorem TN_one {p n : Nat} (h : p / 2 ^ n % 2 = 1) : Ta.TN p (n + 1) = true := by
  unfold Ta.TN
  rw [if_pos h]
theorem TN_nil {p n : Nat} (h : ¬ p / 2 ^ n % 2 = 1) : Ta.TN p (n + 1) = Ta.TN p n := by
  show (if p / 2 ^ n % 2 = 1 then true else Ta.TN p n) = _
  rw [if_neg h]
theorem FL_one {p n : Nat} (ys : List Nat) (K : Nat) (h : p / 2 ^ n % 2 = 1) : Ta.FL ys K p (n + 1) = Ta.flip (Ta.FL ys K p n) (K + n) := by
  show (if p / 2 ^ n % 2 = 1 then Ta.flip (Ta.FL ys K p n) (K + n) else Ta.FL ys K p n) = _
  rw [if_pos h]
theorem FL_nil {p n : Nat} (ys : List Nat) (K : Nat) (h : ¬ p / 2 ^ n % 2 = 1) : Ta.FL ys K p (n + 1) = Ta.FL ys K p n := by
  show (if p / 2 ^ n % 2 = 1 then Ta.flip (Ta.FL ys K p n) (K + n) else Ta.FL ys K p n) = _
  rw [if_neg h]

theorem turned_byte (x q : Nat) (hx : x < 256) : bits .xor .u8 (x : Int) (2 ^ (7 - q % 8) % 256) = ((x ^^^ 2 ^ (7 - q % 8) : Nat) : Int) := by
  have h7 := Ta.pow7 q
  have e : (2 : Int) ^ (7 - q % 8) = ((2 ^ (7 - q % 8) : Nat) : Int) := by simp
  rw [e]
  generalize 2 ^ (7 - q % 8) = y at *
  rw [show ((y : Int) % 256) = (y : Int) by omega]
  exact u8_xor_nat x y hx h7

theorem turn_owns {wr : World} {base g N cap : Nat} {zs : List Nat} (h : Owns wr base (.slice (some ⟨g, 0, none⟩) N cap) zs) (hB : Ta.Bytes zs) (q x : Nat) (hx : x = zs.getD (q / 8) 0) :
    Owns (wr.setCell ⟨g, q / 8, none⟩ (.int .u8 (bits .xor .u8 (x : Int) (2 ^ (7 - q % 8) % 256)))) base (.slice (some ⟨g, 0, none⟩) N cap) (Ta.flip zs q) := by
  have hN := (h.row hB).1
  have hxb : x < 256 := by rw [hx]; exact Ta.getD_lt hB _
  subst hN
  rw [turned_byte x q hxb]
  have := (World.ownsRow.stored h (q / 8) (.int .u8 ((x ^^^ 2 ^ (7 - q % 8) : Nat) : Int))).1
  unfold Owns
  rw [Ta.flip_length]
  unfold Ta.flip
  rw [← hx, ← vals_set]
  exact this

theorem flip_behind (a b : Nat) (ys : List Nat) (q : Nat) : Ta.flip (a :: b :: ys) (16 + q) = a :: b :: Ta.flip ys q := by
  unfold Ta.flip
  rw [show (16 + q) / 8 = q / 8 + 2 by omega, show (16 + q) % 8 = q % 8 by omega]
  rfl
theorem FL_behind (a b : Nat) (ys : List Nat) (K pat : Nat) : ∀ n, Ta.FL (a :: b :: ys) (16 + K) pat n = a :: b :: Ta.FL ys K pat n
  | 0 => rfl
  | n + 1 => by
    have ih := FL_behind a b ys K pat n
    show (if pat / 2 ^ n % 2 = 1 then Ta.flip (Ta.FL (a :: b :: ys) (16 + K) pat n) (16 + K + n) else Ta.FL (a :: b :: ys) (16 + K) pat n) = a :: b :: (if pat / 2 ^ n % 2 = 1 then Ta.flip (Ta.FL ys K pat n) (K + n) else Ta.FL ys K pat n)
    rw [ih]
    split
    · rw [Nat.add_assoc, flip_behind]
    · rfl

/-- A record with turned bits is none, one without is. -/
theorem dec_turned {g : List Im} (h : May g) (hb : ImB g) (K pat n : Nat) (hK : 48 ≤ K) (hn : n ≤ 32) (hl : K + n ≤ 8 * (recd g).length) : ((dec (Ta.FL (recd g) K pat n)).e = 0) = (Ta.TN pat n = false) := by
  cases ht : Ta.TN pat n
  · rw [Ta.TN_no _ _ _ _ ht]
    have := dec_recd h []
    rw [List.append_nil] at this
    rw [this]
    simp
  · have hrl := recd_length h.len
    have htl := text_length h.len
    have hle := h.2.1
    have hsl := seald_length (text g)
    have e : Ta.FL (recd g) K pat n = (seald (text g)).length / 256 :: (seald (text g)).length % 256 :: Ta.FL (seald (text g)) (K - 16) pat n := by
      have := FL_behind ((seald (text g)).length / 256) ((seald (text g)).length % 256) (seald (text g)) (K - 16) pat n
      rw [show 16 + (K - 16) = K by omega] at this
      exact this
    have hfl := Ta.FL_length (seald (text g)) (K - 16) pat n
    have hns : ¬ Sealed (Ta.FL (seald (text g)) (K - 16) pat n) := burst_behind (text_bytes hb h) (K - 16) pat n (by omega) hn (by omega) ht
    have hsd : said (Ta.FL (recd g) K pat n) = (seald (text g)).length := by
      rw [e]
      show (seald (text g)).length / 256 * 256 + (seald (text g)).length % 256 = _
      omega
    have hd : ((Ta.FL (recd g) K pat n).drop 2).take (said (Ta.FL (recd g) K pat n)) = Ta.FL (seald (text g)) (K - 16) pat n := by
      rw [hsd, e, ← hfl]
      exact List.take_length
    have hlen : (Ta.FL (recd g) K pat n).length = (recd g).length := Ta.FL_length _ _ _ _
    rw [dec_bad (by rw [hlen]; omega) (by rw [hsd, hlen]; omega) (by rw [hsd]; omega) (by rw [hd]; exact hns)]
    simp [Told.no]

theorem first_e (w : World) (a : Option Addr) (len cap : Nat) (xs : List Nat) (h : Came w a len cap xs) (hm : len ≤ 100000) :
    Calls Try.prog 13 #[.slice a len cap] w fun e w' => ∃ (v : Value) (n : Int), e = .returned (.tuple #[v, .int .i64 n, .int .i64 ((dec xs).e : Nat)]) ∧ Below w.heap.size w w' := by
  refine (first_any w a len cap xs h hm).mono ?_
  rintro e w' ⟨v, he, _, hb⟩
  exact ⟨v.val, _, he, hb⟩

set_option maxHeartbeats 4000000 in
set_option maxRecDepth 100000 in
theorem bursts_big (a : Option Addr) (len cap : Nat) (u v : Value) (w : World) (hl : 600 < len) (hbig : len ≤ 9223372036854775807) :
    Calls Try.prog 7 #[.slice a len cap, u, v] w fun e w' => e = .returned (.bool true) ∧ Below w.heap.size w w' := by
  have HA := hide (awake_any w)
  have i1 : (600 : Int) < (len : Int) := by omega
  go_enter Try.func7, Try.ntmps7
  go_wp2_with fail
  refine HA.out.mono ?_
  rintro e w' ⟨rfl, hb⟩
  go_wp2_with fail
  go_ret
  exact ⟨rfl, hb⟩

set_option maxHeartbeats 8000000 in
set_option maxRecDepth 100000 in
theorem bursts_near (a : Option Addr) (len cap t p : Nat) (xs : List Nat) (w : World) (h : Came w a len cap xs) (hl : len ≤ 600) (ht : t < 65536) :
    Calls Try.prog 7 #[.slice a len cap, .int .u16 (t : Nat), .int .u32 (p : Nat)] w fun e w' => e = .returned (.bool true) ∧ Below w.heap.size w w' := by
  have i1 : ¬ (600 : Int) < (len : Int) := by omega
  obtain ⟨m, hmd, hm⟩ : ∃ m : Nat, (t : Int) % 4112 = (m : Int) ∧ m < 4112 := ⟨t % 4112, rfl, Nat.mod_lt _ (by decide)⟩
  have HP := hide (page_any w a len cap xs h)
  have HM : Hid (May [⟨1, pageOf xs⟩]) := may_one (by omega) (by omega) (pageOf_length _)
  have HIB : Hid (ImB [⟨1, pageOf xs⟩]) := fun y hy => by rw [List.mem_singleton.1 hy]; exact pageOf_bytes xs h.bs.2.1
  clear h
  go_enter Try.func7, Try.ntmps7
  go_wp2_with fail
  refine HP.out.mono ?_
  rintro e w1 ⟨hb1, rfl, hc1⟩
  have HB1 := hide hb1
  have hgr := gr_one (D := fun _ => True) w1 ⟨1, ⟨some ⟨w.heap.size, 0, none⟩, 512, 512⟩, pageOf xs⟩ ⟨hc1, fun _ _ _ => trivial⟩
  have HE := hide (encode_ok _ _ _ hgr HM.out)
  have HB2 := hide (rBelow HB1.out (below_alloc w1 (.cells #[.int .i64 1, .slice (some ⟨w.heap.size, 0, none⟩) 512 512] 28)))
  clear hgr hc1 hb1
  go_wp2_with fail
  refine HE.out.mono ?_
  rintro e w2 ⟨r, rfl, ho2, hb2⟩
  have HRL : Hid ((recd [⟨1, pageOf xs⟩]).length = 520) := by show _ = _; rw [recd_length HM.out.len]; rfl
  replace ho2 : Owns w2 (w1.alloc (.cells #[.int .i64 1, .slice (some ⟨w.heap.size, 0, none⟩) 512 512] 28)).heap.size r (recd [⟨1, pageOf xs⟩]) := ho2
  have hrl := HRL.out
  obtain ⟨g, cap1, hr, hg1, hg2, hle⟩ := ho2.pos (by omega)
  rw [hrl] at hr hle
  subst hr
  have HO : Hid (Owns w2 w.heap.size (.slice (some ⟨g, 0, none⟩) 520 cap1) (recd [⟨1, pageOf xs⟩])) := ho2.base HB2.out.size
  have HB3 := hide (rBelow HB2.out hb2)
  have HG : Hid (w.heap.size ≤ g) := Nat.le_trans HB2.out.size hg1
  have HLE := hide hle
  clear ho2 hb2 hrl hg1 hg2 hle HE
  go_wp2_with fail
  go_loopw [9, 11] (fun tn i wr => ∃ n : Nat, n ≤ 32 ∧ (48 + m) + n ≤ 4160 ∧ i = .int .i64 n ∧ tn = .bool (Ta.TN p n) ∧ Hid (Owns wr w.heap.size (.slice (some ⟨g, 0, none⟩) 520 cap1) (Ta.FL (recd [⟨1, pageOf xs⟩]) (48 + m) p n)) ∧ Hid (Below w.heap.size w wr)) (fun _ i _ => 32 - (intOf i).toNat)
  case atStart => exact ⟨0, by omega, by omega, rfl, rfl, HO, HB3⟩
  case round =>
    obtain ⟨n, hn, hkn, rfl, rfl, hown, hWr⟩ := hrel
    have hFB : Ta.Bytes (Ta.FL (recd [⟨1, pageOf xs⟩]) (48 + m) p n) := Ta.FL_bytes (recd_bytes HIB.out HM.out) (48 + m) p n
    have hFL : (Ta.FL (recd [⟨1, pageOf xs⟩]) (48 + m) p n).length = 520 := by rw [Ta.FL_length]; exact HRL.out
    by_cases hlt : n < 32 ∧ (48 + m) + n < 4160
    · obtain ⟨h32, hto⟩ := hlt
      have i4 : (n : Int) < 32 := by omega
      obtain ⟨x, hx⟩ : ∃ x, x = (Ta.FL (recd [⟨1, pageOf xs⟩]) (48 + m) p n).getD (((48 + m) + n) / 8) 0 := ⟨_, rfl⟩
      have hxb : x < 256 := by rw [hx]; exact Ta.getD_lt hFB _
      have hrow := (hown.out.row hFB)
      have hcell : wr.cell? ⟨g, ((48 + m) + n) / 8, none⟩ = some (.int .u8 (x : Nat)) := by
        have := hrow.2.at (((48 + m) + n) / 8) (by rw [hFL]; omega)
        rw [Nat.zero_add, ← hx] at this
        exact this
      have hfz : wr.frozen? ⟨g, ((48 + m) + n) / 8, none⟩ = false := by
        have ho2 := hown.out
        unfold Owns at ho2
        rw [hFL] at ho2
        exact ho2.frozenAt _
      have HX := hide hx
      have HFB := hide hFB
      clear hx hrow hFB hFL
      by_cases hbit : p / 2 ^ n % 2 = 1
      · have hd : (((p : Int) / 2 ^ n).tmod 2 == 1) = true := by rw [bit_int]; simpa using hbit
        have HBIT := hide hbit
        clear hbit
        go_wp2_with fail
        have HS := hide (turn_owns hown.out HFB.out ((48 + m) + n) x HX.out)
        have HB := hide (hWr.out.setCell (p := ⟨g, ((48 + m) + n) / 8, none⟩) HG.out (.int .u8 (bits .xor .u8 (x : Int) (2 ^ (7 - ((48 + m) + n) % 8) % 256))))
        go_roundw
        case rel => exact ⟨n + 1, by omega, by omega, by go_num, by rw [TN_one HBIT.out], by rw [FL_one _ _ HBIT.out]; exact HS, HB⟩
        case measure => simp only [intOf]; omega
      · have hd : (((p : Int) / 2 ^ n).tmod 2 == 1) = false := by rw [bit_int]; simpa using hbit
        have HBIT := hide hbit
        clear hbit
        go_wp2_with fail
        go_roundw
        case rel => exact ⟨n + 1, by omega, by omega, by go_num, by rw [TN_nil HBIT.out], by rw [FL_nil _ _ HBIT.out]; exact hown, hWr⟩
        case measure => simp only [intOf]; omega
    · have hdt := dec_turned HM.out HIB.out (48 + m) p n (by omega) hn (by rw [HRL.out]; omega)
      have hbs := (hown.out.row hFB).2
      rw [hFL] at hbs
      have hf := first_e wr (some ⟨g, 0, none⟩) 520 cap1 _ ⟨hbs, fun e => (by cases e), HLE.out, by omega⟩ (by omega)
      obtain ⟨er, her⟩ : ∃ er, er = (dec (Ta.FL (recd [⟨1, pageOf xs⟩]) (48 + m) p n)).e := ⟨_, rfl⟩
      rw [← her] at hdt hf
      have HF := hide hf
      have i4 : (decide ((n : Int) < 32) && decide ((48 + (m : Int)) + (n : Int) < 4160)) = false := by
        rw [Bool.and_eq_false_iff, decide_eq_false_iff_not, decide_eq_false_iff_not]
        omega
      clear hbs hf her hFB hFL
      cases hT : Ta.TN p n
      · rw [hT] at hdt
        have her : er = 0 := hdt.mpr rfl
        subst her
        clear hdt hT
        rcases Nat.lt_or_ge n 32 with h32 | h32
        · have i5 : (n : Int) < 32 := by omega
          have i6 : ¬ (48 + (m : Int)) + (n : Int) < 4160 := by omega
          go_wp2_with fail
          refine HF.out.mono ?_
          rintro e w3 ⟨v3, n3, rfl, hb3⟩
          have C7 := hide (awake_any w3)
          have HB4 := hide (hWr.out.trans (hb3.mono hWr.out.size))
          clear hb3
          go_wp2_with fail
          refine C7.out.mono ?_
          rintro e w4 ⟨rfl, hb4⟩
          go_wp2_with fail
          go_ret
          exact ⟨rfl, HB4.out.trans (hb4.mono HB4.out.size)⟩
        · have i5 : ¬ (n : Int) < 32 := by omega
          go_wp2_with fail
          refine HF.out.mono ?_
          rintro e w3 ⟨v3, n3, rfl, hb3⟩
          have C7 := hide (awake_any w3)
          have HB4 := hide (hWr.out.trans (hb3.mono hWr.out.size))
          clear hb3
          go_wp2_with fail
          refine C7.out.mono ?_
          rintro e w4 ⟨rfl, hb4⟩
          go_wp2_with fail
          go_ret
          exact ⟨rfl, HB4.out.trans (hb4.mono HB4.out.size)⟩
      · rw [hT] at hdt
        have her : ¬ er = 0 := fun e => by have := hdt.mp e; cases this
        have i7 : (((er : Nat) : Int) == 0) = false := by rw [beq_eq_false_iff_ne]; omega
        clear hdt hT
        rcases Nat.lt_or_ge n 32 with h32 | h32
        · have i5 : (n : Int) < 32 := by omega
          have i6 : ¬ (48 + (m : Int)) + (n : Int) < 4160 := by omega
          go_wp2_with fail
          refine HF.out.mono ?_
          rintro e w3 ⟨v3, n3, rfl, hb3⟩
          have C7 := hide (awake_any w3)
          have HB4 := hide (hWr.out.trans (hb3.mono hWr.out.size))
          clear hb3
          go_wp2_with fail
          refine C7.out.mono ?_
          rintro e w4 ⟨rfl, hb4⟩
          go_wp2_with fail
          go_ret
          exact ⟨rfl, HB4.out.trans (hb4.mono HB4.out.size)⟩
        · have i5 : ¬ (n : Int) < 32 := by omega
          go_wp2_with fail
          refine HF.out.mono ?_
          rintro e w3 ⟨v3, n3, rfl, hb3⟩
          have C7 := hide (awake_any w3)
          have HB4 := hide (hWr.out.trans (hb3.mono hWr.out.size))
          clear hb3
          go_wp2_with fail
          refine C7.out.mono ?_
          rintro e w4 ⟨rfl, hb4⟩
          go_wp2_with fail
          go_ret
          exact ⟨rfl, HB4.out.trans (hb4.mono HB4.out.size)⟩
end Go.Proofs.Ytjgeiooblcpiaaa
