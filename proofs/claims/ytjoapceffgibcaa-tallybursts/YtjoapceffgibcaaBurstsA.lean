/-
  The walk of the law on bursts: bytes too many; and all others, bit by bit of the pattern.
-/
import Derived.Test.YtjoapceffgibcaaFlips
namespace Go.Proofs.Ytjoapceffgibcaa.tallyBursts
open Go.RowKit

set_option maxHeartbeats 400000 in
theorem walk_big (a : Option Addr) (len cap : Nat) (u v : Value) (w : World) (hl : 3000 < len) (hbig : len ≤ 9223372036854775807) :
    Calls Try.prog 5 #[.slice a len cap, u, v] w fun e w' => e = .returned (.bool true) ∧ Below w.heap.size w w' := by
  have hi : (3000 : Int) < (len : Int) := by omega
  have H7 := hide (awake_any w)
  go_enter Try.func5, Try.ntmps5
  go_wp2_with fail
  refine H7.out.mono ?_
  rintro e w' ⟨rfl, hb⟩
  go_wp2_with fail
  go_ret
  exact ⟨rfl, hb⟩

theorem bit_int (p n : Nat) : (((p : Int) / 2 ^ n).tmod 2 == 1) = decide (p / 2 ^ n % 2 = 1) := by
  have e1 : ((p : Int) / 2 ^ n).tmod 2 = ((p / 2 ^ n % 2 : Nat) : Int) := by
    have : ((p : Int) / 2 ^ n) = ((p / 2 ^ n : Nat) : Int) := by simp
    rw [this]
    rfl
  rw [e1]
  have : p / 2 ^ n % 2 < 2 := Nat.mod_lt _ (by decide)
  rcases Ta.bit_cases _ this with h | h <;> rw [h] <;> rfl

theorem TN_one {p n : Nat} (h : p / 2 ^ n % 2 = 1) : Ta.TN p (n + 1) = true := by
  unfold Ta.TN
  rw [if_pos h]
theorem TN_nil {p n : Nat} (h : ¬ p / 2 ^ n % 2 = 1) : Ta.TN p (n + 1) = Ta.TN p n := by
  show (if p / 2 ^ n % 2 = 1 then true else Ta.TN p n) = _
  rw [if_neg h]
theorem FL_one {p n : Nat} (ys : List Nat) (K : Nat) (h : p / 2 ^ n % 2 = 1) : Ta.FL ys K p (n + 1) = Ta.flip (Ta.FL ys K p n) (K + n) := by
  show (if p / 2 ^ n % 2 = 1 then Ta.flip (Ta.FL ys K p n) (K + n) else Ta.FL ys K p n) = _
  rw [if_pos h]
theorem FL_nil {p n : Nat} (ys : List Nat) (K : Nat) (h : ¬ p / 2 ^ n % 2 = 1) : Ta.FL ys K p (n + 1) = Ta.FL ys K p n := by
  show (if p / 2 ^ n % 2 = 1 then Ta.flip (Ta.FL ys K p n) (K + n) else Ta.FL ys K p n) = _
  rw [if_neg h]

theorem turned_byte (x q : Nat) (hx : x < 256) : bits .xor .u8 (x : Int) (2 ^ (7 - q % 8) % 256) = ((x ^^^ 2 ^ (7 - q % 8) : Nat) : Int) := by
  have h7 := Ta.pow7 q
  have e : (2 : Int) ^ (7 - q % 8) = ((2 ^ (7 - q % 8) : Nat) : Int) := by simp
  rw [e]
  generalize 2 ^ (7 - q % 8) = y at *
  rw [show ((y : Int) % 256) = (y : Int) by omega]
  exact u8_xor_nat x y hx h7

theorem turn_owns {wr : World} {base g N cap : Nat} {zs : List Nat} (h : Owns wr base (.slice (some ⟨g, 0, none⟩) N cap) zs) (hB : Ta.Bytes zs) (q x : Nat) (hx : x = zs.getD (q / 8) 0) :
    Owns (wr.setCell ⟨g, q / 8, none⟩ (.int .u8 (bits .xor .u8 (x : Int) (2 ^ (7 - q % 8) % 256)))) base (.slice (some ⟨g, 0, none⟩) N cap) (Ta.flip zs q) := by
  have hN := (h.row hB).1
  have hxb : x < 256 := by rw [hx]; exact Ta.getD_lt hB _
  subst hN
  rw [turned_byte x q hxb]
  have := (World.ownsRow.stored h (q / 8) (.int .u8 ((x ^^^ 2 ^ (7 - q % 8) : Nat) : Int))).1
  unfold Owns
  rw [Ta.flip_length]
  unfold Ta.flip
  rw [← hx, ← vals_set]
  exact this

/-- At the end the bytes are opened: those that nobody turned are, the others are not. -/
theorem end_open {wr : World} {base g len cap K p n : Nat} {xs : List Nat} (h : Owns wr base (.slice (some ⟨g, 0, none⟩) (4 + len) cap) (Ta.FL (fourB (Ta.sum xs) ++ xs) K p n)) (hx : Ta.Bytes xs)
    (hle : 4 + len ≤ cap) (hlen : len ≤ 3000) (hburst : Ta.TN p n = true → ¬ Sealed (Ta.FL (fourB (Ta.sum xs) ++ xs) K p n)) :
    (Ta.TN p n = false → Calls Try.prog 9 #[.slice (some ⟨g, 0, none⟩) (4 + len) cap] wr fun e w' => ∃ v, e = .returned (.tuple #[v, .int .i64 0]) ∧ Below wr.heap.size wr w') ∧
    (Ta.TN p n = true → Calls Try.prog 9 #[.slice (some ⟨g, 0, none⟩) (4 + len) cap] wr fun e w' => ∃ v, e = .returned (.tuple #[v, .int .i64 5]) ∧ Below wr.heap.size wr w') := by
  have hB := Ta.FL_bytes (sealed_bytes hx) K p n
  have hrow := h.row hB
  have hbs := hrow.2
  rw [← hrow.1] at hbs
  constructor
  · intro ht
    have hs : Sealed (Ta.FL (fourB (Ta.sum xs) ++ xs) K p n) := by
      rw [Ta.TN_no _ _ _ _ ht]
      rfl
    refine (open_yes g 0 (4 + len) cap _ wr hbs (by omega) hle (by omega) hs).mono ?_
    rintro e w' ⟨v, he, _, hb⟩
    exact ⟨v, he, hb⟩
  · intro ht
    refine (open_no g 0 (4 + len) cap _ wr hbs (by omega) hle (by omega) (hburst ht)).mono ?_
    rintro e w' ⟨he, hb⟩
    exact ⟨_, he, hb⟩

set_option maxHeartbeats 4000000 in
theorem walk_behind (a : Option Addr) (len cap t p : Nat) (xs : List Nat) (w : World) (h : Came w a len cap xs) (hl : len ≤ 3000) (ht : t < 65536) (hev : t % 2 = 0) (hpos : 0 < len) :
    Calls Try.prog 5 #[.slice a len cap, .int .u16 (t : Nat), .int .u32 (p : Nat)] w fun e w' => e = .returned (.bool true) ∧ Below w.heap.size w w' := by
  have i1 : ¬ (3000 : Int) < (len : Int) := by omega
  have i2 : ((t : Int) % 2 == 1) = false := by simp; omega
  have i3 : ((len : Int) == 0) = false := by simp; omega
  obtain ⟨m, hmd, hm⟩ : ∃ m : Nat, (t : Int) / 2 % (8 * (4 + (len : Int)) - 32) = (m : Int) ∧ m < 8 * len := by
    refine ⟨t / 2 % (8 * len), ?_, Nat.mod_lt _ (by omega)⟩
    rw [show (8 * (4 + (len : Int)) - 32) = ((8 * len : Nat) : Int) by omega]
    rfl
  have H8 := hide (seal_any a len cap xs w h.bs h.nil hl)
  have HBS := hide h.bs
  clear h hev
  go_enter Try.func5, Try.ntmps5
  go_wp2_with fail
  refine H8.out.mono ?_
  rintro e w1 ⟨v1, rfl, ho, hb⟩
  have hxl := HBS.out.1
  have hfl : (fourB (Ta.sum xs) ++ xs).length = 4 + len := by rw [List.length_append, hxl]; rfl
  obtain ⟨g, cap1, rfl, hg1, hg2, hle⟩ := ho.pos (by omega)
  rw [hfl] at hle ho ⊢
  have HO := hide ho
  have HW := hide hb
  have HG := hide hg1
  have HLE := hide hle
  clear ho hb hxl hfl hg1 hg2 hle
  go_wp2_with fail
  go_loopw [11, 12] (fun tn i wr => ∃ n : Nat, n ≤ 32 ∧ (32 + m) + n ≤ (8 * (4 + len)) ∧ i = .int .i64 n ∧ tn = .bool (Ta.TN p n) ∧ Hid (Owns wr w.heap.size (.slice (some ⟨g, 0, none⟩) (4 + len) cap1) (Ta.FL (fourB (Ta.sum xs) ++ xs) (32 + m) p n)) ∧ Hid (Below w.heap.size w wr)) (fun _ i _ => 32 - (intOf i).toNat)
  case atStart => exact ⟨0, by omega, by omega, rfl, rfl, HO.out, HW.out⟩
  case round =>
    obtain ⟨n, hn, hkn, rfl, rfl, hown, hWr⟩ := hrel
    by_cases hlt : n < 32 ∧ (32 + m) + n < (8 * (4 + len))
    · obtain ⟨h32, hto⟩ := hlt
      have i4 : (n : Int) < 32 := by omega
      obtain ⟨x, hx⟩ : ∃ x, x = (Ta.FL (fourB (Ta.sum xs) ++ xs) (32 + m) p n).getD (((32 + m) + n) / 8) 0 := ⟨_, rfl⟩
      have hFB := Ta.FL_bytes (sealed_bytes HBS.out.2.1) (32 + m) p n
      have hxb : x < 256 := by rw [hx]; exact Ta.getD_lt hFB _
      have hrow := (hown.out.row hFB)
      have hcell : wr.cell? ⟨g, ((32 + m) + n) / 8, none⟩ = some (.int .u8 (x : Nat)) := by
        have := hrow.2.at (((32 + m) + n) / 8) (by rw [← hrow.1]; omega)
        rw [Nat.zero_add, ← hx] at this
        exact this
      have hfz : wr.frozen? ⟨g, ((32 + m) + n) / 8, none⟩ = false := by
        have ho2 := hown.out
        unfold Owns at ho2
        rw [← hrow.1] at ho2
        exact ho2.frozenAt _
      have HX := hide hx
      have HROW := hide hrow
      have HFB := hide hFB
      clear hx hrow hFB
      by_cases hbit : p / 2 ^ n % 2 = 1
      · have hd : (((p : Int) / 2 ^ n).tmod 2 == 1) = true := by rw [bit_int]; simpa using hbit
        have HBIT := hide hbit
        clear hbit
        go_wp2_with fail
        have HS := hide (turn_owns hown.out HFB.out ((32 + m) + n) x HX.out)
        have HB := hide (hWr.out.setCell (p := ⟨g, ((32 + m) + n) / 8, none⟩) HG.out (.int .u8 (bits .xor .u8 (x : Int) (2 ^ (7 - ((32 + m) + n) % 8) % 256))))
        go_roundw
        case rel => exact ⟨n + 1, by omega, by omega, by go_num, by rw [TN_one HBIT.out], by rw [FL_one _ _ HBIT.out]; exact HS, HB⟩
        case measure => simp only [intOf]; omega
      · have hd : (((p : Int) / 2 ^ n).tmod 2 == 1) = false := by rw [bit_int]; simpa using hbit
        have HBIT := hide hbit
        clear hbit
        go_wp2_with fail
        go_roundw
        case rel => exact ⟨n + 1, by omega, by omega, by go_num, by rw [TN_nil HBIT.out], by rw [FL_nil _ _ HBIT.out]; exact hown, hWr⟩
        case measure => simp only [intOf]; omega
    · have HE := hide (end_open hown.out HBS.out.2.1 HLE.out hl (fun htn => burst_behind HBS.out.2.1 (32 + m) p n (by omega) hn (by rw [HBS.out.1]; omega) htn))
      by_cases h32 : n < 32
      · have i4 : (n : Int) < 32 := by omega
        have i5 : ¬ (32 + (m : Int)) + (n : Int) < 8 * (4 + (len : Int)) := by omega
        cases hT : Ta.TN p n
        · have C9 := hide (HE.out.1 hT)
          clear hT
          go_wp2_with fail
          refine C9.out.mono ?_
          rintro e w3 ⟨v3, rfl, hb3⟩
          have C7 := hide (awake_any w3)
          have HB3 := hide (hWr.out.trans (hb3.mono hWr.out.size))
          clear hb3
          go_wp2_with fail
          refine C7.out.mono ?_
          rintro e w4 ⟨rfl, hb4⟩
          go_wp2_with fail
          go_ret
          exact ⟨rfl, HB3.out.trans (hb4.mono HB3.out.size)⟩
        · have C9 := hide (HE.out.2 hT)
          clear hT
          go_wp2_with fail
          refine C9.out.mono ?_
          rintro e w3 ⟨v3, rfl, hb3⟩
          have C7 := hide (awake_any w3)
          have HB3 := hide (hWr.out.trans (hb3.mono hWr.out.size))
          clear hb3
          go_wp2_with fail
          refine C7.out.mono ?_
          rintro e w4 ⟨rfl, hb4⟩
          go_wp2_with fail
          go_ret
          exact ⟨rfl, HB3.out.trans (hb4.mono HB3.out.size)⟩
      · have i4 : ¬ (n : Int) < 32 := by omega
        cases hT : Ta.TN p n
        · have C9 := hide (HE.out.1 hT)
          clear hT
          go_wp2_with fail
          refine C9.out.mono ?_
          rintro e w3 ⟨v3, rfl, hb3⟩
          have C7 := hide (awake_any w3)
          have HB3 := hide (hWr.out.trans (hb3.mono hWr.out.size))
          clear hb3
          go_wp2_with fail
          refine C7.out.mono ?_
          rintro e w4 ⟨rfl, hb4⟩
          go_wp2_with fail
          go_ret
          exact ⟨rfl, HB3.out.trans (hb4.mono HB3.out.size)⟩
        · have C9 := hide (HE.out.2 hT)
          clear hT
          go_wp2_with fail
          refine C9.out.mono ?_
          rintro e w3 ⟨v3, rfl, hb3⟩
          have C7 := hide (awake_any w3)
          have HB3 := hide (hWr.out.trans (hb3.mono hWr.out.size))
          clear hb3
          go_wp2_with fail
          refine C7.out.mono ?_
          rintro e w4 ⟨rfl, hb4⟩
          go_wp2_with fail
          go_ret
          exact ⟨rfl, HB3.out.trans (hb4.mono HB3.out.size)⟩

set_option maxHeartbeats 4000000 in
theorem walk_odd (a : Option Addr) (len cap t p : Nat) (xs : List Nat) (w : World) (h : Came w a len cap xs) (hl : len ≤ 3000) (ht : t < 65536) (hev : t % 2 = 1) :
    Calls Try.prog 5 #[.slice a len cap, .int .u16 (t : Nat), .int .u32 (p : Nat)] w fun e w' => e = .returned (.bool true) ∧ Below w.heap.size w w' := by
  have i1 : ¬ (3000 : Int) < (len : Int) := by omega
  have i2 : ((t : Int) % 2 == 1) = true := by simp; omega
  obtain ⟨m, hmd, hm⟩ : ∃ m : Nat, (t : Int) / 2 % 32 = (m : Int) ∧ m < 32 := ⟨t / 2 % 32, rfl, Nat.mod_lt _ (by omega)⟩
  have H8 := hide (seal_any a len cap xs w h.bs h.nil hl)
  have HBS := hide h.bs
  clear h hev
  go_enter Try.func5, Try.ntmps5
  go_wp2_with fail
  refine H8.out.mono ?_
  rintro e w1 ⟨v1, rfl, ho, hb⟩
  have hxl := HBS.out.1
  have hfl : (fourB (Ta.sum xs) ++ xs).length = 4 + len := by rw [List.length_append, hxl]; rfl
  obtain ⟨g, cap1, rfl, hg1, hg2, hle⟩ := ho.pos (by omega)
  rw [hfl] at hle ho ⊢
  have HO := hide ho
  have HW := hide hb
  have HG := hide hg1
  have HLE := hide hle
  clear ho hb hxl hfl hg1 hg2 hle
  go_wp2_with fail
  go_loopw [11, 12] (fun tn i wr => ∃ n : Nat, n ≤ 32 ∧ m + n ≤ 32 ∧ i = .int .i64 n ∧ tn = .bool (Ta.TN p n) ∧ Hid (Owns wr w.heap.size (.slice (some ⟨g, 0, none⟩) (4 + len) cap1) (Ta.FL (fourB (Ta.sum xs) ++ xs) m p n)) ∧ Hid (Below w.heap.size w wr)) (fun _ i _ => 32 - (intOf i).toNat)
  case atStart => exact ⟨0, by omega, by omega, rfl, rfl, HO.out, HW.out⟩
  case round =>
    obtain ⟨n, hn, hkn, rfl, rfl, hown, hWr⟩ := hrel
    by_cases hlt : n < 32 ∧ m + n < 32
    · obtain ⟨h32, hto⟩ := hlt
      have i4 : (n : Int) < 32 := by omega
      obtain ⟨x, hx⟩ : ∃ x, x = (Ta.FL (fourB (Ta.sum xs) ++ xs) m p n).getD ((m + n) / 8) 0 := ⟨_, rfl⟩
      have hFB := Ta.FL_bytes (sealed_bytes HBS.out.2.1) m p n
      have hxb : x < 256 := by rw [hx]; exact Ta.getD_lt hFB _
      have hrow := (hown.out.row hFB)
      have hcell : wr.cell? ⟨g, (m + n) / 8, none⟩ = some (.int .u8 (x : Nat)) := by
        have := hrow.2.at ((m + n) / 8) (by rw [← hrow.1]; omega)
        rw [Nat.zero_add, ← hx] at this
        exact this
      have hfz : wr.frozen? ⟨g, (m + n) / 8, none⟩ = false := by
        have ho2 := hown.out
        unfold Owns at ho2
        rw [← hrow.1] at ho2
        exact ho2.frozenAt _
      have HX := hide hx
      have HROW := hide hrow
      have HFB := hide hFB
      clear hx hrow hFB
      by_cases hbit : p / 2 ^ n % 2 = 1
      · have hd : (((p : Int) / 2 ^ n).tmod 2 == 1) = true := by rw [bit_int]; simpa using hbit
        have HBIT := hide hbit
        clear hbit
        go_wp2_with fail
        have HS := hide (turn_owns hown.out HFB.out (m + n) x HX.out)
        have HB := hide (hWr.out.setCell (p := ⟨g, (m + n) / 8, none⟩) HG.out (.int .u8 (bits .xor .u8 (x : Int) (2 ^ (7 - (m + n) % 8) % 256))))
        go_roundw
        case rel => exact ⟨n + 1, by omega, by omega, by go_num, by rw [TN_one HBIT.out], by rw [FL_one _ _ HBIT.out]; exact HS, HB⟩
        case measure => simp only [intOf]; omega
      · have hd : (((p : Int) / 2 ^ n).tmod 2 == 1) = false := by rw [bit_int]; simpa using hbit
        have HBIT := hide hbit
        clear hbit
        go_wp2_with fail
        go_roundw
        case rel => exact ⟨n + 1, by omega, by omega, by go_num, by rw [TN_nil HBIT.out], by rw [FL_nil _ _ HBIT.out]; exact hown, hWr⟩
        case measure => simp only [intOf]; omega
    · have HE := hide (end_open hown.out HBS.out.2.1 HLE.out hl (fun htn => burst_within m p n (by omega) htn))
      by_cases h32 : n < 32
      · have i4 : (n : Int) < 32 := by omega
        have i5 : ¬ (m : Int) + (n : Int) < 32 := by omega
        cases hT : Ta.TN p n
        · have C9 := hide (HE.out.1 hT)
          clear hT
          go_wp2_with fail
          refine C9.out.mono ?_
          rintro e w3 ⟨v3, rfl, hb3⟩
          have C7 := hide (awake_any w3)
          have HB3 := hide (hWr.out.trans (hb3.mono hWr.out.size))
          clear hb3
          go_wp2_with fail
          refine C7.out.mono ?_
          rintro e w4 ⟨rfl, hb4⟩
          go_wp2_with fail
          go_ret
          exact ⟨rfl, HB3.out.trans (hb4.mono HB3.out.size)⟩
        · have C9 := hide (HE.out.2 hT)
          clear hT
          go_wp2_with fail
          refine C9.out.mono ?_
          rintro e w3 ⟨v3, rfl, hb3⟩
          have C7 := hide (awake_any w3)
          have HB3 := hide (hWr.out.trans (hb3.mono hWr.out.size))
          clear hb3
          go_wp2_with fail
          refine C7.out.mono ?_
          rintro e w4 ⟨rfl, hb4⟩
          go_wp2_with fail
          go_ret
          exact ⟨rfl, HB3.out.trans (hb4.mono HB3.out.size)⟩
      · have i4 : ¬ (n : Int) < 32 := by omega
        cases hT : Ta.TN p n
        · have C9 := hide (HE.out.1 hT)
          clear hT
          go_wp2_with fail
          refine C9.out.mono ?_
          rintro e w3 ⟨v3, rfl, hb3⟩
          have C7 := hide (awake_any w3)
          have HB3 := hide (hWr.out.trans (hb3.mono hWr.out.size))
          clear hb3
          go_wp2_with fail
          refine C7.out.mono ?_
          rintro e w4 ⟨rfl, hb4⟩
          go_wp2_with fail
          go_ret
          exact ⟨rfl, HB3.out.trans (hb4.mono HB3.out.size)⟩
        · have C9 := hide (HE.out.2 hT)
          clear hT
          go_wp2_with fail
          refine C9.out.mono ?_
          rintro e w3 ⟨v3, rfl, hb3⟩
          have C7 := hide (awake_any w3)
          have HB3 := hide (hWr.out.trans (hb3.mono hWr.out.size))
          clear hb3
          go_wp2_with fail
          refine C7.out.mono ?_
          rintro e w4 ⟨rfl, hb4⟩
          go_wp2_with fail
          go_ret
          exact ⟨rfl, HB3.out.trans (hb4.mono HB3.out.size)⟩

set_option maxHeartbeats 4000000 in
theorem walk_none (a : Option Addr) (len cap t p : Nat) (xs : List Nat) (w : World) (h : Came w a len cap xs) (hl : len ≤ 3000) (ht : t < 65536) (hev : t % 2 = 0) (hz : len = 0) :
    Calls Try.prog 5 #[.slice a len cap, .int .u16 (t : Nat), .int .u32 (p : Nat)] w fun e w' => e = .returned (.bool true) ∧ Below w.heap.size w w' := by
  have i1 : ¬ (3000 : Int) < (len : Int) := by omega
  have i2 : ((t : Int) % 2 == 1) = false := by simp; omega
  have i3 : ((len : Int) == 0) = true := by simp; omega
  obtain ⟨m, hmd, hm⟩ : ∃ m : Nat, (t : Int) / 2 % 32 = (m : Int) ∧ m < 32 := ⟨t / 2 % 32, rfl, Nat.mod_lt _ (by omega)⟩
  have H8 := hide (seal_any a len cap xs w h.bs h.nil hl)
  have HBS := hide h.bs
  clear h hev hz
  go_enter Try.func5, Try.ntmps5
  go_wp2_with fail
  refine H8.out.mono ?_
  rintro e w1 ⟨v1, rfl, ho, hb⟩
  have hxl := HBS.out.1
  have hfl : (fourB (Ta.sum xs) ++ xs).length = 4 + len := by rw [List.length_append, hxl]; rfl
  obtain ⟨g, cap1, rfl, hg1, hg2, hle⟩ := ho.pos (by omega)
  rw [hfl] at hle ho ⊢
  have HO := hide ho
  have HW := hide hb
  have HG := hide hg1
  have HLE := hide hle
  clear ho hb hxl hfl hg1 hg2 hle
  go_wp2_with fail
  go_loopw [11, 12] (fun tn i wr => ∃ n : Nat, n ≤ 32 ∧ m + n ≤ 32 ∧ i = .int .i64 n ∧ tn = .bool (Ta.TN p n) ∧ Hid (Owns wr w.heap.size (.slice (some ⟨g, 0, none⟩) (4 + len) cap1) (Ta.FL (fourB (Ta.sum xs) ++ xs) m p n)) ∧ Hid (Below w.heap.size w wr)) (fun _ i _ => 32 - (intOf i).toNat)
  case atStart => exact ⟨0, by omega, by omega, rfl, rfl, HO.out, HW.out⟩
  case round =>
    obtain ⟨n, hn, hkn, rfl, rfl, hown, hWr⟩ := hrel
    by_cases hlt : n < 32 ∧ m + n < 32
    · obtain ⟨h32, hto⟩ := hlt
      have i4 : (n : Int) < 32 := by omega
      obtain ⟨x, hx⟩ : ∃ x, x = (Ta.FL (fourB (Ta.sum xs) ++ xs) m p n).getD ((m + n) / 8) 0 := ⟨_, rfl⟩
      have hFB := Ta.FL_bytes (sealed_bytes HBS.out.2.1) m p n
      have hxb : x < 256 := by rw [hx]; exact Ta.getD_lt hFB _
      have hrow := (hown.out.row hFB)
      have hcell : wr.cell? ⟨g, (m + n) / 8, none⟩ = some (.int .u8 (x : Nat)) := by
        have := hrow.2.at ((m + n) / 8) (by rw [← hrow.1]; omega)
        rw [Nat.zero_add, ← hx] at this
        exact this
      have hfz : wr.frozen? ⟨g, (m + n) / 8, none⟩ = false := by
        have ho2 := hown.out
        unfold Owns at ho2
        rw [← hrow.1] at ho2
        exact ho2.frozenAt _
      have HX := hide hx
      have HROW := hide hrow
      have HFB := hide hFB
      clear hx hrow hFB
      by_cases hbit : p / 2 ^ n % 2 = 1
      · have hd : (((p : Int) / 2 ^ n).tmod 2 == 1) = true := by rw [bit_int]; simpa using hbit
        have HBIT := hide hbit
        clear hbit
        go_wp2_with fail
        have HS := hide (turn_owns hown.out HFB.out (m + n) x HX.out)
        have HB := hide (hWr.out.setCell (p := ⟨g, (m + n) / 8, none⟩) HG.out (.int .u8 (bits .xor .u8 (x : Int) (2 ^ (7 - (m + n) % 8) % 256))))
        go_roundw
        case rel => exact ⟨n + 1, by omega, by omega, by go_num, by rw [TN_one HBIT.out], by rw [FL_one _ _ HBIT.out]; exact HS, HB⟩
        case measure => simp only [intOf]; omega
      · have hd : (((p : Int) / 2 ^ n).tmod 2 == 1) = false := by rw [bit_int]; simpa using hbit
        have HBIT := hide hbit
        clear hbit
        go_wp2_with fail
        go_roundw
        case rel => exact ⟨n + 1, by omega, by omega, by go_num, by rw [TN_nil HBIT.out], by rw [FL_nil _ _ HBIT.out]; exact hown, hWr⟩
        case measure => simp only [intOf]; omega
    · have HE := hide (end_open hown.out HBS.out.2.1 HLE.out hl (fun htn => burst_within m p n (by omega) htn))
      by_cases h32 : n < 32
      · have i4 : (n : Int) < 32 := by omega
        have i5 : ¬ (m : Int) + (n : Int) < 32 := by omega
        cases hT : Ta.TN p n
        · have C9 := hide (HE.out.1 hT)
          clear hT
          go_wp2_with fail
          refine C9.out.mono ?_
          rintro e w3 ⟨v3, rfl, hb3⟩
          have C7 := hide (awake_any w3)
          have HB3 := hide (hWr.out.trans (hb3.mono hWr.out.size))
          clear hb3
          go_wp2_with fail
          refine C7.out.mono ?_
          rintro e w4 ⟨rfl, hb4⟩
          go_wp2_with fail
          go_ret
          exact ⟨rfl, HB3.out.trans (hb4.mono HB3.out.size)⟩
        · have C9 := hide (HE.out.2 hT)
          clear hT
          go_wp2_with fail
          refine C9.out.mono ?_
          rintro e w3 ⟨v3, rfl, hb3⟩
          have C7 := hide (awake_any w3)
          have HB3 := hide (hWr.out.trans (hb3.mono hWr.out.size))
          clear hb3
          go_wp2_with fail
          refine C7.out.mono ?_
          rintro e w4 ⟨rfl, hb4⟩
          go_wp2_with fail
          go_ret
          exact ⟨rfl, HB3.out.trans (hb4.mono HB3.out.size)⟩
      · have i4 : ¬ (n : Int) < 32 := by omega
        cases hT : Ta.TN p n
        · have C9 := hide (HE.out.1 hT)
          clear hT
          go_wp2_with fail
          refine C9.out.mono ?_
          rintro e w3 ⟨v3, rfl, hb3⟩
          have C7 := hide (awake_any w3)
          have HB3 := hide (hWr.out.trans (hb3.mono hWr.out.size))
          clear hb3
          go_wp2_with fail
          refine C7.out.mono ?_
          rintro e w4 ⟨rfl, hb4⟩
          go_wp2_with fail
          go_ret
          exact ⟨rfl, HB3.out.trans (hb4.mono HB3.out.size)⟩
        · have C9 := hide (HE.out.2 hT)
          clear hT
          go_wp2_with fail
          refine C9.out.mono ?_
          rintro e w3 ⟨v3, rfl, hb3⟩
          have C7 := hide (awake_any w3)
          have HB3 := hide (hWr.out.trans (hb3.mono hWr.out.size))
          clear hb3
          go_wp2_with fail
          refine C7.out.mono ?_
          rintro e w4 ⟨rfl, hb4⟩
          go_wp2_with fail
          go_ret
          exact ⟨rfl, HB3.out.trans (hb4.mono HB3.out.size)⟩

end Go.Proofs.Ytjoapceffgibcaa.tallyBursts
