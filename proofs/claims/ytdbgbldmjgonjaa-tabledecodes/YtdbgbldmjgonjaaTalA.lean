/-
  Layer 2 in the hands of layer 6: what tally and the document's own sums hand back: the sum of bytes, sealed bytes, what is opened.
-/
import Derived.Test.YtdbgbldmjgonjaaBytes
import Derived.Test.YtdbgbldmjgonjaaWords
namespace Go.Proofs.Ytdbgbldmjgonjaa
open Go.RowKit

theorem lay_byte (s c : Nat) (hs : s < 4294967296) (hc : c < 256) : bits .xor .u32 (s : Int) ((c : Int) * 16777216) = ((s ^^^ c * 16777216 : Nat) : Int) := by
  have := u32_xor_nat s (c * 16777216) hs (by omega)
  rw [← this, Int.natCast_mul]
  rfl

theorem one_step (x : Nat) (hx : x < 4294967296) : bits .xor .u32 ((x : Int) * 2 % 4294967296) ((x : Int) / 2147483648 * 2168537515) = ((Ta.Z x : Nat) : Int) := by
  have h := u32_xor_nat (2 * x % 4294967296) (x / 2147483648 * 2168537515) (by omega) (by omega)
  unfold Ta.Z
  rw [← h]
  congr 1 <;> omega

set_option maxHeartbeats 400000 in
theorem moreByte_any (s c : Nat) (hs : s < 4294967296) (hc : c < 256) (w : World) :
    Calls Try.prog 92 #[.int .u32 (s : Nat), .int .u8 (c : Nat)] w fun e w' => e = .returned (.int .u32 (Ta.mb s c : Nat)) ∧ w' = w := by
  go_enter Try.func92, Try.ntmps92
  go_wp2
  go_loop [0, 11] (fun r i => ∃ k : Nat, k ≤ 8 ∧ i = .int .i64 k ∧ r = .int .u32 (Ta.Zn k (s ^^^ c * 16777216) : Nat)) (fun _ i => 8 - (intOf i).toNat)
  case atStart => exact ⟨0, by omega, rfl, by rw [lay_byte s c hs hc]; rfl⟩
  case round =>
    obtain ⟨k, hk, rfl, rfl⟩ := hrel
    have hx : Ta.Zn k (s ^^^ c * 16777216) < 4294967296 := Ta.Zn_lt (Ta.xor_lt hs (by omega)) k
    go_wp2
    · have hlt : k < 8 := by omega
      go_round
      case rel => exact ⟨k + 1, by omega, by go_num, by rw [one_step _ hx]; rfl⟩
      case measure => simp only [intOf]; omega
    · have hk8 : k = 8 := by omega
      subst hk8
      go_ret
      exact ⟨rfl, rfl⟩

set_option maxHeartbeats 400000 in
theorem more_any (s : Nat) (hs : s < 4294967296) (a : Option Addr) (len cap : Nat) (xs : List Nat) (w : World) (h : Bs w a len xs) (hm : len ≤ 9223372036854775807) :
    Calls Try.prog 78 #[.int .u32 (s : Nat), .slice a len cap] w fun e w' => e = .returned (.int .u32 (Ta.more s xs : Nat)) ∧ w' = w := by
  have hB := h.2.1
  have hxl := h.1
  rcases h.part with ⟨rfl, rfl⟩ | ⟨b, off, hp, rfl, hcell⟩
  · go_enter Try.func78, Try.ntmps78
    go_wp2
    refine wp_loop_rounds 1 ?_
    rw [rounds_succ]
    go_wp2
    go_ret
    exact ⟨rfl, rfl⟩
  · clear h
    have HM : Hid (∀ k, Ta.more s (xs.take k) < 4294967296) := fun k => Ta.more_lt _ hs (fun n hn => hB n (List.mem_of_mem_take hn))
    have HC : Hid (∀ k, xs.getD k 0 < 256) := fun k => Ta.getD_lt hB k
    have HL : Hid (xs.length = len) := hxl
    have HCell : Hid (∀ i, i < len → w.cell? ⟨b, off + i, none⟩ = some (.int .u8 (xs.getD i 0 : Nat))) := hcell
    clear hB hxl hcell hs
    go_enter Try.func78, Try.ntmps78
    go_wp2
    go_loop [0, 9] (fun r i => ∃ k : Nat, k ≤ len ∧ i = .int .i64 k ∧ r = .int .u32 (Ta.more s (xs.take k) : Nat)) (fun _ i => len - (intOf i).toNat)
    case atStart => exact ⟨0, by omega, rfl, rfl⟩
    case round =>
      obtain ⟨k, hk, rfl, rfl⟩ := hrel
      obtain ⟨c, hc⟩ : ∃ c, c = xs.getD k 0 := ⟨_, rfl⟩
      obtain ⟨r, hr⟩ : ∃ r, r = Ta.more s (xs.take k) := ⟨_, rfl⟩
      have hcl : k < len → w.cell? ⟨b, off + k, none⟩ = some (.int .u8 (c : Nat)) := fun hk => by rw [hc]; exact HCell.out k hk
      have H14 : Hid (∀ w, Calls Try.prog 92 #[.int .u32 (r : Nat), .int .u8 (c : Nat)] w fun e w' => e = .returned (.int .u32 (Ta.mb r c : Nat)) ∧ w' = w) :=
        fun w => moreByte_any r c (by rw [hr]; exact HM.out k) (by rw [hc]; exact HC.out k) w
      rw [← hr]
      have HR : Hid (r = Ta.more s (xs.take k)) := hr
      have HX : Hid (c = xs.getD k 0) := hc
      clear hr hc
      go_wp2_with (go_at_call 92; refine (H14.out _).mono ?_; rintro e w' ⟨rfl, rfl⟩)
      · have hlt : k < len := by omega
        go_round
        case rel => exact ⟨k + 1, by omega, by go_num, by rw [Ta.more_take_succ s xs k (by rw [HL.out]; exact hlt), ← HR.out, ← HX.out]⟩
        case measure => simp only [intOf]; omega
      · have hkl : k = len := by omega
        go_ret
        refine ⟨?_, rfl⟩
        rw [HR.out, hkl, ← HL.out, List.take_length]
        rfl

set_option maxHeartbeats 400000 in
theorem sum_any (a : Option Addr) (len cap : Nat) (xs : List Nat) (w : World) (h : Bs w a len xs) (hm : len ≤ 9223372036854775807) :
    Calls Try.prog 58 #[.slice a len cap] w fun e w' => e = .returned (.int .u32 (Ta.sum xs : Nat)) ∧ w' = w := by
  have H : Hid (∀ w, Bs w a len xs → Calls Try.prog 78 #[.int .u32 (4294967295 : Nat), .slice a len cap] w fun e w' => e = .returned (.int .u32 (Ta.more 4294967295 xs : Nat)) ∧ w' = w) :=
    fun w h => more_any 4294967295 (by decide) a len cap xs w h hm
  have HB : Hid (Bs w a len xs) := h
  clear h
  go_enter Try.func58, Try.ntmps58
  go_wp2_with fail
  refine (H.out _ HB.out).mono ?_
  rintro e w' ⟨rfl, rfl⟩
  go_wp2_with fail
  go_ret
  exact ⟨rfl, rfl⟩

theorem ref_test (r c j : Nat) : ((r : Int) / 2147483648 != ((c : Int) / 2 ^ j).tmod 2) = decide (r / 2147483648 ≠ c / 2 ^ j % 2) := by
  have e1 : ((c : Int) / 2 ^ j).tmod 2 = ((c / 2 ^ j % 2 : Nat) : Int) := by
    have : ((c : Int) / 2 ^ j) = ((c / 2 ^ j : Nat) : Int) := by simp
    rw [this]
    rfl
  have e2 : (r : Int) / 2147483648 = ((r / 2147483648 : Nat) : Int) := rfl
  rw [e1, e2]
  generalize r / 2147483648 = A
  generalize c / 2 ^ j % 2 = B
  by_cases h : A = B
  · rw [h]
    simp
  · have h' : ((A : Int) == (B : Int)) = false := beq_eq_false_iff_ne.2 (fun e => h (Int.ofNat_inj.1 e))
    rw [bne, h', decide_eq_true h]
    rfl

theorem ref_yes (r c j : Nat) (h : ((r : Int) / 2147483648 != ((c : Int) / 2 ^ j).tmod 2) = true) : bits .xor .u64 ((r : Int) * 2 % 4294967296) 2168537515 = ((Ta.step r (c / 2 ^ j % 2) : Nat) : Int) := by
  rw [ref_test] at h
  have := u64_xor_nat (r * 2 % 4294967296) 2168537515 (by omega) (by decide)
  unfold Ta.step
  rw [if_pos (of_decide_eq_true h), ← this]
  rfl

theorem ref_no (r c j : Nat) (h : ((r : Int) / 2147483648 != ((c : Int) / 2 ^ j).tmod 2) = false) : ((r : Int) * 2 % 4294967296) = ((Ta.step r (c / 2 ^ j % 2) : Nat) : Int) := by
  rw [ref_test] at h
  unfold Ta.step
  rw [if_neg (of_decide_eq_false h)]
  rfl

set_option maxHeartbeats 400000 in
theorem rsum_any (a : Option Addr) (len cap : Nat) (xs : List Nat) (w : World) (h : Bs w a len xs) (hm : len ≤ 1000000) :
    Calls Try.prog 68 #[.slice a len cap] w fun e w' => e = .returned (.int .u32 (Ta.sum xs : Nat)) ∧ w' = w := by
  have hB := h.2.1
  have hxl := h.1
  rcases h.part with ⟨rfl, rfl⟩ | ⟨b, off, hp, rfl, hcell⟩
  · go_enter Try.func68, Try.ntmps68
    go_wp2
    refine wp_loop_rounds 1 ?_
    rw [rounds_succ]
    go_wp2
    go_ret
    exact ⟨rfl, rfl⟩
  · clear h
    have HM : Hid (∀ k, Ta.reg (Ta.bitAt xs) k < 4294967296) := Ta.reg_lt _ (Ta.bitAt_lt xs)
    have HC : Hid (∀ k, xs.getD k 0 < 256) := fun k => Ta.getD_lt hB k
    have HE : Hid (Ta.reg (Ta.bitAt xs) (8 * len) = Ta.sum xs) := by rw [← hxl]; exact Ta.reg_all hB
    have HCell : Hid (∀ i, i < len → w.cell? ⟨b, off + i, none⟩ = some (.int .u8 (xs.getD i 0 : Nat))) := hcell
    clear hB hxl hcell
    go_enter Try.func68, Try.ntmps68
    go_wp2
    go_loop [3, 4] (fun r i => ∃ k : Nat, k ≤ 8 * len ∧ i = .int .i64 k ∧ r = .int .u64 (Ta.reg (Ta.bitAt xs) k : Nat)) (fun _ i => 8 * len - (intOf i).toNat)
    case atStart => exact ⟨0, by omega, rfl, rfl⟩
    case round =>
      obtain ⟨k, hk, rfl, rfl⟩ := hrel
      obtain ⟨c, hc⟩ : ∃ c, c = xs.getD (k / 8) 0 := ⟨_, rfl⟩
      obtain ⟨r, hr⟩ : ∃ r, r = Ta.reg (Ta.bitAt xs) k := ⟨_, rfl⟩
      have hrl : r < 4294967296 := by rw [hr]; exact HM.out k
      have hcb : c < 256 := by rw [hc]; exact HC.out _
      rcases Nat.lt_or_ge k (8 * len) with hlt | hge
      · have hcl : w.cell? ⟨b, off + k / 8, none⟩ = some (.int .u8 (c : Nat)) := by rw [hc]; exact HCell.out _ (by omega)
        have hi : (k : Int) < 8 * (len : Int) := by omega
        rw [← hr]
        have HR : Hid (r = Ta.reg (Ta.bitAt xs) k) := hr
        have HX : Hid (c = xs.getD (k / 8) 0) := hc
        clear hr hc
        go_wp2
        · have hd : ((r : Int) / 2147483648 != ((c : Int) / 2 ^ (7 - k % 8)).tmod 2) = true := by assumption
          go_round
          case rel => exact ⟨k + 1, by omega, by go_num, by rw [ref_yes r c _ hd, HR.out, HX.out]; rfl⟩
          case measure => simp only [intOf]; omega
        · have hd : ((r : Int) / 2147483648 != ((c : Int) / 2 ^ (7 - k % 8)).tmod 2) = false := by assumption
          go_round
          case rel => exact ⟨k + 1, by omega, by go_num, by rw [ref_no r c _ hd, HR.out, HX.out]; rfl⟩
          case measure => simp only [intOf]; omega
      · have hi : ¬ (k : Int) < 8 * (len : Int) := by omega
        have hkl : k = 8 * len := by omega
        subst hkl
        have hsl : Ta.sum xs < 4294967296 := by rw [← HE.out]; exact HM.out _
        rw [HE.out]
        clear hr hc hrl hcb
        go_wp2
        go_ret
        exact ⟨rfl, rfl⟩

/-- A number's four bytes, the highest first. -/
def fourB (n : Nat) : List Nat := [n / 16777216, n / 65536 % 256, n / 256 % 256, n % 256]

theorem fourB_bytes {n : Nat} (hn : n < 4294967296) : Ta.Bytes (fourB n) := by
  intro x hx
  simp [fourB] at hx
  omega

set_option maxHeartbeats 400000 in
theorem four_any (n : Nat) (hn : n < 4294967296) (w : World) :
    Calls Try.prog 67 #[.int .u32 (n : Nat)] w fun e w' => e = .returned (.slice (some ⟨w.heap.size, 0, none⟩) 4 4) ∧ w' = w.alloc (.cells (vals (fourB n)).toArray 5) := by
  go_enter Try.func67, Try.ntmps67
  go_wp2
  go_ret
  exact ⟨rfl, rfl⟩

set_option maxHeartbeats 400000 in
theorem rseal_any (a : Option Addr) (len cap : Nat) (xs : List Nat) (w : World) (h : Bs w a len xs) (hn : a = none → cap = 0) (hm : len ≤ 100000) :
    Calls Try.prog 48 #[.slice a len cap] w fun e w' => ∃ v, e = .returned v ∧ Owns w' w.heap.size v (fourB (Ta.sum xs) ++ xs) ∧ Below w.heap.size w w' := by
  obtain ⟨s, hs⟩ : ∃ s, s = Ta.sum xs := ⟨_, rfl⟩
  have hsl : s < 4294967296 := by rw [hs]; exact Ta.sum_lt h.2.1
  have H11 := rsum_any a len cap xs w h (by omega)
  rw [← hs] at H11 ⊢
  have H11 := hide H11
  have H15 := hide (four_any s hsl w)
  have HO : Hid (Owns (w.alloc (.cells (vals (fourB s)).toArray 5)) w.heap.size (.slice (some ⟨w.heap.size, 0, none⟩) 4 4) (fourB s)) := Owns.lit w w.heap.size (fourB s) (Nat.le_refl _) (by simp [fourB])
  have HB : Hid (Bs (w.alloc (.cells (vals (fourB s)).toArray 5)) a len xs) := h.keep (below_alloc w _) (Nat.le_refl _)
  have HN : Hid (a = none → cap = 0) := hn
  have HL : Hid ((fourB s).length + len ≤ 1000000) := by show 4 + len ≤ 1000000; omega
  have HS : Hid (w.heap.size ≤ (w.alloc (.cells (vals (fourB s)).toArray 5)).heap.size) := (below_alloc w _).size
  have HW : Hid (Below w.heap.size w (w.alloc (.cells (vals (fourB s)).toArray 5))) := below_alloc w _
  clear hs hsl h hn hm
  go_enter Try.func48, Try.ntmps48
  go_wp2_with fail
  refine H11.out.mono ?_
  rintro e w' ⟨rfl, hw⟩
  obtain rfl := hw.symm
  go_wp2_with fail
  refine H15.out.mono ?_
  rintro e w' ⟨rfl, rfl⟩
  go_wp2_with (at_builtin; refine wpList_append_bytes _ rfl _ _ rfl w.heap.size _ (fourB s) rfl HO.out a len cap xs rfl HB.out HN.out HL.out HS.out ?_)
  intro v' w' ho hb
  go_wp2
  go_ret
  exact ⟨_, rfl, ho, HW.out.trans hb⟩

set_option maxHeartbeats 400000 in
theorem seal_any (a : Option Addr) (len cap : Nat) (xs : List Nat) (w : World) (h : Bs w a len xs) (hn : a = none → cap = 0) (hm : len ≤ 100000) :
    Calls Try.prog 37 #[.slice a len cap] w fun e w' => ∃ v, e = .returned v ∧ Owns w' w.heap.size v (fourB (Ta.sum xs) ++ xs) ∧ Below w.heap.size w w' := by
  obtain ⟨s, hs⟩ : ∃ s, s = Ta.sum xs := ⟨_, rfl⟩
  have hsl : s < 4294967296 := by rw [hs]; exact Ta.sum_lt h.2.1
  have H10 := sum_any a len cap xs w h (by omega)
  rw [← hs] at H10 ⊢
  have H10 := hide H10
  have HN : Hid (a = none → cap = 0) := hn
  have HX : Hid (Bs w a len xs) := h
  clear hs h hn
  obtain ⟨i0, hi, hz0, hz1, hz2⟩ := info_parts info5
  go_enter Try.func37, Try.ntmps37
  go_wp2_with fail
  refine H10.out.mono ?_
  rintro e w' ⟨rfl, hw⟩
  obtain rfl := hw.symm
  go_wp2_with (at_make; refine wpList_make_own _ rfl _ _ 26 rfl w.heap.size 5 i0 (.int .u8 0) 1 Try.underlying26 hi hz0 hz1 _ _ _ (4 + len) rfl rfl (by omega) ?b2 ?b3 (Nat.le_refl _) ?_)
  case b2 => rw [hz2]; omega
  case b3 => unfold maxLen; omega
  intro w0 hown0 hgrow0
  have HW : Hid (Below w.heap.size w w0) := (Below.refl w.heap.size w).grown hgrow0 (Nat.le_refl _) (fun k hk => by cases hk)
  have HO : Hid (Owns w0 w.heap.size (.slice (some ⟨w.heap.size, 0, none⟩) 0 (4 + len)) []) := hown0
  clear hown0 hgrow0
  have HB4 : Hid (Bs (w0.alloc (.cells (vals (fourB s)).toArray 5)) (some ⟨w0.heap.size, 0, none⟩) 4 (fourB s)) := bs_marked w0 (fourB s) (0, 0) (fourB_bytes hsl)
  have HO2 : Hid (Owns (w0.alloc (.cells (vals (fourB s)).toArray 5)) w.heap.size (.slice (some ⟨w.heap.size, 0, none⟩) 0 (4 + len)) []) := HO.out.keep (below_alloc w0 _) (Nat.le_refl _)
  have HS : Hid (w.heap.size ≤ (w0.alloc (.cells (vals (fourB s)).toArray 5)).heap.size) := Nat.le_trans HW.out.size (below_alloc w0 _).size
  have HW2 : Hid (Below w.heap.size w (w0.alloc (.cells (vals (fourB s)).toArray 5))) := HW.out.trans ((below_alloc w0 _).mono HW.out.size)
  go_wp2_with (at_builtin; refine wpList_append_bytes _ rfl (.tmp 11) (.tmp 23) rfl w.heap.size _ [] rfl HO2.out (some ⟨w0.heap.size, 0, none⟩) 4 4 (fourB s) rfl HB4.out (fun e => by cases e) (by simp) HS.out ?_)
  intro v1 w1 ho1 hb1
  have HW3 : Hid (Below w.heap.size w w1) := HW2.out.trans hb1
  have HO3 : Hid (Owns w1 w.heap.size v1 (fourB s)) := ho1
  have HB : Hid (Bs w1 a len xs) := HX.out.keep HW3.out (Nat.le_refl _)
  have HL : Hid ((fourB s).length + len ≤ 1000000) := by show 4 + len ≤ 1000000; omega
  clear ho1 hb1
  go_wp2_with (at_builtin; refine wpList_append_bytes _ rfl (.tmp 25) (.tmp 26) rfl w.heap.size _ (fourB s) rfl HO3.out a len cap xs rfl HB.out HN.out HL.out HW3.out.size ?_)
  intro v2 w2 ho2 hb2
  go_wp2
  go_ret
  exact ⟨_, rfl, ho2, HW3.out.trans hb2⟩

set_option maxHeartbeats 400000 in
theorem open_short (a : Option Addr) (len cap : Nat) (w : World) (hm : len < 4) :
    Calls Try.prog 45 #[.slice a len cap] w fun e w' => e = .returned (.tuple #[.slice none 0 0, .int .i64 4]) ∧ w' = w := by
  have hi : (len : Int) < 4 := by omega
  go_enter Try.func45, Try.ntmps45
  go_wp2
  go_ret2
  exact ⟨rfl, rfl⟩

/-- Four bytes' number, the highest first. -/
def num4 (x0 x1 x2 x3 : Nat) : Nat := x0 * 16777216 + x1 * 65536 + x2 * 256 + x3

theorem num4_bits (x0 x1 x2 x3 : Nat) (b0 : x0 < 256) (b1 : x1 < 256) (b2 : x2 < 256) (b3 : x3 < 256) :
    bits .or .u32 (bits .or .u32 (bits .or .u32 ((x0 : Int) * 16777216) ((x1 : Int) * 65536)) ((x2 : Int) * 256)) (x3 : Int) = ((num4 x0 x1 x2 x3 : Nat) : Int) := by
  have e1 : bits .or .u32 ((x0 : Int) * 16777216) ((x1 : Int) * 65536) = ((x0 * 16777216 + x1 * 65536 : Nat) : Int) := by
    have := u32_or_nat (x0 * 16777216) (x1 * 65536) (by omega) (by omega)
    rw [nat_join 24 (x0 * 16777216) (x1 * 65536) (by omega) (by omega)] at this
    rw [← this, Int.natCast_mul, Int.natCast_mul]
    rfl
  have e2 : bits .or .u32 ((x0 * 16777216 + x1 * 65536 : Nat) : Int) ((x2 : Int) * 256) = ((x0 * 16777216 + x1 * 65536 + x2 * 256 : Nat) : Int) := by
    have := u32_or_nat (x0 * 16777216 + x1 * 65536) (x2 * 256) (by omega) (by omega)
    rw [nat_join 16 (x0 * 16777216 + x1 * 65536) (x2 * 256) (by omega) (by omega)] at this
    rw [← this, Int.natCast_mul]
    rfl
  have e3 : bits .or .u32 ((x0 * 16777216 + x1 * 65536 + x2 * 256 : Nat) : Int) (x3 : Int) = ((num4 x0 x1 x2 x3 : Nat) : Int) := by
    have := u32_or_nat (x0 * 16777216 + x1 * 65536 + x2 * 256) x3 (by omega) (by omega)
    rw [nat_join 8 (x0 * 16777216 + x1 * 65536 + x2 * 256) x3 (by omega) (by omega)] at this
    rw [this]
    rfl
  rw [e1, e2, e3]

theorem Bs.tail {w : World} {b off n : Nat} {x0 x1 x2 x3 : Nat} {ys : List Nat} (h : Bs w (some ⟨b, off, none⟩) (4 + n) (x0 :: x1 :: x2 :: x3 :: ys)) : Bs w (some ⟨b, off + 4, none⟩) n ys := by
  refine ⟨by have := h.1; simp at this; omega, fun x hx => h.2.1 x (by simp [hx]), fun i hi => ⟨b, off + 4, rfl, ?_⟩⟩
  obtain ⟨_, _, e, hcell⟩ := h.2.2 (4 + i) (by omega)
  simp at e
  obtain ⟨rfl, rfl⟩ := e
  rw [Nat.add_assoc, hcell, Nat.add_comm 4 i]
  rfl

set_option maxHeartbeats 800000 in
theorem open_bad (b off n cap : Nat) (x0 x1 x2 x3 : Nat) (ys : List Nat) (w : World) (h : Bs w (some ⟨b, off, none⟩) (4 + n) (x0 :: x1 :: x2 :: x3 :: ys)) (hc : 4 + n ≤ cap) (hm : n ≤ 100000) (hd : num4 x0 x1 x2 x3 ≠ Ta.sum ys) :
    Calls Try.prog 45 #[.slice (some ⟨b, off, none⟩) (4 + n) cap] w fun e w' => e = .returned (.tuple #[.slice none 0 0, .int .i64 5]) ∧ Below w.heap.size w w' := by
  have hy : ys.length = n := by have := h.1; simp at this; omega
  have b0 : x0 < 256 := h.2.1 x0 (by simp)
  have b1 : x1 < 256 := h.2.1 x1 (by simp)
  have b2 : x2 < 256 := h.2.1 x2 (by simp)
  have b3 : x3 < 256 := h.2.1 x3 (by simp)
  have c0 : w.cell? ⟨b, off, none⟩ = some (.int .u8 (x0 : Nat)) := h.at 0 (by omega)
  have c1 : w.cell? ⟨b, off + 1, none⟩ = some (.int .u8 (x1 : Nat)) := h.at 1 (by omega)
  have c2 : w.cell? ⟨b, off + 2, none⟩ = some (.int .u8 (x2 : Nat)) := h.at 2 (by omega)
  have c3 : w.cell? ⟨b, off + 3, none⟩ = some (.int .u8 (x3 : Nat)) := h.at 3 (by omega)
  have ht := h.tail
  obtain ⟨s, hs⟩ : ∃ s, s = Ta.sum ys := ⟨_, rfl⟩
  rw [← hs] at hd
  have hd : (bits .or .u32 (bits .or .u32 (bits .or .u32 ((x0 : Int) * 16777216) ((x1 : Int) * 65536)) ((x2 : Int) * 256)) (x3 : Int) != (s : Int)) = true := by
    rw [num4_bits x0 x1 x2 x3 b0 b1 b2 b3]
    simpa using fun e => hd (Int.ofNat_inj.1 e)
  have H1 : Hid (∀ q cp, Calls Try.prog 58 #[.slice (some ⟨b, off + 4, none⟩) n cp] (w.drewN q) fun e w' => e = .returned (.int .u32 (s : Nat)) ∧ w' = w.drewN q) := by
    intro q cp
    rw [hs]
    exact sum_any _ n cp ys _ (ht.keep (below_drewN _ w q) (Nat.le_refl _)) (by omega)
  have H2 : Hid (∀ q cp, n = 0 → Calls Try.prog 58 #[.slice (some ⟨b, off, none⟩) n cp] (w.drewN q) fun e w' => e = .returned (.int .u32 (s : Nat)) ∧ w' = w.drewN q) := by
    intro q cp h0
    subst h0
    have hy0 : ys = [] := List.eq_nil_of_length_eq_zero hy
    subst hy0
    rw [hs]
    exact sum_any _ 0 cp [] _ (ht.any.keep (below_drewN _ w q) (Nat.le_refl _)) (by omega)
  obtain ⟨len, hlen⟩ : ∃ len, len = 4 + n := ⟨_, rfl⟩
  have hn4 : len - 4 = n := by omega
  rw [← hn4] at H1 H2
  have i0 : ¬ (len : Int) < 4 := by omega
  have i1 : (0 : Int) < (len : Int) := by omega
  have i2 : (1 : Int) < (len : Int) := by omega
  have i3 : (2 : Int) < (len : Int) := by omega
  have i4 : (3 : Int) < (len : Int) := by omega
  rw [← hlen] at hc ⊢
  have l1 : 4 ≤ len := by omega
  have l2 : len ≤ 100004 := by omega
  have HL := hide hlen
  have HT := hide ht
  have HY := hide hy
  clear ht hs h hm hlen hn4 hy
  go_enter Try.func45, Try.ntmps45
  go_wp2_with fail
  go_quiet (fail)
  go_wp2_with fail
  · refine (H2.out nq _ (by omega)).mono ?_
    rintro e w' ⟨rfl, hw⟩
    obtain rfl := hw.symm
    go_wp2_with fail
    go_ret2
    exact ⟨rfl, below_drewN _ _ _⟩
  · refine (H1.out nq _).mono ?_
    rintro e w' ⟨rfl, hw⟩
    obtain rfl := hw.symm
    go_wp2_with fail
    go_ret2
    exact ⟨rfl, below_drewN _ _ _⟩

set_option maxHeartbeats 800000 in
theorem open_good (b off n cap : Nat) (x0 x1 x2 x3 : Nat) (ys : List Nat) (w : World) (h : Bs w (some ⟨b, off, none⟩) (4 + n) (x0 :: x1 :: x2 :: x3 :: ys)) (hc : 4 + n ≤ cap) (hm : n ≤ 100000) (hd : num4 x0 x1 x2 x3 = Ta.sum ys) :
    Calls Try.prog 45 #[.slice (some ⟨b, off, none⟩) (4 + n) cap] w fun e w' => ∃ v, e = .returned (.tuple #[v, .int .i64 0]) ∧ Owns w' w.heap.size v ys ∧ Below w.heap.size w w' := by
  have hy : ys.length = n := by have := h.1; simp at this; omega
  have b0 : x0 < 256 := h.2.1 x0 (by simp)
  have b1 : x1 < 256 := h.2.1 x1 (by simp)
  have b2 : x2 < 256 := h.2.1 x2 (by simp)
  have b3 : x3 < 256 := h.2.1 x3 (by simp)
  have c0 : w.cell? ⟨b, off, none⟩ = some (.int .u8 (x0 : Nat)) := h.at 0 (by omega)
  have c1 : w.cell? ⟨b, off + 1, none⟩ = some (.int .u8 (x1 : Nat)) := h.at 1 (by omega)
  have c2 : w.cell? ⟨b, off + 2, none⟩ = some (.int .u8 (x2 : Nat)) := h.at 2 (by omega)
  have c3 : w.cell? ⟨b, off + 3, none⟩ = some (.int .u8 (x3 : Nat)) := h.at 3 (by omega)
  have ht := h.tail
  obtain ⟨s, hs⟩ : ∃ s, s = Ta.sum ys := ⟨_, rfl⟩
  rw [← hs] at hd
  have hd : (bits .or .u32 (bits .or .u32 (bits .or .u32 ((x0 : Int) * 16777216) ((x1 : Int) * 65536)) ((x2 : Int) * 256)) (x3 : Int) != (s : Int)) = false := by
    rw [num4_bits x0 x1 x2 x3 b0 b1 b2 b3]
    rw [hd]
    simp
  have H1 : Hid (∀ q cp, Calls Try.prog 58 #[.slice (some ⟨b, off + 4, none⟩) n cp] (w.drewN q) fun e w' => e = .returned (.int .u32 (s : Nat)) ∧ w' = w.drewN q) := by
    intro q cp
    rw [hs]
    exact sum_any _ n cp ys _ (ht.keep (below_drewN _ w q) (Nat.le_refl _)) (by omega)
  have H2 : Hid (∀ q cp, n = 0 → Calls Try.prog 58 #[.slice (some ⟨b, off, none⟩) n cp] (w.drewN q) fun e w' => e = .returned (.int .u32 (s : Nat)) ∧ w' = w.drewN q) := by
    intro q cp h0
    subst h0
    have hy0 : ys = [] := List.eq_nil_of_length_eq_zero hy
    subst hy0
    rw [hs]
    exact sum_any _ 0 cp [] _ (ht.any.keep (below_drewN _ w q) (Nat.le_refl _)) (by omega)
  have HW : Hid (∀ q, Below w.heap.size w ((w.drewN q).alloc (.cells #[] 5))) := fun q => (below_drewN _ w q).trans (below_alloc (w.drewN q) _)
  have HO : Hid (∀ q, Owns ((w.drewN q).alloc (.cells #[] 5)) w.heap.size (.slice (some ⟨w.heap.size, 0, none⟩) 0 0) []) := fun q => Owns.lit (w.drewN q) w.heap.size [] (Nat.le_refl _) (by simp)
  have HB1 : Hid (∀ q, Bs ((w.drewN q).alloc (.cells #[] 5)) (some ⟨b, off + 4, none⟩) n ys) := fun q => ht.keep (HW.out q) (Nat.le_refl _)
  have HB2 : Hid (n = 0 → ∀ q, Bs ((w.drewN q).alloc (.cells #[] 5)) (some ⟨b, off, none⟩) n ys) := by
    intro h0 q
    subst h0
    have hy0 : ys = [] := List.eq_nil_of_length_eq_zero hy
    subst hy0
    exact ht.any.keep (HW.out q) (Nat.le_refl _)
  obtain ⟨len, hlen⟩ : ∃ len, len = 4 + n := ⟨_, rfl⟩
  have hn4 : len - 4 = n := by omega
  rw [← hn4] at H1 H2 HB1 HB2
  have i0 : ¬ (len : Int) < 4 := by omega
  have i1 : (0 : Int) < (len : Int) := by omega
  have i2 : (1 : Int) < (len : Int) := by omega
  have i3 : (2 : Int) < (len : Int) := by omega
  have i4 : (3 : Int) < (len : Int) := by omega
  rw [← hlen] at hc ⊢
  have l1 : 4 ≤ len := by omega
  have l2 : len ≤ 100004 := by omega
  have HL := hide hlen
  have HT := hide ht
  have HY := hide hy
  clear ht hs h hm hlen hn4 hy
  go_enter Try.func45, Try.ntmps45
  go_wp2_with fail
  go_quiet (fail)
  go_wp2_with fail
  · refine (H2.out nq _ (by omega)).mono ?_
    rintro e w' ⟨rfl, hw⟩
    obtain rfl := hw.symm
    go_wp2_with (at_builtin; refine wpList_append_bytes _ rfl (.tmp 37) (.tmp 38) rfl _ _ [] rfl (HO.out nq) _ _ _ ys rfl (HB2.out (by omega) nq) (fun e => by cases e) (by show 0 + (len - 4) ≤ 1000000; omega) (HW.out nq).size ?_)
    intro v' w' ho hb
    go_wp2
    go_ret2
    exact ⟨_, rfl, ho, (HW.out nq).trans hb⟩
  · refine (H1.out nq _).mono ?_
    rintro e w' ⟨rfl, hw⟩
    obtain rfl := hw.symm
    go_wp2_with (at_builtin; refine wpList_append_bytes _ rfl (.tmp 37) (.tmp 38) rfl _ _ [] rfl (HO.out nq) _ _ _ ys rfl (HB1.out nq) (fun e => by cases e) (by show 0 + (len - 4) ≤ 1000000; omega) (HW.out nq).size ?_)
    intro v' w' ho hb
    go_wp2
    go_ret2
    exact ⟨_, rfl, ho, (HW.out nq).trans hb⟩

/-- The first four bytes are the sum of the others. -/
def Sealed (xs : List Nat) : Prop := fourB (Ta.sum (xs.drop 4)) ++ xs.drop 4 = xs

theorem list4 {xs : List Nat} {len : Nat} (hl : xs.length = len) (h4 : 4 ≤ len) : ∃ x0 x1 x2 x3 ys, xs = x0 :: x1 :: x2 :: x3 :: ys ∧ xs.drop 4 = ys ∧ ys.length = len - 4 := by
  match xs, hl with
  | x0 :: x1 :: x2 :: x3 :: ys, hl => exact ⟨x0, x1, x2, x3, ys, rfl, rfl, by simp at hl; omega⟩
  | [], hl => simp at hl; omega
  | [_], hl => simp at hl; omega
  | [_, _], hl => simp at hl; omega
  | [_, _, _], hl => simp at hl; omega

set_option linter.unusedVariables false in
theorem num4_sealed {x0 x1 x2 x3 : Nat} {ys : List Nat} (b0 : x0 < 256) (b1 : x1 < 256) (b2 : x2 < 256) (b3 : x3 < 256) (hs : Ta.sum ys < 4294967296) :
    num4 x0 x1 x2 x3 = Ta.sum ys ↔ Sealed (x0 :: x1 :: x2 :: x3 :: ys) := by
  unfold Sealed
  show _ ↔ fourB (Ta.sum ys) ++ ys = x0 :: x1 :: x2 :: x3 :: ys
  generalize Ta.sum ys = s at hs
  simp only [fourB, List.cons_append, List.nil_append, List.cons.injEq, and_true, num4]
  omega

theorem Bs.drop4 {w : World} {b off len : Nat} {xs : List Nat} (h : Bs w (some ⟨b, off, none⟩) len xs) (h4 : 4 ≤ len) : Bs w (some ⟨b, off + 4, none⟩) (len - 4) (xs.drop 4) := by
  obtain ⟨x0, x1, x2, x3, ys, rfl, _, _⟩ := list4 h.1 h4
  have e : len = 4 + (len - 4) := by omega
  rw [e] at h
  exact h.tail

theorem open_no (b off len cap : Nat) (xs : List Nat) (w : World) (h : Bs w (some ⟨b, off, none⟩) len xs) (h4 : 4 ≤ len) (hc : len ≤ cap) (hm : len ≤ 100000) (hd : ¬ Sealed xs) :
    Calls Try.prog 45 #[.slice (some ⟨b, off, none⟩) len cap] w fun e w' => e = .returned (.tuple #[.slice none 0 0, .int .i64 5]) ∧ Below w.heap.size w w' := by
  have hB := h.2.1
  obtain ⟨x0, x1, x2, x3, ys, rfl, _, _⟩ := list4 h.1 h4
  obtain ⟨n, rfl⟩ : ∃ n, len = 4 + n := ⟨len - 4, by omega⟩
  refine open_bad b off n cap x0 x1 x2 x3 ys w h hc (by omega) (fun e => hd ?_)
  exact (num4_sealed (hB _ (by simp)) (hB _ (by simp)) (hB _ (by simp)) (hB _ (by simp)) (Ta.sum_lt (fun x hx => hB x (by simp [hx])))).1 e

theorem open_yes (b off len cap : Nat) (xs : List Nat) (w : World) (h : Bs w (some ⟨b, off, none⟩) len xs) (h4 : 4 ≤ len) (hc : len ≤ cap) (hm : len ≤ 100000) (hd : Sealed xs) :
    Calls Try.prog 45 #[.slice (some ⟨b, off, none⟩) len cap] w fun e w' => ∃ v, e = .returned (.tuple #[v, .int .i64 0]) ∧ Owns w' w.heap.size v (xs.drop 4) ∧ Below w.heap.size w w' := by
  have hB := h.2.1
  obtain ⟨x0, x1, x2, x3, ys, rfl, _, _⟩ := list4 h.1 h4
  obtain ⟨n, rfl⟩ : ∃ n, len = 4 + n := ⟨len - 4, by omega⟩
  refine open_good b off n cap x0 x1 x2 x3 ys w h hc (by omega) ?_
  exact (num4_sealed (hB _ (by simp)) (hB _ (by simp)) (hB _ (by simp)) (hB _ (by simp)) (Ta.sum_lt (fun x hx => hB x (by simp [hx])))).2 hd

theorem drop_all {w : World} {b off : Nat} {xs : List Nat} (h : Bs w (some ⟨b, off, none⟩) 4 xs) : Bs w (some ⟨b, off, none⟩) 0 (xs.drop 4) := by
  have e : xs.drop 4 = [] := List.eq_nil_of_length_eq_zero (by have := h.1; simp; omega)
  rw [e]
  exact ⟨rfl, (fun _ h => by cases h), fun i hi => by omega⟩

theorem sealed_bytes {ys : List Nat} (h : Ta.Bytes ys) : Ta.Bytes (fourB (Ta.sum ys) ++ ys) := by
  intro x hx
  rcases List.mem_append.1 hx with k | k
  · exact fourB_bytes (Ta.sum_lt h) x k
  · exact h x k

/-- The document's sealed bytes, called for and then said as a string. -/
theorem rseal_str (w : World) (a0 : Option Addr) (len0 cap0 : Nat) (zs : List Nat) (HB : Bs w a0 len0 zs) (a : Option Addr) (n : Nat) (ys : List Nat) (HT : Bs w a n ys) (hm : n ≤ 100000) (wr : World) (hb : Below w.heap.size w wr) (cp : Nat) (hn : a = none → cp = 0) :
    Calls Try.prog 48 #[.slice a n cp] wr fun e w' => ∃ g c, e = .returned (.slice (some ⟨g, 0, none⟩) (4 + n) c) ∧ (convert 26 9 (.slice (some ⟨g, 0, none⟩) (4 + n) c)).run Try.prog w' = .ok (.string (bstr (fourB (Ta.sum ys) ++ ys))) w' ∧
      (convert 26 9 (.slice a0 len0 cap0)).run Try.prog w' = .ok (.string (bstr zs)) w' ∧ Below w.heap.size w w' := by
  refine (rseal_any a n cp ys wr (HT.keep hb (Nat.le_refl _)) hn hm).mono ?_
  rintro e w' ⟨v, rfl, ho, hb'⟩
  have hl : (fourB (Ta.sum ys) ++ ys).length = 4 + n := by rw [List.length_append, HT.1]; rfl
  have hB : Ta.Bytes (fourB (Ta.sum ys) ++ ys) := sealed_bytes HT.2.1
  obtain ⟨g, c, rfl, _, _, _⟩ := ho.pos (by omega)
  have hbs := (ho.row hB).2
  rw [hl] at hbs
  have hW := hb.trans (hb'.mono hb.size)
  exact ⟨g, c, by rw [hl], run_string_of c hbs, run_string_of cap0 (HB.keep hW (Nat.le_refl _)), hW⟩

end Go.Proofs.Ytdbgbldmjgonjaa
