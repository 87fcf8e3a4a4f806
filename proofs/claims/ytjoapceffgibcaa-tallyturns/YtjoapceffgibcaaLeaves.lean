/-
  What the small functions of layer 2 hand back, call by call, in memory that they only read.
-/
import Derived.Test.YtjoapceffgibcaaRows
import Derived.Test.YtjoapceffgibcaaWords
import Derived.WalkKit
import Derived.WalkSpells
import Derived.WalkLawsBesides
import Derived.Laws.BitsAllLaws
namespace Go.Proofs.Ytjoapceffgibcaa
open Go.RowKit

theorem lay_byte (s c : Nat) (hs : s < 4294967296) (hc : c < 256) : bits .xor .u32 (s : Int) ((c : Int) * 16777216) = ((s ^^^ c * 16777216 : Nat) : Int) := by
  have := u32_xor_nat s (c * 16777216) hs (by omega)
  rw [← this, Int.natCast_mul]
  rfl

theorem one_step (x : Nat) (hx : x < 4294967296) : bits .xor .u32 ((x : Int) * 2 % 4294967296) ((x : Int) / 2147483648 * 2168537515) = ((Ta.Z x : Nat) : Int) := by
  have h := u32_xor_nat (2 * x % 4294967296) (x / 2147483648 * 2168537515) (by omega) (by omega)
  unfold Ta.Z
  rw [← h]
  congr 1 <;> omega

set_option maxHeartbeats 400000 in
theorem moreByte_any (s c : Nat) (hs : s < 4294967296) (hc : c < 256) (w : World) :
    Calls Try.prog 14 #[.int .u32 (s : Nat), .int .u8 (c : Nat)] w fun e w' => e = .returned (.int .u32 (Ta.mb s c : Nat)) ∧ w' = w := by
  go_enter Try.func14, Try.ntmps14
  go_wp2
  go_loop [0, 11] (fun r i => ∃ k : Nat, k ≤ 8 ∧ i = .int .i64 k ∧ r = .int .u32 (Ta.Zn k (s ^^^ c * 16777216) : Nat)) (fun _ i => 8 - (intOf i).toNat)
  case atStart => exact ⟨0, by omega, rfl, by rw [lay_byte s c hs hc]; rfl⟩
  case round =>
    obtain ⟨k, hk, rfl, rfl⟩ := hrel
    have hx : Ta.Zn k (s ^^^ c * 16777216) < 4294967296 := Ta.Zn_lt (Ta.xor_lt hs (by omega)) k
    go_wp2
    · have hlt : k < 8 := by omega
      go_round
      case rel => exact ⟨k + 1, by omega, by go_num, by rw [one_step _ hx]; rfl⟩
      case measure => simp only [intOf]; omega
    · have hk8 : k = 8 := by omega
      subst hk8
      go_ret
      exact ⟨rfl, rfl⟩

/-- The bytes xs lie where a slice of that length begins. -/
def Bs (w : World) (a : Option Addr) (len : Nat) (xs : List Nat) : Prop :=
  xs.length = len ∧ Ta.Bytes xs ∧ ∀ i, i < len → ∃ b off, a = some ⟨b, off, none⟩ ∧ w.cell? ⟨b, off + i, none⟩ = some (.int .u8 (xs.getD i 0 : Nat))

theorem Bs.part {w : World} {a : Option Addr} {len : Nat} {xs : List Nat} (h : Bs w a len xs) :
    (len = 0 ∧ xs = []) ∨ ∃ b off, 0 < len ∧ a = some ⟨b, off, none⟩ ∧ ∀ i, i < len → w.cell? ⟨b, off + i, none⟩ = some (.int .u8 (xs.getD i 0 : Nat)) := by
  obtain ⟨hl, hb, hc⟩ := h
  by_cases h0 : len = 0
  · left
    refine ⟨h0, ?_⟩
    apply List.eq_nil_of_length_eq_zero
    omega
  · right
    obtain ⟨b, off, rfl, _⟩ := hc 0 (by omega)
    refine ⟨b, off, by omega, rfl, ?_⟩
    intro i hi
    obtain ⟨b', off', he, hcell⟩ := hc i hi
    simp at he
    obtain ⟨rfl, rfl⟩ := he
    exact hcell

set_option maxHeartbeats 400000 in
theorem more_any (s : Nat) (hs : s < 4294967296) (a : Option Addr) (len cap : Nat) (xs : List Nat) (w : World) (h : Bs w a len xs) (hm : len ≤ 9223372036854775807) :
    Calls Try.prog 12 #[.int .u32 (s : Nat), .slice a len cap] w fun e w' => e = .returned (.int .u32 (Ta.more s xs : Nat)) ∧ w' = w := by
  have hB := h.2.1
  have hxl := h.1
  rcases h.part with ⟨rfl, rfl⟩ | ⟨b, off, hp, rfl, hcell⟩
  · go_enter Try.func12, Try.ntmps12
    go_wp2
    refine wp_loop_rounds 1 ?_
    rw [rounds_succ]
    go_wp2
    go_ret
    exact ⟨rfl, rfl⟩
  · clear h
    have HM : Hid (∀ k, Ta.more s (xs.take k) < 4294967296) := fun k => Ta.more_lt _ hs (fun n hn => hB n (List.mem_of_mem_take hn))
    have HC : Hid (∀ k, xs.getD k 0 < 256) := fun k => Ta.getD_lt hB k
    have HL : Hid (xs.length = len) := hxl
    have HCell : Hid (∀ i, i < len → w.cell? ⟨b, off + i, none⟩ = some (.int .u8 (xs.getD i 0 : Nat))) := hcell
    clear hB hxl hcell hs
    go_enter Try.func12, Try.ntmps12
    go_wp2
    go_loop [0, 9] (fun r i => ∃ k : Nat, k ≤ len ∧ i = .int .i64 k ∧ r = .int .u32 (Ta.more s (xs.take k) : Nat)) (fun _ i => len - (intOf i).toNat)
    case atStart => exact ⟨0, by omega, rfl, rfl⟩
    case round =>
      obtain ⟨k, hk, rfl, rfl⟩ := hrel
      obtain ⟨c, hc⟩ : ∃ c, c = xs.getD k 0 := ⟨_, rfl⟩
      obtain ⟨r, hr⟩ : ∃ r, r = Ta.more s (xs.take k) := ⟨_, rfl⟩
      have hcl : k < len → w.cell? ⟨b, off + k, none⟩ = some (.int .u8 (c : Nat)) := fun hk => by rw [hc]; exact HCell.out k hk
      have H14 : Hid (∀ w, Calls Try.prog 14 #[.int .u32 (r : Nat), .int .u8 (c : Nat)] w fun e w' => e = .returned (.int .u32 (Ta.mb r c : Nat)) ∧ w' = w) :=
        fun w => moreByte_any r c (by rw [hr]; exact HM.out k) (by rw [hc]; exact HC.out k) w
      rw [← hr]
      have HR : Hid (r = Ta.more s (xs.take k)) := hr
      have HX : Hid (c = xs.getD k 0) := hc
      clear hr hc
      go_wp2_with (go_at_call 14; refine (H14.out _).mono ?_; rintro e w' ⟨rfl, rfl⟩)
      · have hlt : k < len := by omega
        go_round
        case rel => exact ⟨k + 1, by omega, by go_num, by rw [Ta.more_take_succ s xs k (by rw [HL.out]; exact hlt), ← HR.out, ← HX.out]⟩
        case measure => simp only [intOf]; omega
      · have hkl : k = len := by omega
        go_ret
        refine ⟨?_, rfl⟩
        rw [HR.out, hkl, ← HL.out, List.take_length]
        rfl

set_option maxHeartbeats 400000 in
theorem sum_any (a : Option Addr) (len cap : Nat) (xs : List Nat) (w : World) (h : Bs w a len xs) (hm : len ≤ 9223372036854775807) :
    Calls Try.prog 10 #[.slice a len cap] w fun e w' => e = .returned (.int .u32 (Ta.sum xs : Nat)) ∧ w' = w := by
  have H : Hid (∀ w, Bs w a len xs → Calls Try.prog 12 #[.int .u32 (4294967295 : Nat), .slice a len cap] w fun e w' => e = .returned (.int .u32 (Ta.more 4294967295 xs : Nat)) ∧ w' = w) :=
    fun w h => more_any 4294967295 (by decide) a len cap xs w h hm
  have HB : Hid (Bs w a len xs) := h
  clear h
  go_enter Try.func10, Try.ntmps10
  go_wp2_with fail
  refine (H.out _ HB.out).mono ?_
  rintro e w' ⟨rfl, rfl⟩
  go_wp2_with fail
  go_ret
  exact ⟨rfl, rfl⟩

theorem ref_test (r c j : Nat) : ((r : Int) / 2147483648 != ((c : Int) / 2 ^ j).tmod 2) = decide (r / 2147483648 ≠ c / 2 ^ j % 2) := by
  have e1 : ((c : Int) / 2 ^ j).tmod 2 = ((c / 2 ^ j % 2 : Nat) : Int) := by
    have : ((c : Int) / 2 ^ j) = ((c / 2 ^ j : Nat) : Int) := by simp
    rw [this]
    rfl
  have e2 : (r : Int) / 2147483648 = ((r / 2147483648 : Nat) : Int) := rfl
  rw [e1, e2]
  generalize r / 2147483648 = A
  generalize c / 2 ^ j % 2 = B
  by_cases h : A = B
  · rw [h]
    simp
  · have h' : ((A : Int) == (B : Int)) = false := beq_eq_false_iff_ne.2 (fun e => h (Int.ofNat_inj.1 e))
    rw [bne, h', decide_eq_true h]
    rfl

theorem ref_yes (r c j : Nat) (h : ((r : Int) / 2147483648 != ((c : Int) / 2 ^ j).tmod 2) = true) : bits .xor .u64 ((r : Int) * 2 % 4294967296) 2168537515 = ((Ta.step r (c / 2 ^ j % 2) : Nat) : Int) := by
  rw [ref_test] at h
  have := u64_xor_nat (r * 2 % 4294967296) 2168537515 (by omega) (by decide)
  unfold Ta.step
  rw [if_pos (of_decide_eq_true h), ← this]
  rfl

theorem ref_no (r c j : Nat) (h : ((r : Int) / 2147483648 != ((c : Int) / 2 ^ j).tmod 2) = false) : ((r : Int) * 2 % 4294967296) = ((Ta.step r (c / 2 ^ j % 2) : Nat) : Int) := by
  rw [ref_test] at h
  unfold Ta.step
  rw [if_neg (of_decide_eq_false h)]
  rfl

set_option maxHeartbeats 400000 in
theorem rsum_any (a : Option Addr) (len cap : Nat) (xs : List Nat) (w : World) (h : Bs w a len xs) (hm : len ≤ 1000000) :
    Calls Try.prog 11 #[.slice a len cap] w fun e w' => e = .returned (.int .u32 (Ta.sum xs : Nat)) ∧ w' = w := by
  have hB := h.2.1
  have hxl := h.1
  rcases h.part with ⟨rfl, rfl⟩ | ⟨b, off, hp, rfl, hcell⟩
  · go_enter Try.func11, Try.ntmps11
    go_wp2
    refine wp_loop_rounds 1 ?_
    rw [rounds_succ]
    go_wp2
    go_ret
    exact ⟨rfl, rfl⟩
  · clear h
    have HM : Hid (∀ k, Ta.reg (Ta.bitAt xs) k < 4294967296) := Ta.reg_lt _ (Ta.bitAt_lt xs)
    have HC : Hid (∀ k, xs.getD k 0 < 256) := fun k => Ta.getD_lt hB k
    have HE : Hid (Ta.reg (Ta.bitAt xs) (8 * len) = Ta.sum xs) := by rw [← hxl]; exact Ta.reg_all hB
    have HCell : Hid (∀ i, i < len → w.cell? ⟨b, off + i, none⟩ = some (.int .u8 (xs.getD i 0 : Nat))) := hcell
    clear hB hxl hcell
    go_enter Try.func11, Try.ntmps11
    go_wp2
    go_loop [3, 4] (fun r i => ∃ k : Nat, k ≤ 8 * len ∧ i = .int .i64 k ∧ r = .int .u64 (Ta.reg (Ta.bitAt xs) k : Nat)) (fun _ i => 8 * len - (intOf i).toNat)
    case atStart => exact ⟨0, by omega, rfl, rfl⟩
    case round =>
      obtain ⟨k, hk, rfl, rfl⟩ := hrel
      obtain ⟨c, hc⟩ : ∃ c, c = xs.getD (k / 8) 0 := ⟨_, rfl⟩
      obtain ⟨r, hr⟩ : ∃ r, r = Ta.reg (Ta.bitAt xs) k := ⟨_, rfl⟩
      have hrl : r < 4294967296 := by rw [hr]; exact HM.out k
      have hcb : c < 256 := by rw [hc]; exact HC.out _
      rcases Nat.lt_or_ge k (8 * len) with hlt | hge
      · have hcl : w.cell? ⟨b, off + k / 8, none⟩ = some (.int .u8 (c : Nat)) := by rw [hc]; exact HCell.out _ (by omega)
        have hi : (k : Int) < 8 * (len : Int) := by omega
        rw [← hr]
        have HR : Hid (r = Ta.reg (Ta.bitAt xs) k) := hr
        have HX : Hid (c = xs.getD (k / 8) 0) := hc
        clear hr hc
        go_wp2
        · have hd : ((r : Int) / 2147483648 != ((c : Int) / 2 ^ (7 - k % 8)).tmod 2) = true := by assumption
          go_round
          case rel => exact ⟨k + 1, by omega, by go_num, by rw [ref_yes r c _ hd, HR.out, HX.out]; rfl⟩
          case measure => simp only [intOf]; omega
        · have hd : ((r : Int) / 2147483648 != ((c : Int) / 2 ^ (7 - k % 8)).tmod 2) = false := by assumption
          go_round
          case rel => exact ⟨k + 1, by omega, by go_num, by rw [ref_no r c _ hd, HR.out, HX.out]; rfl⟩
          case measure => simp only [intOf]; omega
      · have hi : ¬ (k : Int) < 8 * (len : Int) := by omega
        have hkl : k = 8 * len := by omega
        subst hkl
        have hsl : Ta.sum xs < 4294967296 := by rw [← HE.out]; exact HM.out _
        rw [HE.out]
        clear hr hc hrl hcb
        go_wp2
        go_ret
        exact ⟨rfl, rfl⟩
end Go.Proofs.Ytjoapceffgibcaa
