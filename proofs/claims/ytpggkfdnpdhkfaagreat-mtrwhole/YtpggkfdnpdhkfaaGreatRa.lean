/-
  The plain arithmetic of the sum that layer 2 speaks of: a register of 32 bits, one bit at a time and one byte at a time, and what turned bits do to it. No program is named here.
  Layer 2 in the hands of layer 6: what tally and the document's own sums hand back: the sum of bytes, sealed bytes, what is opened.
  What turned bits do to sealed bytes: some bits of 32 in a row, behind the sum or within it: they are sealed no more. No program is named here.
  Layer 6 without memory: images, groups, records, what the first group of bytes is, rows of groups. No program is named here.
  Layer 6 without memory: images behind a group: a stable sort of both, of each page the last one kept, is the document's putting one by one. No program is named here.
  Images in memory: rows of them, where their bytes lie, rows that a call has made itself, rows of such rows.
-/
import Derived.ProofKit
import Derived.Test.YtpggkfdnpdhkfaaGreatBa
namespace Go.Proofs.YtpggkfdnpdhkfaaGreat
namespace Ta

theorem xor_lt {a b : Nat} (ha : a < 4294967296) (hb : b < 4294967296) : a ^^^ b < 4294967296 :=
  Nat.xor_lt_two_pow (n := 32) ha hb

theorem bit_cases (b : Nat) (h : b < 2) : b = 0 ∨ b = 1 := by omega

/-- The register goes one to the left; if a set bit falls out it is turned. -/
def Z (x : Nat) : Nat := (2 * x % 4294967296) ^^^ (x / 2147483648 * 2168537515)

theorem Z_lt {x : Nat} (hx : x < 4294967296) : Z x < 4294967296 := by
  have : x / 2147483648 < 2 := by omega
  refine xor_lt (Nat.mod_lt _ (by decide)) ?_
  rcases bit_cases _ this with h | h <;> rw [h] <;> decide

/-- n steps. -/
def Zn : Nat → Nat → Nat
  | 0, x => x
  | n + 1, x => Z (Zn n x)

theorem Zn_lt {x : Nat} (hx : x < 4294967296) : ∀ n, Zn n x < 4294967296
  | 0 => hx
  | n + 1 => Z_lt (Zn_lt hx n)


/-- The chapter's step: the register goes one to the left; if what falls out and the bit are unlike it is turned. -/
def step (r bit : Nat) : Nat := if r / 2147483648 ≠ bit then (r * 2 % 4294967296) ^^^ 2168537515 else r * 2 % 4294967296


/-- A byte's eight bits at once. -/
def mb (s c : Nat) : Nat := Zn 8 (s ^^^ c * 16777216)

theorem mb_lt {s c : Nat} (hs : s < 4294967296) (hc : c < 256) : mb s c < 4294967296 := Zn_lt (xor_lt hs (by omega)) 8


/-- The sum of bytes, begun at s. -/
def more (s : Nat) (xs : List Nat) : Nat := xs.foldl mb s

def Bytes (xs : List Nat) : Prop := ∀ n ∈ xs, n < 256

theorem more_lt : ∀ (xs : List Nat) {s : Nat}, s < 4294967296 → Bytes xs → more s xs < 4294967296
  | [], s, hs, _ => hs
  | x :: xs, s, hs, h => more_lt xs (mb_lt hs (h x (by simp))) (fun n hn => h n (by simp [hn]))

/-- The sum of bytes. -/
def sum (xs : List Nat) : Nat := more 4294967295 xs

theorem sum_lt {xs : List Nat} (h : Bytes xs) : sum xs < 4294967296 := more_lt xs (by decide) h

theorem more_take_succ (s : Nat) (xs : List Nat) (k : Nat) (hk : k < xs.length) : more s (xs.take (k + 1)) = mb (more s (xs.take k)) (xs.getD k 0) := by
  unfold more
  rw [List.take_succ_eq_append_getElem hk, List.foldl_append]
  simp [List.getD, hk]

theorem getD_lt {xs : List Nat} (h : Bytes xs) (j : Nat) : xs.getD j 0 < 256 := by
  by_cases hj : j < xs.length
  · have := h _ (List.getElem_mem hj)
    simpa [List.getD, hj] using this
  · simp [List.getD, Nat.le_of_not_lt hj]



end Ta
end Go.Proofs.YtpggkfdnpdhkfaaGreat

namespace Go.Proofs.YtpggkfdnpdhkfaaGreat
open Go.RowKit
set_option maxRecDepth 100000

theorem lay_byte (s c : Nat) (hs : s < 4294967296) (hc : c < 256) : bits .xor .u32 (s : Int) ((c : Int) * 16777216) = ((s ^^^ c * 16777216 : Nat) : Int) := by
  have := u32_xor_nat s (c * 16777216) hs (by omega)
  rw [← this, Int.natCast_mul]
  rfl

theorem one_step (x : Nat) (hx : x < 4294967296) : bits .xor .u32 ((x : Int) * 2 % 4294967296) ((x : Int) / 2147483648 * 2168537515) = ((Ta.Z x : Nat) : Int) := by
  have h := u32_xor_nat (2 * x % 4294967296) (x / 2147483648 * 2168537515) (by omega) (by omega)
  unfold Ta.Z
  rw [← h]
  congr 1 <;> omega

set_option maxHeartbeats 400000 in
theorem moreByte_any (s c : Nat) (hs : s < 4294967296) (hc : c < 256) (w : World) :
    Calls Tryz.prog 131 #[.int .u32 (s : Nat), .int .u8 (c : Nat)] w fun e w' => e = .returned (.int .u32 (Ta.mb s c : Nat)) ∧ w' = w := by
  go_enter Tryz.func131, Tryz.ntmps131
  go_wp2
  go_loop [0, 11] (fun r i => ∃ k : Nat, k ≤ 8 ∧ i = .int .i64 k ∧ r = .int .u32 (Ta.Zn k (s ^^^ c * 16777216) : Nat)) (fun _ i => 8 - (intOf i).toNat)
  case atStart => exact ⟨0, by omega, rfl, by rw [lay_byte s c hs hc]; rfl⟩
  case round =>
    obtain ⟨k, hk, rfl, rfl⟩ := hrel
    have hx : Ta.Zn k (s ^^^ c * 16777216) < 4294967296 := Ta.Zn_lt (Ta.xor_lt hs (by omega)) k
    go_wp2
    · have hlt : k < 8 := by omega
      go_round
      case rel => exact ⟨k + 1, by omega, by go_num, by rw [one_step _ hx]; rfl⟩
      case measure => simp only [intOf]; omega
    · have hk8 : k = 8 := by omega
      subst hk8
      go_ret
      exact ⟨rfl, rfl⟩

set_option maxHeartbeats 400000 in
theorem more_any (s : Nat) (hs : s < 4294967296) (a : Option Addr) (len cap : Nat) (xs : List Nat) (w : World) (h : Bs w a len xs) (hm : len ≤ 9223372036854775807) :
    Calls Tryz.prog 120 #[.int .u32 (s : Nat), .slice a len cap] w fun e w' => e = .returned (.int .u32 (Ta.more s xs : Nat)) ∧ w' = w := by
  have hB := h.2.1
  have hxl := h.1
  rcases h.part with ⟨rfl, rfl⟩ | ⟨b, off, hp, rfl, hcell⟩
  · go_enter Tryz.func120, Tryz.ntmps120
    go_wp2
    refine wp_loop_rounds 1 ?_
    rw [rounds_succ]
    go_wp2
    go_ret
    exact ⟨rfl, rfl⟩
  · clear h
    have HM : Hid (∀ k, Ta.more s (xs.take k) < 4294967296) := fun k => Ta.more_lt _ hs (fun n hn => hB n (List.mem_of_mem_take hn))
    have HC : Hid (∀ k, xs.getD k 0 < 256) := fun k => Ta.getD_lt hB k
    have HL : Hid (xs.length = len) := hxl
    have HCell : Hid (∀ i, i < len → w.cell? ⟨b, off + i, none⟩ = some (.int .u8 (xs.getD i 0 : Nat))) := hcell
    clear hB hxl hcell hs
    go_enter Tryz.func120, Tryz.ntmps120
    go_wp2
    go_loop [0, 9] (fun r i => ∃ k : Nat, k ≤ len ∧ i = .int .i64 k ∧ r = .int .u32 (Ta.more s (xs.take k) : Nat)) (fun _ i => len - (intOf i).toNat)
    case atStart => exact ⟨0, by omega, rfl, rfl⟩
    case round =>
      obtain ⟨k, hk, rfl, rfl⟩ := hrel
      obtain ⟨c, hc⟩ : ∃ c, c = xs.getD k 0 := ⟨_, rfl⟩
      obtain ⟨r, hr⟩ : ∃ r, r = Ta.more s (xs.take k) := ⟨_, rfl⟩
      have hcl : k < len → w.cell? ⟨b, off + k, none⟩ = some (.int .u8 (c : Nat)) := fun hk => by rw [hc]; exact HCell.out k hk
      have H14 : Hid (∀ w, Calls Tryz.prog 131 #[.int .u32 (r : Nat), .int .u8 (c : Nat)] w fun e w' => e = .returned (.int .u32 (Ta.mb r c : Nat)) ∧ w' = w) :=
        fun w => moreByte_any r c (by rw [hr]; exact HM.out k) (by rw [hc]; exact HC.out k) w
      rw [← hr]
      have HR : Hid (r = Ta.more s (xs.take k)) := hr
      have HX : Hid (c = xs.getD k 0) := hc
      clear hr hc
      go_wp2_with (go_at_call 131; refine (H14.out _).mono ?_; rintro e w' ⟨rfl, rfl⟩)
      · have hlt : k < len := by omega
        go_round
        case rel => exact ⟨k + 1, by omega, by go_num, by rw [Ta.more_take_succ s xs k (by rw [HL.out]; exact hlt), ← HR.out, ← HX.out]⟩
        case measure => simp only [intOf]; omega
      · have hkl : k = len := by omega
        go_ret
        refine ⟨?_, rfl⟩
        rw [HR.out, hkl, ← HL.out, List.take_length]
        rfl

set_option maxHeartbeats 400000 in
theorem sum_any (a : Option Addr) (len cap : Nat) (xs : List Nat) (w : World) (h : Bs w a len xs) (hm : len ≤ 9223372036854775807) :
    Calls Tryz.prog 109 #[.slice a len cap] w fun e w' => e = .returned (.int .u32 (Ta.sum xs : Nat)) ∧ w' = w := by
  have H : Hid (∀ w, Bs w a len xs → Calls Tryz.prog 120 #[.int .u32 (4294967295 : Nat), .slice a len cap] w fun e w' => e = .returned (.int .u32 (Ta.more 4294967295 xs : Nat)) ∧ w' = w) :=
    fun w h => more_any 4294967295 (by decide) a len cap xs w h hm
  have HB : Hid (Bs w a len xs) := h
  clear h
  go_enter Tryz.func109, Tryz.ntmps109
  go_wp2_with fail
  refine (H.out _ HB.out).mono ?_
  rintro e w' ⟨rfl, rfl⟩
  go_wp2_with fail
  go_ret
  exact ⟨rfl, rfl⟩

/-- A number's four bytes, the highest first. -/
def fourB (n : Nat) : List Nat := [n / 16777216, n / 65536 % 256, n / 256 % 256, n % 256]

theorem fourB_bytes {n : Nat} (hn : n < 4294967296) : Ta.Bytes (fourB n) := by
  intro x hx
  simp [fourB] at hx
  omega

set_option maxHeartbeats 400000 in
theorem seal_any (a : Option Addr) (len cap : Nat) (xs : List Nat) (w : World) (h : Bs w a len xs) (hn : a = none → cap = 0) (hm : len ≤ 100000) :
    Calls Tryz.prog 85 #[.slice a len cap] w fun e w' => ∃ v, e = .returned v ∧ Owns w' w.heap.size v (fourB (Ta.sum xs) ++ xs) ∧ Below w.heap.size w w' := by
  obtain ⟨s, hs⟩ : ∃ s, s = Ta.sum xs := ⟨_, rfl⟩
  have hsl : s < 4294967296 := by rw [hs]; exact Ta.sum_lt h.2.1
  have H10 := sum_any a len cap xs w h (by omega)
  rw [← hs] at H10 ⊢
  have H10 := hide H10
  have HN : Hid (a = none → cap = 0) := hn
  have HX : Hid (Bs w a len xs) := h
  clear hs h hn
  obtain ⟨i0, hi, hz0, hz1, hz2⟩ := info_parts info5
  go_enter Tryz.func85, Tryz.ntmps85
  go_wp2_with fail
  refine H10.out.mono ?_
  rintro e w' ⟨rfl, hw⟩
  obtain rfl := hw.symm
  go_wp2_with (at_make; refine wpList_make_own _ rfl _ _ 32 rfl w.heap.size 5 i0 (.int .u8 0) 1 Tryz.underlying32 hi hz0 hz1 _ _ _ (4 + len) rfl rfl (by omega) ?b2 ?b3 (Nat.le_refl _) ?_)
  case b2 => rw [hz2]; omega
  case b3 => unfold maxLen; omega
  intro w0 hown0 hgrow0
  have HW : Hid (Below w.heap.size w w0) := (Below.refl w.heap.size w).grown hgrow0 (Nat.le_refl _) (fun k hk => by cases hk)
  have HO : Hid (Owns w0 w.heap.size (.slice (some ⟨w.heap.size, 0, none⟩) 0 (4 + len)) []) := hown0
  clear hown0 hgrow0
  have HB4 : Hid (Bs (w0.alloc (.cells (vals (fourB s)).toArray 5)) (some ⟨w0.heap.size, 0, none⟩) 4 (fourB s)) := bs_marked w0 (fourB s) (0, 0) (fourB_bytes hsl)
  have HO2 : Hid (Owns (w0.alloc (.cells (vals (fourB s)).toArray 5)) w.heap.size (.slice (some ⟨w.heap.size, 0, none⟩) 0 (4 + len)) []) := HO.out.keep (below_alloc w0 _) (Nat.le_refl _)
  have HS : Hid (w.heap.size ≤ (w0.alloc (.cells (vals (fourB s)).toArray 5)).heap.size) := Nat.le_trans HW.out.size (below_alloc w0 _).size
  have HW2 : Hid (Below w.heap.size w (w0.alloc (.cells (vals (fourB s)).toArray 5))) := HW.out.trans ((below_alloc w0 _).mono HW.out.size)
  go_wp2_with (at_builtin; refine wpList_append_bytes _ rfl (.tmp 11) (.tmp 23) rfl w.heap.size _ [] rfl HO2.out (some ⟨w0.heap.size, 0, none⟩) 4 4 (fourB s) rfl HB4.out (fun e => by cases e) (by simp) HS.out ?_)
  intro v1 w1 ho1 hb1
  have HW3 : Hid (Below w.heap.size w w1) := HW2.out.trans hb1
  have HO3 : Hid (Owns w1 w.heap.size v1 (fourB s)) := ho1
  have HB : Hid (Bs w1 a len xs) := HX.out.keep HW3.out (Nat.le_refl _)
  have HL : Hid ((fourB s).length + len ≤ 1000000) := by show 4 + len ≤ 1000000; omega
  clear ho1 hb1
  go_wp2_with (at_builtin; refine wpList_append_bytes _ rfl (.tmp 25) (.tmp 26) rfl w.heap.size _ (fourB s) rfl HO3.out a len cap xs rfl HB.out HN.out HL.out HW3.out.size ?_)
  intro v2 w2 ho2 hb2
  go_wp2
  go_ret
  exact ⟨_, rfl, ho2, HW3.out.trans hb2⟩

set_option maxHeartbeats 400000 in
theorem open_short (a : Option Addr) (len cap : Nat) (w : World) (hm : len < 4) :
    Calls Tryz.prog 105 #[.slice a len cap] w fun e w' => e = .returned (.tuple #[.slice none 0 0, .int .i64 4]) ∧ w' = w := by
  have hi : (len : Int) < 4 := by omega
  go_enter Tryz.func105, Tryz.ntmps105
  go_wp2
  go_ret2
  exact ⟨rfl, rfl⟩

/-- Four bytes' number, the highest first. -/
def num4 (x0 x1 x2 x3 : Nat) : Nat := x0 * 16777216 + x1 * 65536 + x2 * 256 + x3

theorem num4_bits (x0 x1 x2 x3 : Nat) (b0 : x0 < 256) (b1 : x1 < 256) (b2 : x2 < 256) (b3 : x3 < 256) :
    bits .or .u32 (bits .or .u32 (bits .or .u32 ((x0 : Int) * 16777216) ((x1 : Int) * 65536)) ((x2 : Int) * 256)) (x3 : Int) = ((num4 x0 x1 x2 x3 : Nat) : Int) := by
  have e1 : bits .or .u32 ((x0 : Int) * 16777216) ((x1 : Int) * 65536) = ((x0 * 16777216 + x1 * 65536 : Nat) : Int) := by
    have := u32_or_nat (x0 * 16777216) (x1 * 65536) (by omega) (by omega)
    rw [nat_join 24 (x0 * 16777216) (x1 * 65536) (by omega) (by omega)] at this
    rw [← this, Int.natCast_mul, Int.natCast_mul]
    rfl
  have e2 : bits .or .u32 ((x0 * 16777216 + x1 * 65536 : Nat) : Int) ((x2 : Int) * 256) = ((x0 * 16777216 + x1 * 65536 + x2 * 256 : Nat) : Int) := by
    have := u32_or_nat (x0 * 16777216 + x1 * 65536) (x2 * 256) (by omega) (by omega)
    rw [nat_join 16 (x0 * 16777216 + x1 * 65536) (x2 * 256) (by omega) (by omega)] at this
    rw [← this, Int.natCast_mul]
    rfl
  have e3 : bits .or .u32 ((x0 * 16777216 + x1 * 65536 + x2 * 256 : Nat) : Int) (x3 : Int) = ((num4 x0 x1 x2 x3 : Nat) : Int) := by
    have := u32_or_nat (x0 * 16777216 + x1 * 65536 + x2 * 256) x3 (by omega) (by omega)
    rw [nat_join 8 (x0 * 16777216 + x1 * 65536 + x2 * 256) x3 (by omega) (by omega)] at this
    rw [this]
    rfl
  rw [e1, e2, e3]

theorem Bs.tail {w : World} {b off n : Nat} {x0 x1 x2 x3 : Nat} {ys : List Nat} (h : Bs w (some ⟨b, off, none⟩) (4 + n) (x0 :: x1 :: x2 :: x3 :: ys)) : Bs w (some ⟨b, off + 4, none⟩) n ys := by
  refine ⟨by have := h.1; simp at this; omega, fun x hx => h.2.1 x (by simp [hx]), fun i hi => ⟨b, off + 4, rfl, ?_⟩⟩
  obtain ⟨_, _, e, hcell⟩ := h.2.2 (4 + i) (by omega)
  simp at e
  obtain ⟨rfl, rfl⟩ := e
  rw [Nat.add_assoc, hcell, Nat.add_comm 4 i]
  rfl

set_option maxHeartbeats 800000 in
theorem open_bad (b off n cap : Nat) (x0 x1 x2 x3 : Nat) (ys : List Nat) (w : World) (h : Bs w (some ⟨b, off, none⟩) (4 + n) (x0 :: x1 :: x2 :: x3 :: ys)) (hc : 4 + n ≤ cap) (hm : n ≤ 100000) (hd : num4 x0 x1 x2 x3 ≠ Ta.sum ys) :
    Calls Tryz.prog 105 #[.slice (some ⟨b, off, none⟩) (4 + n) cap] w fun e w' => e = .returned (.tuple #[.slice none 0 0, .int .i64 5]) ∧ Below w.heap.size w w' := by
  have hy : ys.length = n := by have := h.1; simp at this; omega
  have b0 : x0 < 256 := h.2.1 x0 (by simp)
  have b1 : x1 < 256 := h.2.1 x1 (by simp)
  have b2 : x2 < 256 := h.2.1 x2 (by simp)
  have b3 : x3 < 256 := h.2.1 x3 (by simp)
  have c0 : w.cell? ⟨b, off, none⟩ = some (.int .u8 (x0 : Nat)) := h.at 0 (by omega)
  have c1 : w.cell? ⟨b, off + 1, none⟩ = some (.int .u8 (x1 : Nat)) := h.at 1 (by omega)
  have c2 : w.cell? ⟨b, off + 2, none⟩ = some (.int .u8 (x2 : Nat)) := h.at 2 (by omega)
  have c3 : w.cell? ⟨b, off + 3, none⟩ = some (.int .u8 (x3 : Nat)) := h.at 3 (by omega)
  have ht := h.tail
  obtain ⟨s, hs⟩ : ∃ s, s = Ta.sum ys := ⟨_, rfl⟩
  rw [← hs] at hd
  have hd : (bits .or .u32 (bits .or .u32 (bits .or .u32 ((x0 : Int) * 16777216) ((x1 : Int) * 65536)) ((x2 : Int) * 256)) (x3 : Int) != (s : Int)) = true := by
    rw [num4_bits x0 x1 x2 x3 b0 b1 b2 b3]
    simpa using fun e => hd (Int.ofNat_inj.1 e)
  have H1 : Hid (∀ q cp, Calls Tryz.prog 109 #[.slice (some ⟨b, off + 4, none⟩) n cp] (w.drewN q) fun e w' => e = .returned (.int .u32 (s : Nat)) ∧ w' = w.drewN q) := by
    intro q cp
    rw [hs]
    exact sum_any _ n cp ys _ (ht.keep (below_drewN _ w q) (Nat.le_refl _)) (by omega)
  have H2 : Hid (∀ q cp, n = 0 → Calls Tryz.prog 109 #[.slice (some ⟨b, off, none⟩) n cp] (w.drewN q) fun e w' => e = .returned (.int .u32 (s : Nat)) ∧ w' = w.drewN q) := by
    intro q cp h0
    subst h0
    have hy0 : ys = [] := List.eq_nil_of_length_eq_zero hy
    subst hy0
    rw [hs]
    exact sum_any _ 0 cp [] _ (ht.any.keep (below_drewN _ w q) (Nat.le_refl _)) (by omega)
  obtain ⟨len, hlen⟩ : ∃ len, len = 4 + n := ⟨_, rfl⟩
  have hn4 : len - 4 = n := by omega
  rw [← hn4] at H1 H2
  have i0 : ¬ (len : Int) < 4 := by omega
  have i1 : (0 : Int) < (len : Int) := by omega
  have i2 : (1 : Int) < (len : Int) := by omega
  have i3 : (2 : Int) < (len : Int) := by omega
  have i4 : (3 : Int) < (len : Int) := by omega
  rw [← hlen] at hc ⊢
  have l1 : 4 ≤ len := by omega
  have l2 : len ≤ 100004 := by omega
  have HL := hide hlen
  have HT := hide ht
  have HY := hide hy
  clear ht hs h hm hlen hn4 hy
  go_enter Tryz.func105, Tryz.ntmps105
  go_wp2_with fail
  go_quiet (fail)
  go_wp2_with fail
  · refine (H2.out nq _ (by omega)).mono ?_
    rintro e w' ⟨rfl, hw⟩
    obtain rfl := hw.symm
    go_wp2_with fail
    go_ret2
    exact ⟨rfl, below_drewN _ _ _⟩
  · refine (H1.out nq _).mono ?_
    rintro e w' ⟨rfl, hw⟩
    obtain rfl := hw.symm
    go_wp2_with fail
    go_ret2
    exact ⟨rfl, below_drewN _ _ _⟩

set_option maxHeartbeats 800000 in
theorem open_good (b off n cap : Nat) (x0 x1 x2 x3 : Nat) (ys : List Nat) (w : World) (h : Bs w (some ⟨b, off, none⟩) (4 + n) (x0 :: x1 :: x2 :: x3 :: ys)) (hc : 4 + n ≤ cap) (hm : n ≤ 100000) (hd : num4 x0 x1 x2 x3 = Ta.sum ys) :
    Calls Tryz.prog 105 #[.slice (some ⟨b, off, none⟩) (4 + n) cap] w fun e w' => ∃ v, e = .returned (.tuple #[v, .int .i64 0]) ∧ Owns w' w.heap.size v ys ∧ Below w.heap.size w w' := by
  have hy : ys.length = n := by have := h.1; simp at this; omega
  have b0 : x0 < 256 := h.2.1 x0 (by simp)
  have b1 : x1 < 256 := h.2.1 x1 (by simp)
  have b2 : x2 < 256 := h.2.1 x2 (by simp)
  have b3 : x3 < 256 := h.2.1 x3 (by simp)
  have c0 : w.cell? ⟨b, off, none⟩ = some (.int .u8 (x0 : Nat)) := h.at 0 (by omega)
  have c1 : w.cell? ⟨b, off + 1, none⟩ = some (.int .u8 (x1 : Nat)) := h.at 1 (by omega)
  have c2 : w.cell? ⟨b, off + 2, none⟩ = some (.int .u8 (x2 : Nat)) := h.at 2 (by omega)
  have c3 : w.cell? ⟨b, off + 3, none⟩ = some (.int .u8 (x3 : Nat)) := h.at 3 (by omega)
  have ht := h.tail
  obtain ⟨s, hs⟩ : ∃ s, s = Ta.sum ys := ⟨_, rfl⟩
  rw [← hs] at hd
  have hd : (bits .or .u32 (bits .or .u32 (bits .or .u32 ((x0 : Int) * 16777216) ((x1 : Int) * 65536)) ((x2 : Int) * 256)) (x3 : Int) != (s : Int)) = false := by
    rw [num4_bits x0 x1 x2 x3 b0 b1 b2 b3]
    rw [hd]
    simp
  have H1 : Hid (∀ q cp, Calls Tryz.prog 109 #[.slice (some ⟨b, off + 4, none⟩) n cp] (w.drewN q) fun e w' => e = .returned (.int .u32 (s : Nat)) ∧ w' = w.drewN q) := by
    intro q cp
    rw [hs]
    exact sum_any _ n cp ys _ (ht.keep (below_drewN _ w q) (Nat.le_refl _)) (by omega)
  have H2 : Hid (∀ q cp, n = 0 → Calls Tryz.prog 109 #[.slice (some ⟨b, off, none⟩) n cp] (w.drewN q) fun e w' => e = .returned (.int .u32 (s : Nat)) ∧ w' = w.drewN q) := by
    intro q cp h0
    subst h0
    have hy0 : ys = [] := List.eq_nil_of_length_eq_zero hy
    subst hy0
    rw [hs]
    exact sum_any _ 0 cp [] _ (ht.any.keep (below_drewN _ w q) (Nat.le_refl _)) (by omega)
  have HW : Hid (∀ q, Below w.heap.size w ((w.drewN q).alloc (.cells #[] 5))) := fun q => (below_drewN _ w q).trans (below_alloc (w.drewN q) _)
  have HO : Hid (∀ q, Owns ((w.drewN q).alloc (.cells #[] 5)) w.heap.size (.slice (some ⟨w.heap.size, 0, none⟩) 0 0) []) := fun q => Owns.lit (w.drewN q) w.heap.size [] (Nat.le_refl _) (by simp)
  have HB1 : Hid (∀ q, Bs ((w.drewN q).alloc (.cells #[] 5)) (some ⟨b, off + 4, none⟩) n ys) := fun q => ht.keep (HW.out q) (Nat.le_refl _)
  have HB2 : Hid (n = 0 → ∀ q, Bs ((w.drewN q).alloc (.cells #[] 5)) (some ⟨b, off, none⟩) n ys) := by
    intro h0 q
    subst h0
    have hy0 : ys = [] := List.eq_nil_of_length_eq_zero hy
    subst hy0
    exact ht.any.keep (HW.out q) (Nat.le_refl _)
  obtain ⟨len, hlen⟩ : ∃ len, len = 4 + n := ⟨_, rfl⟩
  have hn4 : len - 4 = n := by omega
  rw [← hn4] at H1 H2 HB1 HB2
  have i0 : ¬ (len : Int) < 4 := by omega
  have i1 : (0 : Int) < (len : Int) := by omega
  have i2 : (1 : Int) < (len : Int) := by omega
  have i3 : (2 : Int) < (len : Int) := by omega
  have i4 : (3 : Int) < (len : Int) := by omega
  rw [← hlen] at hc ⊢
  have l1 : 4 ≤ len := by omega
  have l2 : len ≤ 100004 := by omega
  have HL := hide hlen
  have HT := hide ht
  have HY := hide hy
  clear ht hs h hm hlen hn4 hy
  go_enter Tryz.func105, Tryz.ntmps105
  go_wp2_with fail
  go_quiet (fail)
  go_wp2_with fail
  · refine (H2.out nq _ (by omega)).mono ?_
    rintro e w' ⟨rfl, hw⟩
    obtain rfl := hw.symm
    go_wp2_with (at_builtin; refine wpList_append_bytes _ rfl (.tmp 37) (.tmp 38) rfl _ _ [] rfl (HO.out nq) _ _ _ ys rfl (HB2.out (by omega) nq) (fun e => by cases e) (by show 0 + (len - 4) ≤ 1000000; omega) (HW.out nq).size ?_)
    intro v' w' ho hb
    go_wp2
    go_ret2
    exact ⟨_, rfl, ho, (HW.out nq).trans hb⟩
  · refine (H1.out nq _).mono ?_
    rintro e w' ⟨rfl, hw⟩
    obtain rfl := hw.symm
    go_wp2_with (at_builtin; refine wpList_append_bytes _ rfl (.tmp 37) (.tmp 38) rfl _ _ [] rfl (HO.out nq) _ _ _ ys rfl (HB1.out nq) (fun e => by cases e) (by show 0 + (len - 4) ≤ 1000000; omega) (HW.out nq).size ?_)
    intro v' w' ho hb
    go_wp2
    go_ret2
    exact ⟨_, rfl, ho, (HW.out nq).trans hb⟩

/-- The first four bytes are the sum of the others. -/
def Sealed (xs : List Nat) : Prop := fourB (Ta.sum (xs.drop 4)) ++ xs.drop 4 = xs

theorem list4 {xs : List Nat} {len : Nat} (hl : xs.length = len) (h4 : 4 ≤ len) : ∃ x0 x1 x2 x3 ys, xs = x0 :: x1 :: x2 :: x3 :: ys ∧ xs.drop 4 = ys ∧ ys.length = len - 4 := by
  match xs, hl with
  | x0 :: x1 :: x2 :: x3 :: ys, hl => exact ⟨x0, x1, x2, x3, ys, rfl, rfl, by simp at hl; omega⟩
  | [], hl => simp at hl; omega
  | [_], hl => simp at hl; omega
  | [_, _], hl => simp at hl; omega
  | [_, _, _], hl => simp at hl; omega

set_option linter.unusedVariables false in
theorem num4_sealed {x0 x1 x2 x3 : Nat} {ys : List Nat} (b0 : x0 < 256) (b1 : x1 < 256) (b2 : x2 < 256) (b3 : x3 < 256) (hs : Ta.sum ys < 4294967296) :
    num4 x0 x1 x2 x3 = Ta.sum ys ↔ Sealed (x0 :: x1 :: x2 :: x3 :: ys) := by
  unfold Sealed
  show _ ↔ fourB (Ta.sum ys) ++ ys = x0 :: x1 :: x2 :: x3 :: ys
  generalize Ta.sum ys = s at hs
  simp only [fourB, List.cons_append, List.nil_append, List.cons.injEq, and_true, num4]
  omega

theorem open_no (b off len cap : Nat) (xs : List Nat) (w : World) (h : Bs w (some ⟨b, off, none⟩) len xs) (h4 : 4 ≤ len) (hc : len ≤ cap) (hm : len ≤ 100000) (hd : ¬ Sealed xs) :
    Calls Tryz.prog 105 #[.slice (some ⟨b, off, none⟩) len cap] w fun e w' => e = .returned (.tuple #[.slice none 0 0, .int .i64 5]) ∧ Below w.heap.size w w' := by
  have hB := h.2.1
  obtain ⟨x0, x1, x2, x3, ys, rfl, _, _⟩ := list4 h.1 h4
  obtain ⟨n, rfl⟩ : ∃ n, len = 4 + n := ⟨len - 4, by omega⟩
  refine open_bad b off n cap x0 x1 x2 x3 ys w h hc (by omega) (fun e => hd ?_)
  exact (num4_sealed (hB _ (by simp)) (hB _ (by simp)) (hB _ (by simp)) (hB _ (by simp)) (Ta.sum_lt (fun x hx => hB x (by simp [hx])))).1 e

theorem open_yes (b off len cap : Nat) (xs : List Nat) (w : World) (h : Bs w (some ⟨b, off, none⟩) len xs) (h4 : 4 ≤ len) (hc : len ≤ cap) (hm : len ≤ 100000) (hd : Sealed xs) :
    Calls Tryz.prog 105 #[.slice (some ⟨b, off, none⟩) len cap] w fun e w' => ∃ v, e = .returned (.tuple #[v, .int .i64 0]) ∧ Owns w' w.heap.size v (xs.drop 4) ∧ Below w.heap.size w w' := by
  have hB := h.2.1
  obtain ⟨x0, x1, x2, x3, ys, rfl, _, _⟩ := list4 h.1 h4
  obtain ⟨n, rfl⟩ : ∃ n, len = 4 + n := ⟨len - 4, by omega⟩
  refine open_good b off n cap x0 x1 x2 x3 ys w h hc (by omega) ?_
  exact (num4_sealed (hB _ (by simp)) (hB _ (by simp)) (hB _ (by simp)) (hB _ (by simp)) (Ta.sum_lt (fun x hx => hB x (by simp [hx])))).2 hd

theorem sealed_bytes {ys : List Nat} (h : Ta.Bytes ys) : Ta.Bytes (fourB (Ta.sum ys) ++ ys) := by
  intro x hx
  rcases List.mem_append.1 hx with k | k
  · exact fourB_bytes (Ta.sum_lt h) x k
  · exact h x k

end Go.Proofs.YtpggkfdnpdhkfaaGreat

namespace Go.Proofs.YtpggkfdnpdhkfaaGreat
namespace Ta

end Ta

end Go.Proofs.YtpggkfdnpdhkfaaGreat

namespace Go.Proofs.YtpggkfdnpdhkfaaGreat

/-- An image: its page and its bytes. -/
structure Im where
  page : Int
  bs : List Nat
def Im.zero : Im := ⟨0, []⟩

/-- The page ahead of place i, or -1. -/
def prevP (g : List Im) (i : Nat) : Int := if i = 0 then -1 else (g.getD (i - 1) Im.zero).page
def okAt (g : List Im) (i : Nat) : Prop :=
  0 ≤ (g.getD i Im.zero).page ∧ prevP g i < (g.getD i Im.zero).page ∧ (g.getD i Im.zero).page ≤ 63 ∧ (g.getD i Im.zero).bs.length = 512
/-- Images that are a group. -/
def May (g : List Im) : Prop := 1 ≤ g.length ∧ g.length ≤ 6 ∧ ∀ i, i < g.length → okAt g i

theorem May.mem {g : List Im} (h : May g) {m : Im} (hm : m ∈ g) : 0 ≤ m.page ∧ m.page ≤ 63 ∧ m.bs.length = 512 := by
  obtain ⟨i, hi, rfl⟩ := List.mem_iff_getElem.1 hm
  have := h.2.2 i hi
  unfold okAt at this
  have e : g.getD i Im.zero = g[i] := by simp [List.getD, hi]
  rw [e] at this
  exact ⟨this.1, this.2.2.1, this.2.2.2⟩

theorem prev_ge {g : List Im} {i : Nat} (h : ∀ j, j < i → okAt g j) : -1 ≤ prevP g i := by
  unfold prevP
  split
  · exact Int.le_refl _
  · have := (h (i - 1) (by omega)).1
    omega

/-- All bytes of images are bytes. -/
def ImB (g : List Im) : Prop := ∀ m ∈ g, Bytes m.bs

def imB (m : Im) : List Nat := m.page.toNat :: m.bs
def body (g : List Im) : List Nat := g.flatMap imB
/-- What a record seals. -/
def text (g : List Im) : List Nat := g.length :: body g
def seald (x : List Nat) : List Nat := fourB (Ta.sum x) ++ x
/-- A group's record. -/
def recd (g : List Im) : List Nat := (seald (text g)).length / 256 :: (seald (text g)).length % 256 :: seald (text g)

theorem seald_length (x : List Nat) : (seald x).length = 4 + x.length := by
  unfold seald
  rw [List.length_append]
  rfl

theorem body_append (g h : List Im) : body (g ++ h) = body g ++ body h := by simp [body]
theorem body_one (m : Im) : body [m] = m.page.toNat :: m.bs := by simp [body, imB]

theorem body_length : ∀ (g : List Im), (∀ m ∈ g, m.bs.length = 512) → (body g).length = 513 * g.length
  | [], _ => rfl
  | m :: r, h => by
    have := body_length r (fun x hx => h x (by simp [hx]))
    show (imB m ++ body r).length = _
    rw [List.length_append, this]
    have := h m (by simp)
    simp only [imB, List.length_cons]
    omega

theorem text_length {g : List Im} (h : ∀ m ∈ g, m.bs.length = 512) : (text g).length = 1 + 513 * g.length := by
  show (body g).length + 1 = _
  rw [body_length g h]
  omega

theorem recd_length {g : List Im} (h : ∀ m ∈ g, m.bs.length = 512) : (recd g).length = 7 + 513 * g.length := by
  show (seald (text g)).length + 1 + 1 = _
  rw [seald_length, text_length h]
  omega

theorem body_bytes {g : List Im} (hb : ImB g) (hp : ∀ m ∈ g, m.page ≤ 255) : Bytes (body g) := by
  intro x hx
  obtain ⟨m, hm, hxm⟩ := List.mem_flatMap.1 hx
  simp only [imB, List.mem_cons] at hxm
  rcases hxm with rfl | h
  · have := hp m hm
    omega
  · exact hb m hm x h

theorem May.pages {g : List Im} (h : May g) : ∀ m ∈ g, m.page ≤ 255 := fun _ hm => by have := (h.mem hm).2.1; omega
theorem May.len {g : List Im} (h : May g) : ∀ m ∈ g, m.bs.length = 512 := fun _ hm => (h.mem hm).2.2

theorem text_bytes {g : List Im} (hb : ImB g) (h : May g) : Bytes (text g) := by
  intro x hx
  rcases List.mem_cons.1 hx with rfl | hx
  · have := h.2.1
    omega
  · exact body_bytes hb h.pages x hx

theorem seald_bytes {x : List Nat} (h : Bytes x) : Bytes (seald x) := sealed_bytes h

theorem recd_bytes {g : List Im} (hb : ImB g) (h : May g) : Bytes (recd g) := by
  intro x hx
  have hl : (seald (text g)).length ≤ 3083 := by
    rw [seald_length, text_length h.len]
    have := h.2.1
    omega
  rcases List.mem_cons.1 hx with rfl | hx
  · omega
  · rcases List.mem_cons.1 hx with rfl | hx
    · omega
    · exact seald_bytes (text_bytes hb h) x hx

/-- The image number j of what was sealed. -/
def imgAt (x : List Nat) (j : Nat) : Im := ⟨(x.getD (1 + 513 * j) 0 : Nat), (x.drop (2 + 513 * j)).take 512⟩
def imgs (x : List Nat) (k : Nat) : List Im := (List.range k).map (imgAt x)

theorem imgs_length (x : List Nat) (k : Nat) : (imgs x k).length = k := by simp [imgs]
theorem imgs_succ (x : List Nat) (k : Nat) : imgs x (k + 1) = imgs x k ++ [imgAt x k] := by simp [imgs, List.range_succ]

theorem imgs_bytes {x : List Nat} (h : Bytes x) (k : Nat) : ImB (imgs x k) := by
  intro m hm
  obtain ⟨j, _, rfl⟩ := List.mem_map.1 hm
  intro y hy
  exact h y (List.mem_of_mem_drop (List.mem_of_mem_take hy))

theorem imgs_len {x : List Nat} {k : Nat} (h : 1 + 513 * k ≤ x.length) : ∀ m ∈ imgs x k, m.bs.length = 512 := by
  intro m hm
  obtain ⟨j, hj, rfl⟩ := List.mem_map.1 hm
  have hj := List.mem_range.1 hj
  simp only [imgAt, List.length_take, List.length_drop]
  omega

theorem body_imgs (x : List Nat) : ∀ k, 1 + 513 * k ≤ x.length → body (imgs x k) = (x.drop 1).take (513 * k)
  | 0, _ => by simp [imgs, body]
  | k + 1, h => by
    rw [imgs_succ, body_append, body_imgs x k (by omega), body_one]
    have e : 513 * (k + 1) = 513 * k + 513 := by omega
    rw [e, List.take_add]
    congr 1
    have hd : (x.drop 1).drop (513 * k) = x.drop (1 + 513 * k) := by rw [List.drop_drop]
    rw [hd]
    have hl : 1 + 513 * k < x.length := by omega
    rw [List.drop_eq_getElem_cons hl]
    show (imgAt x k).page.toNat :: (imgAt x k).bs = _
    rw [List.take_succ_cons]
    have e2 : 1 + 513 * k + 1 = 2 + 513 * k := by omega
    rw [e2]
    simp only [imgAt, Int.toNat_natCast]
    congr 1
    simp [List.getD, hl]

theorem body_inj : ∀ (g h : List Im), (∀ m ∈ g, m.bs.length = 512 ∧ 0 ≤ m.page) → (∀ m ∈ h, m.bs.length = 512 ∧ 0 ≤ m.page) → g.length = h.length → body g = body h → g = h
  | [], [], _, _, _, _ => rfl
  | [], _ :: _, _, _, hl, _ => by simp at hl
  | _ :: _, [], _, _, hl, _ => by simp at hl
  | a :: g, b :: h, hg, hh, hl, he => by
    have he' : imB a ++ body g = imB b ++ body h := he
    have ha := hg a (by simp)
    have hb := hh b (by simp)
    obtain ⟨h1, h2⟩ := List.append_inj he' (by simp [imB, ha.1, hb.1])
    have := body_inj g h (fun m hm => hg m (by simp [hm])) (fun m hm => hh m (by simp [hm])) (by simpa using hl) h2
    simp only [imB, List.cons.injEq] at h1
    obtain ⟨pa, ba⟩ := a
    obtain ⟨pb, bb⟩ := b
    simp only at h1 ha hb
    rw [this]
    have : pa = pb := by omega
    rw [this, h1.2]

theorem imgs_text {g : List Im} (h : May g) : imgs (text g) g.length = g := by
  have hl := text_length h.len
  refine body_inj _ _ ?_ (fun m hm => ⟨(h.mem hm).2.2, (h.mem hm).1⟩) (imgs_length _ _) ?_
  · intro m hm
    refine ⟨imgs_len (by omega) m hm, ?_⟩
    obtain ⟨j, _, rfl⟩ := List.mem_map.1 hm
    exact Int.natCast_nonneg _
  · rw [body_imgs _ _ (by omega)]
    show (body g).take _ = _
    rw [← body_length g h.len, List.take_length]

/-- What is told of the first group: the group, how many bytes, which error. -/
structure Told where
  g : List Im
  n : Nat
  e : Nat
def Told.no (e : Nat) : Told := ⟨[], 0, e⟩

open Classical in
noncomputable def grp (x : List Nat) (n : Nat) : Told :=
  if 1 ≤ x.length ∧ x.length = 1 + 513 * x.getD 0 0 ∧ May (imgs x (x.getD 0 0)) then ⟨imgs x (x.getD 0 0), n, 0⟩ else Told.no 4

def said (b : List Nat) : Nat := b.getD 0 0 * 256 + b.getD 1 0

open Classical in
/-- The first group of bytes. -/
noncomputable def dec (b : List Nat) : Told :=
  if b.length < 2 then Told.no 4 else
  if b.length < 2 + said b ∨ said b < 4 then Told.no 4 else
  if Sealed ((b.drop 2).take (said b)) then grp (((b.drop 2).take (said b)).drop 4) (2 + said b) else Told.no 5

theorem dec_recd {g : List Im} (h : May g) (r : List Nat) : dec (recd g ++ r) = ⟨g, (recd g).length, 0⟩ := by
  have hl := text_length h.len
  have hs := seald_length (text g)
  have hle := h.2.1
  have hge := h.1
  have hsd : said (recd g ++ r) = (seald (text g)).length := by
    show (seald (text g)).length / 256 * 256 + (seald (text g)).length % 256 = _
    omega
  have hdr : (recd g ++ r).drop 2 = seald (text g) ++ r := rfl
  unfold dec
  rw [if_neg (by simp [recd]), hsd, hdr, if_neg, if_pos]
  · rw [List.take_left' rfl]
    have : (seald (text g)).drop 4 = text g := rfl
    rw [this]
    unfold grp
    have h0 : (text g).getD 0 0 = g.length := rfl
    rw [h0, imgs_text h, if_pos ⟨by omega, by omega, h⟩]
    have : 2 + (seald (text g)).length = (recd g).length := by simp [recd]; omega
    rw [this]
  · rw [List.take_left' rfl]
    rfl
  · rw [List.length_append, recd_length h.len]
    omega

theorem dec_part {g : List Im} (h : May g) (p : Nat) (hp : p < (recd g).length) : dec ((recd g).take p) = Told.no 4 := by
  have hl := text_length h.len
  have hs := seald_length (text g)
  have hr := recd_length h.len
  have hle := h.2.1
  have htl : ((recd g).take p).length = p := by rw [List.length_take]; omega
  unfold dec
  rw [htl]
  by_cases h2 : p < 2
  · rw [if_pos h2]
  · rw [if_neg h2]
    obtain ⟨q, rfl⟩ : ∃ q, p = q + 2 := ⟨p - 2, by omega⟩
    have hsd : said ((recd g).take (q + 2)) = (seald (text g)).length := by
      show (seald (text g)).length / 256 * 256 + (seald (text g)).length % 256 = _
      omega
    rw [hsd, if_pos (by omega)]

theorem dec_ok {b : List Nat} (h : (dec b).e = 0) : 2 ≤ (dec b).n ∧ (dec b).n ≤ b.length ∧ May (dec b).g := by
  revert h
  unfold dec
  split
  · intro h; cases h
  · split
    · intro h; cases h
    · split
      · unfold grp
        split
        · rename_i hc
          intro _
          refine ⟨?_, ?_, hc.2.2⟩
          · show 2 ≤ 2 + said b
            omega
          · show 2 + said b ≤ b.length
            omega
        · intro h; cases h
      · intro h; cases h

theorem dec_bytes {b : List Nat} (h : Bytes b) : ImB (dec b).g := by
  unfold dec
  split
  · intro m hm; cases hm
  · split
    · intro m hm; cases hm
    · split
      · unfold grp
        split
        · exact imgs_bytes (fun y hy => h y (List.mem_of_mem_drop (List.mem_of_mem_take (List.mem_of_mem_drop hy)))) _
        · intro m hm; cases hm
      · intro m hm; cases hm

/-- Records one behind the other. -/
def recs (l : List (List Im)) : List Nat := l.flatMap recd
theorem recs_append (l m : List (List Im)) : recs (l ++ m) = recs l ++ recs m := by simp [recs]
/-- Where the record number i ends. -/
def ends (l : List (List Im)) (i : Nat) : Nat := (recs (l.take i)).length

theorem ends_succ {l : List (List Im)} {i : Nat} (hi : i < l.length) : ends l (i + 1) = ends l i + (recd (l.getD i [])).length := by
  unfold ends
  have e : l.getD i [] = l[i] := by simp [List.getD, hi]
  have e1 : recs [l[i]] = recd l[i] := by unfold recs; rw [List.flatMap_cons, List.flatMap_nil, List.append_nil]
  rw [List.take_succ_eq_append_getElem hi, recs_append, List.length_append, e, e1]

theorem ends_mono {l : List (List Im)} {i j : Nat} (h : i ≤ j) : ends l i ≤ ends l j := by
  unfold ends
  have e1 : (l.take j).take i = l.take i := by rw [List.take_take, Nat.min_eq_left h]
  have e : recs (l.take j) = recs ((l.take j).take i) ++ recs ((l.take j).drop i) := by rw [← recs_append, List.take_append_drop]
  rw [e, e1, List.length_append]
  exact Nat.le_add_right _ _

end Go.Proofs.YtpggkfdnpdhkfaaGreat

namespace Go.Proofs.YtpggkfdnpdhkfaaGreat
namespace Ap
variable {α : Type} (p : α → Int)

/-- One put in its place among the rising: it takes the place of its own page. -/
def put : List α → α → List α
  | [], m => [m]
  | x :: r, m => if p m ≤ p x then (if p x = p m then m :: r else m :: x :: r) else x :: put r m

/-- One more, behind all that are not above it. -/
def ins : List α → α → List α
  | [], m => [m]
  | x :: r, m => if p m < p x then m :: x :: r else x :: ins r m

def sort (l : List α) : List α := l.foldl (ins p) []

/-- By rising page, some may be the same. -/
def Rising : List α → Prop
  | [] => True
  | x :: r => (∀ y ∈ r, p x ≤ p y) ∧ Rising r
/-- By rising page, none the same. -/
def Steep : List α → Prop
  | [] => True
  | x :: r => (∀ y ∈ r, p x < p y) ∧ Steep r

theorem Steep.rising : ∀ {l : List α}, Steep p l → Rising p l
  | [], _ => trivial
  | _ :: _, h => ⟨fun y hy => Int.le_of_lt (h.1 y hy), Steep.rising h.2⟩

theorem mem_put : ∀ (l : List α) (m y : α), y ∈ put p l m → y = m ∨ y ∈ l
  | [], m, y, h => by simp [put] at h; exact .inl h
  | x :: r, m, y, h => by
    unfold put at h
    split at h
    · split at h
      · rcases List.mem_cons.1 h with h | h
        · exact .inl h
        · exact .inr (by simp [h])
      · rcases List.mem_cons.1 h with h | h
        · exact .inl h
        · exact .inr h
    · rcases List.mem_cons.1 h with h | h
      · exact .inr (by simp [h])
      · rcases mem_put r m y h with h | h
        · exact .inl h
        · exact .inr (by simp [h])

theorem put_steep : ∀ {l : List α} (m : α), Steep p l → Steep p (put p l m)
  | [], _, _ => ⟨fun _ h => (by cases h), trivial⟩
  | x :: r, m, h => by
    unfold put
    split
    · split
      · rename_i he
        exact ⟨fun y hy => by rw [← he]; exact h.1 y hy, h.2⟩
      · refine ⟨?_, h⟩
        intro y hy
        rcases List.mem_cons.1 hy with rfl | hy
        · omega
        · have := h.1 y hy
          omega
    · refine ⟨?_, put_steep m h.2⟩
      intro y hy
      rcases mem_put p r m y hy with rfl | hy
      · omega
      · exact h.1 y hy

theorem fold_steep : ∀ (g : List α) {s : List α}, Steep p s → Steep p (g.foldl (put p) s)
  | [], _, h => h
  | m :: r, _, h => fold_steep r (put_steep p m h)

theorem put_len (l : List α) (m : α) : (put p l m).length ≤ l.length + 1 := by
  induction l with
  | nil => simp [put]
  | cons x r ih =>
    unfold put
    split
    · split <;> simp
    · simp; omega

theorem fold_len : ∀ (g s : List α), (g.foldl (put p) s).length ≤ s.length + g.length
  | [], s => by simp
  | m :: r, s => by
    have := fold_len r (put p s m)
    have := put_len p s m
    rw [List.foldl_cons, List.length_cons]
    omega
end Ap

theorem prevP_cons (m : Im) (r : List Im) (i : Nat) : prevP (m :: r) (i + 1) = if i = 0 then m.page else prevP r i := by
  unfold prevP
  rw [if_neg (by omega)]
  rcases i with _ | i
  · rfl
  · simp

theorem steep_from : ∀ (g : List Im), (∀ i, i < g.length → prevP g i < (g.getD i Im.zero).page) → Ap.Steep Im.page g
  | [], _ => trivial
  | [m], _ => ⟨fun _ h => (by cases h), trivial⟩
  | m :: x :: r, h => by
    have hr : Ap.Steep Im.page (x :: r) := by
      apply steep_from
      intro i hi
      have := h (i + 1) (by simpa using hi)
      rw [prevP_cons] at this
      rcases i with _ | i
      · have h0 := h 0 (by simp)
        rw [if_pos rfl] at this
        unfold prevP at h0 ⊢
        rw [if_pos rfl] at h0 ⊢
        simp only [List.getD_cons_zero, List.getD_cons_succ] at this h0 ⊢
        omega
      · rw [if_neg (by omega)] at this
        simpa using this
    have h1 := h 1 (by simp)
    rw [prevP_cons, if_pos rfl] at h1
    simp only [List.getD_cons_zero, List.getD_cons_succ] at h1
    refine ⟨?_, hr⟩
    intro y hy
    rcases List.mem_cons.1 hy with rfl | hy
    · exact h1
    · have := hr.1 y hy
      omega

/-- A group rises. -/
theorem May.steep {g : List Im} (h : May g) : Ap.Steep Im.page g := steep_from g (fun i hi => (h.2.2 i hi).2.1)
end Go.Proofs.YtpggkfdnpdhkfaaGreat

namespace Go.Proofs.YtpggkfdnpdhkfaaGreat
open Go.RowKit
set_option maxRecDepth 100000

/-- An image in memory: its page, its slice, its bytes. -/
structure Ix where
  page : Int
  s : Sl
  bs : List Nat
def Ix.zero : Ix := ⟨0, Sl.nil, []⟩
def Ix.im (x : Ix) : Im := ⟨x.page, x.bs⟩
def Ix.val (x : Ix) : Value := .agg #[.int .i64 x.page, x.s.val]
def Ix.cells (x : Ix) : List Value := [.int .i64 x.page, x.s.val]
def cellsI (l : List Ix) : List Value := l.flatMap Ix.cells
def ims (l : List Ix) : List Im := l.map Ix.im

theorem ims_length (l : List Ix) : (ims l).length = l.length := by simp [ims]
theorem ims_append (l m : List Ix) : ims (l ++ m) = ims l ++ ims m := by simp [ims]
theorem ims_getD (l : List Ix) (i : Nat) : (ims l).getD i Im.zero = (l.getD i Ix.zero).im := by
  unfold ims
  rw [show Im.zero = Ix.zero.im from rfl]
  simp only [List.getD, List.getElem?_map]
  cases l[i]? <;> rfl

theorem cellsI_length : ∀ l, (cellsI l).length = l.length * 2
  | [] => rfl
  | i :: r => by
    have := cellsI_length r
    simp only [cellsI, List.flatMap_cons, List.length_append, List.length_cons] at *
    rw [this]
    simp [Ix.cells]
    omega
theorem cellsI_append (l m : List Ix) : cellsI (l ++ m) = cellsI l ++ cellsI m := by simp [cellsI]
theorem cellsI_one (l : List Ix) : ∀ u ∈ cellsI l, u.oneCell' = true := by
  intro u hu
  obtain ⟨i, _, hi⟩ := List.mem_flatMap.1 hu
  simp only [Ix.cells, List.mem_cons, List.mem_nil_iff, or_false] at hi
  rcases hi with rfl | rfl <;> rfl
theorem cellsI_get : ∀ (l : List Ix) (j t : Nat), j < l.length → t < 2 → (cellsI l)[j * 2 + t]? = (l.getD j Ix.zero).cells[t]?
  | i :: r, 0, t, _, ht => by
    simp only [cellsI, List.flatMap_cons]
    rw [List.getElem?_append_left (by simp [Ix.cells]; omega)]
    simp
  | i :: r, j + 1, t, hj, ht => by
    have := cellsI_get r j t (by simpa using hj) ht
    simp only [cellsI, List.flatMap_cons] at *
    rw [List.getElem?_append_right (by simp [Ix.cells]; omega)]
    have e : (j + 1) * 2 + t - i.cells.length = j * 2 + t := by simp [Ix.cells]; omega
    rw [e, this]
    simp [List.getD]

/-- The blocks of D that are there stay as they are. -/
def Kept6 (D : Nat → Prop) (w w' : World) : Prop := ∀ k, D k → k < w.heap.size → w'.heap[k]? = w.heap[k]?
theorem Kept6.below {D : Nat → Prop} {B : Nat} {w w' : World} (h : Below B w w') (hB : ∀ k, D k → k < w.heap.size → k < B) : Kept6 D w w' := fun k hk hl => h.block k (hB k hk hl)
theorem Kept6.all {D : Nat → Prop} {B : Nat} {w w' : World} (h : Below B w w') (hB : w.heap.size ≤ B) : Kept6 D w w' := fun k _ hl => h.block k (by omega)
theorem Kept6.frm {D F : Nat → Prop} {w w' : World} (h : Frm F w w') (hD : ∀ k, D k → ¬ F k) : Kept6 D w w' := fun k hk hl => h.block k hl (hD k hk)
theorem Kept6.cell {D : Nat → Prop} {w w' : World} (h : Kept6 D w w') {a : Addr} {u : Value} (hc : w.cell? a = some u) (hD : D a.block) : w'.cell? a = some u := by
  have := h a.block hD (World.block_lt_of_cell? w _ hc)
  simp only [World.cell?] at hc ⊢
  rw [this]
  exact hc

/-- The bytes xs lie where the slice leads, in blocks of D. -/
structure Cm (D : Nat → Prop) (w : World) (s : Sl) (xs : List Nat) : Prop where
  came : Came w s.a s.len s.cap xs
  home : ∀ ad, s.a = some ad → 0 < s.len → D ad.block
theorem Cm.len {D : Nat → Prop} {w : World} {s : Sl} {xs : List Nat} (h : Cm D w s xs) : xs.length = s.len := h.came.bs.1
theorem Cm.keep {D : Nat → Prop} {w w' : World} {s : Sl} {xs : List Nat} (h : Cm D w s xs) (hk : Kept6 D w w') : Cm D w' s xs := by
  refine ⟨⟨⟨h.came.bs.1, h.came.bs.2.1, fun i hi => ?_⟩, h.came.nil, h.came.le, h.came.big⟩, h.home⟩
  obtain ⟨b, off, ha, hc⟩ := h.came.bs.2.2 i hi
  exact ⟨b, off, ha, hk.cell hc (h.home ⟨b, off, none⟩ ha (by omega))⟩
theorem Cm.below {D : Nat → Prop} {B : Nat} {w w' : World} {s : Sl} {xs : List Nat} (h : Cm D w s xs) (hb : Below B w w') (hB : w.heap.size ≤ B) : Cm D w' s xs := h.keep (Kept6.all hb hB)
theorem Cm.mono {D E : Nat → Prop} {w : World} {s : Sl} {xs : List Nat} (h : Cm D w s xs) (hE : ∀ k, D k → k < w.heap.size → E k) : Cm E w s xs := by
  refine ⟨h.came, fun ad ha hl => hE _ (h.home ad ha hl) ?_⟩
  obtain ⟨b, off, ha', hc⟩ := h.came.bs.2.2 0 hl
  rw [ha'] at ha
  cases ha
  exact World.block_lt_of_cell? w _ hc

/-- The images l lie where the slice leads, they and their bytes in blocks of D. -/
structure Gr (D : Nat → Prop) (w : World) (v : Sl) (l : List Ix) : Prop where
  len : l.length = v.len
  nil : v.a = none → v.cap = 0
  le : v.len ≤ v.cap
  big : v.len ≤ 1000000
  home : ∀ ad, v.a = some ad → 0 < v.len → D ad.block
  cell : ∀ i, i < v.len → ∃ b off, v.a = some ⟨b, off, none⟩ ∧ w.cell? ⟨b, off + i * 2, none⟩ = some (.int .i64 (l.getD i Ix.zero).page) ∧ w.cell? ⟨b, off + i * 2 + 1, none⟩ = some (l.getD i Ix.zero).s.val
  bs : ∀ x ∈ l, Cm D w x.s x.bs

theorem Gr.keep {D : Nat → Prop} {w w' : World} {v : Sl} {l : List Ix} (h : Gr D w v l) (hk : Kept6 D w w') : Gr D w' v l := by
  refine ⟨h.len, h.nil, h.le, h.big, h.home, fun i hi => ?_, fun x hx => (h.bs x hx).keep hk⟩
  obtain ⟨b, off, ha, c0, c1⟩ := h.cell i hi
  have hD := h.home _ ha (by omega)
  exact ⟨b, off, ha, hk.cell c0 hD, hk.cell c1 hD⟩
theorem Gr.below {D : Nat → Prop} {B : Nat} {w w' : World} {v : Sl} {l : List Ix} (h : Gr D w v l) (hb : Below B w w') (hB : w.heap.size ≤ B) : Gr D w' v l := h.keep (Kept6.all hb hB)
theorem Gr.mono {D E : Nat → Prop} {w : World} {v : Sl} {l : List Ix} (h : Gr D w v l) (hE : ∀ k, D k → k < w.heap.size → E k) : Gr E w v l := by
  refine ⟨h.len, h.nil, h.le, h.big, fun ad ha hl => hE _ (h.home ad ha hl) ?_, h.cell, fun x hx => (h.bs x hx).mono hE⟩
  obtain ⟨b, off, ha', c0, c1⟩ := h.cell 0 hl
  rw [ha'] at ha
  cases ha
  exact World.block_lt_of_cell? w _ c0
theorem getD_mem {α : Type} {l : List α} {i : Nat} (d : α) (h : i < l.length) : l.getD i d ∈ l := by
  simp [List.getD, h]
theorem Gr.at {D : Nat → Prop} {w : World} {v : Sl} {l : List Ix} (h : Gr D w v l) {i : Nat} (hi : i < v.len) : Cm D w (l.getD i Ix.zero).s (l.getD i Ix.zero).bs := h.bs _ (getD_mem _ (by rw [h.len]; exact hi))
theorem Gr.none {D : Nat → Prop} {w : World} : Gr D w Sl.nil [] := ⟨rfl, fun _ => rfl, Nat.le_refl _, by decide, fun _ h _ => (by cases h), fun _ h => absurd h (Nat.not_lt_zero _), fun _ h => (by cases h)⟩
theorem Gr.imB {D : Nat → Prop} {w : World} {v : Sl} {l : List Ix} (h : Gr D w v l) : ImB (ims l) := by
  intro m hm
  obtain ⟨x, hx, rfl⟩ := List.mem_map.1 hm
  exact (h.bs x hx).came.bs.2.1

theorem infoIm : (Tryz.prog.info? 76).map (fun i => (i.zero, i.size, i.bytes)) = some (some (.agg #[.int .i64 0, .slice none 0 0]), 2, 32) := by kernel_rfl
/-- A row of images that the call has made. -/
def OwnI (w : World) (v : Sl) (l : List Ix) : Prop := Own 76 2 w v (cellsI l)
theorem OwnI.len {w : World} {v : Sl} {l : List Ix} (h : OwnI w v l) : l.length = v.len := by
  have := h.1
  rw [cellsI_length] at this
  omega
theorem OwnI.gr {D : Nat → Prop} {w : World} {v : Sl} {l : List Ix} (h : OwnI w v l) (hb : ∀ x ∈ l, Cm D w x.s x.bs) (hD : ∀ k, v.blk = some k → D k) (hm : v.len ≤ 1000000) : Gr D w v l := by
  have hl := h.len
  refine ⟨hl, h.nilcap, h.lecap, hm, fun ad ha _ => hD _ (by rw [Sl.blk, ha]; rfl), fun i hi => ?_, hb⟩
  rcases h.2 with ⟨h0, _⟩ | ⟨g, off, cur, ha, _⟩
  · rw [h0] at hi; exact absurd hi (Nat.not_lt_zero _)
  · refine ⟨g, off, ha, ?_, ?_⟩
    · have := h.cell ha (i * 2 + 0) _ (cellsI_get l i 0 (by omega) (by omega))
      rwa [Addr.add_lit] at this
    · have := h.cell ha (i * 2 + 1) _ (cellsI_get l i 1 (by omega) (by omega))
      rwa [Addr.add_lit] at this
theorem OwnI.new (w : World) : OwnI (w.alloc (.cells #[] 76)) ⟨some ⟨w.heap.size, 0, none⟩, 0, 0⟩ [] :=
  ⟨rfl, .inr ⟨w.heap.size, 0, _, rfl, heap_alloc_new w _, by simp, Nat.le_refl _, by simp, rfl⟩⟩

/-- One image, laid as a row. -/
theorem src_im (w : World) (x : Ix) : Src Tryz.prog 2 52 (.slice (some ⟨w.heap.size, 0, none⟩) 1 1) 1 (cellsI [x]) (w.alloc (.cells #[.int .i64 x.page, x.s.val] 76)) := by
  refine Src.ofSlice _ Tryz.underlying52 ⟨w.heap.size, 0, none⟩ 1 1 (cellsI [x]) rfl (fun j u hj => ?_) (cellsI_one _)
  have hb : (w.alloc (.cells #[.int .i64 x.page, x.s.val] 76)).heap[w.heap.size]? = some (.cells #[.int .i64 x.page, x.s.val] 76) := heap_alloc_new w _
  rw [Addr.add_lit, cell_of_row _ _ _ _ _ _ hb]
  simpa [cellsI, Ix.cells] using hj

/-- append(g, image). -/
theorem own_im (w : World) (v : Sl) (l : List Ix) (h : OwnI w v l) (x : Ix) (hl : v.len + 1 ≤ 1000000) (ty : TypeId) :
    ∃ v' w', (Builtin.append_ #[52, 52] ty #[v.val, .slice (some ⟨w.heap.size, 0, none⟩) 1 1]).run Tryz.prog (w.alloc (.cells #[.int .i64 x.page, x.s.val] 76)) = .ok v'.val w' ∧ OwnI w' v' (l ++ [x]) ∧ v'.len = v.len + 1 ∧ Frm (fun k => v.blk = some k) w w' ∧ (v'.blk = v.blk ∨ ∃ k, v'.blk = some k ∧ w.heap.size ≤ k) := by
  have hB := below_alloc w (.cells #[.int .i64 x.page, x.s.val] 76)
  have h1 : Own 76 2 (w.alloc (.cells #[.int .i64 x.page, x.s.val] 76)) v (cellsI l) := h.frame (fun k hk => hB.block k (h.lt hk))
  obtain ⟨v', w', hrun, ho, hlen, hf, hbk⟩ := own_append Tryz.underlying52 infoIm rfl (by decide) _ v (cellsI l) h1 (cellsI_one l) _ 1 (cellsI [x]) (src_im w x) hl ty
  refine ⟨v', w', hrun, by unfold OwnI; rw [cellsI_append]; exact ho, hlen, (Frm.ofBelow hB).trans hf (fun _ _ hk => hk), ?_⟩
  rcases hbk with e | ⟨e, _⟩
  · exact .inl e
  · exact .inr ⟨_, e, hB.size⟩

section
variable {ops : Array Oper} {rest : List Oper} {o : Oper} {a : Act} {Q : Exit → Act → World → Prop}
theorem wpList_append_im (w : World) (x : Ix) (hgd : o.guard = none) (s y : Operand) (ho : o.op = .call { callee := .builtin .append, args := #[s, y], argTypes := #[52, 52] }) (v : Sl) (l : List Ix) (hs : a.eval s = v.val) (hy : a.eval y = .slice (some ⟨w.heap.size, 0, none⟩) 1 1) (h : OwnI w v l) (hl : v.len + 1 ≤ 1000000)
    (hK : ∀ v' w', OwnI w' v' (l ++ [x]) → v'.len = v.len + 1 → Frm (fun k => v.blk = some k) w w' → (v'.blk = v.blk ∨ ∃ k, v'.blk = some k ∧ w.heap.size ≤ k) → wpList Tryz.prog ops Q rest (a.put o.dst v'.val) w') : wpList Tryz.prog ops Q (o :: rest) a (w.alloc (.cells #[.int .i64 x.page, x.s.val] 76)) := by
  refine wpList_plain hgd fun K hK' => ?_
  obtain ⟨v', w', hrun, r1, r2, r3, r4⟩ := own_im w v l h x hl o.type
  unfold Oper.wp
  simp [execOp, ho, resolve, invoke, builtin, hs, hy, hrun, Result.andThen]
  exact hK' _ _ (hK v' w' r1 r2 r3 r4)
end

/-- Rows of images: the slices, and what they lead to. -/
structure Gp where
  v : Sl
  l : List Ix
def Gp.zero : Gp := ⟨Sl.nil, []⟩
def cellsG (L : List Gp) : List Value := L.map fun x => x.v.val
theorem cellsG_get {L : List Gp} {i : Nat} (h : i < L.length) : (cellsG L)[i]? = some (L.getD i Gp.zero).v.val := by
  simp [cellsG, List.getD, h]
def OwnG (w : World) (v : Sl) (L : List Gp) : Prop := Own 52 1 w v (cellsG L)
theorem OwnG.len {w : World} {v : Sl} {L : List Gp} (h : OwnG w v L) : L.length = v.len := by
  have := h.1
  rw [cellsG, List.length_map] at this
  omega
theorem OwnG.new (w : World) : OwnG (w.alloc (.cells #[] 52)) ⟨some ⟨w.heap.size, 0, none⟩, 0, 0⟩ [] :=
  ⟨rfl, .inr ⟨w.heap.size, 0, _, rfl, heap_alloc_new w _, by simp, Nat.le_refl _, by simp, rfl⟩⟩
theorem OwnG.at {w : World} {v : Sl} {L : List Gp} (h : OwnG w v L) {i : Nat} (hi : i < v.len) : ∃ b off, v.a = some ⟨b, off, none⟩ ∧ w.cell? ⟨b, off + i, none⟩ = some (L.getD i Gp.zero).v.val := by
  have hl := h.len
  rcases h.2 with ⟨h0, _⟩ | ⟨g, off, cur, ha, _⟩
  · rw [h0] at hi; exact absurd hi (Nat.not_lt_zero _)
  · refine ⟨g, off, ha, ?_⟩
    have := h.cell ha i _ (cellsG_get (by omega))
    rwa [Addr.add_lit] at this
section
variable {ops : Array Oper} {rest : List Oper} {o : Oper} {a : Act} {Q : Exit → Act → World → Prop}
end

/-- A call's own bytes, read. -/
theorem Owns.cm {w : World} {base : Nat} {v : Value} {xs : List Nat} (h : Owns w base v xs) (hx : Bytes xs) (hm : xs.length ≤ 1000000) : ∃ s : Sl, v = s.val ∧ s.len = xs.length ∧ Cm (fun k => base ≤ k) w s xs := by
  rcases h.2 with ⟨hv, h0⟩ | ⟨g, cap, cur, hv, hbg, hg, hle, hr⟩
  · have : xs = [] := List.eq_nil_of_length_eq_zero h0
    subst this
    exact ⟨Sl.nil, hv, rfl, ⟨⟨⟨rfl, hx, fun i hi => absurd hi (Nat.not_lt_zero _)⟩, fun _ => rfl, Nat.le_refl _, by decide⟩, fun _ h _ => (by cases h)⟩⟩
  · refine ⟨⟨some ⟨g, 0, none⟩, xs.length, cap⟩, hv, rfl, ?_⟩
    rw [hv] at h
    refine ⟨⟨(h.row hx).2, (fun e => by cases e), hle, by show xs.length ≤ _; omega⟩, fun ad ha _ => ?_⟩
    cases ha
    exact hbg
end Go.Proofs.YtpggkfdnpdhkfaaGreat
