/-
  What is opened: bytes of which the first four are the sum of the others, and no others.
-/
import Derived.Test.YtjoapceffgibcaaSeals
namespace Go.Proofs.Ytjoapceffgibcaa
open Go.RowKit

set_option maxHeartbeats 400000 in
theorem open_short (a : Option Addr) (len cap : Nat) (w : World) (hm : len < 4) :
    Calls Try.prog 9 #[.slice a len cap] w fun e w' => e = .returned (.tuple #[.slice none 0 0, .int .i64 4]) ∧ w' = w := by
  have hi : (len : Int) < 4 := by omega
  go_enter Try.func9, Try.ntmps9
  go_wp2
  go_ret2
  exact ⟨rfl, rfl⟩

theorem below_drewN (B : Nat) (w : World) (q : Nat) : Below B w (w.drewN q) := ⟨rfl, rfl, rfl, Nat.le_refl _, fun _ _ => rfl⟩

/-- Four bytes' number, the highest first. -/
def num4 (x0 x1 x2 x3 : Nat) : Nat := x0 * 16777216 + x1 * 65536 + x2 * 256 + x3

theorem num4_bits (x0 x1 x2 x3 : Nat) (b0 : x0 < 256) (b1 : x1 < 256) (b2 : x2 < 256) (b3 : x3 < 256) :
    bits .or .u32 (bits .or .u32 (bits .or .u32 ((x0 : Int) * 16777216) ((x1 : Int) * 65536)) ((x2 : Int) * 256)) (x3 : Int) = ((num4 x0 x1 x2 x3 : Nat) : Int) := by
  have e1 : bits .or .u32 ((x0 : Int) * 16777216) ((x1 : Int) * 65536) = ((x0 * 16777216 + x1 * 65536 : Nat) : Int) := by
    have := u32_or_nat (x0 * 16777216) (x1 * 65536) (by omega) (by omega)
    rw [nat_join 24 (x0 * 16777216) (x1 * 65536) (by omega) (by omega)] at this
    rw [← this, Int.natCast_mul, Int.natCast_mul]
    rfl
  have e2 : bits .or .u32 ((x0 * 16777216 + x1 * 65536 : Nat) : Int) ((x2 : Int) * 256) = ((x0 * 16777216 + x1 * 65536 + x2 * 256 : Nat) : Int) := by
    have := u32_or_nat (x0 * 16777216 + x1 * 65536) (x2 * 256) (by omega) (by omega)
    rw [nat_join 16 (x0 * 16777216 + x1 * 65536) (x2 * 256) (by omega) (by omega)] at this
    rw [← this, Int.natCast_mul]
    rfl
  have e3 : bits .or .u32 ((x0 * 16777216 + x1 * 65536 + x2 * 256 : Nat) : Int) (x3 : Int) = ((num4 x0 x1 x2 x3 : Nat) : Int) := by
    have := u32_or_nat (x0 * 16777216 + x1 * 65536 + x2 * 256) x3 (by omega) (by omega)
    rw [nat_join 8 (x0 * 16777216 + x1 * 65536 + x2 * 256) x3 (by omega) (by omega)] at this
    rw [this]
    rfl
  rw [e1, e2, e3]

theorem Bs.tail {w : World} {b off n : Nat} {x0 x1 x2 x3 : Nat} {ys : List Nat} (h : Bs w (some ⟨b, off, none⟩) (4 + n) (x0 :: x1 :: x2 :: x3 :: ys)) : Bs w (some ⟨b, off + 4, none⟩) n ys := by
  refine ⟨by have := h.1; simp at this; omega, fun x hx => h.2.1 x (by simp [hx]), fun i hi => ⟨b, off + 4, rfl, ?_⟩⟩
  obtain ⟨_, _, e, hcell⟩ := h.2.2 (4 + i) (by omega)
  simp at e
  obtain ⟨rfl, rfl⟩ := e
  rw [Nat.add_assoc, hcell, Nat.add_comm 4 i]
  rfl

theorem Bs.any {w : World} {a a' : Option Addr} (h : Bs w a 0 []) : Bs w a' 0 [] := ⟨h.1, h.2.1, fun i hi => by omega⟩

theorem Bs.at {w : World} {b off len : Nat} {xs : List Nat} (h : Bs w (some ⟨b, off, none⟩) len xs) (i : Nat) (hi : i < len) : w.cell? ⟨b, off + i, none⟩ = some (.int .u8 (xs.getD i 0 : Nat)) := by
  obtain ⟨_, _, e, hcell⟩ := h.2.2 i hi
  simp at e
  obtain ⟨rfl, rfl⟩ := e
  exact hcell

set_option maxHeartbeats 800000 in
theorem open_bad (b off n cap : Nat) (x0 x1 x2 x3 : Nat) (ys : List Nat) (w : World) (h : Bs w (some ⟨b, off, none⟩) (4 + n) (x0 :: x1 :: x2 :: x3 :: ys)) (hc : 4 + n ≤ cap) (hm : n ≤ 10000) (hd : num4 x0 x1 x2 x3 ≠ Ta.sum ys) :
    Calls Try.prog 9 #[.slice (some ⟨b, off, none⟩) (4 + n) cap] w fun e w' => e = .returned (.tuple #[.slice none 0 0, .int .i64 5]) ∧ Below w.heap.size w w' := by
  have hy : ys.length = n := by have := h.1; simp at this; omega
  have b0 : x0 < 256 := h.2.1 x0 (by simp)
  have b1 : x1 < 256 := h.2.1 x1 (by simp)
  have b2 : x2 < 256 := h.2.1 x2 (by simp)
  have b3 : x3 < 256 := h.2.1 x3 (by simp)
  have c0 : w.cell? ⟨b, off, none⟩ = some (.int .u8 (x0 : Nat)) := h.at 0 (by omega)
  have c1 : w.cell? ⟨b, off + 1, none⟩ = some (.int .u8 (x1 : Nat)) := h.at 1 (by omega)
  have c2 : w.cell? ⟨b, off + 2, none⟩ = some (.int .u8 (x2 : Nat)) := h.at 2 (by omega)
  have c3 : w.cell? ⟨b, off + 3, none⟩ = some (.int .u8 (x3 : Nat)) := h.at 3 (by omega)
  have ht := h.tail
  obtain ⟨s, hs⟩ : ∃ s, s = Ta.sum ys := ⟨_, rfl⟩
  rw [← hs] at hd
  have hd : (bits .or .u32 (bits .or .u32 (bits .or .u32 ((x0 : Int) * 16777216) ((x1 : Int) * 65536)) ((x2 : Int) * 256)) (x3 : Int) != (s : Int)) = true := by
    rw [num4_bits x0 x1 x2 x3 b0 b1 b2 b3]
    simpa using fun e => hd (Int.ofNat_inj.1 e)
  have H1 : Hid (∀ q cp, Calls Try.prog 10 #[.slice (some ⟨b, off + 4, none⟩) n cp] (w.drewN q) fun e w' => e = .returned (.int .u32 (s : Nat)) ∧ w' = w.drewN q) := by
    intro q cp
    rw [hs]
    exact sum_any _ n cp ys _ (ht.keep (below_drewN _ w q) (Nat.le_refl _)) (by omega)
  have H2 : Hid (∀ q cp, n = 0 → Calls Try.prog 10 #[.slice (some ⟨b, off, none⟩) n cp] (w.drewN q) fun e w' => e = .returned (.int .u32 (s : Nat)) ∧ w' = w.drewN q) := by
    intro q cp h0
    subst h0
    have hy0 : ys = [] := List.eq_nil_of_length_eq_zero hy
    subst hy0
    rw [hs]
    exact sum_any _ 0 cp [] _ (ht.any.keep (below_drewN _ w q) (Nat.le_refl _)) (by omega)
  obtain ⟨len, hlen⟩ : ∃ len, len = 4 + n := ⟨_, rfl⟩
  have hn4 : len - 4 = n := by omega
  rw [← hn4] at H1 H2
  have i0 : ¬ (len : Int) < 4 := by omega
  have i1 : (0 : Int) < (len : Int) := by omega
  have i2 : (1 : Int) < (len : Int) := by omega
  have i3 : (2 : Int) < (len : Int) := by omega
  have i4 : (3 : Int) < (len : Int) := by omega
  rw [← hlen] at hc ⊢
  have l1 : 4 ≤ len := by omega
  have l2 : len ≤ 10004 := by omega
  have HL := hide hlen
  have HT := hide ht
  have HY := hide hy
  clear ht hs h hm hlen hn4 hy
  go_enter Try.func9, Try.ntmps9
  go_wp2_with fail
  go_quiet (fail)
  go_wp2_with fail
  · refine (H2.out nq _ (by omega)).mono ?_
    rintro e w' ⟨rfl, hw⟩
    obtain rfl := hw.symm
    go_wp2_with fail
    go_ret2
    exact ⟨rfl, below_drewN _ _ _⟩
  · refine (H1.out nq _).mono ?_
    rintro e w' ⟨rfl, hw⟩
    obtain rfl := hw.symm
    go_wp2_with fail
    go_ret2
    exact ⟨rfl, below_drewN _ _ _⟩

set_option maxHeartbeats 800000 in
theorem open_good (b off n cap : Nat) (x0 x1 x2 x3 : Nat) (ys : List Nat) (w : World) (h : Bs w (some ⟨b, off, none⟩) (4 + n) (x0 :: x1 :: x2 :: x3 :: ys)) (hc : 4 + n ≤ cap) (hm : n ≤ 10000) (hd : num4 x0 x1 x2 x3 = Ta.sum ys) :
    Calls Try.prog 9 #[.slice (some ⟨b, off, none⟩) (4 + n) cap] w fun e w' => ∃ v, e = .returned (.tuple #[v, .int .i64 0]) ∧ Owns w' w.heap.size v ys ∧ Below w.heap.size w w' := by
  have hy : ys.length = n := by have := h.1; simp at this; omega
  have b0 : x0 < 256 := h.2.1 x0 (by simp)
  have b1 : x1 < 256 := h.2.1 x1 (by simp)
  have b2 : x2 < 256 := h.2.1 x2 (by simp)
  have b3 : x3 < 256 := h.2.1 x3 (by simp)
  have c0 : w.cell? ⟨b, off, none⟩ = some (.int .u8 (x0 : Nat)) := h.at 0 (by omega)
  have c1 : w.cell? ⟨b, off + 1, none⟩ = some (.int .u8 (x1 : Nat)) := h.at 1 (by omega)
  have c2 : w.cell? ⟨b, off + 2, none⟩ = some (.int .u8 (x2 : Nat)) := h.at 2 (by omega)
  have c3 : w.cell? ⟨b, off + 3, none⟩ = some (.int .u8 (x3 : Nat)) := h.at 3 (by omega)
  have ht := h.tail
  obtain ⟨s, hs⟩ : ∃ s, s = Ta.sum ys := ⟨_, rfl⟩
  rw [← hs] at hd
  have hd : (bits .or .u32 (bits .or .u32 (bits .or .u32 ((x0 : Int) * 16777216) ((x1 : Int) * 65536)) ((x2 : Int) * 256)) (x3 : Int) != (s : Int)) = false := by
    rw [num4_bits x0 x1 x2 x3 b0 b1 b2 b3]
    rw [hd]
    simp
  have H1 : Hid (∀ q cp, Calls Try.prog 10 #[.slice (some ⟨b, off + 4, none⟩) n cp] (w.drewN q) fun e w' => e = .returned (.int .u32 (s : Nat)) ∧ w' = w.drewN q) := by
    intro q cp
    rw [hs]
    exact sum_any _ n cp ys _ (ht.keep (below_drewN _ w q) (Nat.le_refl _)) (by omega)
  have H2 : Hid (∀ q cp, n = 0 → Calls Try.prog 10 #[.slice (some ⟨b, off, none⟩) n cp] (w.drewN q) fun e w' => e = .returned (.int .u32 (s : Nat)) ∧ w' = w.drewN q) := by
    intro q cp h0
    subst h0
    have hy0 : ys = [] := List.eq_nil_of_length_eq_zero hy
    subst hy0
    rw [hs]
    exact sum_any _ 0 cp [] _ (ht.any.keep (below_drewN _ w q) (Nat.le_refl _)) (by omega)
  have HW : Hid (∀ q, Below w.heap.size w ((w.drewN q).alloc (.cells #[] 5))) := fun q => (below_drewN _ w q).trans (below_alloc (w.drewN q) _)
  have HO : Hid (∀ q, Owns ((w.drewN q).alloc (.cells #[] 5)) w.heap.size (.slice (some ⟨w.heap.size, 0, none⟩) 0 0) []) := fun q => Owns.lit (w.drewN q) w.heap.size [] (Nat.le_refl _) (by simp)
  have HB1 : Hid (∀ q, Bs ((w.drewN q).alloc (.cells #[] 5)) (some ⟨b, off + 4, none⟩) n ys) := fun q => ht.keep (HW.out q) (Nat.le_refl _)
  have HB2 : Hid (n = 0 → ∀ q, Bs ((w.drewN q).alloc (.cells #[] 5)) (some ⟨b, off, none⟩) n ys) := by
    intro h0 q
    subst h0
    have hy0 : ys = [] := List.eq_nil_of_length_eq_zero hy
    subst hy0
    exact ht.any.keep (HW.out q) (Nat.le_refl _)
  obtain ⟨len, hlen⟩ : ∃ len, len = 4 + n := ⟨_, rfl⟩
  have hn4 : len - 4 = n := by omega
  rw [← hn4] at H1 H2 HB1 HB2
  have i0 : ¬ (len : Int) < 4 := by omega
  have i1 : (0 : Int) < (len : Int) := by omega
  have i2 : (1 : Int) < (len : Int) := by omega
  have i3 : (2 : Int) < (len : Int) := by omega
  have i4 : (3 : Int) < (len : Int) := by omega
  rw [← hlen] at hc ⊢
  have l1 : 4 ≤ len := by omega
  have l2 : len ≤ 10004 := by omega
  have HL := hide hlen
  have HT := hide ht
  have HY := hide hy
  clear ht hs h hm hlen hn4 hy
  go_enter Try.func9, Try.ntmps9
  go_wp2_with fail
  go_quiet (fail)
  go_wp2_with fail
  · refine (H2.out nq _ (by omega)).mono ?_
    rintro e w' ⟨rfl, hw⟩
    obtain rfl := hw.symm
    go_wp2_with (at_builtin; refine wpList_append_bytes _ rfl (.tmp 37) (.tmp 38) rfl _ _ [] rfl (HO.out nq) _ _ _ ys rfl (HB2.out (by omega) nq) (fun e => by cases e) (by show 0 + (len - 4) ≤ 1000000; omega) (HW.out nq).size ?_)
    intro v' w' ho hb
    go_wp2
    go_ret2
    exact ⟨_, rfl, ho, (HW.out nq).trans hb⟩
  · refine (H1.out nq _).mono ?_
    rintro e w' ⟨rfl, hw⟩
    obtain rfl := hw.symm
    go_wp2_with (at_builtin; refine wpList_append_bytes _ rfl (.tmp 37) (.tmp 38) rfl _ _ [] rfl (HO.out nq) _ _ _ ys rfl (HB1.out nq) (fun e => by cases e) (by show 0 + (len - 4) ≤ 1000000; omega) (HW.out nq).size ?_)
    intro v' w' ho hb
    go_wp2
    go_ret2
    exact ⟨_, rfl, ho, (HW.out nq).trans hb⟩

end Go.Proofs.Ytjoapceffgibcaa
