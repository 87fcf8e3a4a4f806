/-
  The walk of the law on sums: bytes too many; and all others, through every call of the law's own text.
-/
import Derived.Test.YtjoapceffgibcaaRegs
namespace Go.Proofs.Ytjoapceffgibcaa.tallySums
open Go.RowKit

set_option maxHeartbeats 400000 in
theorem walk_big (a : Option Addr) (len cap : Nat) (v : Value) (w : World) (hl : 3000 < len) (hbig : len ≤ 9223372036854775807) :
    Calls Try.prog 3 #[.slice a len cap, v] w fun e w' => e = .returned (.bool true) ∧ Below w.heap.size w w' := by
  have hi : (3000 : Int) < (len : Int) := by omega
  have H7 := hide (awake_any w)
  go_enter Try.func3, Try.ntmps3
  go_wp2_with fail
  refine H7.out.mono ?_
  rintro e w' ⟨rfl, hb⟩
  go_wp2_with fail
  go_ret
  exact ⟨rfl, hb⟩

theorem sealed_four (xs : List Nat) : Sealed (fourB (Ta.sum xs) ++ xs) := by
  unfold Sealed
  show fourB (Ta.sum xs) ++ xs = _
  rfl

set_option maxHeartbeats 2000000 in
theorem walk_small (a : Option Addr) (len cap c : Nat) (xs : List Nat) (w : World) (h : Came w a len cap xs) (hl : len ≤ 3000) (hc : c < 65536) :
    Calls Try.prog 3 #[.slice a len cap, .int .u16 (c : Nat)] w fun e w' => e = .returned (.bool true) ∧ Below w.heap.size w w' := by
  have i1 : ¬ (3000 : Int) < (len : Int) := by omega
  have hle : len ≤ cap := h.le
  have HN := hide h.nil
  have HO := hide (own_new w)
  have HW := hide (below_alloc w (.cells #[] 5))
  have HBS := hide h.bs
  have HB := hide (h.bs.keep HW.out (Nat.le_refl _))
  clear h
  go_enter Try.func3, Try.ntmps3
  go_wp2_with (at_builtin; refine wpList_append_bytes _ rfl (.tmp 19) (.tmp 20) rfl _ _ [] rfl HO.out _ len cap xs rfl HB.out HN.out (by show 0 + len ≤ 1000000; omega) HW.out.size ?_)
  intro v1 w1 ho hb
  have HW1 := hide (HW.out.trans hb)
  obtain ⟨a1, cap1, rfl, hb1, hn1⟩ := Owns.bs (xs := xs) ho HBS.out.2.1
  have hxl := HBS.out.1
  rw [hxl] at hb1 ⊢
  have H8 := hide (seal_any a1 len cap1 xs w1 hb1 hn1 hl)
  clear ho hb hb1 hn1
  go_wp2_with fail
  refine H8.out.mono ?_
  rintro e w2 ⟨v2, rfl, ho2, hb2⟩
  have HW2 := hide (HW1.out.trans (hb2.mono HW1.out.size))
  have hfl : (fourB (Ta.sum xs) ++ xs).length = 4 + len := by rw [List.length_append, hxl]; rfl
  obtain ⟨g2, cap2, rfl, _, _, hle2⟩ := ho2.pos (by omega)
  have hbs2 := (ho2.row (sealed_bytes HBS.out.2.1)).2
  rw [hfl] at hbs2 hle2 ⊢
  have HS2 := hide hbs2
  have H9 := hide (open_yes g2 0 (4 + len) cap2 _ w2 hbs2 (by omega) hle2 (by omega) (sealed_four xs))
  clear ho2 hb2 hbs2 hle2 hfl
  go_wp2_with fail
  refine H9.out.mono ?_
  rintro e w3 ⟨v3, rfl, ho3, hb3⟩
  have HW3 := hide (HW2.out.trans (hb3.mono HW2.out.size))
  have HS3 := hide (HS2.out.keep hb3 (Nat.le_refl _))
  obtain ⟨a3, cap3, rfl, hbs3, _⟩ := Owns.bs (xs := xs) ho3 HBS.out.2.1
  rw [hxl] at hbs3 ⊢
  have HX3 := hide hbs3
  have HB3 := hide (HBS.out.keep HW3.out (Nat.le_refl _))
  clear ho3 hb3 hbs3 hxl
  go_wp2_with fail
  refine Pl.region_is (ops := Pl.find 6 ((Try.f3.body).getD .skip)) (by kernel_rfl) ?_
  refine sums6 a (some ⟨g2, 0, none⟩) a3 len cap cap2 cap3 (c % (len + 1)) xs w3 hl (by have := Nat.mod_lt c (show 0 < len + 1 by omega); omega) hle HN.out HB3.out HS3.out HX3.out (by rfl) (by rfl) (by rfl) (by rfl) (by rfl) (by rfl) (by rfl) ?_
  intro A' w4 hd hv hb4
  go_wp2_with fail
  refine bodyPost_ret (results_tmp rfl _ _ _) hd ?_
  rw [hv]
  exact ⟨rfl, HW3.out.trans (hb4.mono HW3.out.size)⟩
end Go.Proofs.Ytjoapceffgibcaa.tallySums
