/-
  The law of which items any bytes are: its walk.
-/
import Derived.Test.YtkgdnmffponnjaaPackJ
import Derived.Test.YtkgdnmffponnjaaPackM
namespace Go.Proofs.Ytkgdnmffponnjaa
open Go.RowKit

theorem ks_of_row {w : World} {a : Option Addr} {len cap : Nat} {zs : List Int} (h : IsRow .i64 w a len cap zs) : ∃ ks, Ks w a len ks := by
  rcases h with ⟨rfl, rfl, rfl, rfl⟩ | ⟨x, rfl, hl, hm, hz, hcell, hwf⟩
  · exact ⟨[], rfl, fun j hj => by omega⟩
  · refine ⟨zs.take len, by simp; omega, fun i hi => ?_⟩
    have hc := hcell i (by omega)
    obtain ⟨b, off, spot⟩ := x
    have hspot : spot = none := by
      have := World.cell?_spot (hcell 0 (by omega))
      simpa [Addr.add] using this
    subst hspot
    refine ⟨b, off, rfl, ?_⟩
    rw [Addr.add_lit] at hc
    rw [hc]
    have hi' : i < zs.length := by omega
    simp [List.getD, hi, hi']

theorem tks_len (xs : List Nat) : ∀ (ks : List Int) (l : List It) (q : Nat) (r : List It × Nat), tks xs ks l q = some r → r.1.length = l.length + ks.length
  | [], l, q, r, h => by
    simp only [tks, Option.some.injEq] at h
    rw [← h]
    simp
  | k :: ks, l, q, r, h => by
    simp only [tks] at h
    split at h
    · cases h
    · have := tks_len xs ks _ _ r h
      rw [this]
      simp
      omega

theorem takeOut_len (xs : List Nat) (ks : List Int) : (takeOut xs ks).1.length ≤ ks.length := by
  unfold takeOut
  split
  · split
    · simp
    · rename_i l q h
      have := tks_len xs ks [] 0 _ h
      simp at this
      simp
      omega
  · simp

set_option maxHeartbeats 2000000 in
theorem packTakes_big (a0 : Option Addr) (len0 cap0 : Nat) (a1 : Option Addr) (len1 cap1 : Nat) (w : World) (h0 : len0 ≤ 9223372036854775807) (h1 : len1 ≤ 9223372036854775807) (hb : 3000 < len0 ∨ 100 < len1) :
    Calls Try.prog 4 #[.slice a0 len0 cap0, .slice a1 len1 cap1] w fun e w' => e = .returned (.bool true) ∧ Below w.heap.size w w' := by
  have HA := hide (awake_any w)
  by_cases hx : 3000 < len0
  · have i1 : (3000 : Int) < (len0 : Int) := by omega
    go_enter Try.func4, Try.ntmps4
    go_wp2_with fail
    refine HA.out.mono ?_
    rintro e w' ⟨rfl, hbw⟩
    go_wp2_with fail
    go_ret
    exact ⟨rfl, hbw⟩
  · have i1 : ¬ (3000 : Int) < (len0 : Int) := by omega
    have i2 : (100 : Int) < (len1 : Int) := by omega
    go_enter Try.func4, Try.ntmps4
    go_wp2_with fail
    refine HA.out.mono ?_
    rintro e w' ⟨rfl, hbw⟩
    go_wp2_with fail
    go_ret
    exact ⟨rfl, hbw⟩

set_option maxHeartbeats 2000000 in
theorem packTakes_walk (a0 : Option Addr) (len0 cap0 : Nat) (xs : List Nat) (a1 : Option Addr) (len1 cap1 : Nat) (ks : List Int) (w : World) (hc : Came w a0 len0 cap0 xs) (hk : Ks w a1 len1 ks) (h0 : len0 ≤ 3000) (h1 : len1 ≤ 100) :
    Calls Try.prog 4 #[.slice a0 len0 cap0, .slice a1 len1 cap1] w fun e w' => e = .returned (.bool true) ∧ Below w.heap.size w w' := by
  have HO := hide (own_new w)
  have HW := hide (below_alloc w (.cells #[] 5))
  have HB := hide (hc.bs.keep (below_alloc w (.cells #[] 5)) (Nat.le_refl _))
  have HC := hide hc
  have HK := hide hk
  have HX : Hid (Bytes xs) := hc.bs.2.1
  have HXL : Hid (xs.length = len0) := hc.bs.1
  have HN : Hid (a0 = none → cap0 = 0) := hc.nil
  have HLL : Hid (([] : List Nat).length + len0 ≤ 1000000) := by show _ ≤ _; simp; omega
  have i1 : ¬ (3000 : Int) < (len0 : Int) := by omega
  have i2 : ¬ (100 : Int) < (len1 : Int) := by omega
  clear hc hk
  go_enter Try.func4, Try.ntmps4
  go_wp2_with (at_builtin; refine wpList_append_bytes _ rfl (.tmp 21) (.tmp 22) rfl w.heap.size _ [] rfl HO.out _ _ _ xs rfl HB.out HN.out HLL.out HW.out.size ?_)
  intro v1 w1 ho1 hb1
  obtain ⟨a2, c2, rfl, hbs2, hn2⟩ := ho1.bs HX.out
  have hle2 : xs.length ≤ c2 := by
    rcases ho1.2 with ⟨hv, h0'⟩ | ⟨g, cp, cur, hv, _, _, hle, _⟩
    · rw [h0']; exact Nat.zero_le _
    · simp only [Value.slice.injEq] at hv
      rw [hv.2.2]; exact hle
  have HW1 := hide (HW.out.trans hb1)
  have HT1 := hide (take_any a2 xs.length c2 xs a1 len1 cap1 ks w1 ⟨hbs2, hn2, hle2, by rw [HXL.out]; omega⟩ (HK.out.keep HW1.out (Nat.le_refl _)) (by rw [HXL.out]; omega) (by omega))
  clear ho1 hb1 hbs2 hn2 hle2
  go_wp2_with fail
  refine HT1.out.mono ?_
  rintro e w2 ⟨v2, rfl, hb2, ho2, hf2⟩
  have HW2 := hide (HW1.out.trans (hb2.mono HW1.out.size))
  have HT2 := hide (refTake_any a0 len0 cap0 xs a1 len1 cap1 ks w2 ⟨HC.out.bs.keep HW2.out (Nat.le_refl _), HC.out.nil, HC.out.le, HC.out.big⟩ (HK.out.keep HW2.out (Nat.le_refl _)) (by omega) (by omega))
  have HO2 := hide ho2
  have HF := hide hf2
  clear hb2 ho2 hf2
  go_wp2_with fail
  refine HT2.out.mono ?_
  rintro e w3 ⟨v3, rfl, hb3, ho3, _⟩
  have HW3 := hide (HW2.out.trans (hb3.mono HW2.out.size))
  obtain ⟨p2, c2', rfl, is2, _⟩ := (HO2.out.keep hb3 (Nat.le_refl _)).is HF.out
  obtain ⟨p3, c3', rfl, is3, _⟩ := ho3.is HF.out
  have hlen : (takeOut xs ks).1.length ≤ 1000000 := Nat.le_trans (takeOut_len xs ks) (by rw [HK.out.1]; omega)
  have HL := hide (refList_any p2 p3 _ c2' c3' _ _ w3 is2 is3 hlen (fun j _ => same_self _))
  clear hb3 ho3 is2 is3 hlen HT1 HT2 HO2
  go_wp2_with fail
  refine HL.out.mono ?_
  rintro e w4 ⟨rfl, hb4⟩
  have HW4 := hide (HW3.out.trans (hb4.mono HW3.out.size))
  have HA := hide (awake_any w4)
  clear hb4
  go_wp2_with fail
  refine HA.out.mono ?_
  rintro e w5 ⟨rfl, hb5⟩
  have HW5 := hide (HW4.out.trans (hb5.mono HW4.out.size))
  clear hb5
  go_wp2_with fail
  go_ret
  exact ⟨by simp, HW5.out⟩

end Go.Proofs.Ytkgdnmffponnjaa
