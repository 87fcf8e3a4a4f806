/-
  Layer 8, the landed leaf: closures, slices.IndexFunc over numbers, slots and bytes; freePart, isNoughts.
-/
import Derived.Test.YtgieigpbbkeonaaLgE
namespace Go.Proofs.Ytgieigpbbkeonaa
open Go.RowKit

/-- What freePart's closure has. -/
def lvV (b : Nat) : Value := .func (.func 65) #[] #[.pointer (some ⟨b, 0, none⟩)]

/-- It lives no more. -/
def outB (live : List Int) (x : Int) : Bool := !(live.contains x)

set_option maxHeartbeats 4000000 in
theorem lives_any {D : Nat → Prop} (x : Int) (b : Nat) (r : Sl) (live : List Int) (w : World) (hb : w.cell? ⟨b, 0, none⟩ = some r.val) (hr : Gi D w r live) : Calls Try.prog 65 #[.int .i64 x, .pointer (some ⟨b, 0, none⟩)] w fun e w' => e = .returned (.bool (outB live x)) ∧ w' = w := by
  have HC := hide (contains_any w r live hr x)
  unfold outB
  obtain ⟨c, hc⟩ : ∃ c, c = live.contains x := ⟨_, rfl⟩
  rw [← hc] at HC
  rw [← hc]
  clear hc hr
  obtain ⟨ra, rl, rc⟩ := r
  unfold Sl.val at *
  simp only at *
  go_enter Try.func65, Try.ntmps65
  go_wp2_with fail
  refine HC.out.mono ?_
  rintro e w1 ⟨rfl, hw⟩
  obtain rfl := hw.symm
  go_wp2_with fail
  go_ret
  exact ⟨rfl, rfl⟩

set_option maxHeartbeats 4000000 in
theorem idxF_any {D : Nat → Prop} (w : World) (v : Sl) (t : List Int) (h : Gi D w v t) (b : Nat) (r : Sl) (live : List Int) (hb : w.cell? ⟨b, 0, none⟩ = some r.val) (hr : Gi D w r live) :
    Calls Try.prog 64 #[v.val, lvV b] w fun e w' => e = .returned (.int .i64 (ixI (outB live) t 0)) ∧ w' = w := by
  obtain ⟨a, len, cap⟩ := v
  have HG := hide h
  have hl : t.length = len := h.len
  have HL := hide hl
  have hbig : len ≤ 1000000 := h.big
  have HC : Hid (∀ x, Calls Try.prog 65 #[.int .i64 x, .pointer (some ⟨b, 0, none⟩)] w fun e w' => e = .returned (.bool (outB live x)) ∧ w' = w) := fun x => lives_any x b r live w hb hr
  have HI : Hid (ixI (outB live) t 0 = ixI (outB live) (t.drop 0) 0) := rfl
  clear h hl hb hr
  unfold Sl.val lvV
  simp only
  go_enter Try.func64, Try.ntmps64
  go_wp2_with fail
  go_loopw [8] (fun iv wr => wr = w ∧ ∃ i : Nat, i ≤ len ∧ iv = .int .i64 (i : Nat) ∧ Hid (ixI (outB live) t 0 = ixI (outB live) (t.drop i) i)) (fun iv _ => len - (intOf iv).toNat)
  case atStart => exact ⟨rfl, 0, Nat.zero_le _, rfl, HI⟩
  case round =>
    obtain ⟨rfl, i, hi, rfl, hix⟩ := hrel
    rcases Nat.lt_or_ge i len with hlt | hge
    · have i1 : ((i : Nat) : Int) < ((len : Nat) : Int) := by omega
      obtain ⟨bb, oo, ha, c0⟩ := HG.out.cell i hlt
      replace ha : a = some ⟨bb, oo, none⟩ := ha
      subst ha
      obtain ⟨x, hx⟩ : ∃ x, x = t.getD i 0 := ⟨_, rfl⟩
      rw [← hx] at c0
      have HX := hide hx
      have HCL := hide (HC.out x)
      clear hx
      cases hon : outB live x with
      | true =>
        rw [hon] at HCL
        have HE : Hid (ixI (outB live) t 0 = ((i : Nat) : Int)) := hix.out.trans (ixI_hit (by rw [HL.out]; exact hlt) (by rw [← HX.out]; exact hon))
        clear hix hon HX
        go_wp2_with fail
        refine HCL.out.mono ?_
        rintro e w1 ⟨rfl, hw⟩
        obtain rfl := hw.symm
        go_wp2_with fail
        go_ret
        exact ⟨by rw [HE.out]; rfl, rfl⟩
      | false =>
        rw [hon] at HCL
        have HE : Hid (ixI (outB live) t 0 = ixI (outB live) (t.drop (i + 1)) (i + 1)) := hix.out.trans (ixI_miss (by rw [HL.out]; exact hlt) (by rw [← HX.out]; exact hon))
        clear hix hon HX
        go_wp2_with fail
        refine HCL.out.mono ?_
        rintro e w1 ⟨rfl, hw⟩
        obtain rfl := hw.symm
        go_wp2_with fail
        go_roundw
        case rel => exact ⟨trivial, i + 1, by omega, by go_num, HE⟩
        case measure => simp only [intOf]; omega
    · have HE : Hid (ixI (outB live) t 0 = -1) := hix.out.trans (ixI_end (by rw [HL.out]; exact hge))
      have i1 : ¬ ((i : Nat) : Int) < ((len : Nat) : Int) := by omega
      clear hix
      go_wp2_with fail
      go_ret
      exact ⟨by rw [HE.out]; rfl, rfl⟩

theorem zero_flip : (fun x : Int => (0 : Int) == x) = fun x => x == 0 := by
  funext x
  exact BEq.comm

set_option maxHeartbeats 4000000 in
theorem freePart_any {D : Nat → Prop} (w : World) (u : Sl) (t : List Int) (hi : Gi D w u t) (r : Sl) (live : List Int) (hr : Gi D w r live) :
    Calls Try.prog 41 #[u.val, r.val] w fun e w' => e = .returned (.int .i64 (freeI t live)) ∧ Below w.heap.size w w' := by
  have hmf : ∀ (fn : Fn) (first cap : Array Value) (w : World), (Instr.makeFunc fn first cap).run Try.prog w = .ok (.func fn first cap) w := fun _ _ _ _ => rfl
  have hA := below_alloc w (.cells #[r.val] 22)
  have HX := hide (idx_any _ u t (hi.below hA (Nat.le_refl _)) 0)
  rw [zero_flip] at HX
  have hcell : (w.alloc (.cells #[r.val] 22)).cell? ⟨w.heap.size, 0, none⟩ = some r.val := by
    have hb := heap_alloc_new w (.cells #[r.val] 22)
    rw [cell_of_row _ _ _ _ _ _ hb]
    rfl
  have HF := hide (idxF_any _ u t (hi.below hA (Nat.le_refl _)) w.heap.size r live hcell (hr.below hA (Nat.le_refl _)))
  have HA := hide hA
  have HFE : Hid (freeI t live = if 0 ≤ ixI (fun x => x == 0) t 0 then ixI (fun x => x == 0) t 0 else ixI (outB live) t 0) := rfl
  obtain ⟨z, hz⟩ : ∃ z, z = ixI (fun x => x == 0) t 0 := ⟨_, rfl⟩
  rw [← hz] at HX HFE
  obtain ⟨y, hy⟩ : ∃ y, y = ixI (outB live) t 0 := ⟨_, rfl⟩
  rw [← hy] at HF HFE
  clear hz hy hi hr hA hcell
  obtain ⟨ua, ul, uc⟩ := u
  obtain ⟨ra, rl, rc⟩ := r
  unfold lvV Sl.val at *
  simp only at *
  by_cases h0 : 0 ≤ z
  · have HE : Hid (freeI t live = z) := HFE.out.trans (if_pos h0)
    clear HFE
    go_enter Try.func41, Try.ntmps41
    go_wp2_with fail
    refine HX.out.mono ?_
    rintro e w1 ⟨rfl, hw⟩
    obtain rfl := hw
    go_wp2_with fail
    go_ret
    exact ⟨by rw [HE.out]; rfl, HA.out⟩
  · have HE : Hid (freeI t live = y) := HFE.out.trans (if_neg h0)
    have h1 : z < 0 := by omega
    clear HFE h0
    go_enter Try.func41, Try.ntmps41
    go_wp2_with fail
    refine HX.out.mono ?_
    rintro e w1 ⟨rfl, hw⟩
    obtain rfl := hw
    go_wp2_with fail
    refine HF.out.mono ?_
    rintro e w1 ⟨rfl, hw⟩
    obtain rfl := hw
    go_wp2_with fail
    go_ret
    exact ⟨by rw [HE.out]; rfl, HA.out⟩

/-- Which slot is the first one that is empty; -1: none. -/
def ixE (s : List (List Nat)) : Int := if atE s = s.length then -1 else ((atE s : Nat) : Int)

set_option maxHeartbeats 4000000 in
theorem isE_any (w : World) (x : Sl) (hx : x.len ≤ 1000000) : Calls Try.prog 47 #[x.val] w fun e w' => e = .returned (.bool (decide (x.len = 0))) ∧ w' = w := by
  obtain ⟨a, n, c⟩ := x
  unfold Sl.val
  simp only
  by_cases h : n = 0
  · subst h
    go_enter Try.func47, Try.ntmps47
    go_wp2_with fail
    go_ret
    exact ⟨rfl, rfl⟩
  · have i1 : ¬ ((n : Nat) : Int) = 0 := by omega
    have i2 : (((n : Nat) : Int) == 0) = false := by simp [h]
    rw [decide_eq_false h]
    go_enter Try.func47, Try.ntmps47
    go_wp2_with fail
    go_ret
    exact ⟨by simp, rfl⟩

set_option maxHeartbeats 4000000 in
theorem idxE_any {D : Nat → Prop} (w : World) (v : Sl) (l : List Sb) (h : Gb D w v l) :
    Calls Try.prog 46 #[v.val, .func (.func 47) #[] #[]] w fun e w' => e = .returned (.int .i64 (ixE (bss l))) ∧ w' = w := by
  obtain ⟨a, len, cap⟩ := v
  have HG := hide h
  have HL : Hid ((bss l).length = len) := by show _ = _; rw [bss_length]; exact h.len
  have hbig : len ≤ 1000 := h.big
  clear h
  unfold Sl.val
  simp only
  go_enter Try.func46, Try.ntmps46
  go_wp2_with fail
  go_loopw [8] (fun iv wr => wr = w ∧ ∃ i : Nat, i ≤ len ∧ iv = .int .i64 (i : Nat) ∧ Hid (∀ j, j < i → (sl (bss l) j).length ≠ 0)) (fun iv _ => len - (intOf iv).toNat)
  case atStart => exact ⟨rfl, 0, Nat.zero_le _, rfl, fun _ h => absurd h (Nat.not_lt_zero _)⟩
  case round =>
    obtain ⟨rfl, i, hi, rfl, hix⟩ := hrel
    rcases Nat.lt_or_ge i len with hlt | hge
    · have i1 : ((i : Nat) : Int) < ((len : Nat) : Int) := by omega
      obtain ⟨bb, oo, ha, c0⟩ := HG.out.cell i hlt
      replace ha : a = some ⟨bb, oo, none⟩ := ha
      subst ha
      obtain ⟨_, hsl, h1000⟩ := HG.out.at hlt
      obtain ⟨⟨sa, sn, sc⟩, hsb⟩ : ∃ s, s = (l.getD i Sb.zero).s := ⟨_, rfl⟩
      rw [← hsb] at c0 hsl
      have HCL := hide (isE_any wr ⟨sa, sn, sc⟩ (by show sn ≤ _; have : sn = _ := hsl; omega))
      unfold Sl.val at c0 HCL
      simp only at c0 hsl HCL
      have HS := hide hsl
      clear hsb hsl h1000
      by_cases h0 : sn = 0
      · rw [decide_eq_true h0] at HCL
        have HE : Hid (ixE (bss l) = ((i : Nat) : Int)) := by
          have e := atE_is (s := bss l) (n := i) hix.out (.inr ⟨by rw [HL.out]; exact hlt, by rw [← HS.out]; exact h0⟩)
          show _ = _
          unfold ixE
          rw [e, if_neg (by rw [HL.out]; omega)]
        clear hix HS h0
        go_wp2_with fail
        refine HCL.out.mono ?_
        rintro e w1 ⟨rfl, hw⟩
        obtain rfl := hw.symm
        go_wp2_with fail
        go_ret
        exact ⟨by rw [HE.out]; rfl, rfl⟩
      · rw [decide_eq_false h0] at HCL
        have HE : Hid (∀ j, j < i + 1 → (sl (bss l) j).length ≠ 0) := by
          intro j hj
          by_cases e : j = i
          · rw [e, ← HS.out]; exact h0
          · exact hix.out j (by omega)
        clear hix HS h0
        go_wp2_with fail
        refine HCL.out.mono ?_
        rintro e w1 ⟨rfl, hw⟩
        obtain rfl := hw.symm
        go_wp2_with fail
        go_roundw
        case rel => exact ⟨trivial, i + 1, by omega, by go_num, HE⟩
        case measure => simp only [intOf]; omega
    · have i1 : ¬ ((i : Nat) : Int) < ((len : Nat) : Int) := by omega
      have HE : Hid (ixE (bss l) = -1) := by
        have e := atE_is (s := bss l) (n := (bss l).length) (fun j hj => hix.out j (by rw [HL.out] at hj; omega)) (.inl rfl)
        show _ = _
        unfold ixE
        rw [if_pos e]
      clear hix
      go_wp2_with fail
      go_ret
      exact ⟨by rw [HE.out]; rfl, rfl⟩

/-- Are there noughts alone? -/
def nul (xs : List Nat) : Bool := xs.all fun x => x == 0
theorem nul_no {xs : List Nat} {i : Nat} (h : i < xs.length) (hx : xs.getD i 0 ≠ 0) : nul xs = false := by
  unfold nul
  rw [List.all_eq_false]
  refine ⟨xs.getD i 0, ?_, by simpa using hx⟩
  simp [List.getD, h]
theorem nul_yes {xs : List Nat} (h : ∀ i, i < xs.length → xs.getD i 0 = 0) : nul xs = true := by
  unfold nul
  rw [List.all_eq_true]
  intro x hx
  obtain ⟨i, hi, e⟩ := List.mem_iff_getElem.1 hx
  have := h i hi
  simp [List.getD, hi] at this
  simp [← e, this]

set_option maxHeartbeats 4000000 in
theorem isN_any (w : World) (x : Nat) : Calls Try.prog 52 #[.int .u8 ((x : Nat) : Int)] w fun e w' => e = .returned (.bool (!(x == 0))) ∧ w' = w := by
  by_cases h : x = 0
  · subst h
    go_enter Try.func52, Try.ntmps52
    go_wp2_with fail
    go_ret
    exact ⟨rfl, rfl⟩
  · have i1 : ¬ ((x : Nat) : Int) = 0 := by omega
    have i2 : (x == 0) = false := by simp [h]
    rw [i2]
    go_enter Try.func52, Try.ntmps52
    go_wp2_with fail
    go_ret
    exact ⟨by simp [h], rfl⟩

set_option maxHeartbeats 4000000 in
theorem idxN_any (w : World) (a : Option Addr) (len cap : Nat) (xs : List Nat) (h : Bs w a len xs) (hbig : len ≤ 1000000) :
    Calls Try.prog 72 #[.slice a len cap, .func (.func 52) #[] #[]] w fun e w' => (∃ z, e = .returned (.int .i64 z) ∧ decide (0 ≤ z) = !(nul xs)) ∧ w' = w := by
  have HG := hide h
  have HL := hide h.1
  clear h
  go_enter Try.func72, Try.ntmps72
  go_wp2_with fail
  go_loopw [8] (fun iv wr => wr = w ∧ ∃ i : Nat, i ≤ len ∧ iv = .int .i64 (i : Nat) ∧ Hid (∀ j, j < i → xs.getD j 0 = 0)) (fun iv _ => len - (intOf iv).toNat)
  case atStart => exact ⟨rfl, 0, Nat.zero_le _, rfl, fun _ h => absurd h (Nat.not_lt_zero _)⟩
  case round =>
    obtain ⟨rfl, i, hi, rfl, hix⟩ := hrel
    rcases Nat.lt_or_ge i len with hlt | hge
    · have i1 : ((i : Nat) : Int) < ((len : Nat) : Int) := by omega
      obtain ⟨bb, oo, ha, c0⟩ := HG.out.2.2 i hlt
      subst ha
      obtain ⟨x, hx⟩ : ∃ x, x = xs.getD i 0 := ⟨_, rfl⟩
      rw [← hx] at c0
      have HX := hide hx
      have HCL := hide (isN_any wr x)
      clear hx
      by_cases h0 : x = 0
      · rw [h0] at HCL c0
        have HE : Hid (∀ j, j < i + 1 → xs.getD j 0 = 0) := by
          intro j hj
          by_cases e : j = i
          · rw [e, ← HX.out]; exact h0
          · exact hix.out j (by omega)
        clear hix HX h0
        go_wp2_with fail
        refine HCL.out.mono ?_
        rintro e w1 ⟨rfl, hw⟩
        obtain rfl := hw.symm
        go_wp2_with fail
        go_roundw
        case rel => exact ⟨trivial, i + 1, by omega, by go_num, HE⟩
        case measure => simp only [intOf]; omega
      · have hb : (!(x == 0)) = true := by simp [h0]
        rw [hb] at HCL
        have HE : Hid (decide (0 ≤ ((i : Nat) : Int)) = !(nul xs)) := by
          show _ = _
          rw [nul_no (i := i) (by rw [HL.out]; exact hlt) (by rw [← HX.out]; exact h0)]
          simp
        clear hix HX h0 hb
        go_wp2_with fail
        refine HCL.out.mono ?_
        rintro e w1 ⟨rfl, hw⟩
        obtain rfl := hw.symm
        go_wp2_with fail
        go_ret
        exact ⟨⟨_, rfl, HE.out⟩, rfl⟩
    · have i1 : ¬ ((i : Nat) : Int) < ((len : Nat) : Int) := by omega
      have HE : Hid (decide (0 ≤ (-1 : Int)) = !(nul xs)) := by
        show _ = _
        rw [nul_yes (fun j hj => hix.out j (by rw [HL.out] at hj; omega))]
        rfl
      clear hix
      go_wp2_with fail
      go_ret
      exact ⟨⟨_, rfl, HE.out⟩, rfl⟩

set_option maxHeartbeats 4000000 in
theorem noughts_any (w : World) (a : Option Addr) (len cap : Nat) (xs : List Nat) (h : Bs w a len xs) (hbig : len ≤ 1000000) :
    Calls Try.prog 31 #[.slice a len cap] w fun e w' => e = .returned (.bool (nul xs)) ∧ w' = w := by
  have HX := hide (idxN_any w a len cap xs h hbig)
  obtain ⟨b, hb⟩ : ∃ b, b = nul xs := ⟨_, rfl⟩
  rw [← hb] at HX
  rw [← hb]
  clear h hb
  have HC : Hid (Calls Try.prog 51 #[.slice a len cap, .func (.func 52) #[] #[]] w fun e w' => e = .returned (.bool (!b)) ∧ w' = w) := by
    show Calls _ _ _ _ _
    go_enter Try.func51, Try.ntmps51
    go_wp2_with fail
    refine HX.out.mono ?_
    rintro e w1 ⟨⟨z, rfl, hz⟩, hw⟩
    obtain rfl := hw.symm
    have HZ := hide hz
    clear hz
    go_wp2_with fail
    go_ret
    exact ⟨by rw [← HZ.out]; rfl, rfl⟩
  clear HX
  go_enter Try.func31, Try.ntmps31
  go_wp2_with fail
  refine HC.out.mono ?_
  rintro e w1 ⟨rfl, hw⟩
  obtain rfl := hw.symm
  cases b with
  | true =>
    go_wp2_with fail
    go_ret
    exact ⟨rfl, rfl⟩
  | false =>
    go_wp2_with fail
    go_ret
    exact ⟨rfl, rfl⟩
end Go.Proofs.Ytgieigpbbkeonaa
