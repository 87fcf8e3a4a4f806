/-
  What the document's own small functions of layer 3 hand back, call by call: which items may be, which are alike, and an item's bytes.
-/
import Derived.Test.YtdbgbldmjgonjaaNumA
import Derived.Test.YtdbgbldmjgonjaaBytes
namespace Go.Proofs.Ytdbgbldmjgonjaa
open Go.RowKit

/-- An item, as its four parts. -/
structure It where
  kind : Int
  n : Int
  x : Nat
  s : ByteArray

/-- An item as a value. -/
def It.val (i : It) : Value := .agg #[.int .i64 i.kind, .int .i64 i.n, .float .f64 i.x, .string i.s]

/-- Are items alike, numbers by their bits? -/
def It.same (a b : It) : Bool := a.kind == b.kind && a.n == b.n && a.s.toList == b.s.toList && a.x == b.x

theorem below_two (w : World) (o o' : Obj) : Below w.heap.size w ((w.alloc o).alloc o') :=
  (below_alloc w o).trans ((below_alloc (w.alloc o) o').mono (below_alloc w o).size)

/-- May an item be? -/
def It.may (i : It) : Bool :=
  if i.kind = 1 then decide (0 ≤ i.n) && decide (i.n < 256) && i.x == 0 && i.s.toList == []
  else if i.kind = 2 then decide (0 ≤ i.n) && decide (i.n < 65536) && i.x == 0 && i.s.toList == []
  else if i.kind = 3 then decide (0 ≤ i.n) && decide (i.n < 2147483648) && i.x == 0 && i.s.toList == []
  else if i.kind = 4 then i.n == 0 && i.s.toList == []
  else if i.kind = 5 then i.n == 0 && i.x == 0 && decide (i.s.size < 256)
  else false

set_option maxHeartbeats 4000000 in
theorem refMay_any (i : It) (w : World) : Calls Try.prog 65 #[i.val] w fun e w' => e = .returned (.bool i.may) ∧ Below w.heap.size w w' := by
  obtain ⟨k, n, x, s⟩ := i
  have H : Hid (∀ w, Calls Try.prog 83 #[.float .f64 x, .float .f64 0] w fun e w' => e = .returned (.bool (x == 0)) ∧ w' = w) := refSame_any x 0
  have HW : Hid (∀ o, Below w.heap.size w (w.alloc o)) := below_alloc w
  unfold It.val
  simp only
  go_enter Try.func65, Try.ntmps65
  go_wp2_with fail
  refine (H.out _).mono ?_
  rintro e w' ⟨rfl, hw⟩
  obtain rfl := hw.symm
  by_cases h1 : k = 1
  · subst h1
    go_wp2_with fail
    all_goals (go_ret; refine ⟨?_, HW.out _⟩; simp [It.may, *] <;> (intros; omega))
  by_cases h2 : k = 2
  · subst h2
    go_wp2_with fail
    all_goals (go_ret; refine ⟨?_, HW.out _⟩; simp [It.may, *] <;> (intros; omega))
  by_cases h3 : k = 3
  · subst h3
    go_wp2_with fail
    all_goals (go_ret; refine ⟨?_, HW.out _⟩; simp [It.may, *] <;> (intros; omega))
  by_cases h4 : k = 4
  · subst h4
    go_wp2_with fail
    all_goals (go_ret; refine ⟨?_, HW.out _⟩; simp [It.may, *] <;> (intros; omega))
  by_cases h5 : k = 5
  · subst h5
    go_wp2_with fail
    all_goals (go_ret; refine ⟨?_, HW.out _⟩; simp [It.may, *] <;> (intros; omega))
  have e1 : (k == 1) = false := beq_eq_false_iff_ne.2 h1
  have e2 : (k == 2) = false := beq_eq_false_iff_ne.2 h2
  have e3 : (k == 3) = false := beq_eq_false_iff_ne.2 h3
  have e4 : (k == 4) = false := beq_eq_false_iff_ne.2 h4
  have e5 : (k == 5) = false := beq_eq_false_iff_ne.2 h5
  go_wp2_with fail
  all_goals (go_ret; refine ⟨?_, HW.out _⟩; simp [It.may, *] <;> (intros; omega))

/-- A number's last n bytes, the highest first. -/
def bigB (u : Nat) : Nat → List Nat
  | 0 => []
  | j + 1 => u / 256 ^ j % 256 :: bigB u j

theorem bigB_length (u : Nat) : ∀ n, (bigB u n).length = n
  | 0 => rfl
  | n + 1 => by simp [bigB, bigB_length u n]

theorem bigB_bytes (u : Nat) : ∀ n, Bytes (bigB u n)
  | 0 => fun x h => by cases h
  | n + 1 => by
    intro x hx
    rcases List.mem_cons.1 hx with h | h
    · rw [h]
      exact Nat.mod_lt _ (by decide)
    · exact bigB_bytes u n x h

theorem big_step (u n j : Nat) (hj : j < n) : (List.replicate (n - j) 0 ++ bigB u j).set (n - 1 - j) (u / 256 ^ j % 256) = List.replicate (n - (j + 1)) 0 ++ bigB u (j + 1) := by
  have e : n - j = (n - 1 - j) + 1 := by omega
  have e2 : n - (j + 1) = n - 1 - j := by omega
  rw [e, e2, List.replicate_succ', List.append_assoc, List.set_append_right _ _ (by simp)]
  simp [bigB]

theorem big_word (u j : Nat) : ((u / 256 ^ j : Nat) : Int) / 256 = ((u / 256 ^ (j + 1) : Nat) : Int) := by
  rw [Nat.pow_succ, ← Nat.div_div_eq_div_mul]
  rfl

theorem made_zero (w : World) (base g n cap : Nat) (h : w.ownsRow base 5 1 (.slice (some ⟨g, 0, none⟩) n cap) n (madeCells #[Value.int .u8 0] n).toList) : Owns w base (.slice (some ⟨g, 0, none⟩) n cap) (List.replicate n 0) := by
  have e : (madeCells #[Value.int .u8 0] n).toList = vals (List.replicate n 0) := by
    rw [toList_madeCells_one]
    simp [vals]
  rw [e] at h
  unfold Owns
  rw [List.length_replicate]
  exact h

set_option maxRecDepth 100000 in
set_option maxHeartbeats 1000000 in
theorem big_any (u n : Nat) (hu : u < 18446744073709551616) (hn : n ≤ 8) (w : World) :
    Calls Try.prog 84 #[.int .u64 (u : Nat), .int .i64 (n : Nat)] w fun e w' => ∃ v, e = .returned v ∧ Owns w' w.heap.size v (bigB u n) ∧ Below w.heap.size w w' := by
  obtain ⟨i0, hi, hz0, hz1, hz2⟩ := info_parts info5
  have HU := hide hu
  clear hu
  go_enter Try.func84, Try.ntmps84
  go_wp2_with (at_make; refine wpList_make_full _ rfl _ _ 26 rfl w.heap.size 5 i0 (.int .u8 0) 1 Try.underlying26 hi hz0 hz1 _ _ _ _ n rfl rfl (by omega) (by omega) ?b2 ?b3 (Nat.le_refl _) ?_)
  case b2 => rw [hz2]; omega
  case b3 => unfold maxLen; omega
  intro w0 hown0 hgrow0
  have HO := hide (made_zero w0 w.heap.size w.heap.size n n hown0)
  have HW : Hid (Below w.heap.size w w0) := (Below.refl w.heap.size w).grown hgrow0 (Nat.le_refl _) (fun k hk => by cases hk)
  clear hown0 hgrow0
  go_wp2_with fail
  go_loopw [0, 6] (fun uu i wr => ∃ j : Nat, j ≤ n ∧ i = .int .i64 ((n : Int) - 1 - j) ∧ uu = .int .u64 (u / 256 ^ j : Nat) ∧ Hid (Owns wr w.heap.size (.slice (some ⟨w.heap.size, 0, none⟩) n n) (List.replicate (n - j) 0 ++ bigB u j)) ∧ Hid (Below w.heap.size w wr)) (fun _ i _ => (intOf i + 1).toNat)
  case atStart => exact ⟨0, by omega, by simp, by simp, hide (by simpa [bigB] using HO.out), HW⟩
  case round =>
    obtain ⟨j, hj, rfl, rfl, hown, hWr⟩ := hrel
    have hlen : (List.replicate (n - j) 0 ++ bigB u j).length = n := by simp [bigB_length]; omega
    rcases Nat.lt_or_ge j n with hlt | hge
    · obtain ⟨U, hU⟩ : ∃ U, U = u / 256 ^ j := ⟨_, rfl⟩
      have hUl : U < 18446744073709551616 := by rw [hU]; exact Nat.lt_of_le_of_lt (Nat.div_le_self _ _) HU.out
      have hB : Bytes (List.replicate (n - j) 0 ++ bigB u j) := by
        intro x hx
        rcases List.mem_append.1 hx with k | k
        · rw [(List.mem_replicate.1 k).2]
          decide
        · exact bigB_bytes u j x k
      have hrow := (hown.out.row hB).2
      rw [hlen] at hrow
      obtain ⟨c, hc⟩ : ∃ c, wr.cell? ⟨w.heap.size, n - 1 - j, none⟩ = some (.int .u8 c) := by
        have := hrow.at (n - 1 - j) (by omega)
        rw [Nat.zero_add] at this
        exact ⟨_, this⟩
      have hfz : wr.frozen? ⟨w.heap.size, n - 1 - j, none⟩ = false := by
        have ho2 := hown.out
        unfold Owns at ho2
        rw [hlen] at ho2
        exact ho2.frozenAt _
      have i1 : ¬ (n : Int) - 1 - (j : Int) < 0 := by omega
      have i2 : (0 : Int) ≤ (n : Int) - 1 - (j : Int) := by omega
      rw [← hU]
      have HUU := hide hU
      have HL := hide hlen
      clear hU hB hrow hlen
      go_wp2_with fail
      have HS : Hid (Owns (wr.setCell ⟨w.heap.size, n - 1 - j, none⟩ (.int .u8 ((U : Int) % 256))) w.heap.size (.slice (some ⟨w.heap.size, 0, none⟩) n n) (List.replicate (n - (j + 1)) 0 ++ bigB u (j + 1))) := by
        have := hown.out.set HL.out.symm (n - 1 - j) (U % 256)
        rw [HUU.out, big_step u n j hlt] at this
        rw [HUU.out]
        exact this
      have HB := hide (hWr.out.setCell (p := ⟨w.heap.size, n - 1 - j, none⟩) (Nat.le_refl _) (.int .u8 ((U : Int) % 256)))
      go_roundw
      case rel => exact ⟨j + 1, by omega, by congr 1; omega, by rw [HUU.out, big_word], HS, HB⟩
      case measure => simp only [intOf]; omega
    · have i1 : ¬ (0 : Int) ≤ (n : Int) - 1 - (j : Int) := by omega
      have hjn : j = n := by omega
      subst hjn
      have HO2 : Hid (Owns wr w.heap.size (.slice (some ⟨w.heap.size, 0, none⟩) j j) (bigB u j)) := by simpa using hown
      clear hown hlen
      go_wp2_with fail
      go_ret
      exact ⟨_, rfl, HO2.out, hWr.out⟩

/-- An item's bytes. -/
def It.bytes (i : It) : List Nat :=
  if i.kind = 1 then bigB i.n.toNat 1
  else if i.kind = 2 then bigB i.n.toNat 2
  else if i.kind = 3 then bigB i.n.toNat 4
  else if i.kind = 4 then bigB (Fl.val i.x) 8
  else i.s.size :: strB i.s

theorem Owns.lower {w : World} {b b' : Nat} {v : Value} {xs : List Nat} (h : Owns w b v xs) (hb : b' ≤ b) : Owns w b' v xs := by
  refine ⟨h.1, ?_⟩
  rcases h.2 with hn | ⟨g, cap, cur, hv, hbg, rest⟩
  · exact .inl hn
  · exact .inr ⟨g, cap, cur, hv, Nat.le_trans hb hbg, rest⟩

set_option maxHeartbeats 2000000 in
theorem refOne_any (i : It) (hm : i.may = true) (hx : i.x < 18446744073709551616) (w : World) :
    Calls Try.prog 66 #[i.val] w fun e w' => ∃ v, e = .returned v ∧ Owns w' w.heap.size v i.bytes ∧ Below w.heap.size w w' := by
  obtain ⟨k, n, x, s⟩ := i
  have HW : Hid (∀ o, Below w.heap.size w (w.alloc o)) := below_alloc w
  unfold It.val
  simp only at hx ⊢
  by_cases h1 : k = 1
  · subst h1
    simp [It.may] at hm
    obtain ⟨m, rfl⟩ := Int.eq_ofNat_of_zero_le hm.1.1.1
    have hml : m < 256 := by omega
    have HB : Hid (∀ o, Calls Try.prog 84 #[.int .u64 (m : Nat), .int .i64 1] (w.alloc o) fun e w' => ∃ v, e = .returned v ∧ Owns w' (w.alloc o).heap.size v (bigB m 1) ∧ Below (w.alloc o).heap.size (w.alloc o) w') :=
      fun o => big_any m 1 (by omega) (by omega) (w.alloc o)
    have HY : Hid (It.bytes ⟨1, (m : Nat), x, s⟩ = bigB m 1) := by simp [It.bytes, hide]
    clear hm hx
    go_enter Try.func66, Try.ntmps66
    go_wp2_with fail
    refine (HB.out _).mono ?_
    rintro e w' ⟨v, rfl, ho, hb⟩
    go_wp2_with fail
    go_ret
    exact ⟨v, rfl, by rw [HY.out]; exact ho.lower (by simp), (HW.out _).trans (hb.mono (HW.out _).size)⟩
  by_cases h2 : k = 2
  · subst h2
    simp [It.may] at hm
    obtain ⟨m, rfl⟩ := Int.eq_ofNat_of_zero_le hm.1.1.1
    have hml : m < 65536 := by omega
    have HB : Hid (∀ o, Calls Try.prog 84 #[.int .u64 (m : Nat), .int .i64 2] (w.alloc o) fun e w' => ∃ v, e = .returned v ∧ Owns w' (w.alloc o).heap.size v (bigB m 2) ∧ Below (w.alloc o).heap.size (w.alloc o) w') :=
      fun o => big_any m 2 (by omega) (by omega) (w.alloc o)
    have HY : Hid (It.bytes ⟨2, (m : Nat), x, s⟩ = bigB m 2) := by simp [It.bytes, hide]
    clear hm hx
    go_enter Try.func66, Try.ntmps66
    go_wp2_with fail
    refine (HB.out _).mono ?_
    rintro e w' ⟨v, rfl, ho, hb⟩
    go_wp2_with fail
    go_ret
    exact ⟨v, rfl, by rw [HY.out]; exact ho.lower (by simp), (HW.out _).trans (hb.mono (HW.out _).size)⟩
  by_cases h3 : k = 3
  · subst h3
    simp [It.may] at hm
    obtain ⟨m, rfl⟩ := Int.eq_ofNat_of_zero_le hm.1.1.1
    have hml : m < 2147483648 := by omega
    have HB : Hid (∀ o, Calls Try.prog 84 #[.int .u64 (m : Nat), .int .i64 4] (w.alloc o) fun e w' => ∃ v, e = .returned v ∧ Owns w' (w.alloc o).heap.size v (bigB m 4) ∧ Below (w.alloc o).heap.size (w.alloc o) w') :=
      fun o => big_any m 4 (by omega) (by omega) (w.alloc o)
    have HY : Hid (It.bytes ⟨3, (m : Nat), x, s⟩ = bigB m 4) := by simp [It.bytes, hide]
    clear hm hx
    go_enter Try.func66, Try.ntmps66
    go_wp2_with fail
    refine (HB.out _).mono ?_
    rintro e w' ⟨v, rfl, ho, hb⟩
    go_wp2_with fail
    go_ret
    exact ⟨v, rfl, by rw [HY.out]; exact ho.lower (by simp), (HW.out _).trans (hb.mono (HW.out _).size)⟩
  by_cases h4 : k = 4
  · subst h4
    have HV : Hid (∀ o, Calls Try.prog 85 #[.float .f64 x] (w.alloc o) fun e w' => e = .returned (.int .u64 (Fl.val x : Nat)) ∧ w' = w.alloc o) := fun o => refValue_any x hx (w.alloc o)
    have HB : Hid (∀ o, Calls Try.prog 84 #[.int .u64 (Fl.val x : Nat), .int .i64 8] (w.alloc o) fun e w' => ∃ v, e = .returned v ∧ Owns w' (w.alloc o).heap.size v (bigB (Fl.val x) 8) ∧ Below (w.alloc o).heap.size (w.alloc o) w') :=
      fun o => big_any (Fl.val x) 8 (Fl.val_lt hx) (by omega) (w.alloc o)
    have HY : Hid (It.bytes ⟨4, n, x, s⟩ = bigB (Fl.val x) 8) := by simp [It.bytes, hide]
    clear hm hx
    go_enter Try.func66, Try.ntmps66
    go_wp2_with fail
    refine (HV.out _).mono ?_
    rintro e w' ⟨rfl, hw⟩
    obtain rfl := hw.symm
    go_wp2_with fail
    refine (HB.out _).mono ?_
    rintro e w' ⟨v, rfl, ho, hb⟩
    go_wp2_with fail
    go_ret
    exact ⟨v, rfl, by rw [HY.out]; exact ho.lower (by simp), (HW.out _).trans (hb.mono (HW.out _).size)⟩
  have h5 : k = 5 := by
    simp only [It.may, h1, h2, h3, h4, if_false] at hm
    by_cases h5 : k = 5
    · exact h5
    · rw [if_neg h5] at hm
      cases hm
  subst h5
  simp [It.may] at hm
  have hsz : s.size < 256 := hm.2
  have HO : Hid (∀ o, Owns ((w.alloc o).alloc (.cells (vals [s.size]).toArray 5)) w.heap.size (.slice (some ⟨w.heap.size + 1, 0, none⟩) 1 1) [s.size]) := fun o => by
    have := Owns.lit (w.alloc o) w.heap.size [s.size] (below_alloc w o).size (by simp)
    simpa using this
  have HW2 : Hid (∀ o o', Below w.heap.size w ((w.alloc o).alloc o')) := below_two w
  have HY : Hid (It.bytes ⟨5, n, x, s⟩ = [s.size] ++ strB s) := by simp [It.bytes, hide]
  have HBY : Hid (Bytes [s.size]) := fun y hy => by simp at hy; omega
  clear hm hx
  go_enter Try.func66, Try.ntmps66
  go_wp2_with (at_builtin; refine wpList_append_str _ rfl (.tmp 33) (.tmp 35) rfl w.heap.size _ _ _ [s.size] rfl (HO.out _) HBY.out s rfl (by show 1 + s.size ≤ 1000000; omega) (HW2.out _ _).size ?_)
  intro v' w' ho hb
  go_wp2
  go_ret
  exact ⟨v', rfl, by rw [HY.out]; exact ho, (HW2.out _ _).trans hb⟩

end Go.Proofs.Ytdbgbldmjgonjaa
