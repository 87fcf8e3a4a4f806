/-
  Rows as values, and what row's own small functions hand back: which rows may be.
-/
import Derived.Test.YtpdkeghmpnanpaaNumB
import Derived.Test.YtpdkeghmpnanpaaVals
namespace Go.Proofs.Ytpdkeghmpnanpaa
open Go.RowKit

theorem below_two (w : World) (o o' : Obj) : Below w.heap.size w ((w.alloc o).alloc o') :=
  (below_alloc w o).trans ((below_alloc (w.alloc o) o').mono (below_alloc w o).size)

/-- An error's number: none, or ErrArg. -/
def chk : Bool → Int
  | true => 0
  | false => 1

/-- A row, as its parts; its columns' bits. -/
structure Rw where
  key : Nat
  dead : Bool
  xs : List Nat
  wr : Int
  cell : Int
  no : Int

/-- A row as a value; c is its list. -/
def Rw.val (r : Rw) (c : Value) : Value := .agg #[.float .f64 r.key, .bool r.dead, c, .int .i64 r.wr, .int .i64 r.cell, .int .i64 r.no]

/-- A row's parts fit their kinds. -/
structure Rw.fits (r : Rw) : Prop where
  key : r.key < 18446744073709551616
  xs : ∀ x ∈ r.xs, x < 18446744073709551616
  wr : (Lit.int .i64 r.wr).wf = true
  cell : (Lit.int .i64 r.cell).wf = true
  no : (Lit.int .i64 r.no).wf = true

/-- The floats xs lie where a slice of that length begins. -/
structure Fs (w : World) (a : Option Addr) (len cap : Nat) (xs : List Nat) : Prop where
  vs : Vs w a len (fVals xs)
  fit : ∀ x ∈ xs, x < 18446744073709551616
  nil : a = none → cap = 0
  le : len ≤ cap
  big : len ≤ 9223372036854775807

theorem Fs.keep {w w' : World} {B : Nat} {a : Option Addr} {len cap : Nat} {xs : List Nat} (h : Fs w a len cap xs) (hb : Below B w w') (hB : w.heap.size ≤ B) : Fs w' a len cap xs := ⟨h.vs.keep hb hB, h.fit, h.nil, h.le, h.big⟩

theorem Fs.len {w : World} {a : Option Addr} {len cap : Nat} {xs : List Nat} (h : Fs w a len cap xs) : xs.length = len := by
  have := h.vs.1
  simpa [fVals] using this

theorem Fs.at {w : World} {a : Option Addr} {len cap : Nat} {xs : List Nat} (h : Fs w a len cap xs) (k : Nat) (hk : k < len) : ∃ b off, a = some ⟨b, off, none⟩ ∧ w.cell? ⟨b, off + k, none⟩ = some (.float .f64 (xs.getD k 0)) ∧ xs.getD k 0 ∈ xs ∧ xs.getD k 0 < 18446744073709551616 := by
  obtain ⟨b, off, ha, hc⟩ := h.vs.2.2 k hk
  have hk' : k < xs.length := by rw [h.len]; exact hk
  have hm : xs.getD k 0 ∈ xs := by simp [List.getD, hk']
  refine ⟨b, off, ha, ?_, hm, h.fit _ hm⟩
  rw [hc]
  simp [fVals, List.getD, hk']

theorem oneFlt : One 24 23 (.float .f64 0) 8 := ⟨Try.underlying24, by kernel_rfl, by kernel_rfl, by decide⟩
theorem oneInt : One 59 3 (.int .i64 0) 8 := ⟨Try.underlying59, by kernel_rfl, by kernel_rfl, by decide⟩

theorem info27 : (Try.prog.info? 28).map (fun i => (i.zero, i.size)) = some (some (.agg #[.float .f64 0, .bool false, .slice none 0 0, .int .i64 0, .int .i64 0, .int .i64 0]), 6) := by kernel_rfl

/-- Which columns a row may have. -/
def haveB (dead : Bool) (xs : List Nat) : Bool := decide (xs.length ≤ 4) && !(dead && decide (0 < xs.length)) && xs.all (fun x => x == Fl.val x)
def cntB (n : Int) : Bool := decide (0 ≤ n) && decide (n ≤ 2147483647)
def rollB (c n : Int) : Bool := if c = 0 then n == 0 else decide (0 < c) && decide (c ≤ 65535) && cntB n

/-- May a row be? -/
def Rw.may (r : Rw) : Bool := (r.key == Fl.key r.key) && haveB r.dead r.xs && cntB r.wr && rollB r.cell r.no

theorem isKey_any (x : Nat) (hx : x < 18446744073709551616) (w : World) : Calls Try.prog 59 #[.float .f64 x] w fun e w' => e = .returned (.bool (x == Fl.key x)) ∧ w' = w := by
  have H1 := hide (key_any x hx)
  have H2 := hide (same_any x (Fl.key x))
  clear hx
  generalize Fl.key x = k at *
  go_enter Try.func59, Try.ntmps59
  go_wp2_with fail
  refine (H1.out _).mono ?_
  rintro e w' ⟨rfl, hw⟩
  obtain rfl := hw.symm
  go_wp2_with fail
  refine (H2.out _).mono ?_
  rintro e w' ⟨rfl, hw⟩
  obtain rfl := hw.symm
  go_wp2_with fail
  go_ret
  exact ⟨rfl, rfl⟩

theorem isValue_any (x : Nat) (hx : x < 18446744073709551616) (w : World) : Calls Try.prog 76 #[.float .f64 x] w fun e w' => e = .returned (.bool (x == Fl.val x)) ∧ w' = w := by
  have H1 := hide (value_any x hx)
  have H2 := hide (same_any x (Fl.val x))
  clear hx
  generalize Fl.val x = k at *
  go_enter Try.func76, Try.ntmps76
  go_wp2_with fail
  refine (H1.out _).mono ?_
  rintro e w' ⟨rfl, hw⟩
  obtain rfl := hw.symm
  go_wp2_with fail
  refine (H2.out _).mono ?_
  rintro e w' ⟨rfl, hw⟩
  obtain rfl := hw.symm
  go_wp2_with fail
  go_ret
  exact ⟨rfl, rfl⟩

theorem isCount_any (n : Int) (w : World) : Calls Try.prog 61 #[.int .i64 n] w fun e w' => e = .returned (.bool (cntB n)) ∧ w' = w := by
  unfold cntB
  go_enter Try.func61, Try.ntmps61
  go_wp2_with fail
  all_goals (go_ret; exact ⟨by simp [*] <;> (intros; omega), rfl⟩)

set_option maxHeartbeats 1000000 in
theorem mayRoll_any (c n : Int) (w : World) : Calls Try.prog 62 #[.agg #[.int .i64 c, .int .i64 n]] w fun e w' => e = .returned (.bool (rollB c n)) ∧ Below w.heap.size w w' := by
  have HC := hide (isCount_any n)
  have HW : Hid (∀ o, Below w.heap.size w (w.alloc o)) := below_alloc w
  by_cases h0 : c = 0
  · subst h0
    have e : rollB 0 n = (n == 0) := by simp [rollB]
    rw [e]
    clear e
    go_enter Try.func62, Try.ntmps62
    go_wp2_with fail
    all_goals (go_ret; exact ⟨by simp [*], HW.out _⟩)
  · have e : rollB c n = (decide (0 < c) && decide (c ≤ 65535) && cntB n) := by simp [rollB, h0]
    rw [e]
    have e0 : (c == 0) = false := beq_eq_false_iff_ne.2 h0
    clear e h0
    generalize cntB n = m at *
    by_cases h1 : 0 < c
    · by_cases h2 : c ≤ 65535
      · go_enter Try.func62, Try.ntmps62
        go_wp2_with fail
        refine (HC.out _).mono ?_
        rintro e w' ⟨rfl, hw⟩
        obtain rfl := hw.symm
        go_wp2_with fail
        go_ret
        exact ⟨by simp [*], HW.out _⟩
      · go_enter Try.func62, Try.ntmps62
        go_wp2_with fail
        go_ret
        exact ⟨by simp [*] <;> (intros; omega), HW.out _⟩
    · go_enter Try.func62, Try.ntmps62
      go_wp2_with fail
      go_ret
      exact ⟨by simp [*] <;> (intros; omega), HW.out _⟩

set_option maxHeartbeats 1000000 in
theorem mayHave_any (a : Option Addr) (len cap : Nat) (xs : List Nat) (dead : Bool) (w : World) (h : Fs w a len cap xs) : Calls Try.prog 60 #[.slice a len cap, .bool dead] w fun e w' => e = .returned (.bool (haveB dead xs)) ∧ w' = w := by
  have H := hide h
  have HL := hide h.len
  have hbig := h.big
  clear h
  cases dead
  · by_cases h4 : len ≤ 4
    · have i1 : ¬ (4 : Int) < (len : Int) := by omega
      go_enter Try.func60, Try.ntmps60
      go_wp2_with fail
      go_loop [16] (fun i => ∃ k : Nat, k ≤ len ∧ i = .int .i64 k ∧ Hid (∀ j, j < k → (xs.getD j 0 == Fl.val (xs.getD j 0)) = true)) (fun i => len - (intOf i).toNat)
      case atStart => exact ⟨0, by omega, rfl, fun j hj => by omega⟩
      case round =>
        obtain ⟨k, hk, rfl, hall⟩ := hrel
        rcases Nat.lt_or_ge k len with hlt | hge
        · obtain ⟨b, off, rfl, hc, hmem, hx⟩ := H.out.at k hlt
          obtain ⟨x, hxe⟩ : ∃ x, x = xs.getD k 0 := ⟨_, rfl⟩
          rw [← hxe] at hc hmem hx
          have HXE := hide hxe
          have HV := hide (isValue_any x hx)
          have HM := hide hmem
          clear hmem hxe
          obtain ⟨m, hm⟩ : ∃ m, m = (x == Fl.val x) := ⟨_, rfl⟩
          rw [← hm] at HV
          have HMM := hide hm
          clear hm hx
          cases m
          · have HN : Hid (haveB false xs = false) := by
              have : xs.all (fun x => x == Fl.val x) = false := List.all_eq_false.2 ⟨x, HM.out, by rw [← HMM.out]; decide⟩
              show _ = _
              simp [haveB, this]
            go_wp2_with fail
            refine (HV.out _).mono ?_
            rintro e w' ⟨rfl, hw⟩
            obtain rfl := hw.symm
            go_wp2_with fail
            go_ret
            exact ⟨by rw [HN.out]; rfl, rfl⟩
          · go_wp2_with fail
            refine (HV.out _).mono ?_
            rintro e w' ⟨rfl, hw⟩
            obtain rfl := hw.symm
            go_wp2_with fail
            go_round
            case rel =>
              refine ⟨k + 1, by omega, by go_num, ?_⟩
              intro j hj
              by_cases e : j = k
              · rw [e, ← HXE.out]
                exact HMM.out.symm
              · exact hall.out j (by omega)
            case measure => simp only [intOf]; omega
        · have HN : Hid (haveB false xs = true) := by
            have : xs.all (fun x => x == Fl.val x) = true := by
              rw [List.all_eq_true]
              intro x hx
              obtain ⟨j, hj, rfl⟩ := List.getElem_of_mem hx
              have := hall.out j (by rw [HL.out] at hj; omega)
              simpa [List.getD, hj] using this
            show _ = _
            simp only [haveB, this, HL.out, decide_eq_true h4]
            rfl
          go_wp2_with fail
          go_ret
          exact ⟨by rw [HN.out]; rfl, rfl⟩
    · have i1 : (4 : Int) < (len : Int) := by omega
      have e : haveB false xs = false := by simp [haveB, HL.out, h4]
      rw [e]
      go_enter Try.func60, Try.ntmps60
      go_wp2_with fail
      go_ret
      exact ⟨rfl, rfl⟩
  · by_cases h0 : len = 0
    · subst h0
      have e : haveB true xs = true := by
        have : xs = [] := List.eq_nil_of_length_eq_zero HL.out
        rw [this]
        rfl
      rw [e]
      go_enter Try.func60, Try.ntmps60
      go_wp2_with fail
      go_ret
      exact ⟨rfl, rfl⟩
    · have e : haveB true xs = false := by
        have : 0 < xs.length := by rw [HL.out]; omega
        simp [haveB, this]
      rw [e]
      have i1 : ((len : Int) == 0) = false := beq_eq_false_iff_ne.2 (by omega)
      go_enter Try.func60, Try.ntmps60
      go_wp2_with fail
      go_ret
      exact ⟨rfl, rfl⟩

end Go.Proofs.Ytpdkeghmpnanpaa
