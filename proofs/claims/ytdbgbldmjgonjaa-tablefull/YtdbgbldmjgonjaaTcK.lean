/-
  Layer 11, the landed table: isNoughts; which pages are tables, as tableOf reads them.
  Layer 11, the landed table: slices.Chunk of items, and its iterator.
-/
import Derived.Test.YtdbgbldmjgonjaaTcI
import Derived.Test.YtdbgbldmjgonjaaTbM
import Derived.Test.YtdbgbldmjgonjaaRng
namespace Go.Proofs.Ytdbgbldmjgonjaa
open Go.RowKit
set_option linter.unusedVariables false

def zerosT (xs : List Nat) : Bool := xs.all (fun x => x == 0)
theorem zerosT_no {xs : List Nat} {i : Nat} (h : i < xs.length) (hx : xs.getD i 0 ≠ 0) : zerosT xs = false := by
  unfold zerosT
  rw [List.all_eq_false]
  refine ⟨xs.getD i 0, ?_, by simpa using hx⟩
  simp [List.getD, h]
theorem zerosT_yes {xs : List Nat} (h : ∀ i, i < xs.length → xs.getD i 0 = 0) : zerosT xs = true := by
  unfold zerosT
  rw [List.all_eq_true]
  intro x hx
  obtain ⟨i, hi, e⟩ := List.mem_iff_getElem.1 hx
  have := h i hi
  simp [List.getD, hi] at this
  simp [← e, this]

set_option maxHeartbeats 4000000 in
theorem isNT_any (w : World) (x : Nat) : Calls Try.prog 62 #[.int .u8 ((x : Nat) : Int)] w fun e w' => e = .returned (.bool (!(x == 0))) ∧ w' = w := by
  by_cases h : x = 0
  · subst h
    go_enter Try.func62, Try.ntmps62
    go_wp2_with fail
    go_ret
    exact ⟨rfl, rfl⟩
  · have i1 : ¬ ((x : Nat) : Int) = 0 := by omega
    have i2 : (x == 0) = false := by simp [h]
    rw [i2]
    go_enter Try.func62, Try.ntmps62
    go_wp2_with fail
    go_ret
    exact ⟨by simp [h], rfl⟩

set_option maxHeartbeats 4000000 in
theorem idxNT_any (w : World) (a : Option Addr) (len cap : Nat) (xs : List Nat) (h : Bs w a len xs) (hbig : len ≤ 1000000) :
    Calls Try.prog 79 #[.slice a len cap, .func (.func 62) #[] #[]] w fun e w' => (∃ z, e = .returned (.int .i64 z) ∧ decide (0 ≤ z) = !(zerosT xs)) ∧ w' = w := by
  have HG := hide h
  have HL := hide h.1
  clear h
  go_enter Try.func79, Try.ntmps79
  go_wp2_with fail
  go_loopw [8] (fun iv wr => wr = w ∧ ∃ i : Nat, i ≤ len ∧ iv = .int .i64 (i : Nat) ∧ Hid (∀ j, j < i → xs.getD j 0 = 0)) (fun iv _ => len - (intOf iv).toNat)
  case atStart => exact ⟨rfl, 0, Nat.zero_le _, rfl, fun _ h => absurd h (Nat.not_lt_zero _)⟩
  case round =>
    obtain ⟨rfl, i, hi, rfl, hix⟩ := hrel
    rcases Nat.lt_or_ge i len with hlt | hge
    · have i1 : ((i : Nat) : Int) < ((len : Nat) : Int) := by omega
      obtain ⟨bb, oo, ha, c0⟩ := HG.out.2.2 i hlt
      subst ha
      obtain ⟨x, hx⟩ : ∃ x, x = xs.getD i 0 := ⟨_, rfl⟩
      rw [← hx] at c0
      have HX := hide hx
      have HCL := hide (isNT_any wr x)
      clear hx
      by_cases h0 : x = 0
      · rw [h0] at HCL c0
        have HE : Hid (∀ j, j < i + 1 → xs.getD j 0 = 0) := by
          intro j hj
          by_cases e : j = i
          · rw [e, ← HX.out]; exact h0
          · exact hix.out j (by omega)
        clear hix HX h0
        go_wp2_with fail
        refine HCL.out.mono ?_
        rintro e w1 ⟨rfl, hw⟩
        obtain rfl := hw.symm
        go_wp2_with fail
        go_roundw
        case rel => exact ⟨trivial, i + 1, by omega, by go_num, HE⟩
        case measure => simp only [intOf]; omega
      · have hb : (!(x == 0)) = true := by simp [h0]
        rw [hb] at HCL
        have HE : Hid (decide (0 ≤ ((i : Nat) : Int)) = !(zerosT xs)) := by
          show _ = _
          rw [zerosT_no (i := i) (by rw [HL.out]; exact hlt) (by rw [← HX.out]; exact h0)]
          simp
        clear hix HX h0 hb
        go_wp2_with fail
        refine HCL.out.mono ?_
        rintro e w1 ⟨rfl, hw⟩
        obtain rfl := hw.symm
        go_wp2_with fail
        go_ret
        exact ⟨⟨_, rfl, HE.out⟩, rfl⟩
    · have i1 : ¬ ((i : Nat) : Int) < ((len : Nat) : Int) := by omega
      have HE : Hid (decide (0 ≤ (-1 : Int)) = !(zerosT xs)) := by
        show _ = _
        rw [zerosT_yes (fun j hj => hix.out j (by rw [HL.out] at hj; omega))]
        rfl
      clear hix
      go_wp2_with fail
      go_ret
      exact ⟨⟨_, rfl, HE.out⟩, rfl⟩

set_option maxHeartbeats 4000000 in
theorem noughtsT_any (w : World) (a : Option Addr) (len cap : Nat) (xs : List Nat) (h : Bs w a len xs) (hbig : len ≤ 1000000) :
    Calls Try.prog 44 #[.slice a len cap] w fun e w' => e = .returned (.bool (zerosT xs)) ∧ w' = w := by
  have HX := hide (idxNT_any w a len cap xs h hbig)
  obtain ⟨b, hb⟩ : ∃ b, b = zerosT xs := ⟨_, rfl⟩
  rw [← hb] at HX
  rw [← hb]
  clear h hb
  have HC : Hid (Calls Try.prog 61 #[.slice a len cap, .func (.func 62) #[] #[]] w fun e w' => e = .returned (.bool (!b)) ∧ w' = w) := by
    show Calls _ _ _ _ _
    go_enter Try.func61, Try.ntmps61
    go_wp2_with fail
    refine HX.out.mono ?_
    rintro e w1 ⟨⟨z, rfl, hz⟩, hw⟩
    obtain rfl := hw.symm
    have HZ := hide hz
    clear hz
    go_wp2_with fail
    go_ret
    exact ⟨by rw [← HZ.out]; rfl, rfl⟩
  clear HX
  go_enter Try.func44, Try.ntmps44
  go_wp2_with fail
  refine HC.out.mono ?_
  rintro e w1 ⟨rfl, hw⟩
  obtain rfl := hw.symm
  cases b with
  | true =>
    go_wp2_with fail
    go_ret
    exact ⟨rfl, rfl⟩
  | false =>
    go_wp2_with fail
    go_ret
    exact ⟨rfl, rfl⟩


theorem zerosT_is {xs : List Nat} (h : zerosT xs = true) : xs = List.replicate xs.length 0 := by
  rw [List.eq_replicate_iff]
  refine ⟨rfl, fun x hx => ?_⟩
  have := List.all_eq_true.1 h x hx
  simpa using this
theorem zerosT_rep (n : Nat) : zerosT (List.replicate n 0) = true := by
  unfold zerosT
  rw [List.all_eq_true]
  intro x hx
  rw [(List.mem_replicate.1 hx).2]
  rfl
theorem zerosT_nul {xs : List Nat} (hl : xs.length = 512) : zerosT xs = true ↔ xs = List.replicate 512 0 := by
  constructor
  · intro h
    have := zerosT_is h
    rw [hl] at this
    exact this
  · intro h
    rw [h]
    exact zerosT_rep _

/-! ### What is taken, as it is put -/
theorem tk_cntT {xs : List Nat} {k : Int} (hk : k = 1 ∨ k = 2 ∨ k = 3) {i : It} {n : Nat} (h : tk xs k = some (i, n)) : n = cntN k ∧ n ≤ xs.length ∧ i = ⟨k, numB (xs.take n), 0, noS⟩ := by
  rw [tk_cnt hk] at h
  split at h
  · split at h
    · simp only [Option.some.injEq, Prod.mk.injEq] at h
      obtain ⟨rfl, rfl⟩ := h
      exact ⟨rfl, by assumption, rfl⟩
    · cases h
  · cases h
theorem big_takeT {xs : List Nat} (hx : Bytes xs) (n : Nat) (h : n ≤ xs.length) : bigB (numB (xs.take n)) n = xs.take n := by
  have hb : Bytes (xs.take n) := fun x hh => hx x (List.mem_of_mem_take hh)
  have := bigB_numB hb
  rw [List.length_take, Nat.min_eq_left h] at this
  exact this
theorem tk_canonT {xs : List Nat} (hx : Bytes xs) {k : Int} (hk : k = 1 ∨ k = 2 ∨ k = 3) {i : It} {n : Nat} (h : tk xs k = some (i, n)) : i.bytes = xs.take n ∧ n ≤ xs.length ∧ ∃ m, i = tbI k m := by
  obtain ⟨hn, hl, rfl⟩ := tk_cntT hk h
  refine ⟨?_, hl, _, rfl⟩
  have hb : It.bytes ⟨k, (numB (xs.take n) : Nat), 0, noS⟩ = bigB (numB (xs.take n)) (cntN k) := by
    rcases hk with rfl | rfl | rfl <;> simp [It.bytes, cntN]
  rw [hb, ← hn]
  exact big_takeT hx n hl
theorem tks_canonT {xs : List Nat} (hx : Bytes xs) : ∀ (ks : List Int) (l : List It) (q : Nat) (r : List It × Nat), (∀ k ∈ ks, k = 1 ∨ k = 2 ∨ k = 3) → q ≤ xs.length → putB l = xs.take q → (∀ i ∈ l, ∃ k m, i = tbI k m) → tks xs ks l q = some r → putB r.1 = xs.take r.2 ∧ r.2 ≤ xs.length ∧ (∀ i ∈ r.1, ∃ k m, i = tbI k m) ∧ r.1.map It.kind = l.map It.kind ++ ks
  | [], l, q, r, _, hq, hl, hp, h => by
    simp only [tks, Option.some.injEq] at h
    rw [← h]
    exact ⟨hl, hq, hp, by simp⟩
  | k :: ks, l, q, r, hk, hq, hl, hp, h => by
    simp only [tks] at h
    split at h
    · cases h
    · rename_i i n hi
      have hb : Bytes (xs.drop q) := fun x hh => hx x (List.mem_of_mem_drop hh)
      have hc := tk_canonT hb (hk k (by simp)) hi
      rw [List.length_drop] at hc
      obtain ⟨m, rfl⟩ := hc.2.2
      have e : putB (l ++ [tbI k m]) = putB l ++ (tbI k m).bytes := by simp [putB]
      have := tks_canonT hx ks _ _ r (fun k' h' => hk k' (by simp [h'])) (by have := hc.2.1; omega) (by rw [e, hl, hc.1, List.take_add]) (fun i hi => by
        rcases List.mem_append.1 hi with h1 | h1
        · exact hp i h1
        · exact ⟨k, m, List.mem_singleton.1 h1⟩) h
      refine ⟨this.1, this.2.1, this.2.2.1, ?_⟩
      rw [this.2.2.2, List.map_append, List.append_assoc]
      rfl
theorem tbK_few : ∀ k ∈ tbK, k = 1 ∨ k = 2 ∨ k = 3 := by decide

structure TookT (ys : List Nat) (l : List It) (q : Nat) : Prop where
  put : putB l = ys.take q
  le : q ≤ ys.length
  plain : ∀ i ∈ l, ∃ k m, i = tbI k m
  kinds : l.map It.kind = tbK
theorem tookT {ys : List Nat} (hy : Bytes ys) {l : List It} {q : Nat} (h : tks ys tbK [] 0 = some (l, q)) : TookT ys l q := by
  obtain ⟨h1, h2, h3, h4⟩ := tks_canonT hy tbK [] 0 (l, q) tbK_few (Nat.zero_le _) rfl (fun i hi => by cases hi) h
  exact ⟨h1, h2, h3, h4⟩
theorem TookT.len {ys : List Nat} {l : List It} {q : Nat} (h : TookT ys l q) : l.length = 52 := by
  have := congrArg List.length h.kinds
  rw [List.length_map, tbK_len] at this
  exact this
theorem TookT.at {ys : List Nat} {l : List It} {q : Nat} (h : TookT ys l q) {i : Nat} (hi : i < 52) : l.getD i itD = tbI (tbK.getD i 0) (l.getD i itD).n := by
  have hl : i < l.length := by rw [h.len]; exact hi
  have hk : (l.getD i itD).kind = tbK.getD i 0 := by
    rw [← h.kinds]
    simp [List.getD, hl]
  obtain ⟨k, m, e⟩ := h.plain (l.getD i itD) (by simp [List.getD, hl])
  rw [← hk, e]
  rfl

theorem numE_at : ∀ (l : List En) (i k : Nat), i < l.length → k < 4 → (l.flatMap numE).getD (4 * i + k) 0 = (numE (l.getD i En.zero)).getD k 0
  | [], i, k, h, _ => absurd h (Nat.not_lt_zero _)
  | e :: l, 0, k, _, hk => by
    rw [List.flatMap_cons, Nat.mul_zero, Nat.zero_add]
    simp only [List.getD]
    rw [List.getElem?_append_left (by show k < 4; exact hk)]
    rfl
  | e :: l, i + 1, k, h, hk => by
    have ih := numE_at l i k (by simpa using h) hk
    rw [List.flatMap_cons]
    simp only [List.getD] at ih ⊢
    rw [List.getElem?_append_right (by show 4 ≤ _; omega), show 4 * (i + 1) + k - (numE e).length = 4 * i + k by show 4 * (i + 1) + k - 4 = _; omega]
    exact ih
theorem esOf_get {l : List It} {j : Nat} (h : j < 12) : (esOf l 12).getD j En.zero = enOf l j := by simp [esOf, List.getD, h]
theorem nums_back {l : List It} (h84 : (l.getD 0 itD).n = 84) {i : Nat} (hi : i < 52) : (numsP (tbOf l) 12).getD i 0 = (l.getD i itD).n := by
  unfold numsP
  rw [List.take_of_length_le (by show (esOf l 12).length ≤ 12; rw [esOf_len]; exact Nat.le_refl _)]
  by_cases h4 : i < 4
  · have : i = 0 ∨ i = 1 ∨ i = 2 ∨ i = 3 := by omega
    rcases this with rfl | rfl | rfl | rfl
    · exact h84.symm
    · rfl
    · rfl
    · rfl
  · have e : i = 4 + (4 * ((i - 4) / 4) + (i - 4) % 4) := by omega
    generalize hj : (i - 4) / 4 = j at e
    generalize hr : (i - 4) % 4 = r at e
    have hj12 : j < 12 := by omega
    have hr4 : r < 4 := by omega
    subst e
    have h1 := numE_at (esOf l 12) j r (by rw [esOf_len]; exact hj12) hr4
    simp only [List.getD] at h1 ⊢
    rw [List.getElem?_append_right (by show 4 ≤ _; omega), show 4 + (4 * j + r) - ([84, (tbOf l).nx, (tbOf l).no, (tbOf l).cm] : List Int).length = 4 * j + r by show 4 + (4 * j + r) - 4 = _; omega]
    show ((esOf l 12).flatMap numE)[4 * j + r]?.getD 0 = _
    rw [h1]
    have h2 := esOf_get (l := l) hj12
    simp only [List.getD] at h2
    rw [h2]
    have : r = 0 ∨ r = 1 ∨ r = 2 ∨ r = 3 := by omega
    rcases this with rfl | rfl | rfl | rfl
    · show (l.getD (4 + 4 * j) itD).n = (l[4 + (4 * j + 0)]?.getD itD).n
      rw [show 4 + (4 * j + 0) = 4 + 4 * j by omega]; rfl
    · show (l.getD (5 + 4 * j) itD).n = (l[4 + (4 * j + 1)]?.getD itD).n
      rw [show 4 + (4 * j + 1) = 5 + 4 * j by omega]; rfl
    · show (l.getD (6 + 4 * j) itD).n = (l[4 + (4 * j + 2)]?.getD itD).n
      rw [show 4 + (4 * j + 2) = 6 + 4 * j by omega]; rfl
    · show (l.getD (7 + 4 * j) itD).n = (l[4 + (4 * j + 3)]?.getD itD).n
      rw [show 4 + (4 * j + 3) = 7 + 4 * j by omega]; rfl
theorem tbOf_len (l : List It) : (tbOf l).es.length = 12 := esOf_len l 12
theorem items_back {ys : List Nat} {l : List It} {q : Nat} (h : TookT ys l q) (h84 : (l.getD 0 itD).n = 84) : itemsT (tbOf l) = l := by
  apply List.ext_getElem
  · rw [itemsT_len (tbOf_len l), h.len]
  · intro i h1 h2
    have hi : i < 52 := by rw [itemsT_len (tbOf_len l)] at h1; exact h1
    have e := items_at (tbOf_len l) hi
    rw [nums_back h84 hi, ← h.at hi] at e
    simpa [List.getD, h1, h2] using e

/-- Which pages are tables, as tableOf reads them. -/
theorem page_iff {xs : List Nat} (hx : Bytes xs) (hl : xs.length = 512) (hs : sealT (xs.drop 4) = xs) {l : List It} {q : Nat} (hk : tks (xs.drop 4) tbK [] 0 = some (l, q)) :
    ((tbOf l).May ∧ pageT (tbOf l) = xs) ↔ ((l.getD 0 itD).n = 84 ∧ zerosT ((xs.drop 4).drop q) = true ∧ (tbOf l).May) := by
  have hy : Bytes (xs.drop 4) := fun x hh => hx x (List.mem_of_mem_drop hh)
  have hyl : (xs.drop 4).length = 508 := by rw [List.length_drop]; omega
  have ht := tookT hy hk
  constructor
  · rintro ⟨hm, hp⟩
    have hb : bodyT (tbOf l) = xs.drop 4 := by rw [← pageT_body, hp]
    have h1 := itemsT_took hm
    rw [hb, hk] at h1
    simp only [Option.some.injEq, Prod.mk.injEq] at h1
    refine ⟨by rw [h1.1]; rfl, ?_, hm⟩
    rw [← hb, h1.2]
    unfold bodyT
    rw [List.drop_append, itemsT_bytes hm.len, List.drop_eq_nil_of_le (by rw [itemsT_bytes hm.len]; exact Nat.le_refl _), List.nil_append, List.drop_replicate]
    exact zerosT_rep _
  · rintro ⟨h84, hz, hm⟩
    refine ⟨hm, ?_⟩
    have hi := items_back ht h84
    have hq : (putB l).length = q := by rw [ht.put, List.length_take]; have := ht.le; omega
    have hb : bodyT (tbOf l) = xs.drop 4 := by
      unfold bodyT
      rw [hi, hq, ht.put]
      have := zerosT_is hz
      rw [List.length_drop, hyl] at this
      rw [← this, List.take_append_drop]
    unfold pageT
    rw [hb, hs]
theorem took_pos {xs : List Nat} {l : List It} {q : Nat} (h : TookT xs l q) : l ≠ [] := fun e => by have := h.len; rw [e] at this; cases this

end Go.Proofs.Ytdbgbldmjgonjaa

namespace Go.Proofs.Ytdbgbldmjgonjaa
open Go.RowKit
set_option linter.unusedVariables false

theorem Pl.minT {P : Program} {ops : Array Oper} {S : World → Prop} {n : Nat} {f : Nat → Value} (i : Nat) (x y : Operand) (p q : Int) (h : (Pl.op ops i).op = .call { callee := .builtin .min, args := #[x, y], argTypes := #[3, 3] }) (hx : Pl.inB n x = true) (hy : Pl.inB n y = true)
    (hp : Pl.ev f x = .int .i64 p) (hq : Pl.ev f y = .int .i64 q) (hpq : ¬ q < p) : ∀ A, Pl.At n A f → ∀ w, S w → (execOp A.eval (Pl.op ops i)).run P w = .ok (.value (.int .i64 p)) w := by
  intro A hA w _
  unfold execOp
  rw [h]
  simp [resolve, invoke, builtin, hA.ev x hx, hA.ev y hy, hp, hq, Builtin.min_, Builtin.min2, hpq]

theorem szItT (w : World) : (sizeOf 67).run Try.prog w = .ok 4 w := by
  obtain ⟨i0, hi, hz0, hz1, hz2⟩ := info_parts info35
  simp [sizeOf, typeInfo, hi, hz1]
theorem elemItT : Try.prog.elem 54 = 67 := by kernel_rfl
theorem slice_fromIt (g o len cap j : Nat) (hj : j ≤ len) (hc : j < cap) (w : World) : (Instr.sliceAt 54 (.slice (some ⟨g, o, none⟩) len cap) (some (.int .i64 ((j : Nat) : Int))) none none).run Try.prog w = .ok (.slice (some ⟨g, o + j * 4, none⟩) (len - j) (cap - j)) w := by
  have h22 : Try.prog.underlying 54 = some (.slice (Try.prog.elem 54)) := by kernel_rfl
  rw [run_sliceAt_slice w 54 _ _ _ _ h22, run_slice_l w 54 (some ⟨g, o, none⟩) len cap h22 .i64 (j : Nat) (by omega) (by omega), elemItT, szItT]
  have : ¬ cap - j = 0 := by omega
  simp [Result.andThen, sliced, Addr.add_lit]
  omega
theorem slice_midIt (g o len cap j : Nat) (hc : j + 4 ≤ cap) (w : World) : (Instr.sliceAt 54 (.slice (some ⟨g, o, none⟩) len cap) (some (.int .i64 ((j : Nat) : Int))) (some (.int .i64 (((j : Nat) : Int) + 4))) (some (.int .i64 (((j : Nat) : Int) + 4)))).run Try.prog w = .ok (.slice (some ⟨g, o + j * 4, none⟩) 4 4) w := by
  have h22 : Try.prog.underlying 54 = some (.slice (Try.prog.elem 54)) := by kernel_rfl
  rw [run_sliceAt_slice w 54 _ _ _ _ h22, run_slice_lhm w 54 (some ⟨g, o, none⟩) len cap h22 .i64 .i64 .i64 (j : Nat) (((j : Nat) : Int) + 4) (((j : Nat) : Int) + 4) (by omega) (by omega) (by omega) (by omega), elemItT, szItT]
  have e : (((j : Nat) : Int) + 4).toNat = j + 4 := by omega
  simp [Result.andThen, sliced, Addr.add_lit, e]

/-! ### Twelve rounds -/
abbrev Twe := { i : Nat // i < 12 }
/-- What a round is told. -/
def chunkV (g off : Nat) (x : Twe) : Array Value := #[.slice (some ⟨g, off + 16 * x.1, none⟩) 4 4]
def uptoT (k : Nat) (h : k ≤ 12) : List Twe := (List.range k).attach.map fun x => ⟨x.1, by have := List.mem_range.1 x.2; omega⟩
theorem uptoT_len (k : Nat) (h : k ≤ 12) : (uptoT k h).length = k := by simp [uptoT]
theorem uptoT_vals (k : Nat) (h : k ≤ 12) : (uptoT k h).map (·.1) = List.range k := by
  unfold uptoT
  rw [List.map_map]
  show (List.range k).attach.map (fun x => x.1) = _
  exact List.attach_map_subtype_val _
theorem uptoT_succ (k : Nat) (h : k + 1 ≤ 12) : uptoT (k + 1) h = uptoT k (by omega) ++ [⟨k, by omega⟩] := by
  have hinj : ∀ {a b : List Twe}, a.map (·.1) = b.map (·.1) → a = b := fun {a b} e => (List.map_inj_right (fun x y h => Subtype.ext h)).1 e
  apply hinj
  rw [List.map_append, uptoT_vals, uptoT_vals, List.range_succ]
  rfl

/-- A box with one cell. -/
def BoxT (w : World) (b : Nat) (t : TypeId) (v : Value) : Prop := w.heap[b]? = some (Obj.cells #[v] t (0, 0))
theorem BoxT.lt {w : World} {b : Nat} {t : TypeId} {v : Value} (h : BoxT w b t v) : b < w.heap.size := (Array.getElem?_eq_some_iff.1 h).1
theorem BoxT.cell {w : World} {b : Nat} {t : TypeId} {v : Value} (h : BoxT w b t v) : w.cell? ⟨b, 0, none⟩ = some v := by rw [cell_of_row _ _ _ _ _ _ h]; rfl
theorem BoxT.keep {w w' : World} {b : Nat} {t : TypeId} {v : Value} (h : BoxT w b t v) (hb : Below w.heap.size w w') : BoxT w' b t v := (hb.block b h.lt).trans h
/-- The iterator's own boxes stay. -/
def KeptTwo (b c : Nat) (w w' : World) : Prop := w'.heap[b]? = w.heap[b]? ∧ w'.heap[c]? = w.heap[c]?
theorem keptTwo_t {b c : Nat} {x y z : World} (h : KeptTwo b c x y) (k : KeptTwo b c y z) : KeptTwo b c x z := ⟨k.1.trans h.1, k.2.trans h.2⟩
theorem keptTwo_b {b c : Nat} {w : World} (hb : b < w.heap.size) (hc : c < w.heap.size) (W : World) (l : Nat) (o o' : Obj) (hl : w.heap.size ≤ l) (_ : W.heap[l]? = some o) (_ : o.isCells = false) (_ : o.isWalk = false) : KeptTwo b c W (W.putObj l o') :=
  ⟨World.putObj_heap_other (fun e => by omega), World.putObj_heap_other (fun e => by omega)⟩

set_option maxHeartbeats 2000000 in
theorem chunk_any (a : Option Addr) (len cap : Nat) (w : World) :
    Calls Try.prog 64 #[.slice a len cap, .int .i64 4] w fun e w' => e = .returned (.func (.func 82) #[] #[.pointer (some ⟨w.heap.size, 0, none⟩), .pointer (some ⟨w.heap.size + 1, 0, none⟩)]) ∧ w' = (w.alloc (.cells #[.slice a len cap] 54)).alloc (.cells #[.int .i64 4] 3) := by
  have hmf : ∀ (fn : Fn) (first cap : Array Value) (w : World), (Instr.makeFunc fn first cap).run Try.prog w = .ok (.func fn first cap) w := fun _ _ _ _ => rfl
  go_enter Try.func64, Try.ntmps64
  go_wp2_with fail
  go_ret
  exact ⟨rfl, rfl⟩
theorem ldItems (b : Nat) (a : Option Addr) (n c : Nat) (w : World) (h : w.cell? ⟨b, 0, none⟩ = some (.slice a n c)) : (Instr.loadAt 54 (.pointer (some ⟨b, 0, none⟩))).run Try.prog w = .ok (.slice a n c) w := by simp [go_sem, h]

set_option maxHeartbeats 2000000 in
set_option maxRecDepth 100000 in
theorem chunk3 (w : World) (g off cap b1 b2 j : Nat) (hj : j + 4 ≤ 48) (hc : 48 ≤ cap) (h1 : BoxT w b1 54 (.slice (some ⟨g, off, none⟩) 48 cap)) (h2 : BoxT w b2 3 (.int .i64 4))
    {Q : Exit → Act → World → Prop} {A : Act} (hsz : A.tmps.size = 31) (hdf : A.defers = []) (s1 : A.tmps.getD 1 undef = .pointer (some ⟨b1, 0, none⟩)) (s2 : A.tmps.getD 2 undef = .pointer (some ⟨b2, 0, none⟩)) (s4 : A.tmps.getD 4 undef = .int .i64 ((j : Nat) : Int))
    (hend : ∀ (u : Nat → Value) w', w' = w.drew → Q .normal ((((((((A).put (some 13) (u 13)).put (some 14) (u 14)).put (some 15) (u 15)).put (some 16) (u 16)).put (some 17) (u 17)).put (some 18) (u 18)).put (some 5) (.int .i64 4)) w') :
    (Code.region 3 (Pl.find 3 ((Try.f82.body).getD .skip)) true).wp Try.prog Q A w := by
  have hA := Pl.At.same (v := .int .i64 ((j : Nat) : Int)) (d := 4) (Pl.At.same (v := .pointer (some ⟨b2, 0, none⟩)) (d := 2) (Pl.At.same (v := .pointer (some ⟨b1, 0, none⟩)) (d := 1) (Pl.At.here hsz hdf) s1) s2) s4
  refine Pl.H.start (S := (fun w' => Below w.heap.size w w')) (by kernel_rfl) hA (below_drew w) ?_
  rw [show (Pl.find 3 ((Try.f82.body).getD .skip)).size = 7 by kernel_rfl]
  refine Pl.H.take 0 13 (.int .i64 4) (by kernel_rfl) (by kernel_rfl) (by kernel_rfl) (Pl.free 0 (by kernel_rfl)) (Pl.load 0 3 (.tmp 2) _ (by kernel_rfl) (by decide) (fun w' hS => ldInt b2 0 4 w' (h2.keep hS).cell)) (below_drew w) ?_
  refine Pl.H.take 1 14 (.slice (some ⟨g, off, none⟩) 48 cap) (by kernel_rfl) (by kernel_rfl) (by kernel_rfl) (Pl.free 1 (by kernel_rfl)) (Pl.load 1 54 (.tmp 1) _ (by kernel_rfl) (by decide) (fun w' hS => ldItems b1 _ 48 cap w' (h1.keep hS).cell)) (below_drew w) ?_
  refine Pl.H.take 2 15 (.int .i64 ((j : Nat) : Int)) (by kernel_rfl) (by kernel_rfl) (by kernel_rfl) (Pl.free 2 (by kernel_rfl)) (Pl.move 2 (.tmp 4) (by kernel_rfl) (by decide)) (below_drew w) ?_
  refine Pl.H.take 3 16 (.slice (some ⟨g, off + j * 4, none⟩) (48 - j) (cap - j)) (by kernel_rfl) (by kernel_rfl) (by kernel_rfl) (Pl.free 3 (by kernel_rfl)) (Pl.slice 3 54 (.tmp 14) (some (.tmp 15)) none _ (by kernel_rfl) (by decide) (by decide) (by decide) (fun w => slice_fromIt g off 48 cap j (by omega) (by omega) w)) (below_drew w) ?_
  refine Pl.H.take 4 17 (.int .i64 (((48 - j) : Nat) : Int)) (by kernel_rfl) (by kernel_rfl) (by kernel_rfl) (Pl.free 4 (by kernel_rfl)) (Pl.lenOf 4 54 (.tmp 16) _ (by kernel_rfl) (by decide) (fun _ _ => rfl)) (below_drew w) ?_
  refine Pl.H.take 5 18 (.int .i64 4) (by kernel_rfl) (by kernel_rfl) (by kernel_rfl) (Pl.free 5 (by kernel_rfl)) (Pl.minT 5 (.tmp 13) (.tmp 17) 4 ((48 - j : Nat) : Int) (by kernel_rfl) (by decide) (by decide) rfl rfl (by omega)) (below_drew w) ?_
  refine Pl.H.take 6 5 (.int .i64 4) (by kernel_rfl) (by kernel_rfl) (by kernel_rfl) (Pl.free 6 (by kernel_rfl)) (Pl.assign 6 (.tmp 18) (by kernel_rfl) (by decide)) (below_drew w) ?_
  refine Pl.H.done (by kernel_rfl) (fun A' hA' => ?_)
  rw [Pl.At.ext hA' (((((((hA.put 13 _).put 14 _).put 15 _).put 16 _).put 17 _).put 18 _).put 5 _)]
  exact hend (fun d => if d = 13 then .int .i64 4 else if d = 14 then .slice (some ⟨g, off, none⟩) 48 cap else if d = 15 then .int .i64 ((j : Nat) : Int) else if d = 16 then .slice (some ⟨g, off + j * 4, none⟩) (48 - j) (cap - j) else if d = 17 then .int .i64 (((48 - j) : Nat) : Int) else if d = 18 then .int .i64 4 else undef) _ rfl

set_option maxRecDepth 100000 in
set_option maxHeartbeats 4000000 in
/-- The iterator: for every loop body that keeps its boxes. -/
theorem chunk1_in (n l b1 b2 g off cap : Nat) (hcap : 48 ≤ cap) (J Jx : List Twe → World → Prop) (hJ : ∀ pre W, J pre W → J pre W.drew)
    (hY : ∀ pre x W, J pre W → pre.length < 12 → YieldAt Fence.wide (n - 1) Try.prog l (chunkV g off x) W fun e W' =>
      (e = .returned (.bool true) ∧ J (pre ++ [x]) W' ∧ KeptTwo b1 b2 W W') ∨ (e = .returned (.bool false) ∧ Jx (pre ++ [x]) W'))
    (W : World) (hB1 : BoxT W b1 54 (.slice (some ⟨g, off, none⟩) 48 cap)) (hB2 : BoxT W b2 3 (.int .i64 4)) (h0 : J [] W) :
    CallsIn Fence.wide n Try.prog 82 #[.func (.yield l) #[] #[], .pointer (some ⟨b1, 0, none⟩), .pointer (some ⟨b2, 0, none⟩)] W fun e W' => (∃ v, e = .returned v) ∧
      ((∃ ys, ys = uptoT 12 (Nat.le_refl 12) ∧ J ys W') ∨ (∃ pre, True ∧ Jx pre W')) := by
  have HSL : Hid (∀ (j : Nat) (w : World), j + 4 ≤ 48 → (Instr.sliceAt 54 (.slice (some ⟨g, off, none⟩) 48 cap) (some (.int .i64 ((j : Nat) : Int))) (some (.int .i64 (((j : Nat) : Int) + 4))) (some (.int .i64 (((j : Nat) : Int) + 4)))).run Try.prog w = .ok (.slice (some ⟨g, off + j * 4, none⟩) 4 4) w) := fun j w hj => slice_midIt g off 48 cap j (by omega) w
  have HJ := hide hJ
  have H1 := hide hB1
  have H2 := hide hB2
  clear hB1 hB2 hJ
  refine callsIn_of_wp Try.func82 rfl trivial ?_ rfl
  simp only [Try.ntmps82, List.size_toArray, List.length_cons, List.length_nil, Nat.reduceAdd, Nat.reduceSub, Array.replicate_succ, Array.replicate_zero, List.push_toArray, List.append_toArray, List.nil_append, List.cons_append]
  gi_wp2
  gi_loopw [4] (fun i wr => ∃ (k j : Nat) (hk : k ≤ 12), i = .int .i64 ((j : Nat) : Int) ∧ j ≤ 48 ∧ Hid (j = 4 * k) ∧ Hid (J (uptoT k hk) wr) ∧ Hid (BoxT wr b1 54 (.slice (some ⟨g, off, none⟩) 48 cap)) ∧ Hid (BoxT wr b2 3 (.int .i64 4)))
    (fun i _ => 48 - (intOf i).toNat)
  case atStart => exact ⟨0, 0, Nat.zero_le _, rfl, by decide, rfl, h0, H1, H2⟩
  case round =>
    obtain ⟨k, j, hk, rfl, hj48, hjk, hJs, hb1, hb2⟩ := hrel
    have c1 := hb1.out.cell
    by_cases hlt : j < 48
    · have hk12 : k < 12 := by have := hjk.out; omega
      have hj4 : j + 4 ≤ 48 := by have := hjk.out; omega
      have i1 : ((j : Nat) : Int) < 48 := by omega
      gi_wp2
      refine wpIn_wide.2 ?_
      refine Pl.region_is (ops := Pl.find 3 ((Try.f82.body).getD .skip)) (by kernel_rfl) ?_
      refine chunk3 wr g off cap b1 b2 j hj4 hcap hb1.out hb2.out (by rfl) rfl (by rfl) (by rfl) (by rfl) ?_
      rintro u w1 rfl
      simp only [Act.put, List.setIfInBounds_toArray, List.set_cons_zero, List.set_cons_succ]
      have HJ1 := hide (HJ.out _ _ hJs.out)
      have c1' : wr.drew.cell? ⟨b1, 0, none⟩ = some (.slice (some ⟨g, off, none⟩) 48 cap) := c1
      obtain ⟨fn, tmps, assign, body, hy, hR⟩ := hY _ ⟨k, hk12⟩ wr.drew HJ1.out (by rw [uptoT_len]; exact hk12)
      unfold chunkV at hy
      dsimp only at hy
      have hsl := HSL.out j wr.drew hj4
      rw [show off + j * 4 = off + 16 * k by have := hjk.out; omega] at hsl
      gi_wp2
      refine ⟨(fun h => by cases h), hR.mono ?_⟩
      rintro e W3 (⟨rfl, hJ3, hk3⟩ | ⟨rfl, hJx3⟩)
      · have HJ3 : Hid (J (uptoT (k + 1) (by omega)) W3) := by show J _ W3; rw [uptoT_succ]; exact hJ3
        have HB1 : Hid (BoxT W3 b1 54 (.slice (some ⟨g, off, none⟩) 48 cap)) := hk3.1.trans hb1.out
        have HB2 : Hid (BoxT W3 b2 3 (.int .i64 4)) := hk3.2.trans hb2.out
        have c2 := HB2.out.cell
        clear hJ3 hk3
        gi_wp2
        go_roundw
        case rel => exact ⟨k + 1, j + 4, by omega, by go_num, by omega, by show _ = _; have := hjk.out; omega, HJ3, HB1, HB2⟩
        case measure => simp [intOf]; omega
      · gi_wp2
        refine bodyPost_ret (results_none rfl _ _ _) rfl ?_
        exact ⟨⟨_, rfl⟩, .inr ⟨_, trivial, hJx3⟩⟩
    · have i1 : ¬ ((j : Nat) : Int) < 48 := by omega
      have e12 : k = 12 := by have := hjk.out; omega
      gi_wp2
      go_end0
      subst e12
      exact ⟨⟨_, rfl⟩, .inl hJs.out⟩

/-- What Chunk hands back. -/
theorem chunk_stops (n b1 b2 g off cap : Nat) (hcap : 48 ≤ cap) (w : World) (hB1 : BoxT w b1 54 (.slice (some ⟨g, off, none⟩) 48 cap)) (hB2 : BoxT w b2 3 (.int .i64 4)) :
    SeqStopsK Fence.wide n Try.prog 82 #[.pointer (some ⟨b1, 0, none⟩), .pointer (some ⟨b2, 0, none⟩)] (chunkV g off) (KeptTwo b1 b2) (fun ys => ys = uptoT 12 (Nat.le_refl 12)) (fun _ => True) 12 w := fun l J Jx W hW hA _ hY h0 =>
  chunk1_in n l b1 b2 g off cap hcap J Jx (fun pre W h => hA pre W W.drew Option.none h ⟨rfl, rfl, rfl, Nat.le_refl _, fun _ _ _ => rfl⟩ (fun r e => by cases e)) hY W ((hW.block b1 hB1.lt).trans hB1) ((hW.block b2 hB2.lt).trans hB2) h0

end Go.Proofs.Ytdbgbldmjgonjaa
