/-
  How bytes that came in are told, and what strings are made of bytes.
-/
import Derived.Test.YtjoapceffgibcaaOpens
import Derived.ProofKit
import Derived.OpenShut
import Derived.ShutString
import Derived.ChangeOld
namespace Go.Proofs.Ytjoapceffgibcaa
open Go.RowKit

/-- What the walk is told of a slice of integers that came in: it is nil; or it leads to a row of 'cap' cells, the numbers 'zs' (the first 'len' are its elements), each fitting its kind. -/
def IsRow (k : IntKind) (w : World) (a : Option Addr) (len cap : Nat) (zs : List Int) : Prop :=
  (a = none ∧ len = 0 ∧ cap = 0 ∧ zs = []) ∨
  ∃ x, a = some x ∧ len ≤ cap ∧ cap ≤ maxLen ∧ zs.length = cap ∧ (∀ i, i < zs.length → w.cell? (x.add i) = some (.int k (zs.getD i 0))) ∧ ∀ n ∈ zs, (Lit.int k n).wf = true

/-- A slice of bytes: where they lie; that none lies at a nil one; its length. -/
structure Came (w : World) (a : Option Addr) (len cap : Nat) (xs : List Nat) : Prop where
  bs : Bs w a len xs
  nil : a = none → cap = 0
  le : len ≤ cap
  big : len ≤ 9223372036854775807

theorem came_of_row {w : World} {a : Option Addr} {len cap : Nat} {zs : List Int} (h : IsRow .u8 w a len cap zs) : ∃ xs, Came w a len cap xs := by
  rcases h with ⟨rfl, rfl, rfl, rfl⟩ | ⟨x, rfl, hl, hm, hz, hcell, hwf⟩
  · exact ⟨[], ⟨⟨rfl, fun _ h => by simp at h, fun i hi => by omega⟩, fun _ => rfl, Nat.le_refl _, by omega⟩⟩
  · have hb : ∀ n ∈ zs, 0 ≤ n ∧ n ≤ 255 := fun n hn => bounds_u8 (hwf n hn)
    have hm' : cap ≤ 9223372036854775807 := by unfold maxLen at hm; omega
    refine ⟨(zs.take len).map Int.toNat, ⟨⟨by simp; omega, ?_, ?_⟩, (fun e => by cases e), hl, by omega⟩⟩
    · intro n hn
      obtain ⟨z, hzm, rfl⟩ := List.mem_map.1 hn
      have := hb z (List.mem_of_mem_take hzm)
      omega
    · intro i hi
      have hc := hcell i (by omega)
      obtain ⟨b, off, spot⟩ := x
      have hspot : spot = none := by
        have := World.cell?_spot (hcell 0 (by omega))
        simpa [Addr.add] using this
      subst hspot
      refine ⟨b, off, rfl, ?_⟩
      rw [Addr.add_lit] at hc
      rw [hc]
      have hi' : i < zs.length := by omega
      have hmem := hb zs[i] (List.getElem_mem hi')
      have e : (((zs.take len).map Int.toNat).getD i 0 : Nat) = (zs[i]).toNat := by
        simp [List.getD, hi, hi']
      rw [e]
      simp only [List.getD, List.getElem?_eq_getElem hi', Option.getD_some]
      rw [Int.toNat_of_nonneg hmem.1]

/-- Bytes as a string. -/
def bstr (xs : List Nat) : ByteArray := strOfNums (xs.map Int.ofNat)

theorem bstr_inj {xs ys : List Nat} (hx : Ta.Bytes xs) (hy : Ta.Bytes ys) (h : bstr xs = bstr ys) : xs = ys := by
  have h1 : (bstr xs).data.toList = (bstr ys).data.toList := by rw [h]
  unfold bstr at h1
  rw [strOfNums_data, strOfNums_data, List.map_map, List.map_map] at h1
  have key : ∀ (l : List Nat), Ta.Bytes l → (l.map ((fun n : Int => UInt8.ofNat n.toNat) ∘ Int.ofNat)).map UInt8.toNat = l := by
    intro l hl
    rw [List.map_map]
    have e : l.map (UInt8.toNat ∘ ((fun n : Int => UInt8.ofNat n.toNat) ∘ Int.ofNat)) = l.map id := by
      apply List.map_congr_left
      intro n hn
      have := hl n hn
      simp
      omega
    rw [e, List.map_id]
  rw [← key xs hx, ← key ys hy, h1]

theorem str_ne {xs ys : List Nat} (hx : Ta.Bytes xs) (hy : Ta.Bytes ys) (h : xs ≠ ys) : ((bstr xs).toList == (bstr ys).toList) = false := by
  apply beq_eq_false_iff_ne.2
  intro e
  rw [ByteArray.toList_eq, ByteArray.toList_eq] at e
  refine h (bstr_inj hx hy ?_)
  have : (bstr xs).data = (bstr ys).data := Array.toList_inj.1 e
  cases hX : bstr xs
  cases hY : bstr ys
  rw [hX, hY] at this
  simp only at this
  rw [this]

theorem run_string_of {w : World} {a : Option Addr} {len : Nat} (cap : Nat) {xs : List Nat} (h : Bs w a len xs) : (convert 22 9 (.slice a len cap)).run Try.prog w = .ok (.string (bstr xs)) w := by
  cases a with
  | none =>
    have h0 : len = 0 := by
      rcases Nat.eq_zero_or_pos len with h0 | h0
      · exact h0
      · obtain ⟨_, _, e, _⟩ := h.2.2 0 h0
        cases e
    subst h0
    have hx : xs = [] := List.eq_nil_of_length_eq_zero h.1
    subst hx
    exact run_convert_bytes_nil w 22 5 Try.underlying22 Try.underlying5 0 cap 9 Try.underlying9
  | some ad =>
    by_cases h0 : len = 0
    · subst h0
      have hx : xs = [] := List.eq_nil_of_length_eq_zero h.1
      subst hx
      rw [run_convert_bytes_string w 22 9 5 (some ad) 0 cap Try.underlying22 Try.underlying5 Try.underlying9]
      rw [run_bytesToString (P := Try.prog) w ad 0 cap [] rfl]
      rfl
    · obtain ⟨b, off, e, _⟩ := h.2.2 0 (by omega)
      obtain rfl := Option.some.inj e
      have hxl := h.1
      refine run_convert_bytes_arg w 22 5 Try.underlying22 Try.underlying5 b off len cap (xs.map Int.ofNat) (by simp [hxl]) ?_ 9 Try.underlying9
      intro i hi
      rw [h.at i hi]
      have hi' : i < xs.length := by omega
      simp [List.getD, hi']

/-- The first four bytes are the sum of the others. -/
def Sealed (xs : List Nat) : Prop := fourB (Ta.sum (xs.drop 4)) ++ xs.drop 4 = xs

theorem list4 {xs : List Nat} {len : Nat} (hl : xs.length = len) (h4 : 4 ≤ len) : ∃ x0 x1 x2 x3 ys, xs = x0 :: x1 :: x2 :: x3 :: ys ∧ xs.drop 4 = ys ∧ ys.length = len - 4 := by
  match xs, hl with
  | x0 :: x1 :: x2 :: x3 :: ys, hl => exact ⟨x0, x1, x2, x3, ys, rfl, rfl, by simp at hl; omega⟩
  | [], hl => simp at hl; omega
  | [_], hl => simp at hl; omega
  | [_, _], hl => simp at hl; omega
  | [_, _, _], hl => simp at hl; omega

set_option linter.unusedVariables false in
theorem num4_sealed {x0 x1 x2 x3 : Nat} {ys : List Nat} (b0 : x0 < 256) (b1 : x1 < 256) (b2 : x2 < 256) (b3 : x3 < 256) (hs : Ta.sum ys < 4294967296) :
    num4 x0 x1 x2 x3 = Ta.sum ys ↔ Sealed (x0 :: x1 :: x2 :: x3 :: ys) := by
  unfold Sealed
  show _ ↔ fourB (Ta.sum ys) ++ ys = x0 :: x1 :: x2 :: x3 :: ys
  generalize Ta.sum ys = s at hs
  simp only [fourB, List.cons_append, List.nil_append, List.cons.injEq, and_true, num4]
  omega

theorem Bs.drop4 {w : World} {b off len : Nat} {xs : List Nat} (h : Bs w (some ⟨b, off, none⟩) len xs) (h4 : 4 ≤ len) : Bs w (some ⟨b, off + 4, none⟩) (len - 4) (xs.drop 4) := by
  obtain ⟨x0, x1, x2, x3, ys, rfl, _, _⟩ := list4 h.1 h4
  have e : len = 4 + (len - 4) := by omega
  rw [e] at h
  exact h.tail

theorem open_no (b off len cap : Nat) (xs : List Nat) (w : World) (h : Bs w (some ⟨b, off, none⟩) len xs) (h4 : 4 ≤ len) (hc : len ≤ cap) (hm : len ≤ 10004) (hd : ¬ Sealed xs) :
    Calls Try.prog 9 #[.slice (some ⟨b, off, none⟩) len cap] w fun e w' => e = .returned (.tuple #[.slice none 0 0, .int .i64 5]) ∧ Below w.heap.size w w' := by
  have hB := h.2.1
  obtain ⟨x0, x1, x2, x3, ys, rfl, _, _⟩ := list4 h.1 h4
  obtain ⟨n, rfl⟩ : ∃ n, len = 4 + n := ⟨len - 4, by omega⟩
  refine open_bad b off n cap x0 x1 x2 x3 ys w h hc (by omega) (fun e => hd ?_)
  exact (num4_sealed (hB _ (by simp)) (hB _ (by simp)) (hB _ (by simp)) (hB _ (by simp)) (Ta.sum_lt (fun x hx => hB x (by simp [hx])))).1 e

theorem open_yes (b off len cap : Nat) (xs : List Nat) (w : World) (h : Bs w (some ⟨b, off, none⟩) len xs) (h4 : 4 ≤ len) (hc : len ≤ cap) (hm : len ≤ 10004) (hd : Sealed xs) :
    Calls Try.prog 9 #[.slice (some ⟨b, off, none⟩) len cap] w fun e w' => ∃ v, e = .returned (.tuple #[v, .int .i64 0]) ∧ Owns w' w.heap.size v (xs.drop 4) ∧ Below w.heap.size w w' := by
  have hB := h.2.1
  obtain ⟨x0, x1, x2, x3, ys, rfl, _, _⟩ := list4 h.1 h4
  obtain ⟨n, rfl⟩ : ∃ n, len = 4 + n := ⟨len - 4, by omega⟩
  refine open_good b off n cap x0 x1 x2 x3 ys w h hc (by omega) ?_
  exact (num4_sealed (hB _ (by simp)) (hB _ (by simp)) (hB _ (by simp)) (hB _ (by simp)) (Ta.sum_lt (fun x hx => hB x (by simp [hx])))).2 hd

theorem own_new (w : World) : Owns (w.alloc (.cells #[] 5)) w.heap.size (.slice (some ⟨w.heap.size, 0, none⟩) 0 0) [] := Owns.lit w w.heap.size [] (Nat.le_refl _) (by simp)

theorem drop_all {w : World} {b off : Nat} {xs : List Nat} (h : Bs w (some ⟨b, off, none⟩) 4 xs) : Bs w (some ⟨b, off, none⟩) 0 (xs.drop 4) := by
  have e : xs.drop 4 = [] := List.eq_nil_of_length_eq_zero (by have := h.1; simp; omega)
  rw [e]
  exact ⟨rfl, (fun _ h => by cases h), fun i hi => by omega⟩

theorem sealed_bytes {ys : List Nat} (h : Ta.Bytes ys) : Ta.Bytes (fourB (Ta.sum ys) ++ ys) := by
  intro x hx
  rcases List.mem_append.1 hx with k | k
  · exact fourB_bytes (Ta.sum_lt h) x k
  · exact h x k

/-- The document's sealed bytes, called for and then said as a string. -/
theorem rseal_str (w : World) (a0 : Option Addr) (len0 cap0 : Nat) (zs : List Nat) (HB : Bs w a0 len0 zs) (a : Option Addr) (n : Nat) (ys : List Nat) (HT : Bs w a n ys) (hm : n ≤ 3000) (wr : World) (hb : Below w.heap.size w wr) (cp : Nat) (hn : a = none → cp = 0) :
    Calls Try.prog 13 #[.slice a n cp] wr fun e w' => ∃ g c, e = .returned (.slice (some ⟨g, 0, none⟩) (4 + n) c) ∧ (convert 22 9 (.slice (some ⟨g, 0, none⟩) (4 + n) c)).run Try.prog w' = .ok (.string (bstr (fourB (Ta.sum ys) ++ ys))) w' ∧
      (convert 22 9 (.slice a0 len0 cap0)).run Try.prog w' = .ok (.string (bstr zs)) w' ∧ Below w.heap.size w w' := by
  refine (rseal_any a n cp ys wr (HT.keep hb (Nat.le_refl _)) hn hm).mono ?_
  rintro e w' ⟨v, rfl, ho, hb'⟩
  have hl : (fourB (Ta.sum ys) ++ ys).length = 4 + n := by rw [List.length_append, HT.1]; rfl
  have hB : Ta.Bytes (fourB (Ta.sum ys) ++ ys) := sealed_bytes HT.2.1
  obtain ⟨g, c, rfl, _, _, _⟩ := ho.pos (by omega)
  have hbs := (ho.row hB).2
  rw [hl] at hbs
  have hW := hb.trans (hb'.mono hb.size)
  exact ⟨g, c, by rw [hl], run_string_of c hbs, run_string_of cap0 (HB.keep hW (Nat.le_refl _)), hW⟩
end Go.Proofs.Ytjoapceffgibcaa
