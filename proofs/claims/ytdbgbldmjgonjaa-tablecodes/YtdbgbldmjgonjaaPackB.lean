/-
  Items in memory, and what the document's functions of layer 3 over rows of items hand back.
-/
import Derived.Test.YtdbgbldmjgonjaaPackA
namespace Go.Proofs.Ytdbgbldmjgonjaa
open Go.RowKit

/-- The four cells of an item. -/
def ItAt (w : World) (b o : Nat) (i : It) : Prop :=
  w.cell? ⟨b, o, none⟩ = some (.int .i64 i.kind) ∧ w.cell? ⟨b, o + 1, none⟩ = some (.int .i64 i.n) ∧ w.cell? ⟨b, o + 2, none⟩ = some (.float .f64 i.x) ∧ w.cell? ⟨b, o + 3, none⟩ = some (.string i.s)

/-- An item's parts fit their kinds. -/
def It.fits (i : It) : Prop := (Lit.int .i64 i.kind).wf = true ∧ (Lit.int .i64 i.n).wf = true ∧ i.x < 18446744073709551616 ∧ i.s.size ≤ maxLen

def itD : It := ⟨0, 0, 0, ByteArray.empty⟩

/-- The items l lie where a slice of that length begins. -/
def Is (w : World) (a : Option Addr) (len : Nat) (l : List It) : Prop :=
  l.length = len ∧ (∀ i ∈ l, i.fits) ∧ ∀ j, j < len → ∃ b off, a = some ⟨b, off, none⟩ ∧ ItAt w b (off + j * 4) (l.getD j itD)

theorem Is.keep {w w' : World} {B : Nat} {a : Option Addr} {len : Nat} {l : List It} (h : Is w a len l) (hb : Below B w w') (hB : w.heap.size ≤ B) : Is w' a len l := by
  refine ⟨h.1, h.2.1, fun j hj => ?_⟩
  obtain ⟨b, off, ha, c0, c1, c2, c3⟩ := h.2.2 j hj
  have hlt := Nat.lt_of_lt_of_le (World.block_lt_of_cell? w _ c0) hB
  exact ⟨b, off, ha, (hb.cell hlt).trans c0, (hb.cell (p := ⟨b, off + j * 4 + 1, none⟩) hlt).trans c1, (hb.cell (p := ⟨b, off + j * 4 + 2, none⟩) hlt).trans c2, (hb.cell (p := ⟨b, off + j * 4 + 3, none⟩) hlt).trans c3⟩

theorem Is.fitsAt {w : World} {a : Option Addr} {len : Nat} {l : List It} (h : Is w a len l) (j : Nat) (hj : j < len) : (l.getD j itD).fits := by
  have hj' : j < l.length := by rw [h.1]; exact hj
  have := h.2.1 _ (List.getElem_mem hj')
  simpa [List.getD, hj'] using this

/-- What the first k items' bytes are. -/
def putB (l : List It) : List Nat := l.flatMap It.bytes

theorem putB_succ (l : List It) (k : Nat) (hk : k < l.length) : putB (l.take (k + 1)) = putB (l.take k) ++ (l.getD k itD).bytes := by
  unfold putB
  rw [List.take_succ_eq_append_getElem hk, List.flatMap_append]
  simp [List.getD, hk]

theorem may_len {i : It} (h : i.may = true) : i.bytes.length ≤ 256 ∧ Bytes i.bytes := by
  unfold It.bytes
  split
  · exact ⟨by rw [bigB_length]; omega, bigB_bytes _ _⟩
  · split
    · exact ⟨by rw [bigB_length]; omega, bigB_bytes _ _⟩
    · split
      · exact ⟨by rw [bigB_length]; omega, bigB_bytes _ _⟩
      · split
        · exact ⟨by rw [bigB_length]; omega, bigB_bytes _ _⟩
        · rename_i h1 h2 h3 h4
          have hs : i.s.size < 256 := by
            simp only [It.may, h1, h2, h3, h4, if_false] at h
            by_cases h5 : i.kind = 5
            · simp [h5] at h
              exact h.2
            · rw [if_neg h5] at h
              cases h
          refine ⟨by simp [strB_length]; omega, ?_⟩
          intro y hy
          rcases List.mem_cons.1 hy with k | k
          · omega
          · exact strB_bytes _ y k

theorem putB_len {l : List It} (h : ∀ i ∈ l, i.may = true) : (putB l).length ≤ 256 * l.length ∧ Bytes (putB l) := by
  induction l with
  | nil => exact ⟨by simp [putB], fun x hx => by simp [putB] at hx⟩
  | cons i r ih =>
    have h1 := may_len (h i (by simp))
    have h2 := ih (fun j hj => h j (by simp [hj]))
    have e : putB (i :: r) = i.bytes ++ putB r := by simp [putB]
    rw [e]
    refine ⟨by simp; omega, ?_⟩
    intro x hx
    rcases List.mem_append.1 hx with k | k
    · exact h1.2 x k
    · exact h2.2 x k

set_option maxHeartbeats 2000000 in
theorem refPut_any (a : Option Addr) (len cap : Nat) (l : List It) (w : World) (h : Is w a len l) (hm : len ≤ 200) :
    Calls Try.prog 47 #[.slice a len cap] w fun e w' => ∃ v, e = .returned (.tuple #[v, .bool (l.all It.may)]) ∧ Below w.heap.size w w' ∧ (l.all It.may = true → Owns w' w.heap.size v (putB l)) ∧ (l.all It.may = false → v = .slice none 0 0) := by
  have HO := hide (own_new w)
  have HW := hide (below_alloc w (.cells #[] 5))
  have H := hide h
  have HL := hide h.1
  clear h
  go_enter Try.func47, Try.ntmps47
  go_wp2_with fail
  go_loopw [4, 5] (fun v i wr => ∃ k : Nat, k ≤ len ∧ i = .int .i64 k ∧ Hid (Owns wr w.heap.size v (putB (l.take k))) ∧ Hid (∀ i ∈ l.take k, i.may = true) ∧ Hid (Below w.heap.size w wr)) (fun _ i _ => len - (intOf i).toNat)
  case atStart => exact ⟨0, by omega, rfl, HO, hide (fun i hi => by simp at hi), HW⟩
  case round =>
    obtain ⟨k, hk, rfl, hown, hmay, hWr⟩ := hrel
    rcases Nat.lt_or_ge k len with hlt | hge
    · obtain ⟨b, off, rfl, c0, c1, c2, c3⟩ := (H.out.keep hWr.out (Nat.le_refl _)).2.2 k hlt
      obtain ⟨i, hi⟩ : ∃ i, i = l.getD k itD := ⟨_, rfl⟩
      rw [← hi] at c0 c1 c2 c3
      have HI := hide hi
      have HM := hide (refMay_any i wr)
      have hmem : i ∈ l := by
        have hk' : k < l.length := by rw [HL.out]; exact hlt
        rw [hi]
        simp [List.getD, hk']
      have HMEM := hide hmem
      have HF : Hid i.fits := H.out.2.1 i hmem
      clear hi hmem
      go_wp2_with fail
      refine HM.out.mono ?_
      rintro e w1 ⟨rfl, hb1⟩
      have HW1 := hide (hWr.out.trans (hb1.mono hWr.out.size))
      have HB1 := hide hb1
      clear hb1
      cases hy : i.may
      · have HN : Hid (l.all It.may = false) := by
          rw [List.all_eq_false]
          exact ⟨i, HMEM.out, by rw [hy]; decide⟩
        clear hy
        go_wp2_with fail
        go_ret2
        refine ⟨_, ?_, HW1.out, (fun h => by rw [HN.out] at h; cases h), fun _ => rfl⟩
        rw [HN.out]
        rfl
      · obtain ⟨_, _, e, d0, d1, d2, d3⟩ := (H.out.keep HW1.out (Nat.le_refl _)).2.2 k hlt
        simp only [Option.some.injEq, Addr.mk.injEq, and_true] at e
        obtain ⟨rfl, rfl⟩ := e
        rw [← HI.out] at d0 d1 d2 d3
        have HOne := hide (refOne_any i hy HF.out.2.2.1 w1)
        have HY := hide hy
        clear hy c0 c1 c2 c3
        go_wp2_with fail
        refine HOne.out.mono ?_
        rintro e w2 ⟨v2, rfl, ho2, hb2⟩
        have HW2 := hide (HW1.out.trans (hb2.mono HW1.out.size))
        have hml := may_len HY.out
        obtain ⟨a2, cap2, rfl, hbs2, hn2⟩ := ho2.bs hml.2
        have hpl := putB_len hmay.out
        have hown2 := (hown.out.keep HB1.out (Nat.le_refl _)).keep hb2 (Nat.le_refl _)
        have htk : (l.take k).length ≤ k := by simp; omega
        have HO2 := hide hown2
        have HB2 := hide hbs2
        have HN2 := hide hn2
        have HLEN : Hid ((putB (l.take k)).length + i.bytes.length ≤ 1000000) := by
          show _ ≤ _
          have := hpl.1
          have := hml.1
          omega
        clear hb2 ho2 hml hbs2 hn2 hpl hown2 htk d0 d1 d2 d3
        go_wp2_with (at_builtin; refine wpList_append_bytes _ rfl (.tmp 19) (.tmp 24) rfl w.heap.size _ (putB (l.take k)) rfl HO2.out _ _ _ i.bytes rfl HB2.out HN2.out HLEN.out HW2.out.size ?_)
        intro v3 w3 ho3 hb3
        have HO3 := hide ho3
        have HB3 := hide (HW2.out.trans hb3)
        clear ho3 hb3
        go_wp2
        go_roundw
        case rel =>
          have hk' : k < l.length := by rw [HL.out]; exact hlt
          refine ⟨k + 1, by omega, by go_num, ?_, ?_, HB3⟩
          · rw [putB_succ l k hk', ← HI.out]
            exact HO3
          · intro j hj
            rw [List.take_succ_eq_append_getElem hk'] at hj
            rcases List.mem_append.1 hj with q | q
            · exact hmay.out j q
            · simp at q
              have : i = l[k] := by rw [HI.out]; simp [List.getD, hk']
              rw [q, ← this]
              exact HY.out
        case measure => simp only [intOf]; omega
    · have hkl : k = len := by omega
      have htk : l.take k = l := List.take_of_length_le (by rw [HL.out]; omega)
      rw [htk] at hown hmay
      have HA : Hid (l.all It.may = true) := List.all_eq_true.2 hmay.out
      clear htk
      go_wp2_with fail
      go_ret2
      refine ⟨_, ?_, hWr.out, fun _ => hown.out, fun h => by rw [HA.out] at h; cases h⟩
      rw [HA.out]
      rfl

/-- Items that are not too many. -/
def lightB (l : List It) : Bool := (l.take 60).all (fun i => decide (i.s.size ≤ 600)) && decide (l.length ≤ 60)

theorem light_no {l : List It} {k : Nat} (hk : k < l.length) (h60 : k < 60) (hs : 600 < (l.getD k itD).s.size) : lightB l = false := by
  have h1 : (l.take 60).all (fun i => decide (i.s.size ≤ 600)) = false := by
    rw [List.all_eq_false]
    refine ⟨l[k], ?_, ?_⟩
    · rw [List.mem_take_iff_getElem]
      exact ⟨k, by omega, rfl⟩
    · simp [List.getD, hk] at hs
      simp
      omega
  unfold lightB
  rw [h1]
  rfl

theorem light_end {l : List It} (h : ∀ j, j < l.length → j < 60 → (l.getD j itD).s.size ≤ 600) : lightB l = decide (l.length ≤ 60) := by
  have h1 : (l.take 60).all (fun i => decide (i.s.size ≤ 600)) = true := by
    rw [List.all_eq_true]
    intro x hx
    rw [List.mem_take_iff_getElem] at hx
    obtain ⟨j, hj, rfl⟩ := hx
    have := h j (by omega) (by omega)
    simp [List.getD, show j < l.length by omega] at this
    simpa using this
  unfold lightB
  rw [h1]
  rfl

end Go.Proofs.Ytdbgbldmjgonjaa
