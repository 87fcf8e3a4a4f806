/-
  The landed pool: In.
  The landed pool: Dirty.
  The landed pool: Flush, New.
  All that the landed pool says.
-/
import Derived.Test.YtpggkfdnpdhkfaaGreatBk
import Derived.Test.YtpggkfdnpdhkfaaGreatBd
import Derived.Carry
namespace Go.Proofs.YtpggkfdnpdhkfaaGreat
open Go.RowKit Go.Maps Go.Sort Go.Shelf
set_option linter.unusedVariables false

/-- slices.Sort's two contracts. -/
theorem sortsP (m : Nat) : AnyZI.SortsIn Tryz.prog sortedA_ren Fence.wide m :=
  ⟨fun blk off cap ss W hH hblk hsz => callsIn_wide.2 (AnyM.slices_Sort_int sortA blk off cap ss W hH hblk hsz),
   fun p cap W => callsIn_wide.2 (AnyM.slices_Sort_int_none sortA p cap W)⟩
/-- maps.Keys. -/
theorem keysP (mb : Option Nat) (W : World) : Calls Tryz.prog 123 #[.map mb] W fun e w' => e = .returned (.func (.func 134) #[] #[.pointer (some ⟨W.heap.size, 0, none⟩)]) ∧ w' = W.alloc (.cells #[.map mb] 124) :=
  (callsIn_wide (n := 5)).1 (AnyZI.keys_in keysA Fence.wide 5 trivial rfl mb W)
set_option maxHeartbeats 1000000 in
/-- slices.Sorted, of a map's keys. -/
theorem sortedP (w : World) (b : Nat) (f : Int → Option Value) (h : MapIs w b f) (n : Nat) (few : ∀ k, (f k).isSome = true → 0 ≤ k ∧ k < ((n : Nat) : Int)) : Calls Tryz.prog 122 #[.func (.func 134) #[] #[.pointer (some ⟨w.heap.size, 0, none⟩)]] (w.alloc (.cells #[.map (some b)] 124)) fun e w' => ∃ v, e = .returned v ∧ (∃ m, w'.ownsRow (w.alloc (.cells #[.map (some b)] 124)).heap.size 3 1 v m (ivals ((List.range n).filter fun (k : Nat) => (f ((k : Nat) : Int)).isSome))) ∧ Below (w.alloc (.cells #[.map (some b)] 124)).heap.size (w.alloc (.cells #[.map (some b)] 124)) w' := by
  obtain ⟨D, hown, hat⟩ := h.ex
  have hsz := MapIs.size hown hat h.few
  have hperm := MapIs.perm hown hat n few
  have hbl := hown.lt
  have hseq : SeqGives Fence.wide 2 Tryz.prog 134 #[.pointer (some ⟨w.heap.size, 0, none⟩)] encZ (fun ss => ss.Perm (intKeys D)) (Maps.size D) (w.alloc (.cells #[.map (some b)] 124)) :=
    AnyZI.keys_gives (ρ := keysA_ren) { keysA with } Fence.wide _ trivial rfl (by omega) w.heap.size b (Maps.size D) D _ (by simp) (by simp) (hown.alloc _)
  have cS := AnyZI.sorted_in sortedA Fence.wide 5 trivial trivial trivial trivial rfl (by omega) (sortsP _) (enters_of Tryz.func133 (by kernel_rfl) rfl) 134 #[.pointer (some ⟨w.heap.size, 0, none⟩)] trivial (enters_of Tryz.func134 (by kernel_rfl) rfl) _ _ (by unfold maxLen; omega) (by omega) _ hseq
  change CallsIn _ _ Tryz.prog 122 _ _ _ at cS
  refine ((callsIn_wide (n := 5)).1 cS).mono ?_
  rintro e w' ⟨v, ss, rfl, hS, hrow, _, hb⟩
  refine ⟨v, rfl, ⟨ss.length, ?_⟩, hb⟩
  have e1 : ss.mergeSort (fun x y => decide (x ≤ y)) = (((List.range n).filter fun (k : Nat) => (f ((k : Nat) : Int)).isSome).map fun (k : Nat) => ((k : Nat) : Int)) := by
    have h1 := mergeSort_of_perm_i (hS.trans hperm.symm)
    have tr : ∀ a b c : Int, leI a b = true → leI b c = true → leI a c = true := fun a b c h1 h2 => by simp only [leI, decide_eq_true_eq] at *; exact Int.le_trans h1 h2
    have to : ∀ a b : Int, (leI a b || leI b a) = true := fun a b => by simp only [leI, Bool.or_eq_true, decide_eq_true_eq]; exact Int.le_total a b
    refine h1.trans ?_
    refine List.Perm.eq_of_pairwise (le := fun a b => leI a b = true) (fun a b _ _ h1 h2 => ?_) (List.pairwise_mergeSort tr to _) ?_ (List.mergeSort_perm _ leI)
    · simp only [leI, decide_eq_true_eq] at h1 h2
      exact Int.le_antisymm h1 h2
    · refine List.pairwise_map.2 ((List.Pairwise.filter _ List.pairwise_lt_range).imp fun {a b} hlt => ?_)
      simp only [leI, decide_eq_true_eq]
      omega
  rw [e1] at hrow
  have e2 : (((List.range n).filter fun (k : Nat) => (f ((k : Nat) : Int)).isSome).map fun (k : Nat) => ((k : Nat) : Int)).map encZ = ivals ((List.range n).filter fun (k : Nat) => (f ((k : Nat) : Int)).isSome) := by
    unfold ivals
    rw [List.map_map]
    rfl
  rw [e2] at hrow
  exact hrow
/-- A slice of a call's own. -/
theorem own_of_row {w : World} {base : Nat} {e : TypeId} {v : Value} {m : Nat} {xs : List Value} (h : w.ownsRow base e 1 v m xs) : ∃ s : Sl, v = s.val ∧ Own e 1 w s xs ∧ s.len = m ∧ (s = Sl.nil ∨ ∃ g, s.a = some ⟨g, 0, none⟩ ∧ base ≤ g) := by
  obtain ⟨hl, h⟩ := h
  rcases h with ⟨rfl, rfl⟩ | ⟨g, cap, cur, rfl, hb, hg, h1, h2, h3, h4⟩
  · exact ⟨Sl.nil, rfl, ⟨by simpa [Sl.nil] using hl, .inl ⟨rfl, List.eq_nil_of_length_eq_zero (by simpa using hl)⟩⟩, rfl, .inl rfl⟩
  · exact ⟨⟨some ⟨g, 0, none⟩, m, cap⟩, rfl, ⟨hl, .inr ⟨g, 0, cur, rfl, hg, by simp [h3], h1, h2, by simpa using h4⟩⟩, rfl, .inr ⟨g, rfl, hb⟩⟩
/-- Numbers in a slice of a call's own, since the world w. -/
structure Nums (w w' : World) (s : Sl) (xs : List Nat) : Prop where
  own : Own 3 1 w' s (ivals xs)
  home : s = Sl.nil ∨ ∃ g, s.a = some ⟨g, 0, none⟩ ∧ w.heap.size ≤ g

set_option maxHeartbeats 4000000 in
theorem innP_any {w : World} {p d : Nat} {P : Po} {L : Dl} {Y : Nat → Prop} {v : Sl} {mb : Nat} {f : Int → Option Value} (h : PoIn w p d P L Y v mb f) (n : Nat) (hsh : ∀ k s, P.m k = some s → k < n) : Calls Tryz.prog 111 #[at0 p] w fun e w' => Below w.heap.size w w' ∧ ∃ s : Sl, e = .returned s.val ∧ Nums w w' s (P.inn n) := by
  have few : ∀ k, (f k).isSome = true → 0 ≤ k ∧ k < ((n : Nat) : Int) := fun k hk => by
    obtain ⟨h0, _⟩ := h.map.few k hk
    have hs := h.sh k.toNat
    rw [show ((k.toNat : Nat) : Int) = k by omega] at hs
    rcases hs with ⟨_, e⟩ | ⟨s, _, _, _, e1, _⟩
    · rw [e] at hk; cases hk
    · have := hsh _ _ e1
      omega
  have hin : ((List.range n).filter fun (k : Nat) => (f ((k : Nat) : Int)).isSome) = P.inn n := by
    unfold Po.inn
    refine List.filter_congr fun k _ => ?_
    rcases h.sh k with ⟨e1, e2⟩ | ⟨s, u, _, _, e1, e2, _⟩
    · rw [e1, e2]
      rfl
    · rw [e1, e2]
      rfl
  have HK := hide (keysP (some mb) w)
  have HS := hide (sortedP w mb f h.map n few)
  rw [hin] at HS
  have HA := hide (below_alloc w (.cells #[.map (some mb)] 124))
  have c3 := h.blk.c3
  clear h hsh few hin
  unfold at0
  go_enter Tryz.func111, Tryz.ntmps111
  go_wp2_with fail
  refine HK.out.mono ?_
  rintro e w1 ⟨rfl, hw1⟩
  subst hw1
  go_wp2_with fail
  refine HS.out.mono ?_
  rintro e w2 ⟨vv, rfl, ⟨m, hrow⟩, hb⟩
  obtain ⟨s, rfl, ho, _, hh⟩ := own_of_row hrow
  have HN : Hid (Nums w w2 s (P.inn n)) := ⟨ho, hh.imp id (fun ⟨g, e1, e2⟩ => ⟨g, e1, Nat.le_trans HA.out.size e2⟩)⟩
  have HB := hide (HA.out.trans (hb.mono HA.out.size))
  clear hrow hb ho hh
  go_wp2_with fail
  go_ret
  exact ⟨HB.out, s, rfl, HN.out⟩
end Go.Proofs.YtpggkfdnpdhkfaaGreat

namespace Go.Proofs.YtpggkfdnpdhkfaaGreat
open Go.RowKit Go.Maps Go.Sort Go.Shelf
set_option linter.unusedVariables false

set_option maxHeartbeats 2000000 in
theorem ixf_none (w : World) (a : Option Addr) (c : Nat) (x : Value) : Calls Tryz.prog 121 #[.slice a 0 c, x] w fun e w' => e = .returned (.int .i64 (-1)) ∧ w' = w := by
  go_enter Tryz.func121, Tryz.ntmps121
  go_wp2_with fail
  go_loopw [8] (fun i wr => i = .int .i64 0 ∧ wr = w) (fun _ _ => 0)
  case atStart => exact ⟨rfl, rfl⟩
  case round =>
    obtain ⟨rfl, rfl⟩ := hrel
    go_wp2_with fail
    go_ret
    exact ⟨rfl, rfl⟩
set_option maxHeartbeats 2000000 in
theorem delf_none (w : World) (a : Option Addr) (c : Nat) (x : Value) : Calls Tryz.prog 110 #[.slice a 0 c, x] w fun e w' => e = .returned (.slice a 0 c) ∧ w' = w := by
  have HI := hide (ixf_none w a c x)
  go_enter Tryz.func110, Tryz.ntmps110
  go_wp2_with fail
  refine HI.out.mono ?_
  rintro e w' ⟨rfl, hw⟩
  obtain rfl := hw.symm
  go_wp2_with fail
  go_ret
  exact ⟨rfl, rfl⟩

def encF (x : Fin 64) : Value := .int .i64 ((x.val : Nat) : Int)
def ofF (k : Nat) : Fin 64 := ⟨k % 64, Nat.mod_lt _ (by omega)⟩
theorem encF_of {k : Nat} (h : k < 64) : encF (ofF k) = .int .i64 ((k : Nat) : Int) := by
  show Value.int .i64 ((k % 64 : Nat) : Int) = _
  rw [Nat.mod_eq_of_lt h]
def cleanF (P : Po) (x : Fin 64) : Bool := !P.isDirty x.val

set_option maxHeartbeats 2000000 in
/-- The closure. -/
theorem dirty1_any (W : World) (B p d : Nat) (P : Po) (L : Dl) (Y : Nat → Prop) (v : Sl) (mb : Nat) (f : Int → Option Value) (hB : W.cell? ⟨B, 0, none⟩ = some (.pointer (some ⟨p, 0, none⟩))) (hp : W.cell? ⟨p, 3, none⟩ = some (.map (some mb))) (hlook : ∀ k : Nat, k < 64 → ∃ (sl : Sl) (z : Int), (Instr.lookup 124 (.map (some mb)) (.int .i64 ((k : Nat) : Int)) false).run Tryz.prog W = .ok (.agg #[.slice sl.a sl.len sl.cap, .bool (P.isDirty k), .int .i64 z]) W) (x : Fin 64) : FnGives Tryz.prog 112 #[.pointer (some ⟨B, 0, none⟩)] #[encF x] (.bool (cleanF P x)) W := by
  obtain ⟨⟨sa, sl, sc⟩, z, hl⟩ := hlook x.val x.isLt
  show Calls Tryz.prog 112 #[.int .i64 ((x.val : Nat) : Int), .pointer (some ⟨B, 0, none⟩)] W _
  unfold cleanF
  have hfd := fldFr
  clear hlook
  simp only at hl
  generalize P.isDirty x.val = b at *
  generalize x.val = k at *
  cases b
  · go_enter Tryz.func112, Tryz.ntmps112
    go_wp2_with fail
    go_ret
    exact ⟨rfl, 0, rfl⟩
  · go_enter Tryz.func112, Tryz.ntmps112
    go_wp2_with fail
    go_ret
    exact ⟨rfl, 0, rfl⟩

theorem take_putF (cur : Array Value) (ts : List (Fin 64)) (m : Nat) (hm : m ≤ ts.length) (h : ts.length ≤ cur.size) : (putCells encF 0 ts.toArray cur).toList.take m = (ts.take m).map encF := by
  apply List.ext_getElem?
  intro j
  by_cases hj : j < m
  · rw [List.getElem?_take_of_lt hj, Array.getElem?_toList, List.getElem?_map, List.getElem?_take_of_lt hj]
    simp [putCells, show j < ts.length by omega, show j < cur.size by omega]
  · rw [List.getElem?_take_eq_none (by omega), List.getElem?_eq_none (by simp; omega)]
theorem heap_putF {w : World} {g n : Nat} {cur : Array Value} {e : TypeId} {fr : Nat × Nat} (d : Array (Fin 64)) (hb : w.heap[g]? = some (.cells cur e fr)) : (putRow encF (Sort.ahead w n) g 0 d).heap[g]? = some (.cells (putCells encF 0 d cur) e fr) := by
  simp [putRow, mapBlock, Sort.ahead, Array.getElem?_modify, hb, onCells]
theorem heap_putF_other {w : World} {g n i : Nat} (d : Array (Fin 64)) (hne : i ≠ g) : (putRow encF (Sort.ahead w n) g 0 d).heap[i]? = w.heap[i]? := by
  have : g ≠ i := fun e => hne e.symm
  simp [putRow, mapBlock, Sort.ahead, Array.getElem?_modify, this]
theorem filter_ofF (P : Po) (xs : List Nat) (hx : ∀ k ∈ xs, k < 64) : ((xs.map ofF).filter fun x => !cleanF P x) = (xs.filter P.isDirty).map ofF := by
  rw [List.filter_map]
  congr 1
  refine List.filter_congr fun k hk => ?_
  show (!cleanF P (ofF k)) = P.isDirty k
  unfold cleanF ofF
  simp only [Bool.not_not]
  rw [Nat.mod_eq_of_lt (hx k hk)]
theorem map_ofF (xs : List Nat) (hx : ∀ k ∈ xs, k < 64) : (xs.map ofF).map encF = ivals xs := by
  unfold ivals
  rw [List.map_map]
  exact List.map_congr_left fun k hk => encF_of (hx k hk)
theorem frm_sortF (w : World) (g n : Nat) (dk : Array (Fin 64)) (os : Array Obj) : Frm (fun i => i = g) w (sortWorld encF w g 0 n dk os) := by
  unfold sortWorld
  refine ⟨rfl, rfl, rfl, by simp, fun i hi hne => ?_⟩
  rw [heap_grow_old _ _ (by simpa using hi)]
  exact heap_putF_other dk hne

set_option maxHeartbeats 4000000 in
/-- What DeleteFunc leaves of the pages that are in. -/
theorem delfP {w w2 : World} {p d B : Nat} {P : Po} {L : Dl} {Y : Nat → Prop} {v : Sl} {mb : Nat} {f : Int → Option Value} (h : PoIn w p d P L Y v mb f) (hb2 : Below w.heap.size w w2) (hB : w2.cell? ⟨B, 0, none⟩ = some (.pointer (some ⟨p, 0, none⟩))) (hBl : w.heap.size ≤ B) (s : Sl) (n : Nat) (hn : n ≤ 64) (hs : Own 3 1 w2 s (ivals (P.inn n))) (hh : s = Sl.nil ∨ ∃ g, s.a = some ⟨g, 0, none⟩ ∧ w.heap.size ≤ g ∧ B < g) : Calls Tryz.prog 110 #[s.val, .func (.func 112) #[] #[.pointer (some ⟨B, 0, none⟩)]] w2 fun e w' => Below w.heap.size w w' ∧ ∃ t : Sl, e = .returned t.val ∧ Nums w w' t (P.dirty n) := by
  have hx : ∀ k ∈ P.inn n, k < 64 := fun k hk => by
    have := List.mem_range.1 (List.mem_filter.1 hk).1
    omega
  rcases hh with rfl | ⟨g, ha, hg, hBg⟩
  · refine (delf_none w2 none 0 _).mono ?_
    rintro e w' ⟨rfl, rfl⟩
    have h0 : P.inn n = [] := by
      have := hs.1
      simp [ivals, Sl.nil] at this
      exact List.eq_nil_of_length_eq_zero (by simpa using this)
    refine ⟨hb2, Sl.nil, rfl, ?_, .inl rfl⟩
    rw [dirty_inn, h0]
    exact Own.nil _ _ _
  · obtain ⟨sa, sl, sc⟩ := s
    simp only at ha
    subst ha
    obtain ⟨hl, hs⟩ := hs
    rcases hs with ⟨e, _⟩ | ⟨g', off, cur, e, hcur, h1, h2, h3, h4⟩
    · simp [Sl.nil] at e
    simp only [Option.some.injEq, Addr.mk.injEq, and_true] at e h1 h2 h3 h4 hl
    obtain ⟨rfl, rfl⟩ := e
    have hlen : (P.inn n).length = sl := by
      have := hl
      simp [ivals] at this
      exact this
    have hI2 := h.keep hb2
    have hgl : g < w2.heap.size := (Array.getElem?_eq_some_iff.1 hcur).1
    have hgn : ∀ i, poX p mb Y i ∨ L.F d i → ¬ i = g := fun i e k => by
      rcases e with (e | e | e) | e
      · have := h.blk.lt; omega
      · have := h.map.lt; omega
      · have := h.lt i e; omega
      · have := h.dev.lt e; omega
    have looks : ∀ W, PoIn W p d P L Y v mb f → ∀ k : Nat, k < 64 → ∃ (sl : Sl) (z : Int), (Instr.lookup 124 (.map (some mb)) (.int .i64 ((k : Nat) : Int)) false).run Tryz.prog W = .ok (.agg #[.slice sl.a sl.len sl.cap, .bool (P.isDirty k), .int .i64 z]) W := fun W hW k hk => by
      obtain ⟨sl, z, hl, _⟩ := hW.looks k (by omega)
      exact ⟨sl, z, hl⟩
    have hBl2 : B < w2.heap.size := World.block_lt_of_cell? w2 _ hB
    have hp : PredAt Tryz.prog 112 #[.pointer (some ⟨B, 0, none⟩)] encF (cleanF P) w2 := fun W x hb => by
      have hW := hI2.keep hb
      exact dirty1_any W B p d P L Y v mb f ((hb.cell (p := ⟨B, 0, none⟩) hBl2).trans hB) hW.blk.c3 (looks W hW) x
    have hpo : PredOver Tryz.prog 112 #[.pointer (some ⟨B, 0, none⟩)] encF (cleanF P) g 0 ((P.inn n).map ofF).toArray.size w2 := fun q os dk x _ => by
      have fr := frm_sortF w2 g q dk os
      have hW := hI2.frm fr hgn
      refine dirty1_any _ B p d P L Y v mb f ?_ hW.blk.c3 (looks _ hW) x
      have e := fr.block B hBl2 (by omega)
      simp only [World.cell?, e] at hB ⊢
      exact hB
    have hsz : ((P.inn n).map ofF).toArray.size = sl := by simp [hlen]
    have hH : Holds encF w2 g 0 ((P.inn n).map ofF).toArray := by
      intro j hj
      have hj' : j < (P.inn n).length := by simpa using hj
      have hc := congrArg (fun l => l[j]?) h4
      simp only [List.drop_zero, Nat.mul_one] at hc
      rw [List.getElem?_take_of_lt (by omega)] at hc
      refine ⟨?_, frozen_of_row w2 g _ _ 3 hcur⟩
      rw [Nat.zero_add, Addr.cell0 hcur, ← Array.getElem?_toList, hc]
      simp only [ivals, List.getElem?_map, List.getElem?_eq_getElem hj', Option.map_some]
      rw [show ((P.inn n).map ofF).toArray[j]! = ofF (P.inn n)[j] by rw [getElem!_pos _ j hj]; simp]
      rw [encF_of (hx _ (List.getElem_mem hj'))]
    have hc := AnyE.slices_DeleteFunc delA encF (fun _ => rfl) (cleanF P) 112 #[.pointer (some ⟨B, 0, none⟩)] (enters_of Tryz.func112 (by kernel_rfl) rfl) (ofF 0) Tryz.zeroValue3 g 0 sc ((P.inn n).map ofF).toArray w2 hp hpo hH (by rw [hsz]; unfold maxLen at h3; omega) (by rw [hsz]; exact h2)
    rw [hsz] at hc
    simp only [filter_ofF P (P.inn n) hx] at hc
    rw [← dirty_inn] at hc
    change Calls Tryz.prog 110 _ _ _ at hc
    refine hc.mono ?_
    rintro e w' ⟨rfl, q, rfl⟩
    have hdl : (P.dirty n).length ≤ sl := by rw [← hlen]; exact dirty_le P n
    have hxd : ∀ k ∈ P.dirty n, k < 64 := fun k hk => by
      have := List.mem_range.1 (List.mem_filter.1 hk).1
      omega
    refine ⟨⟨hb2.os, hb2.tape, hb2.output, by simpa using hb2.size, fun i hi => (heap_putF_other _ (by omega)).trans (hb2.block i hi)⟩, ⟨some ⟨g, 0, none⟩, (P.dirty n).length, sc⟩, by simp [Sl.val], ⟨?_, ?_⟩⟩
    · refine ⟨by simp [ivals], .inr ⟨g, 0, _, rfl, heap_putF _ hcur, ?_, ?_, h3, ?_⟩⟩
      · simp [putCells]
        simpa using h1
      · show (P.dirty n).length ≤ sc
        omega
      · simp only [List.drop_zero, Nat.mul_one]
        rw [take_putF _ _ _ (by simp) (by simp; omega)]
        rw [List.take_append_of_le_length (by simp), List.take_of_length_le (by simp), map_ofF _ hxd]
    · exact .inr ⟨g, rfl, hg⟩

set_option maxHeartbeats 4000000 in
theorem dirtyP_any {w : World} {p d : Nat} {P : Po} {L : Dl} {Y : Nat → Prop} {v : Sl} {mb : Nat} {f : Int → Option Value} (h : PoIn w p d P L Y v mb f) (n : Nat) (hn : n ≤ 64) (hsh : ∀ k s, P.m k = some s → k < n) : Calls Tryz.prog 89 #[at0 p] w fun e w' => Below w.heap.size w w' ∧ ∃ s : Sl, e = .returned s.val ∧ Nums w w' s (P.dirty n) := by
  have HA := hide (below_alloc w (.cells #[.pointer (some ⟨p, 0, none⟩)] 81))
  have HI1 := hide (innP_any (h.keep HA.out) n hsh)
  have HB0 : Hid ((w.alloc (.cells #[.pointer (some ⟨p, 0, none⟩)] 81)).cell? ⟨w.heap.size, 0, none⟩ = some (.pointer (some ⟨p, 0, none⟩))) := (Addr.cell0 (heap_alloc_new w _)).trans rfl
  have HI := hide h
  have HN := hide hn
  have hmf : ∀ (fn : Fn) (first cap : Array Value) (w : World), (Instr.makeFunc fn first cap).run Tryz.prog w = .ok (.func fn first cap) w := fun _ _ _ _ => rfl
  clear h hsh hn
  unfold at0 at *
  go_enter Tryz.func89, Tryz.ntmps89
  go_wp2_with fail
  refine HI1.out.mono ?_
  rintro e w2 ⟨hb2, s, rfl, hN⟩
  have hsz : w.heap.size < (w.alloc (.cells #[.pointer (some ⟨p, 0, none⟩)] 81)).heap.size := by simp
  have HD := hide (delfP (B := w.heap.size) HI.out (HA.out.trans (hb2.mono HA.out.size)) ((hb2.cell (p := ⟨w.heap.size, 0, none⟩) hsz).trans HB0.out) (Nat.le_refl _) s n HN.out hN.own (hN.home.imp id (fun ⟨g, e1, e2⟩ => ⟨g, e1, by omega, by omega⟩)))
  clear hb2 hN hsz
  obtain ⟨sa, sl, sc⟩ := s
  simp only [Sl.val] at *
  go_wp2_with fail
  refine HD.out.mono ?_
  rintro e w3 ⟨hb3, ⟨ta, tl, tc⟩, rfl, hN3⟩
  have HB3 := hide hb3
  have HN3 := hide hN3
  clear hb3 hN3
  simp only at *
  go_wp2_with fail
  go_ret
  exact ⟨HB3.out, ⟨ta, tl, tc⟩, rfl, HN3.out⟩
end Go.Proofs.YtpggkfdnpdhkfaaGreat

namespace Go.Proofs.YtpggkfdnpdhkfaaGreat
open Go.RowKit
set_option maxRecDepth 100000
set_option linter.unusedVariables false

theorem write_m_other (Q : Po) (k i : Nat) (h : i ≠ k) : (Q.write k).m i = Q.m i := by
  unfold Po.write
  cases e : Q.m k with
  | none => rfl
  | some s =>
    simp only
    split
    · rw [wrote_m, if_neg h]
    · rfl
theorem writes_m_other : ∀ (l : List Nat) (Q : Po) (i : Nat), i ∉ l → (l.foldl Po.write Q).m i = Q.m i
  | [], _, _, _ => rfl
  | k :: l, Q, i, h => by
    rw [List.foldl_cons, writes_m_other l _ i (fun e => h (List.mem_cons_of_mem _ e)), write_m_other _ _ _ (fun e => h (by rw [e]; exact List.mem_cons_self))]
theorem dirty_at (P : Po) (n j : Nat) (hj : j < (P.dirty n).length) : ∃ s, P.m (P.dirty n)[j] = some s ∧ s.dirty = true ∧ (((P.dirty n).take j).foldl Po.write P).m (P.dirty n)[j] = some s := by
  have hm := (List.mem_filter.1 (List.getElem_mem hj)).2
  unfold Po.isDirty at hm
  have hp : (P.dirty n).Pairwise (· < ·) := List.Pairwise.filter _ List.pairwise_lt_range
  cases e : P.m (P.dirty n)[j] with
  | none => rw [e] at hm; cases hm
  | some s =>
    rw [e] at hm
    refine ⟨s, rfl, hm, ?_⟩
    rw [writes_m_other _ _ _ (fun hin => ?_), e]
    obtain ⟨i, hi, he⟩ := List.mem_iff_getElem.1 hin
    rw [List.length_take] at hi
    rw [List.getElem_take] at he
    have := List.pairwise_iff_getElem.1 hp i j (by omega) hj (by omega)
    omega
theorem nums_len {w w' : World} {s : Sl} {xs : List Nat} (h : Nums w w' s xs) : s.len = xs.length := by
  have := h.own.1
  simp [ivals] at this
  exact this.symm
theorem nums_at {w w' : World} {g len cap : Nat} {xs : List Nat} (h : Own 3 1 w' ⟨some ⟨g, 0, none⟩, len, cap⟩ (ivals xs)) (j : Nat) (hj : j < xs.length) : w'.cell? ⟨g, j, none⟩ = some (.int .i64 ((xs[j] : Nat) : Int)) := by
  have := h.cell (a := ⟨g, 0, none⟩) rfl j (.int .i64 ((xs[j] : Nat) : Int)) (by simp [ivals, hj])
  simpa [Addr.add_lit] using this

set_option maxHeartbeats 8000000 in
set_option maxRecDepth 100000 in
theorem flushP_any {w : World} {p d : Nat} {P : Po} {L : Dl} {Y : Nat → Prop} {v : Sl} {mb : Nat} {f : Int → Option Value} (h : PoIn w p d P L Y v mb f) {n c : Nat} (hF : P.Fine n c) : Calls Tryz.prog 59 #[at0 p] w fun e w' => Did w p d mb L Y w' (P.flush n) ∧ e = .returned (.int .i64 (((P.dirty n).length : Nat) : Int)) := by
  have hn64 := hF.wet.dev.n2
  have HD := hide (dirtyP_any h n hn64 (fun k s hk => (hF.wet.sh k s hk).1))
  have hdl : (P.dirty n).length ≤ n := Nat.le_trans (List.length_filter_le _ _) (by simp)
  have HI := hide h
  have HF := hide hF
  have HN := hide hn64
  have hd64 : (P.dirty n).length ≤ 64 := by omega
  have HFL : Hid (P.flush n = ((P.dirty n).take (P.dirty n).length).foldl Po.write P) := by
    show P.flush n = _
    rw [List.take_length]
    rfl
  have HAT := hide (dirty_at P n)
  rw [HFL.out]
  clear h hF hn64 hdl
  generalize hxs : P.dirty n = xs at *
  clear hxs
  unfold at0 at *
  go_enter Tryz.func59, Tryz.ntmps59
  go_wp2_with fail
  refine HD.out.mono ?_
  rintro e w1 ⟨hb1, s, rfl, hN1⟩
  have hsl := nums_len hN1
  have HN1 := hide hN1
  have HB1 := hide hb1
  have HI1 := hide (HI.out.keep hb1)
  clear hb1 hN1
  obtain ⟨sa, sl, sc⟩ := s
  simp only at hsl
  subst hsl
  simp only [Sl.val]
  go_wp2_with fail
  go_loopw [10] (fun i wr => ∃ j : Nat, j ≤ xs.length ∧ i = .int .i64 j ∧ Hid (Did w1 p d mb L Y wr ((xs.take j).foldl Po.write P))) (fun i _ => xs.length - (intOf i).toNat)
  case atStart => exact ⟨0, by omega, rfl, hide (HI1.out.same (Below.refl _ _))⟩
  case round =>
    obtain ⟨j, hj, rfl, hDj⟩ := hrel
    by_cases hlt : j < xs.length
    · have i1 : ((j : Nat) : Int) < ((xs.length : Nat) : Int) := by omega
      obtain ⟨s, e1, e2, e3⟩ := HAT.out j hlt
      obtain ⟨L2, Y2, v2, f2, hI2, hy2, hl2⟩ := hDj.out.ex
      have hfr := hDj.out.frm
      have hg : ∃ g, sa = some ⟨g, 0, none⟩ ∧ w.heap.size ≤ g := by
        rcases HN1.out.home with e | ⟨g, e, k⟩
        · simp only [Sl.nil, Sl.mk.injEq] at e
          omega
        · exact ⟨g, e, k⟩
      obtain ⟨g, rfl, hgw⟩ := hg
      have hown : Own 3 1 wr ⟨some ⟨g, 0, none⟩, xs.length, sc⟩ (ivals xs) := HN1.out.own.frame (fun k hk => by
        have hkg : k = g := by simpa [Sl.blk] using hk.symm
        refine hfr.block k (HN1.out.own.lt hk) (fun e => ?_)
        rw [hkg] at e
        exact (HI.out.new hgw).1 e)
      have hcell := nums_at (w := w) hown j hlt
      have hW : ((xs.take j).foldl Po.write P).Lite n (c + 4 * j) := by
        have h1 := Po.Wet.writes (xs.take j) P c HF.out.wet
        rw [List.length_take, Nat.min_eq_left hj] at h1
        refine ⟨h1, ?_, ?_⟩
        · have := HF.out.cap
          omega
        · rw [writes_ss]
          exact HF.out.ss
      have hwr := writeP_any hI2 hW xs[j] s e3 e2
      rw [← write_dirty _ _ _ e3 e2] at hwr
      have HT : Hid ((xs.take (j + 1)).foldl Po.write P = ((xs.take j).foldl Po.write P).write xs[j]) := by
        show _ = _
        rw [List.take_succ_eq_append_getElem hlt, List.foldl_append]
        rfl
      have HWR := hide hwr
      have HFR := hide hfr
      have HY2 := hide hy2
      have HL2 := hide hl2
      generalize xs[j] = xj at *
      unfold at0 at HWR
      clear hown hW hwr e1 e2 e3 hI2 hy2 hl2 hfr
      go_wp2_with fail
      refine HWR.out.mono ?_
      rintro e w3 ⟨hD3, rfl⟩
      have HD3 : Hid (Did w1 p d mb L Y w3 ((xs.take (j + 1)).foldl Po.write P)) := by
        rw [HT.out]
        exact hide (Did.after HFR.out HY2.out HL2.out hD3)
      clear hD3
      go_wp2_with fail
      go_roundw
      case rel => exact ⟨j + 1, by omega, by go_num, HD3⟩
      case measure => simp only [intOf]; omega
    · have hje : j = xs.length := by omega
      have i1 : ¬ ((j : Nat) : Int) < ((xs.length : Nat) : Int) := by omega
      have HE : Hid (Did w p d mb L Y wr ((xs.take xs.length).foldl Po.write P)) := by
        rw [hje] at hDj
        exact hide (Did.after (Frm.ofBelow HB1.out) (fun _ e => .inl e) (fun _ e => .inl e) hDj.out)
      clear hje
      go_wp2_with fail
      go_ret
      have hE := HE.out
      rw [List.take_length] at hE
      exact ⟨hE, rfl⟩

set_option maxHeartbeats 8000000 in
set_option maxRecDepth 100000 in
theorem newP_any (w : World) (d : Nat) (D : Ds) (L : Dl) (n c f : Nat) (h : DevM w d D L) (hE : D.Easy n c) (hss : D.ss.length ≤ 65536) (h1 : 1 ≤ f) (h2 : f ≤ 64) : Calls Tryz.prog 38 #[at0 d, .int .i64 ((f : Nat) : Int)] w fun e w' => Below w.heap.size w w' ∧ ∃ p X, e = .returned (.tuple #[at0 p, .int .i64 0]) ∧ poM w' p d (Po.new D f) L X ∧ ∀ k, X k → w.heap.size ≤ k := by
  have hn1 := hE.n1
  have HP := hide (pages_any w d D L h n hE.sp hE.n2)
  have hne : (((n : Nat) : Int) == 0) = false := by simp; omega
  have HCN := hide (new_ok f h1 h2 w)
  have HI := hide h
  have HE := hide hE
  have HSS := hide hss
  have hmk : ∀ w : World, (Instr.makeMap 124 none).run Tryz.prog w = .ok (.map (some w.heap.size)) (w.alloc (.map #[] 0)) := fun w => run_makeMap _ w
  clear h hE hss h1 h2
  unfold at0 at *
  go_enter Tryz.func38, Tryz.ntmps38
  go_wp2_with fail
  refine HP.out.mono ?_
  rintro e w' ⟨rfl, hw'⟩
  obtain rfl := hw'.symm
  clear hw'
  go_wp2_with fail
  refine HCN.out.mono ?_
  rintro e w1 ⟨hb1, ⟨sa, sl, sc⟩, rfl, hg1⟩
  simp only [ckV, Sl.val]
  have hA2 := below_alloc w1 (.cells #[.slice sa sl sc, .int .i64 0] 40)
  have hB2 := hb1.trans (hA2.mono hb1.size)
  have hD2 := HI.out.keep hB2
  have hst := stream_any _ d D L hD2 n HE.out.sp HE.out.n2 HE.out.n1 (by have := HSS.out; omega)
  have HST := hide hst
  have HG1 := hide hg1
  have HB1 := hide hb1
  have HB2 := hide hB2
  have HCK : Hid ((w1.alloc (.cells #[.slice sa sl sc, .int .i64 0] 40)).heap[w1.heap.size]? = some (.cells #[.slice sa sl sc, .int .i64 0] 40 (0, 0))) := heap_alloc_new w1 _
  have HA2 := hide hA2
  clear hg1 hb1 hA2 hB2 hD2 hst
  go_wp2_with fail
  refine HST.out.mono ?_
  rintro e w3 ⟨hb3, ⟨ta, tl, tc⟩, rfl, _, _, _⟩
  simp only
  have hck : w3.heap[w1.heap.size]? = some (.cells #[.slice sa sl sc, .int .i64 0] 40 (0, 0)) := (hb3.block _ (by simp)).trans HCK.out
  have c0 : w3.cell? ⟨w1.heap.size, 0, none⟩ = some (.slice sa sl sc) := (Addr.cell0 hck).trans rfl
  have c1 : w3.cell? ⟨w1.heap.size, 1, none⟩ = some (.int .i64 0) := (Addr.cell0 hck).trans rfl
  have hB3 := HB2.out.trans (hb3.mono HB2.out.size)
  have hA4 := below_alloc w3 (.map #[] 0)
  have hB4 := hB3.trans (hA4.mono hB3.size)
  obtain ⟨w4, hw4⟩ : ∃ w4, w4 = w3.alloc (.map #[] 0) := ⟨_, rfl⟩
  rw [← hw4] at hA4 hB4
  have hs4 : w4.heap.size = w3.heap.size + 1 := by rw [hw4]; simp
  have hA5 := below_alloc w4 (.cells #[.pointer (some ⟨d, 0, none⟩), .slice sa sl sc, .int .i64 0, .map (some w3.heap.size), .int .i64 ((D.sb : Nat) : Int)] 126)
  obtain ⟨w5, hw5⟩ : ∃ w5, w5 = w4.alloc (.cells #[.pointer (some ⟨d, 0, none⟩), .slice sa sl sc, .int .i64 0, .map (some w3.heap.size), .int .i64 ((D.sb : Nat) : Int)] 126) := ⟨_, rfl⟩
  rw [← hw5] at hA5
  have hB5 := hB4.trans (hA5.mono hB4.size)
  have hs5 : w5.heap.size = w4.heap.size + 1 := by rw [hw5]; simp
  have hblk : PoBlk w5 w4.heap.size d ⟨sa, sl, sc⟩ 0 w3.heap.size ((D.sb : Nat) : Int) := by
    rw [hw5]
    exact heap_alloc_new w4 _
  have hmp : MapIs w5 w3.heap.size (fun _ => none) := (show MapIs w4 w3.heap.size (fun _ => none) by rw [hw4]; exact MapIs.made w3).frm (hA5.block _ (by omega))
  have hw1s : w1.heap.size < w3.heap.size := by
    have := hb3.size
    simp at this
    omega
  have hIn : PoIn w5 w4.heap.size d (Po.new D f) L (more (fun _ => False) ⟨sa, sl, sc⟩) ⟨sa, sl, sc⟩ w3.heap.size (fun _ => none) := by
    have b15 : ∀ i, i < w1.heap.size → w5.heap[i]? = w1.heap[i]? := fun i hi => by
      rw [hA5.block i (by omega), hA4.block i (by omega), hb3.block i (by simp; omega), HA2.out.block i hi]
    have hws := HB1.out.size
    have hmy : ∀ k, more (fun _ => False) ⟨sa, sl, sc⟩ k → w.heap.size ≤ k ∧ TyB w1 k := fun k e => e.elim (fun e => e.elim) (fun e => gs_new HG1.out k e.1 e.2)
    have hmz : ∀ k, more (fun _ => False) ⟨sa, sl, sc⟩ k → w.heap.size ≤ k ∧ k < w1.heap.size := fun k e => ⟨(hmy k e).1, (hmy k e).2.lt⟩
    refine ⟨HI.out.keep hB5, ?_, hmp, frmG (gs_in _ HG1.out) (fun i hi => b15 i (hmz i hi).2) (fun _ e => e), fun k => .inl ⟨rfl, rfl⟩, fun e => by have := hmz _ e; omega, fun e => by have := hmz _ e; omega, by omega, fun k hk => by have := hmz _ hk; omega, fun k hk hF => ?_, fun k hk => (hmy k hk).2.frm (b15 k (hmz k hk).2)⟩
    · show PoBlk w5 w4.heap.size d ⟨sa, sl, sc⟩ 0 w3.heap.size ((D.sb : Nat) : Int)
      exact hblk
    · have := HI.out.lt hF
      rcases hk with e | e | e
      · omega
      · omega
      · have := hmz _ e
        omega
  have HOK : Hid (Below w.heap.size w w5 ∧ ∃ X, poM w5 (w3.heap.size + 1) d (Po.new D f) L X ∧ ∀ k, X k → w.heap.size ≤ k) := by
    rw [← hs4]
    refine ⟨hB5, poX w4.heap.size w3.heap.size _, ⟨_, _, _, _, hIn, rfl⟩, fun k hk => ?_⟩
    have h3 := hB3.size
    rcases hk with e | e | e
    · omega
    · omega
    · exact e.elim (fun e => e.elim) (fun e => (gs_new HG1.out k e.1 e.2).1)
  have HW4 := hide hw4
  have HW5 := hide hw5
  clear hck hB3 hA4 hB4 hA5 hB5 hblk hmp hIn hb3 hw4 hw5
  go_wp2_with fail
  rw [← HW4.out, ← HW5.out]
  go_ret2
  obtain ⟨hb, X, hM, hX⟩ := HOK.out
  exact ⟨hb, _, rfl, X, hM, hX⟩

set_option maxHeartbeats 4000000 in
theorem newBadP_any (w : World) (d : Nat) (D : Ds) (L : Dl) (n c : Nat) (f : Int) (h : DevM w d D L) (hE : D.Easy n c) (hf : ¬ (1 ≤ f ∧ f ≤ 64)) : Calls Tryz.prog 38 #[at0 d, .int .i64 f] w fun e w' => Below w.heap.size w w' ∧ e = .returned (.tuple #[.pointer none, .int .i64 1]) := by
  have hn1 := hE.n1
  have HP := hide (pages_any w d D L h n hE.sp hE.n2)
  have hne : (((n : Nat) : Int) == 0) = false := by simp; omega
  have HCN := hide (new_bad f (by omega) w)
  clear h hE hf
  unfold at0 at *
  go_enter Tryz.func38, Tryz.ntmps38
  go_wp2_with fail
  refine HP.out.mono ?_
  rintro e w' ⟨rfl, hw'⟩
  obtain rfl := hw'.symm
  clear hw'
  go_wp2_with fail
  refine HCN.out.mono ?_
  rintro e w1 ⟨hb1, rfl⟩
  simp only [ckV, Sl.val, Sl.nil]
  have hA2 := below_alloc w1 (.cells #[.slice none 0 0, .int .i64 0] 40)
  have HB2 := hide (hb1.trans (hA2.mono hb1.size))
  clear hb1 hA2
  go_wp2_with fail
  go_ret2
  exact ⟨HB2.out, rfl⟩

set_option maxHeartbeats 4000000 in
theorem newDeadP_any (w : World) (v : Value) (h : Dead w v) : Calls Tryz.prog 38 #[v, .int .i64 1] w fun e w' => Below w.heap.size w w' ∧ e = .returned (.tuple #[.pointer none, .int .i64 1]) := by
  have HP := hide (dead_pages w v h)
  have HB := hide (Below.refl w.heap.size w)
  clear h
  go_enter Tryz.func38, Tryz.ntmps38
  go_wp2_with fail
  refine HP.out.mono ?_
  rintro e w' ⟨rfl, hw'⟩
  obtain rfl := hw'.symm
  clear hw'
  go_wp2_with fail
  go_ret2
  exact ⟨HB.out, rfl⟩
end Go.Proofs.YtpggkfdnpdhkfaaGreat

namespace Go.Proofs.YtpggkfdnpdhkfaaGreat
open Go.RowKit
set_option maxRecDepth 100000
set_option linter.unusedVariables false

theorem poolS_holds : PoolS poM := by
  refine ⟨?_, ?_, ?_, ?_, ?_, ?_, ?_, ?_, ?_, ?_, ?_, ?_, ?_, ?_, ?_, ?_, ?_, ?_, ?_⟩
  · rintro w p d P L X ⟨Y, v, mb, f, h, rfl⟩
    exact h.dev
  · rintro w p d P L X ⟨Y, v, mb, f, h, rfl⟩ k hk
    rcases hk with e | e | e
    · have := h.blk.lt; omega
    · have := h.map.lt; omega
    · exact h.lt k e
  · rintro w p d P L X ⟨Y, v, mb, f, h, rfl⟩ k hk
    exact h.ap k hk
  · rintro w p d P L X w' F ⟨Y, v, mb, f, h, rfl⟩ hf hF
    exact ⟨Y, v, mb, f, h.frm hf hF, rfl⟩
  · rintro w p d P L X w' D' L' ⟨Y, v, mb, f, h, rfl⟩ ht
    exact ⟨Y, v, mb, f, h.turn ht, rfl⟩
  · intro w d D L n c f h hE hss h1 h2
    exact newP_any w d D L n c f h hE hss h1 h2
  · intro w d D L n c f h hE hss hf
    exact newBadP_any w d D L n c f h hE hf
  · intro w v h
    exact newDeadP_any w v h
  · rintro w p d P L X n c k ⟨Y, v, mb, f, h, rfl⟩ hF hk
    refine (readP_any h hF k hk).mono ?_
    rintro e w' ⟨hD, r⟩
    exact ⟨hD.acted, r⟩
  · rintro w p d P L X n c k ⟨Y, v, mb, f, h, rfl⟩ hF hk
    exact readNoneP_any h hF k hk
  · rintro w p d P L X n c k a cap ys z ⟨Y, v, mb, f, h, rfl⟩ hF hk hy hoff _
    refine (putP_any h hF k hk a cap ys z hy hoff).mono ?_
    rintro e w' ⟨hD, r⟩
    exact ⟨hD.acted, r⟩
  · rintro w p d P L X n c k a len cap z ⟨Y, v, mb, f, h, rfl⟩ hF hk
    exact putNoneP_any h hF k _ _ hk
  · rintro w p d P L X n c k a len cap z ⟨Y, v, mb, f, h, rfl⟩ hF hk hl _
    exact putArgP_any h hF k hk a len cap _ hl
  · rintro w p d P L X n c ⟨Y, v, mb, f, h, rfl⟩ hF
    refine (flushP_any h hF).mono ?_
    rintro e w' ⟨hD, r⟩
    exact ⟨hD.acted, r⟩
  · rintro w p d P L X n c k ⟨Y, v, mb, f, h, rfl⟩ hF hk
    refine (evictP_any h hF k hk).mono ?_
    rintro e w' ⟨hD, r⟩
    exact ⟨hD.acted, r⟩
  · rintro w p d P L X n c k ⟨Y, v, mb, f, h, rfl⟩ hF hk hw
    exact evictNoneP_any h k hk hw
  · rintro w p d P L X n c ⟨Y, v, mb, f, h, rfl⟩ hF
    refine (syncedP_any h hF.wet.dev hF.ss).mono ?_
    rintro e w' ⟨r, hI, hf⟩
    exact ⟨(Did.acted ⟨⟨L, Y, v, f, hI, fun _ e => .inl e, fun _ e => .inl e⟩, hf.mono (fun i _ e => .inl e)⟩), r⟩
  · rintro w p d P L X n c ⟨Y, v, mb, f, h, rfl⟩ hF
    refine (innP_any h n (fun k s hk => (hF.wet.sh k s hk).1)).mono ?_
    rintro e w' ⟨hb, s, r, hN⟩
    exact ⟨hb, s, r, hN.own⟩
  · rintro w p d P L X n c ⟨Y, v, mb, f, h, rfl⟩ hF
    refine (dirtyP_any h n hF.wet.dev.n2 (fun k s hk => (hF.wet.sh k s hk).1)).mono ?_
    rintro e w' ⟨hb, s, r, hN⟩
    exact ⟨hb, s, r, hN.own⟩
end Go.Proofs.YtpggkfdnpdhkfaaGreat
