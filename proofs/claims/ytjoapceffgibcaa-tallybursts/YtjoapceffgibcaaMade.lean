/-
  What the functions of layer 2 that make bytes hand back, call by call: new bytes in new memory; what was there stays.
-/
import Derived.Test.YtjoapceffgibcaaLeaves
import Derived.Laws.AppendOwnNone
import Derived.Laws.IdiomStrings
import Derived.Laws.BytesArg
import Derived.Below
import Derived.ArgAppend
import Derived.BigQuiet
namespace Go.Proofs.Ytjoapceffgibcaa
open Go.RowKit

theorem info5 : (Try.prog.info? 5).map (fun i => (i.zero, i.size, i.bytes)) = some (some (.int .u8 0), 1, 1) := by kernel_rfl

/-- Bytes, as cells. -/
def vals (xs : List Nat) : List Value := xs.map fun x => Value.int .u8 ((x : Nat) : Int)

theorem vals_length (xs : List Nat) : (vals xs).length = xs.length := by simp [vals]
theorem vals_append (xs ys : List Nat) : vals (xs ++ ys) = vals xs ++ vals ys := by simp [vals]
theorem vals_one (xs : List Nat) : ∀ u ∈ vals xs, u.oneCell' = true := by
  intro u hu
  obtain ⟨_, _, rfl⟩ := List.mem_map.1 hu
  rfl
theorem vals_get {xs : List Nat} {i : Nat} (hi : i < xs.length) : (vals xs)[i]? = some (.int .u8 (xs.getD i 0 : Nat)) := by
  simp [vals, List.getD, hi]
theorem vals_set (xs : List Nat) (i x : Nat) : (vals xs).set i (.int .u8 ((x : Nat) : Int)) = vals (xs.set i x) := by
  simp [vals, List.map_set]

/-- The slice is the call's own, and holds the bytes xs. -/
def Owns (w : World) (base : Nat) (v : Value) (xs : List Nat) : Prop := w.ownsRow base 5 1 v xs.length (vals xs)

theorem Bs.keep {w w' : World} {B : Nat} {a : Option Addr} {len : Nat} {xs : List Nat} (h : Bs w a len xs) (hb : Below B w w') (hB : w.heap.size ≤ B) : Bs w' a len xs := by
  refine ⟨h.1, h.2.1, fun i hi => ?_⟩
  obtain ⟨b, off, ha, hc⟩ := h.2.2 i hi
  exact ⟨b, off, ha, (hb.cell (Nat.lt_of_lt_of_le (World.block_lt_of_cell? w _ hc) hB)).trans hc⟩

theorem Owns.keep {w w' : World} {B base : Nat} {v : Value} {xs : List Nat} (h : Owns w base v xs) (hb : Below B w w') (hB : w.heap.size ≤ B) : Owns w' base v xs := by
  refine ⟨h.1, ?_⟩
  rcases h.2 with hn | ⟨g, cap, cur, hv, hbg, hg, rest⟩
  · exact .inl hn
  · refine .inr ⟨g, cap, cur, hv, hbg, ?_, rest⟩
    rw [hb.block g (Nat.lt_of_lt_of_le (Array.getElem?_eq_some_iff.1 hg).1 hB)]
    exact hg

theorem Owns.row {w : World} {base g cap n : Nat} {xs : List Nat} (h : Owns w base (.slice (some ⟨g, 0, none⟩) n cap) xs) (hx : Ta.Bytes xs) : n = xs.length ∧ Bs w (some ⟨g, 0, none⟩) xs.length xs := by
  have hn : n = xs.length := by
    rcases h.2 with ⟨h', _⟩ | ⟨g', cap', cur, h', _⟩
    · simp at h'
    · simp only [Value.slice.injEq] at h'
      exact h'.2.1
  subst hn
  refine ⟨rfl, rfl, hx, fun i hi => ⟨g, 0, rfl, ?_⟩⟩
  have := World.ownsRow.cellAt h i (by omega)
  rw [Nat.zero_add, this, vals_get hi]

theorem Owns.bs {w : World} {base : Nat} {v : Value} {xs : List Nat} (h : Owns w base v xs) (hx : Ta.Bytes xs) :
    ∃ a cap, v = .slice a xs.length cap ∧ Bs w a xs.length xs ∧ (a = none → cap = 0) := by
  rcases h.2 with ⟨hv, h0⟩ | ⟨g, cap, cur, hv, hbg, hg, hr⟩
  · refine ⟨none, 0, by rw [h0]; exact hv, ⟨rfl, hx, fun i hi => by omega⟩, fun _ => rfl⟩
  · refine ⟨some ⟨g, 0, none⟩, cap, hv, ?_, fun e => by cases e⟩
    rw [hv] at h
    exact (h.row hx).2

theorem Owns.pos {w : World} {base : Nat} {v : Value} {xs : List Nat} (h : Owns w base v xs) (hp : 0 < xs.length) :
    ∃ g cap, v = .slice (some ⟨g, 0, none⟩) xs.length cap ∧ base ≤ g ∧ g < w.heap.size ∧ xs.length ≤ cap := by
  rcases h.2 with ⟨hv, h0⟩ | ⟨g, cap, cur, hv, hbg, hg, hle, hr⟩
  · omega
  · exact ⟨g, cap, hv, hbg, (Array.getElem?_eq_some_iff.1 hg).1, hle⟩

theorem Owns.lit (w : World) (base : Nat) (xs : List Nat) (hb : base ≤ w.heap.size) (hm : xs.length ≤ 1000000) : Owns (w.alloc (.cells (vals xs).toArray 5)) base (.slice (some ⟨w.heap.size, 0, none⟩) xs.length xs.length) xs := by
  have := World.ownsRow_lit (base := base) (e := 5) (size := 1) w (vals xs).toArray xs.length hb (by unfold maxLen; omega) (by simp [vals])
  simpa [Owns] using this

theorem run_append_bytes (w : World) (ty : TypeId) (base : Nat) (v : Value) (xs : List Nat) (hown : Owns w base v xs) (ao : Option Addr) (len cap : Nat) (ys : List Nat) (hb : Bs w ao len ys) (hn : ao = none → cap = 0)
    (hlen : xs.length + len ≤ 1000000) (hbase : base ≤ w.heap.size) :
    ∃ v' w', (Builtin.append_ #[22, 22] ty #[v, .slice ao len cap]).run Try.prog w = .ok v' w' ∧ Owns w' base v' (xs ++ ys) ∧ Below base w w' := by
  obtain ⟨i0, hi, hz0, hz1, hz2⟩ := info_parts info5
  have hrow : ∀ k, v.ownBlock = some k → base ≤ k := fun k hk => (World.ownsRow.lt hown k hk).1
  have hyl := hb.1
  cases ao with
  | none =>
    obtain rfl := hn rfl
    have h0 : len = 0 := by
      rcases Nat.eq_zero_or_pos len with h | h
      · exact h
      · obtain ⟨_, _, e, _⟩ := hb.2.2 0 h
        cases e
    subst h0
    have hy : ys = [] := List.eq_nil_of_length_eq_zero hyl
    subst hy
    have hrun := run_append_owned_none (P := Try.prog) (w := w) base 22 ty 5 i0 1 Try.underlying22 hi v xs.length (vals xs) hown
    exact ⟨v, w, hrun, by simpa using hown, Below.refl _ _⟩
  | some ad =>
    have hcells : ∀ j u, (vals ys)[j]? = some u → w.cell? (ad.add j) = some u := by
      intro j u hj
      have hjl : j < ys.length := by
        have := (List.getElem?_eq_some_iff.1 hj).1
        simpa [vals] using this
      obtain ⟨b, off, e, hc⟩ := hb.2.2 j (by omega)
      obtain rfl := Option.some.inj e
      rw [Addr.add_lit, hc, ← vals_get hjl, hj]
    obtain ⟨v', w', hrun, ho, hg, _⟩ := run_append_own (P := Try.prog) w base 22 ty 5 i0 (.int .u8 0) 1 1 Try.underlying22 hi hz0 hz1 hz2 rfl (by decide) v xs.length (vals xs) hown ad len cap (vals ys) (by rw [vals_length, hyl, Nat.mul_one]) hcells (vals_one ys)
      (by unfold maxLen; omega) (by omega) hbase
    refine ⟨v', w', hrun, ?_, (Below.refl base w).grown hg hbase hrow⟩
    unfold Owns
    rw [List.length_append, hyl, vals_append]
    exact ho

theorem wpList_append_bytes (w : World) {ops : Array Oper} {rest : List Oper} {o : Oper} {a : Act} {Q : Exit → Act → World → Prop} (hgd : o.guard = none) (s x : Operand)
    (ho : o.op = .call { callee := .builtin .append, args := #[s, x], argTypes := #[22, 22] }) (base : Nat) (v : Value) (xs : List Nat) (hs : a.eval s = v) (hown : Owns w base v xs)
    (ao : Option Addr) (len cap : Nat) (ys : List Nat) (hx : a.eval x = .slice ao len cap) (hb : Bs w ao len ys) (hn : ao = none → cap = 0)
    (hlen : xs.length + len ≤ 1000000) (hbase : base ≤ w.heap.size)
    (hK : ∀ v' w', Owns w' base v' (xs ++ ys) → Below base w w' → wpList Try.prog ops Q rest (a.put o.dst v') w') : wpList Try.prog ops Q (o :: rest) a w := by
  refine wpList_plain hgd fun K hK' => ?_
  obtain ⟨v', w', hrun, r1, r2⟩ := run_append_bytes w o.type base v xs hown ao len cap ys hb hn hlen hbase
  unfold Oper.wp
  simp [execOp, ho, resolve, invoke, builtin, hs, hx, hrun, Result.andThen]
  exact hK' _ _ (hK v' w' r1 r2)

theorem step_append_bytes {ops : Array Oper} {o : Oper} {a : Act} {w : World} {K : Act → World → Prop} {Q : Exit → Act → World → Prop} {E : Prop} (hgd : o.guard = none) (s x : Operand)
    (ho : o.op = .call { callee := .builtin .append, args := #[s, x], argTypes := #[22, 22] }) (base : Nat) (v : Value) (xs : List Nat) (hs : a.eval s = v) (hown : Owns w base v xs)
    (ao : Option Addr) (len cap : Nat) (ys : List Nat) (hx : a.eval x = .slice ao len cap) (hb : Bs w ao len ys) (hn : ao = none → cap = 0)
    (hlen : xs.length + len ≤ 1000000) (hbase : base ≤ w.heap.size)
    (hK : ∀ v' w', Owns w' base v' (xs ++ ys) → Below base w w' → K (a.put o.dst v') w') : if Region.wanted o (yielded ops a.tmps) = true then Oper.wp Try.prog o a w K Q else E := by
  have hw : Region.wanted o (yielded ops a.tmps) = true := by simp [Region.wanted, hgd]
  rw [if_pos hw]
  obtain ⟨v', w', hrun, r1, r2⟩ := run_append_bytes w o.type base v xs hown ao len cap ys hb hn hlen hbase
  unfold Oper.wp
  simp [execOp, ho, resolve, invoke, builtin, hs, hx, hrun, Result.andThen]
  exact hK v' w' r1 r2

/-- A number's four bytes, the highest first. -/
def fourB (n : Nat) : List Nat := [n / 16777216, n / 65536 % 256, n / 256 % 256, n % 256]

theorem fourB_bytes {n : Nat} (hn : n < 4294967296) : Ta.Bytes (fourB n) := by
  intro x hx
  simp [fourB] at hx
  omega

set_option maxHeartbeats 400000 in
theorem four_any (n : Nat) (hn : n < 4294967296) (w : World) :
    Calls Try.prog 15 #[.int .u32 (n : Nat)] w fun e w' => e = .returned (.slice (some ⟨w.heap.size, 0, none⟩) 4 4) ∧ w' = w.alloc (.cells (vals (fourB n)).toArray 5) := by
  go_enter Try.func15, Try.ntmps15
  go_wp2
  go_ret
  exact ⟨rfl, rfl⟩

/-- A row that was built is said to be bytes: one place behind its end is marked, no cell turns. -/
theorem run_convert_self (w : World) (C : Array Value) (n c : Nat) :
    (convert 22 22 (.slice (some ⟨w.heap.size, 0, none⟩) n c)).run Try.prog (w.alloc (.cells C 5)) = .ok (.slice (some ⟨w.heap.size, 0, none⟩) n c) (w.alloc (.cells C 5 (C.size, C.size + 1))) := by
  have hsh : (w.alloc (.cells C 5)).shape? w.heap.size = some (5, C.size) := by
    have : (w.alloc (.cells C 5)).heap[w.heap.size]? = some (.cells C 5) := by
      show (w.heap.push (.cells C 5))[w.heap.size]? = _
      simp
    unfold World.shape?
    rw [this]
  have hfr : (w.alloc (.cells C 5)).freeze ⟨w.heap.size, C.size, none⟩ 1 = w.alloc (.cells C 5 (C.size, C.size + 1)) := by
    have hm : ∀ (a : Array Obj) (x : Obj) (f : Obj → Obj), (a.push x).modify a.size f = a.push (f x) := by
      intro a x f
      apply Array.ext
      · simp
      · intro i h1 h2
        simp only [Array.getElem_modify, Array.getElem_push]
        by_cases h : a.size = i
        · subst h
          simp
        · have hi : i < a.size := by simp at h1; omega
          simp [h, hi]
    unfold World.freeze
    rw [if_neg (by decide)]
    show ({ w.alloc (.cells C 5) with heap := (w.heap.push (.cells C 5)).modify w.heap.size _ } : World) = _
    rw [hm]
    rfl
  simp [convert, run_underlying Try.underlying22, run_underlying Try.underlying5, markStringish, hsh]
  exact hfr

theorem known_bytes : Ta.Bytes [49, 50, 51, 52, 53, 54, 55, 56, 57] := by
  intro x hx
  simp at hx
  omega

theorem bs_marked (w : World) (xs : List Nat) (fr : Nat × Nat) (hx : Ta.Bytes xs) : Bs (w.alloc (.cells (vals xs).toArray 5 fr)) (some ⟨w.heap.size, 0, none⟩) xs.length xs := by
  refine ⟨rfl, hx, fun i hi => ⟨w.heap.size, 0, rfl, ?_⟩⟩
  rw [Nat.zero_add, World.cell?_alloc_mark]
  simpa using vals_get hi

set_option maxHeartbeats 400000 in
theorem awake_any (w : World) : Calls Try.prog 7 #[] w fun e w' => e = .returned (.bool true) ∧ Below w.heap.size w w' := by
  have hconv := run_convert_self w #[.int .u8 49, .int .u8 50, .int .u8 51, .int .u8 52, .int .u8 53, .int .u8 54, .int .u8 55, .int .u8 56, .int .u8 57] 9 9
  have H10 : Hid (∀ fr, Calls Try.prog 10 #[.slice (some ⟨w.heap.size, 0, none⟩) 9 9] (w.alloc (.cells (vals [49, 50, 51, 52, 53, 54, 55, 56, 57]).toArray 5 fr)) fun e w' => e = .returned (.int .u32 3628397565) ∧ w' = w.alloc (.cells (vals [49, 50, 51, 52, 53, 54, 55, 56, 57]).toArray 5 fr)) := by
    intro fr
    have h := sum_any (some ⟨w.heap.size, 0, none⟩) 9 9 _ _ (bs_marked w [49, 50, 51, 52, 53, 54, 55, 56, 57] fr known_bytes) (by decide)
    rw [Ta.sum_known] at h
    exact h
  have HB : Hid (∀ o, Below w.heap.size w (w.alloc o)) := fun o => (Below.refl _ _).alloc (Nat.le_refl _) o
  go_enter Try.func7, Try.ntmps7
  go_wp2_with fail
  refine (H10.out _).mono ?_
  rintro e w' ⟨rfl, rfl⟩
  go_wp2_with fail
  go_ret
  exact ⟨rfl, HB.out _⟩
end Go.Proofs.Ytjoapceffgibcaa
