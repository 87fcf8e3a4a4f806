/-
  How the library's maps.Keys, slices.Sorted, slices.Sort and slices.DeleteFunc lie in this program: the library's contracts serve it.
  The landed pool in memory: a map of frames, by page; the pool's block, its device, its clock's frames, its sheets.
-/
import Derived.Shelf.SlIterI.Sorted
import Derived.Shelf.SlIterI.Nil
import Derived.Shelf.SortM.Plain
import Derived.Shelf.SortM.SortNone
import Derived.Shelf.SlicesE.DeleteFunc
import Derived.Test.YtenaonnijpnnaaaRows
import Derived.Test.YtenaonnijpnnaaaBh
import Derived.Test.YtenaonnijpnnaaaBf
import Derived.Maps.OwnSet
namespace Go.Proofs.Ytenaonnijpnnaaa
open Go.RowKit
set_option maxRecDepth 100000
open Go.Shelf
def keysA_ren : Go.Shelf.Ren := ⟨fun | 7 => 36 | 10 => 51 | n => n, fun | 23 => 52 | 26 => 3 | 3 => 69 | 28 => 75 | 0 => 0 | 27 => 74 | 33 => 66 | 4 => 4 | n => n, fun | n => n⟩
theorem keysA : Go.Proofs.SlLaysZI.n7 Try.prog keysA_ren := {
  mixed := by kernel_rfl
  f7 := ⟨Try.f36.name, by decide, Try.func36.trans (congrArg some (by kernel_rfl))⟩
  f10 := ⟨Try.f51.name, by decide, Try.func51.trans (congrArg some (by kernel_rfl))⟩
  t0 := Try.underlying0
  a0 := Try.isAgg0
  z0 := Try.sizeOf0
  v0 := Try.zeroValue0
  t4 := Try.underlying4
  a4 := Try.isAgg4
  z4 := Try.sizeOf4
  v4 := Try.zeroValue4
  t23 := Try.underlying52
  a23 := Try.isAgg52
  z23 := Try.sizeOf52
  v23 := Try.zeroValue52
  t26 := Try.underlying3
  a26 := Try.isAgg3
  z26 := Try.sizeOf3
  v26 := Try.zeroValue3
  t27 := Try.underlying74
  a27 := Try.isAgg74
  z27 := Try.sizeOf74
  v27 := Try.zeroValue74
  t28 := Try.underlying75
  a28 := Try.isAgg75
  z28 := Try.sizeOf75
  v28 := Try.zeroValue75
  t33 := Try.underlying66
  a33 := Try.isAgg66
  z33 := Try.sizeOf66
  v33 := Try.zeroValue66 }
def sortedA_ren : Go.Shelf.Ren := ⟨fun | 6 => 35 | 8 => 49 | 9 => 50 | 11 => 60 | 13 => 62 | 12 => 61 | 23 => 75 | 24 => 76 | 14 => 66 | 15 => 67 | 16 => 68 | 17 => 69 | 18 => 70 | 19 => 71 | 20 => 72 | 21 => 73 | 22 => 74 | 25 => 77 | 26 => 78 | 27 => 79 | 28 => 80 | 29 => 81 | 30 => 82 | 31 => 83 | n => n, fun | 26 => 3 | 28 => 75 | 24 => 55 | 0 => 0 | 3 => 3 | 37 => 93 | 48 => 107 | 50 => 110 | 4 => 4 | 40 => 118 | 39 => 117 | 45 => 123 | 5 => 5 | 9 => 9 | 51 => 127 | 55 => 131 | 57 => 133 | 58 => 134 | 33 => 66 | n => n, fun | n => n⟩
theorem sortedA : Go.Proofs.SlLaysZI.n6 Try.prog sortedA_ren := {
  mixed := by kernel_rfl
  f6 := ⟨Try.f35.name, by decide, Try.func35.trans (congrArg some (by kernel_rfl))⟩
  f8 := ⟨Try.f49.name, by decide, Try.func49.trans (congrArg some (by kernel_rfl))⟩
  f11 := ⟨Try.f60.name, by decide, Try.func60.trans (congrArg some (by kernel_rfl))⟩
  t0 := Try.underlying0
  a0 := Try.isAgg0
  z0 := Try.sizeOf0
  v0 := Try.zeroValue0
  t24 := Try.underlying55
  a24 := Try.isAgg55
  z24 := Try.sizeOf55
  v24 := Try.zeroValue55
  t26 := Try.underlying3
  a26 := Try.isAgg3
  z26 := Try.sizeOf3
  v26 := Try.zeroValue3
  t28 := Try.underlying75
  a28 := Try.isAgg75
  z28 := Try.sizeOf75
  v28 := Try.zeroValue75
  i26 := by kernel_rfl }
def sortA_ren : Go.Shelf.Ren := ⟨fun | 5 => 50 | 8 => 62 | 7 => 61 | 19 => 75 | 20 => 76 | 10 => 66 | 11 => 67 | 12 => 68 | 13 => 69 | 14 => 70 | 15 => 71 | 16 => 72 | 17 => 73 | 18 => 74 | 30 => 77 | 31 => 78 | 32 => 79 | 33 => 80 | 34 => 81 | 35 => 82 | 40 => 83 | n => n, fun | 23 => 55 | 25 => 3 | 3 => 3 | 32 => 93 | 22 => 55 | 0 => 0 | 44 => 107 | 46 => 110 | 4 => 4 | 36 => 118 | 35 => 117 | 41 => 123 | 5 => 5 | 9 => 9 | 53 => 127 | 57 => 131 | 63 => 133 | 64 => 134 | n => n, fun | n => n⟩
theorem sortA : Go.Proofs.SlLaysM.n5 Try.prog sortA_ren := {
  mixed := by kernel_rfl
  f5 := ⟨Try.f50.name, by decide, Try.func50.trans (congrArg some (by kernel_rfl))⟩
  f7 := ⟨Try.f61.name, by decide, Try.func61.trans (congrArg some (by kernel_rfl))⟩
  f8 := Try.func62.trans (congrArg some (by kernel_rfl))
  f10 := ⟨Try.f66.name, by decide, Try.func66.trans (congrArg some (by kernel_rfl))⟩
  f11 := ⟨Try.f67.name, by decide, Try.func67.trans (congrArg some (by kernel_rfl))⟩
  f12 := ⟨Try.f68.name, by decide, Try.func68.trans (congrArg some (by kernel_rfl))⟩
  f13 := ⟨Try.f69.name, by decide, Try.func69.trans (congrArg some (by kernel_rfl))⟩
  f14 := ⟨Try.f70.name, by decide, Try.func70.trans (congrArg some (by kernel_rfl))⟩
  f15 := ⟨Try.f71.name, by decide, Try.func71.trans (congrArg some (by kernel_rfl))⟩
  f16 := ⟨Try.f72.name, by decide, Try.func72.trans (congrArg some (by kernel_rfl))⟩
  f17 := ⟨Try.f73.name, by decide, Try.func73.trans (congrArg some (by kernel_rfl))⟩
  f18 := ⟨Try.f74.name, by decide, Try.func74.trans (congrArg some (by kernel_rfl))⟩
  f19 := Try.func75.trans (congrArg some (by kernel_rfl))
  f20 := Try.func76.trans (congrArg some (by kernel_rfl))
  f30 := ⟨Try.f77.name, by decide, Try.func77.trans (congrArg some (by kernel_rfl))⟩
  f31 := Try.func78.trans (congrArg some (by kernel_rfl))
  f32 := Try.func79.trans (congrArg some (by kernel_rfl))
  f33 := ⟨Try.f80.name, by decide, Try.func80.trans (congrArg some (by kernel_rfl))⟩
  f34 := ⟨Try.f81.name, by decide, Try.func81.trans (congrArg some (by kernel_rfl))⟩
  f35 := ⟨Try.f82.name, by decide, Try.func82.trans (congrArg some (by kernel_rfl))⟩
  f40 := ⟨Try.f83.name, by decide, Try.func83.trans (congrArg some (by kernel_rfl))⟩
  t0 := Try.underlying0
  a0 := Try.isAgg0
  z0 := Try.sizeOf0
  v0 := Try.zeroValue0
  t3 := Try.underlying3
  a3 := Try.isAgg3
  z3 := Try.sizeOf3
  v3 := Try.zeroValue3
  t4 := Try.underlying4
  a4 := Try.isAgg4
  z4 := Try.sizeOf4
  v4 := Try.zeroValue4
  t5 := Try.underlying5
  a5 := Try.isAgg5
  z5 := Try.sizeOf5
  v5 := Try.zeroValue5
  t9 := Try.underlying9
  a9 := Try.isAgg9
  z9 := Try.sizeOf9
  v9 := Try.zeroValue9
  t22 := Try.underlying55
  a22 := Try.isAgg55
  z22 := Try.sizeOf55
  v22 := Try.zeroValue55
  t23 := Try.underlying55
  a23 := Try.isAgg55
  z23 := Try.sizeOf55
  v23 := Try.zeroValue55
  t25 := Try.underlying3
  a25 := Try.isAgg3
  z25 := Try.sizeOf3
  v25 := Try.zeroValue3
  t32 := Try.underlying93
  a32 := Try.isAgg93
  z32 := Try.sizeOf93
  v32 := Try.zeroValue93
  t35 := Try.underlying117
  a35 := Try.isAgg117
  z35 := Try.sizeOf117
  v35 := Try.zeroValue117
  t36 := Try.underlying118
  a36 := Try.isAgg118
  z36 := Try.sizeOf118
  v36 := Try.zeroValue118
  t41 := Try.underlying123
  a41 := Try.isAgg123
  z41 := Try.sizeOf123
  v41 := Try.zeroValue123
  t44 := Try.underlying107
  a44 := Try.isAgg107
  z44 := Try.sizeOf107
  v44 := Try.zeroValue107
  t46 := Try.underlying110
  a46 := Try.isAgg110
  z46 := Try.sizeOf110
  v46 := Try.zeroValue110
  t53 := Try.underlying127
  a53 := Try.isAgg127
  z53 := Try.sizeOf127
  v53 := Try.zeroValue127
  t57 := Try.underlying131
  a57 := Try.isAgg131
  z57 := Try.sizeOf131
  v57 := Try.zeroValue131
  t63 := Try.underlying133
  a63 := Try.isAgg133
  z63 := Try.sizeOf133
  v63 := Try.zeroValue133
  t64 := Try.underlying134
  a64 := Try.isAgg134
  z64 := Try.sizeOf134
  v64 := Try.zeroValue134 }
def delA_ren : Go.Shelf.Ren := ⟨fun | 10 => 37 | 6 => 52 | n => n, fun | 22 => 55 | 23 => 3 | 25 => 66 | 3 => 3 | 4 => 4 | 0 => 0 | n => n, fun | n => n⟩
theorem delA : Go.Proofs.SlLaysH.n10 Try.prog delA_ren := {
  mixed := by kernel_rfl
  f6 := ⟨Try.f52.name, by decide, Try.func52.trans (congrArg some (by kernel_rfl))⟩
  f10 := ⟨Try.f37.name, by decide, Try.func37.trans (congrArg some (by kernel_rfl))⟩
  t0 := Try.underlying0
  a0 := Try.isAgg0
  z0 := Try.sizeOf0
  v0 := Try.zeroValue0
  t3 := Try.underlying3
  a3 := Try.isAgg3
  z3 := Try.sizeOf3
  v3 := Try.zeroValue3
  t4 := Try.underlying4
  a4 := Try.isAgg4
  z4 := Try.sizeOf4
  v4 := Try.zeroValue4
  t22 := Try.underlying55
  a22 := Try.isAgg55
  z22 := Try.sizeOf55
  v22 := Try.zeroValue55
  a23 := Try.isAgg3
  z23 := Try.sizeOf3
  t25 := Try.underlying66
  a25 := Try.isAgg66
  z25 := Try.sizeOf66
  v25 := Try.zeroValue66 }
end Go.Proofs.Ytenaonnijpnnaaa

namespace Go.Proofs.Ytenaonnijpnnaaa
open Go.RowKit
set_option maxRecDepth 100000
set_option linter.unusedVariables false

/-! ### Maps of frames -/
/-- What is held of a page reads as it is. -/
def RF (v : Value) : Option (DataW Value × List MemPlace) := some (.held v, [])
def zeroFr : Value := .agg #[.slice none 0 0, .bool false, .int .i64 0]
theorem zeroFr_is (w : World) : (zeroValue 69).run Try.prog w = .ok zeroFr w := Try.zeroValue69 w
theorem mapT : Try.prog.underlying 52 = some (.map 3 69) := Try.underlying52
theorem keyT : Go.Maps.Keyed Try.prog 3 := Go.Maps.int_keyed Try.underlying3
theorem key_is {k : Int} (h : (Lit.int .i64 k).wf = true) : keyOf Try.prog 3 (.int .i64 k) = some (.int .i64 k) := Go.Maps.keyOf_int_mk Try.underlying3 h
/-- What is found of a key. -/
def AtIs (D : DataW Value) (f : Int → Option Value) : Prop := ∀ k : Int, ∀ z, D.atKey (.int .i64 k) z = (match f k with | none => z | some v => .held v)
structure MapIs (w : World) (b : Nat) (f : Int → Option Value) : Prop where
  ex : ∃ D : DataW Value, w.ownsMap Try.prog 3 RF b (Maps.size D) D ∧ AtIs D f
  few : ∀ k, (f k).isSome = true → 0 ≤ k ∧ k < 64

theorem owns_tight {w : World} {b n : Nat} {D : DataW Value} (h : w.ownsMap Try.prog 3 RF b n D) : w.ownsMap Try.prog 3 RF b (Maps.size D) D := by
  obtain ⟨es, clock, hb, F, hs, hD⟩ := h
  refine ⟨es, clock, hb, F, ?_, hD⟩
  rw [hD]
  simp [Maps.size, length_sorted]
theorem AtIs.has {D : DataW Value} {f : Int → Option Value} (h : AtIs D f) (k : Int) : Maps.has D (.int .i64 k) = (f k).isSome := by
  cases e : f k with
  | none => exact Maps.has_false_of_atKey (fun z => by rw [h k z, e])
  | some v => exact Maps.has_true_of_atKey (y := .held v) (fun z => by rw [h k z, e])
/-- Its keys. -/
theorem MapIs.perm {w : World} {b : Nat} {f : Int → Option Value} {D : DataW Value} (hown : w.ownsMap Try.prog 3 RF b (Maps.size D) D) (hat : AtIs D f) (n : Nat) (few : ∀ k, (f k).isSome = true → 0 ≤ k ∧ k < ((n : Nat) : Int)) :
    (((List.range n).filter fun (k : Nat) => (f ((k : Nat) : Int)).isSome).map fun (k : Nat) => ((k : Nat) : Int)).Perm (intKeys D) := by
  obtain ⟨es, hD, hpw, _⟩ := hown.entries keyT
  obtain ⟨es', hD', hko⟩ := hown.keysOf
  obtain rfl : es = es' := by rw [hD] at hD'; simpa using hD'
  subst hD
  refine perm_intKeys hpw (fun p hp => ?_) ?_ (fun x => ?_)
  · obtain ⟨v, hv⟩ := hko p hp
    obtain ⟨x, _, hx, _⟩ := Maps.keyOf_i64 Try.underlying3 hv
    exact ⟨x, hx⟩
  · refine List.pairwise_map.2 ((List.Pairwise.filter _ List.nodup_range).imp fun {a b} hne e => hne ?_)
    omega
  · rw [hat.has x, List.mem_map]
    constructor
    · rintro ⟨k, hk, rfl⟩
      exact (List.mem_filter.1 hk).2
    · intro hx
      obtain ⟨h0, h1⟩ := few x hx
      refine ⟨x.toNat, List.mem_filter.2 ⟨List.mem_range.2 (by omega), ?_⟩, by omega⟩
      rw [show ((x.toNat : Nat) : Int) = x by omega]
      exact hx
theorem MapIs.size {w : World} {b : Nat} {f : Int → Option Value} {D : DataW Value} (hown : w.ownsMap Try.prog 3 RF b (Maps.size D) D) (hat : AtIs D f) (few : ∀ k, (f k).isSome = true → 0 ≤ k ∧ k < 64) : Maps.size D ≤ 64 := by
  have hp := MapIs.perm hown hat 64 few
  have e : (intKeys D).length = Maps.size D := by
    obtain ⟨es, rfl⟩ := hown.isMap
    simp [intKeys, Maps.size]
  rw [← e, ← hp.length_eq, List.length_map]
  exact Nat.le_trans (List.length_filter_le _ _) (by simp)
theorem MapIs.lt {w : World} {b : Nat} {f : Int → Option Value} (h : MapIs w b f) : b < w.heap.size := by
  obtain ⟨D, hown, _⟩ := h.ex
  exact hown.lt
theorem MapIs.obj {w : World} {b : Nat} {f : Int → Option Value} (h : MapIs w b f) : ∃ es c, w.heap[b]? = some (.map es c) := by
  obtain ⟨D, ⟨es, c, hb, _⟩, _⟩ := h.ex
  exact ⟨es, c, hb⟩
theorem MapIs.frm {w w' : World} {b : Nat} {f : Int → Option Value} (h : MapIs w b f) (hb : w'.heap[b]? = w.heap[b]?) : MapIs w' b f := by
  obtain ⟨D, ⟨es, c, h1, r⟩, hat⟩ := h.ex
  exact ⟨⟨D, ⟨es, c, hb.trans h1, r⟩, hat⟩, h.few⟩
theorem MapIs.look {w : World} {b : Nat} {f : Int → Option Value} (h : MapIs w b f) {k : Int} (hk : (Lit.int .i64 k).wf = true) : (Instr.lookup 52 (.map (some b)) (.int .i64 k) false).run Try.prog w = .ok ((f k).getD zeroFr) w := by
  obtain ⟨D, hown, hat⟩ := h.ex
  obtain ⟨v, ps, hrun, hv⟩ := hown.lookup keyT mapT (zeroFr_is w) (zd := .held zeroFr) (zp := []) rfl (key_is hk)
  rw [hat k] at hv
  rw [hrun]
  cases e : f k with
  | none => rw [e] at hv; simp only [RF, Option.some.injEq, Prod.mk.injEq, DataW.held.injEq] at hv; rw [hv.1]; rfl
  | some u => rw [e] at hv; simp only [RF, Option.some.injEq, Prod.mk.injEq, DataW.held.injEq] at hv; rw [hv.1]; rfl
theorem MapIs.lookOk {w : World} {b : Nat} {f : Int → Option Value} (h : MapIs w b f) {k : Int} (hk : (Lit.int .i64 k).wf = true) : (Instr.lookup 52 (.map (some b)) (.int .i64 k) true).run Try.prog w = .ok (.tuple #[(f k).getD zeroFr, .bool (f k).isSome]) w := by
  obtain ⟨D, hown, hat⟩ := h.ex
  obtain ⟨v, ps, hrun, hv⟩ := hown.look_ok keyT mapT (zeroFr_is w) (zd := .held zeroFr) (zp := []) rfl (key_is hk)
  rw [hat k] at hv
  rw [hrun, hat.has k]
  cases e : f k with
  | none => rw [e] at hv; simp only [RF, Option.some.injEq, Prod.mk.injEq, DataW.held.injEq] at hv; rw [hv.1]; rfl
  | some u => rw [e] at hv; simp only [RF, Option.some.injEq, Prod.mk.injEq, DataW.held.injEq] at hv; rw [hv.1]; rfl
theorem frm_turned {w w' : World} {b : Nat} (h : w.mapTurned w' b) : Frm (fun k => k = b) w w' ∧ w'.heap.size = w.heap.size := by
  obtain ⟨es, c, es', c', hb, rfl⟩ := h
  exact ⟨⟨rfl, rfl, rfl, by simp [Go.ChangeMaps.setBlock], fun k hk hne => Go.ChangeMaps.heap_setBlock_other hb _ hne⟩, by simp [Go.ChangeMaps.setBlock]⟩
def putF (f : Int → Option Value) (k : Int) (o : Option Value) : Int → Option Value := fun j => if j = k then o else f j
theorem MapIs.put {w : World} {b : Nat} {f : Int → Option Value} (h : MapIs w b f) (k : Nat) (hk : k < 64) (v : Value) : ∃ w', (Instr.mapUpdate 52 (.map (some b)) (.int .i64 ((k : Nat) : Int)) v).run Try.prog w = .ok () w' ∧ MapIs w' b (putF f ((k : Nat) : Int) (some v)) ∧ Frm (fun i => i = b) w w' ∧ w'.heap.size = w.heap.size := by
  obtain ⟨D, hown, hat⟩ := h.ex
  have hsz := MapIs.size hown hat h.few
  obtain ⟨w', hrun, hown', ht⟩ := hown.store keyT mapT (by unfold maxLen; omega) (key_is (wf_page k (by omega))) (val := v) (d := .held v) (ps := []) rfl
  obtain ⟨f1, f2⟩ := frm_turned ht
  refine ⟨w', hrun, ⟨⟨_, owns_tight hown', fun j z => ?_⟩, fun j hj => ?_⟩, f1, f2⟩
  · unfold putF
    by_cases e : j = ((k : Nat) : Int)
    · rw [if_pos e, e, Maps.atKey_put_same hown.isMap (by simp [WideAt.IsKeyLit])]
    · rw [if_neg e, Maps.atKey_put_other (by simpa using e), hat j]
  · unfold putF at hj
    by_cases e : j = ((k : Nat) : Int)
    · omega
    · rw [if_neg e] at hj
      exact h.few j hj
theorem MapIs.del {w : World} {b : Nat} {f : Int → Option Value} (h : MapIs w b f) {k : Int} (hk : (Lit.int .i64 k).wf = true) (ty : TypeId) : ∃ w', (Builtin.delete_ #[52, 3] ty #[.map (some b), .int .i64 k]).run Try.prog w = .ok (.tuple #[]) w' ∧ MapIs w' b (putF f k none) ∧ Frm (fun i => i = b) w w' ∧ w'.heap.size = w.heap.size := by
  obtain ⟨D, hown, hat⟩ := h.ex
  obtain ⟨w', hrun, hown', ht⟩ := hown.drop keyT mapT (key_is hk) ty
  obtain ⟨f1, f2⟩ := frm_turned ht
  refine ⟨w', hrun, ⟨⟨_, owns_tight hown', fun j z => ?_⟩, fun j hj => ?_⟩, f1, f2⟩
  · unfold putF
    by_cases e : j = k
    · rw [if_pos e, e, Maps.atKey_del_same]
    · rw [if_neg e, Maps.atKey_del_other (by simpa using e), hat j]
  · unfold putF at hj
    by_cases e : j = k
    · rw [if_pos e] at hj; cases hj
    · rw [if_neg e] at hj
      exact h.few j hj
theorem MapIs.made (w : World) : MapIs (w.alloc (.map #[] 0)) w.heap.size (fun _ => none) :=
  ⟨⟨.map [], World.ownsMap_made w Try.prog 3 RF, fun k z => rfl⟩, fun k hk => by cases hk⟩

/-! ### A pool in memory -/
def frV (s : Sl) (d : Bool) (z : Int) : Value := .agg #[s.val, .bool d, .int .i64 z]
def poCells (d : Nat) (v : Sl) (h : Int) (mb : Nat) (sy : Int) : Array Value := #[at0 d, v.val, .int .i64 h, .map (some mb), .int .i64 sy]
def PoBlk (w : World) (p d : Nat) (v : Sl) (h : Int) (mb : Nat) (sy : Int) : Prop := w.heap[p]? = some (.cells (poCells d v h mb sy) 54 (0, 0))
theorem PoBlk.c0 {w : World} {p d : Nat} {v : Sl} {h : Int} {mb : Nat} {sy : Int} (k : PoBlk w p d v h mb sy) : w.cell? ⟨p, 0, none⟩ = some (.pointer (some ⟨d, 0, none⟩)) := (Addr.cell0 k).trans rfl
theorem PoBlk.c1 {w : World} {p d : Nat} {v : Sl} {h : Int} {mb : Nat} {sy : Int} (k : PoBlk w p d v h mb sy) : w.cell? ⟨p, 1, none⟩ = some (.slice v.a v.len v.cap) := (Addr.cell0 k).trans rfl
theorem PoBlk.c2 {w : World} {p d : Nat} {v : Sl} {h : Int} {mb : Nat} {sy : Int} (k : PoBlk w p d v h mb sy) : w.cell? ⟨p, 2, none⟩ = some (.int .i64 h) := (Addr.cell0 k).trans rfl
theorem PoBlk.c3 {w : World} {p d : Nat} {v : Sl} {h : Int} {mb : Nat} {sy : Int} (k : PoBlk w p d v h mb sy) : w.cell? ⟨p, 3, none⟩ = some (.map (some mb)) := (Addr.cell0 k).trans rfl
theorem PoBlk.c4 {w : World} {p d : Nat} {v : Sl} {h : Int} {mb : Nat} {sy : Int} (k : PoBlk w p d v h mb sy) : w.cell? ⟨p, 4, none⟩ = some (.int .i64 sy) := (Addr.cell0 k).trans rfl
theorem PoBlk.fz {w : World} {p d : Nat} {v : Sl} {h : Int} {mb : Nat} {sy : Int} (k : PoBlk w p d v h mb sy) (o : Nat) : w.frozen? ⟨p, o, none⟩ = false := frozen_of_row w p _ _ 54 k
theorem PoBlk.lt {w : World} {p d : Nat} {v : Sl} {h : Int} {mb : Nat} {sy : Int} (k : PoBlk w p d v h mb sy) : p < w.heap.size := (Array.getElem?_eq_some_iff.1 k).1
theorem PoBlk.keep {w w' : World} {p d : Nat} {v : Sl} {h : Int} {mb : Nat} {sy : Int} (k : PoBlk w p d v h mb sy) (e : w'.heap[p]? = w.heap[p]?) : PoBlk w' p d v h mb sy := e.trans k
theorem ldClk {w : World} {p d : Nat} {v : Sl} {h : Int} {mb : Nat} {sy : Int} (k : PoBlk w p d v h mb sy) : (Instr.loadAt 51 (.pointer (some ⟨p, 1, none⟩))).run Try.prog w = .ok (ckV v h) w := by
  have c1 := k.c1
  have c2 := k.c2
  obtain ⟨a, len, cap⟩ := v
  unfold ckV Sl.val
  simp [go_sem, Instr.loadAt, c1, c2]
theorem stClk {w : World} {p d : Nat} {v : Sl} {h : Int} {mb : Nat} {sy : Int} (k : PoBlk w p d v h mb sy) (v' : Sl) (h' : Int) : ∃ W, (Instr.storeAt 51 (.pointer (some ⟨p, 1, none⟩)) (ckV v' h')).run Try.prog w = .ok () W ∧ PoBlk W p d v' h' mb sy ∧ Frm (fun i => i = p) w W ∧ W.heap.size = w.heap.size := by
  have c1 := k.c1
  have c2 := k.c2
  have f1 := k.fz 1
  have f2 := k.fz 2
  refine ⟨(w.setCell ⟨p, 1, none⟩ v'.val).setCell ⟨p, 2, none⟩ (.int .i64 h'), ?_, ?_, ((Frm.refl (fun i => i = p) w).setCell (p := ⟨p, 1, none⟩) rfl _).setCell (p := ⟨p, 2, none⟩) rfl _, by simp only [setCell_size]⟩
  · obtain ⟨a, len, cap⟩ := v'
    unfold ckV Sl.val
    simp [go_sem, Instr.storeAt, c1, c2, f1, f2]
  · have s1 := heap_setCell_same w p 1 _ 54 v'.val k
    have s2 := heap_setCell_same _ p 2 _ 54 (.int .i64 h') s1
    unfold PoBlk
    rw [s2]
    simp [poCells]
theorem stSy {w : World} {p d : Nat} {v : Sl} {h : Int} {mb : Nat} {sy : Int} (k : PoBlk w p d v h mb sy) (z : Int) : ∃ W, (Instr.storeAt 3 (.pointer (some ⟨p, 4, none⟩)) (.int .i64 z)).run Try.prog w = .ok () W ∧ PoBlk W p d v h mb z ∧ Frm (fun i => i = p) w W ∧ W.heap.size = w.heap.size := by
  have c4 := k.c4
  have f4 := k.fz 4
  refine ⟨w.setCell ⟨p, 4, none⟩ (.int .i64 z), by simp [go_sem, Instr.storeAt, c4, f4], ?_, (Frm.refl (fun i => i = p) w).setCell (p := ⟨p, 4, none⟩) rfl _, by simp only [setCell_size]⟩
  have s4 := heap_setCell_same w p 4 _ 54 (.int .i64 z) k
  unfold PoBlk
  rw [s4]
  simp [poCells]

/-- A sheet of the pool: what the map holds of it. -/
structure ShIs (w : World) (Y : Nat → Prop) (s : Sh) (u : Value) (sl : Sl) (z : Int) : Prop where
  val : u = frV sl s.dirty z
  place : s.dirty = true → z = s.place
  own : Own 5 1 w sl (vals s.b)
  len : sl.len = 512
  home : ∀ i, sl.blk = some i → Y i
def ShAt (w : World) (Y : Nat → Prop) (o : Option Sh) (f : Option Value) : Prop := (o = none ∧ f = none) ∨ ∃ s u sl z, o = some s ∧ f = some u ∧ ShIs w Y s u sl z
theorem ShIs.frm {w w' : World} {Y Z : Nat → Prop} {s : Sh} {u : Value} {sl : Sl} {z : Int} (h : ShIs w Y s u sl z) (hk : ∀ i, Y i → w'.heap[i]? = w.heap[i]?) (hZ : ∀ i, Y i → Z i) : ShIs w' Z s u sl z :=
  ⟨h.val, h.place, h.own.frame fun k hk' => hk k (h.home k hk'), h.len, fun i hi => hZ i (h.home i hi)⟩
theorem ShAt.frm {w w' : World} {Y Z : Nat → Prop} {o : Option Sh} {f : Option Value} (h : ShAt w Y o f) (hk : ∀ i, Y i → w'.heap[i]? = w.heap[i]?) (hZ : ∀ i, Y i → Z i) : ShAt w' Z o f := by
  rcases h with h | ⟨s, u, sl, z, h1, h2, h3⟩
  · exact .inl h
  · exact .inr ⟨s, u, sl, z, h1, h2, h3.frm hk hZ⟩
theorem frmG {w w' : World} {Y Z : Nat → Prop} {v : Sl} {l : List Sp} (h : Gs Y w v l) (hk : ∀ i, Y i → w'.heap[i]? = w.heap[i]?) (hZ : ∀ i, Y i → Z i) : Gs Z w' v l := by
  refine ⟨h.len, h.nil, h.le, h.big, fun ad e hl => hZ _ (h.home ad e hl), fun i hi => ?_⟩
  obtain ⟨b, off, ha, c0, c1, c2⟩ := h.cell i hi
  have hb := hk b (h.home _ ha (by omega))
  have hc : ∀ o, w'.cell? ⟨b, o, none⟩ = w.cell? ⟨b, o, none⟩ := fun o => by simp only [World.cell?, hb]
  exact ⟨b, off, ha, (hc _).trans c0, (hc _).trans c1, (hc _).trans c2⟩

structure PoIn (w : World) (p d : Nat) (P : Po) (L : Dl) (Y : Nat → Prop) (v : Sl) (mb : Nat) (f : Int → Option Value) : Prop where
  dev : DevM w d P.D L
  blk : PoBlk w p d v P.h mb P.sy
  map : MapIs w mb f
  ck : Gs Y w v P.l
  sh : ∀ k : Nat, ShAt w Y (P.m k) (f ((k : Nat) : Int))
  yp : ¬ Y p
  ym : ¬ Y mb
  pm : p ≠ mb
  lt : ∀ k, Y k → k < w.heap.size
  ap : ∀ k, (k = p ∨ k = mb ∨ Y k) → ¬ L.F d k
/-- The blocks that are the pool's own. -/
def poX (p mb : Nat) (Y : Nat → Prop) (k : Nat) : Prop := k = p ∨ k = mb ∨ Y k
def poM : PoM := fun w p d P L X => ∃ Y v mb f, PoIn w p d P L Y v mb f ∧ X = poX p mb Y
/-- What an act leaves. -/
structure Did (w : World) (p d mb : Nat) (L : Dl) (Y : Nat → Prop) (w' : World) (Q : Po) : Prop where
  ex : ∃ L' Y' v' f', PoIn w' p d Q L' Y' v' mb f' ∧ (∀ k, Y' k → Y k ∨ w.heap.size ≤ k) ∧ (∀ k, L'.F d k → L.F d k ∨ w.heap.size ≤ k)
  frm : Frm (fun k => k = p ∨ k = mb ∨ L.F d k) w w'

theorem PoIn.frm {w w' : World} {p d : Nat} {P : Po} {L : Dl} {Y : Nat → Prop} {v : Sl} {mb : Nat} {f : Int → Option Value} {F : Nat → Prop} (h : PoIn w p d P L Y v mb f) (hf : Frm F w w') (hF : ∀ k, poX p mb Y k ∨ L.F d k → ¬ F k) : PoIn w' p d P L Y v mb f := by
  have hp := hf.block p h.blk.lt (hF p (.inl (.inl rfl)))
  have hm := hf.block mb h.map.lt (hF mb (.inl (.inr (.inl rfl))))
  have hy : ∀ i, Y i → w'.heap[i]? = w.heap[i]? := fun i hi => hf.block i (h.lt i hi) (hF i (.inl (.inr (.inr hi))))
  exact ⟨h.dev.frm hf (fun k hk => hF k (.inr hk)), h.blk.keep hp, h.map.frm hm, frmG h.ck hy (fun _ e => e), fun k => (h.sh k).frm hy (fun _ e => e), h.yp, h.ym, h.pm, fun k hk => Nat.lt_of_lt_of_le (h.lt k hk) hf.size, h.ap⟩
theorem PoIn.keep {w w' : World} {p d : Nat} {P : Po} {L : Dl} {Y : Nat → Prop} {v : Sl} {mb : Nat} {f : Int → Option Value} (h : PoIn w p d P L Y v mb f) (hb : Below w.heap.size w w') : PoIn w' p d P L Y v mb f :=
  h.frm (F := fun _ => False) (Frm.ofBelow hb) (fun _ _ e => e)
/-- The device alone has turned. -/
theorem PoIn.turn {w w' : World} {p d : Nat} {P : Po} {L L' : Dl} {D' : Ds} {Y : Nat → Prop} {v : Sl} {mb : Nat} {f : Int → Option Value} (h : PoIn w p d P L Y v mb f) (t : Turned w d L w' D' L') : PoIn w' p d { P with D := D' } L' Y v mb f := by
  have hb : ∀ k, poX p mb Y k → k < w.heap.size → w'.heap[k]? = w.heap[k]? := fun k hk hl => t.frm.block k hl (h.ap k hk)
  have hy : ∀ i, Y i → w'.heap[i]? = w.heap[i]? := fun i hi => hb i (.inr (.inr hi)) (h.lt i hi)
  have hl : ∀ k, poX p mb Y k → k < w.heap.size := fun k hk => by
    rcases hk with rfl | rfl | hk
    · exact h.blk.lt
    · exact h.map.lt
    · exact h.lt k hk
  refine ⟨t.dev, h.blk.keep (hb p (.inl rfl) h.blk.lt), h.map.frm (hb mb (.inr (.inl rfl)) h.map.lt), frmG h.ck hy (fun _ e => e), fun k => (h.sh k).frm hy (fun _ e => e), h.yp, h.ym, h.pm, fun k hk => Nat.lt_of_lt_of_le (h.lt k hk) t.frm.size, fun k hk hF => ?_⟩
  rcases t.foot k hF with e | e
  · exact h.ap k hk e
  · have := hl k hk
    omega
theorem PoIn.did {w w' : World} {p d : Nat} {P Q : Po} {L : Dl} {Y : Nat → Prop} {v v' : Sl} {mb : Nat} {f f' : Int → Option Value} (h : PoIn w' p d Q L Y v' mb f') (hf : Frm (fun k => k = p ∨ k = mb ∨ L.F d k) w w') : Did w p d mb L Y w' Q :=
  ⟨⟨L, Y, v', f', h, fun _ e => .inl e, fun _ e => .inl e⟩, hf⟩
theorem PoIn.same {w w' : World} {p d : Nat} {P : Po} {L : Dl} {Y : Nat → Prop} {v : Sl} {mb : Nat} {f : Int → Option Value} (h : PoIn w p d P L Y v mb f) (hb : Below w.heap.size w w') : Did w p d mb L Y w' P :=
  ⟨⟨L, Y, v, f, h.keep hb, fun _ e => .inl e, fun _ e => .inl e⟩, Frm.ofBelow hb⟩
theorem PoIn.turned {w w' : World} {p d : Nat} {P : Po} {L L' : Dl} {D' : Ds} {Y : Nat → Prop} {v : Sl} {mb : Nat} {f : Int → Option Value} (h : PoIn w p d P L Y v mb f) (t : Turned w d L w' D' L') : Did w p d mb L Y w' { P with D := D' } :=
  ⟨⟨L', Y, v, f, h.turn t, fun _ e => .inl e, t.foot⟩, t.frm.mono (fun i _ e => .inr (.inr e))⟩
/-- One act behind another. -/
theorem Did.trans {w w1 w2 : World} {p d mb : Nat} {L : Dl} {Y : Nat → Prop} {Q R : Po} (h : Did w p d mb L Y w1 Q) (k : ∀ L' Y' v' f', PoIn w1 p d Q L' Y' v' mb f' → Did w1 p d mb L' Y' w2 R) : Did w p d mb L Y w2 R := by
  obtain ⟨L', Y', v', f', hi, hy, hl⟩ := h.ex
  obtain ⟨L2, Y2, v2, f2, hi2, hy2, hl2⟩ := (k L' Y' v' f' hi).ex
  have fr := (k L' Y' v' f' hi).frm
  refine ⟨⟨L2, Y2, v2, f2, hi2, fun i e => ?_, fun i e => ?_⟩, h.frm.trans fr (fun i hlt e => ?_)⟩
  · rcases hy2 i e with e | e
    · exact hy i e
    · exact .inr (Nat.le_trans h.frm.size e)
  · rcases hl2 i e with e | e
    · exact hl i e
    · exact .inr (Nat.le_trans h.frm.size e)
  · rcases e with e | e | e
    · exact .inl e
    · exact .inr (.inl e)
    · rcases hl i e with e | e
      · exact .inr (.inr e)
      · omega
theorem Did.acted {w : World} {p d mb : Nat} {L : Dl} {Y : Nat → Prop} {w' : World} {Q : Po} (h : Did w p d mb L Y w' Q) : Acted poM w p d L (poX p mb Y) w' Q := by
  obtain ⟨L', Y', v', f', hi, hy, hl⟩ := h.ex
  refine ⟨⟨L', _, ⟨Y', v', mb, f', hi, rfl⟩, fun k hk => ?_⟩, h.frm.mono (fun i _ e => ?_)⟩
  · rcases hk with (e | e | e) | e
    · exact .inl (.inl (.inl e))
    · exact .inl (.inl (.inr (.inl e)))
    · rcases hy k e with e | e
      · exact .inl (.inl (.inr (.inr e)))
      · exact .inr e
    · rcases hl k e with e | e
      · exact .inl (.inr e)
      · exact .inr e
  · rcases e with e | e | e
    · exact .inl (.inl e)
    · exact .inl (.inr (.inl e))
    · exact .inr e

/-! ### Turns of a pool in memory -/
/-- The map holds something else of a page. -/
theorem PoIn.put {w w1 : World} {p d : Nat} {P : Po} {L : Dl} {Y : Nat → Prop} {v : Sl} {mb : Nat} {f : Int → Option Value} (h : PoIn w p d P L Y v mb f) (k : Nat) (o : Option Sh) (g : Int → Option Value) (hm : MapIs w1 mb g) (hg : ∀ j : Int, j ≠ ((k : Nat) : Int) → g j = f j) (hf : Frm (fun i => i = mb) w w1) (ho : ShAt w1 Y o (g ((k : Nat) : Int))) : PoIn w1 p d (P.put k o) L Y v mb g := by
  have hb : ∀ i, i ≠ mb → i < w.heap.size → w1.heap[i]? = w.heap[i]? := fun i hi hl => hf.block i hl hi
  have hy : ∀ i, Y i → w1.heap[i]? = w.heap[i]? := fun i hi => hb i (fun e => h.ym (e ▸ hi)) (h.lt i hi)
  refine ⟨h.dev.frm hf (fun i hi e => h.ap mb (.inr (.inl rfl)) (e ▸ hi)), h.blk.keep (hb p h.pm h.blk.lt), hm, frmG h.ck hy (fun _ e => e), fun j => ?_, h.yp, h.ym, h.pm, fun i hi => Nat.lt_of_lt_of_le (h.lt i hi) hf.size, h.ap⟩
  by_cases e : j = k
  · rw [e, put_same]
    exact ho
  · rw [put_other _ _ e, hg _ (by omega)]
    exact (h.sh j).frm hy (fun _ e => e)
/-- One more block is its own. -/
theorem PoIn.widen {w : World} {p d : Nat} {P : Po} {L : Dl} {Y Z : Nat → Prop} {v : Sl} {mb : Nat} {f : Int → Option Value} (h : PoIn w p d P L Y v mb f) (hz : ∀ i, Y i → Z i) (hp : ¬ Z p) (hm : ¬ Z mb) (hl : ∀ i, Z i → i < w.heap.size) (ha : ∀ i, Z i → ¬ L.F d i) : PoIn w p d P L Z v mb f :=
  ⟨h.dev, h.blk, h.map, frmG h.ck (fun _ _ => rfl) hz, fun k => (h.sh k).frm (fun _ _ => rfl) hz, hp, hm, h.pm, hl, fun k hk => by
    rcases hk with e | e | e
    · exact h.ap k (.inl e)
    · exact h.ap k (.inr (.inl e))
    · exact ha k e⟩
/-- Another clock. -/
theorem PoIn.clock {w w1 : World} {p d : Nat} {P : Po} {L : Dl} {Y : Nat → Prop} {v : Sl} {mb : Nat} {f : Int → Option Value} (h : PoIn w p d P L Y v mb f) (v' : Sl) (l : List Sp) (hh : Int) (hb : PoBlk w1 p d v' hh mb P.sy) (hf : Frm (fun i => i = p) w w1) (hg : Gs Y w1 v' l) : PoIn w1 p d (P.clock l hh) L Y v' mb f := by
  have hk : ∀ i, i ≠ p → i < w.heap.size → w1.heap[i]? = w.heap[i]? := fun i hi hl => hf.block i hl hi
  have hy : ∀ i, Y i → w1.heap[i]? = w.heap[i]? := fun i hi => hk i (fun e => h.yp (e ▸ hi)) (h.lt i hi)
  exact ⟨h.dev.frm hf (fun i hi e => h.ap p (.inl rfl) (e ▸ hi)), hb, h.map.frm (hk mb (Ne.symm h.pm) h.map.lt), hg, fun j => (h.sh j).frm hy (fun _ e => e), h.yp, h.ym, h.pm, fun i hi => Nat.lt_of_lt_of_le (h.lt i hi) hf.size, h.ap⟩
/-- Another place that is synced. -/
theorem PoIn.sync {w w1 : World} {p d : Nat} {P : Po} {L : Dl} {Y : Nat → Prop} {v : Sl} {mb : Nat} {f : Int → Option Value} (h : PoIn w p d P L Y v mb f) (z : Int) (hb : PoBlk w1 p d v P.h mb z) (hf : Frm (fun i => i = p) w w1) : PoIn w1 p d { P with sy := z } L Y v mb f := by
  have hk : ∀ i, i ≠ p → i < w.heap.size → w1.heap[i]? = w.heap[i]? := fun i hi hl => hf.block i hl hi
  have hy : ∀ i, Y i → w1.heap[i]? = w.heap[i]? := fun i hi => hk i (fun e => h.yp (e ▸ hi)) (h.lt i hi)
  exact ⟨h.dev.frm hf (fun i hi e => h.ap p (.inl rfl) (e ▸ hi)), hb, h.map.frm (hk mb (Ne.symm h.pm) h.map.lt), frmG h.ck hy (fun _ e => e), fun j => (h.sh j).frm hy (fun _ e => e), h.yp, h.ym, h.pm, fun i hi => Nat.lt_of_lt_of_le (h.lt i hi) hf.size, h.ap⟩
end Go.Proofs.Ytenaonnijpnnaaa
