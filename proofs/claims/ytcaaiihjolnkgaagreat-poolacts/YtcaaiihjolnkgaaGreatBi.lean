/-
  How the library's maps.Keys, slices.Sorted, slices.Sort and slices.DeleteFunc lie in this program: the library's contracts serve it.
  The landed pool in memory: a map of frames, by page; the pool's block, its device, its clock's frames, its sheets.
-/
import Derived.Shelf.SlIterI.Sorted
import Derived.Shelf.SlIterI.Nil
import Derived.Shelf.SortM.Plain
import Derived.Shelf.SortM.SortNone
import Derived.Shelf.SlicesE.DeleteFunc
import Derived.Test.YtcaaiihjolnkgaaGreatRows
import Derived.Test.YtcaaiihjolnkgaaGreatBh
import Derived.Test.YtcaaiihjolnkgaaGreatBf
import Derived.Maps.OwnSet
namespace Go.Proofs.YtcaaiihjolnkgaaGreat
open Go.RowKit
set_option maxRecDepth 100000
open Go.Shelf
def keysA_ren : Go.Shelf.Ren := ⟨fun | 7 => 74 | 10 => 85 | n => n, fun | 23 => 80 | 26 => 3 | 3 => 89 | 28 => 128 | 0 => 0 | 27 => 127 | 33 => 86 | 4 => 4 | n => n, fun | n => n⟩
theorem keysA : Go.Proofs.SlLaysZI.n7 Tryz.prog keysA_ren := {
  mixed := by kernel_rfl
  f7 := ⟨Tryz.f74.name, by decide, Tryz.func74.trans (congrArg some (by kernel_rfl))⟩
  f10 := ⟨Tryz.f85.name, by decide, Tryz.func85.trans (congrArg some (by kernel_rfl))⟩
  t0 := Tryz.underlying0
  a0 := Tryz.isAgg0
  z0 := Tryz.sizeOf0
  v0 := Tryz.zeroValue0
  t4 := Tryz.underlying4
  a4 := Tryz.isAgg4
  z4 := Tryz.sizeOf4
  v4 := Tryz.zeroValue4
  t23 := Tryz.underlying80
  a23 := Tryz.isAgg80
  z23 := Tryz.sizeOf80
  v23 := Tryz.zeroValue80
  t26 := Tryz.underlying3
  a26 := Tryz.isAgg3
  z26 := Tryz.sizeOf3
  v26 := Tryz.zeroValue3
  t27 := Tryz.underlying127
  a27 := Tryz.isAgg127
  z27 := Tryz.sizeOf127
  v27 := Tryz.zeroValue127
  t28 := Tryz.underlying128
  a28 := Tryz.isAgg128
  z28 := Tryz.sizeOf128
  v28 := Tryz.zeroValue128
  t33 := Tryz.underlying86
  a33 := Tryz.isAgg86
  z33 := Tryz.sizeOf86
  v33 := Tryz.zeroValue86 }
def sortedA_ren : Go.Shelf.Ren := ⟨fun | 6 => 73 | 8 => 83 | 9 => 84 | 11 => 89 | 13 => 91 | 12 => 90 | 23 => 101 | 24 => 102 | 14 => 92 | 15 => 93 | 16 => 94 | 17 => 95 | 18 => 96 | 19 => 97 | 20 => 98 | 21 => 99 | 22 => 100 | 25 => 103 | 26 => 104 | 27 => 105 | 28 => 106 | 29 => 107 | 30 => 108 | 31 => 109 | n => n, fun | 26 => 3 | 28 => 128 | 24 => 57 | 0 => 0 | 3 => 3 | 37 => 130 | 48 => 143 | 50 => 146 | 4 => 4 | 40 => 157 | 39 => 156 | 45 => 162 | 5 => 5 | 9 => 9 | 51 => 166 | 55 => 170 | 57 => 172 | 58 => 104 | 33 => 86 | n => n, fun | n => n⟩
theorem sortedA : Go.Proofs.SlLaysZI.n6 Tryz.prog sortedA_ren := {
  mixed := by kernel_rfl
  f6 := ⟨Tryz.f73.name, by decide, Tryz.func73.trans (congrArg some (by kernel_rfl))⟩
  f8 := ⟨Tryz.f83.name, by decide, Tryz.func83.trans (congrArg some (by kernel_rfl))⟩
  f11 := ⟨Tryz.f89.name, by decide, Tryz.func89.trans (congrArg some (by kernel_rfl))⟩
  t0 := Tryz.underlying0
  a0 := Tryz.isAgg0
  z0 := Tryz.sizeOf0
  v0 := Tryz.zeroValue0
  t24 := Tryz.underlying57
  a24 := Tryz.isAgg57
  z24 := Tryz.sizeOf57
  v24 := Tryz.zeroValue57
  t26 := Tryz.underlying3
  a26 := Tryz.isAgg3
  z26 := Tryz.sizeOf3
  v26 := Tryz.zeroValue3
  t28 := Tryz.underlying128
  a28 := Tryz.isAgg128
  z28 := Tryz.sizeOf128
  v28 := Tryz.zeroValue128
  i26 := by kernel_rfl }
def sortA_ren : Go.Shelf.Ren := ⟨fun | 5 => 84 | 8 => 91 | 7 => 90 | 19 => 101 | 20 => 102 | 10 => 92 | 11 => 93 | 12 => 94 | 13 => 95 | 14 => 96 | 15 => 97 | 16 => 98 | 17 => 99 | 18 => 100 | 30 => 103 | 31 => 104 | 32 => 105 | 33 => 106 | 34 => 107 | 35 => 108 | 40 => 109 | n => n, fun | 23 => 57 | 25 => 3 | 3 => 3 | 32 => 130 | 22 => 57 | 0 => 0 | 44 => 143 | 46 => 146 | 4 => 4 | 36 => 157 | 35 => 156 | 41 => 162 | 5 => 5 | 9 => 9 | 53 => 166 | 57 => 170 | 63 => 172 | 64 => 104 | n => n, fun | n => n⟩
theorem sortA : Go.Proofs.SlLaysM.n5 Tryz.prog sortA_ren := {
  mixed := by kernel_rfl
  f5 := ⟨Tryz.f84.name, by decide, Tryz.func84.trans (congrArg some (by kernel_rfl))⟩
  f7 := ⟨Tryz.f90.name, by decide, Tryz.func90.trans (congrArg some (by kernel_rfl))⟩
  f8 := Tryz.func91.trans (congrArg some (by kernel_rfl))
  f10 := ⟨Tryz.f92.name, by decide, Tryz.func92.trans (congrArg some (by kernel_rfl))⟩
  f11 := ⟨Tryz.f93.name, by decide, Tryz.func93.trans (congrArg some (by kernel_rfl))⟩
  f12 := ⟨Tryz.f94.name, by decide, Tryz.func94.trans (congrArg some (by kernel_rfl))⟩
  f13 := ⟨Tryz.f95.name, by decide, Tryz.func95.trans (congrArg some (by kernel_rfl))⟩
  f14 := ⟨Tryz.f96.name, by decide, Tryz.func96.trans (congrArg some (by kernel_rfl))⟩
  f15 := ⟨Tryz.f97.name, by decide, Tryz.func97.trans (congrArg some (by kernel_rfl))⟩
  f16 := ⟨Tryz.f98.name, by decide, Tryz.func98.trans (congrArg some (by kernel_rfl))⟩
  f17 := ⟨Tryz.f99.name, by decide, Tryz.func99.trans (congrArg some (by kernel_rfl))⟩
  f18 := ⟨Tryz.f100.name, by decide, Tryz.func100.trans (congrArg some (by kernel_rfl))⟩
  f19 := Tryz.func101.trans (congrArg some (by kernel_rfl))
  f20 := Tryz.func102.trans (congrArg some (by kernel_rfl))
  f30 := ⟨Tryz.f103.name, by decide, Tryz.func103.trans (congrArg some (by kernel_rfl))⟩
  f31 := Tryz.func104.trans (congrArg some (by kernel_rfl))
  f32 := Tryz.func105.trans (congrArg some (by kernel_rfl))
  f33 := ⟨Tryz.f106.name, by decide, Tryz.func106.trans (congrArg some (by kernel_rfl))⟩
  f34 := ⟨Tryz.f107.name, by decide, Tryz.func107.trans (congrArg some (by kernel_rfl))⟩
  f35 := ⟨Tryz.f108.name, by decide, Tryz.func108.trans (congrArg some (by kernel_rfl))⟩
  f40 := ⟨Tryz.f109.name, by decide, Tryz.func109.trans (congrArg some (by kernel_rfl))⟩
  t0 := Tryz.underlying0
  a0 := Tryz.isAgg0
  z0 := Tryz.sizeOf0
  v0 := Tryz.zeroValue0
  t3 := Tryz.underlying3
  a3 := Tryz.isAgg3
  z3 := Tryz.sizeOf3
  v3 := Tryz.zeroValue3
  t4 := Tryz.underlying4
  a4 := Tryz.isAgg4
  z4 := Tryz.sizeOf4
  v4 := Tryz.zeroValue4
  t5 := Tryz.underlying5
  a5 := Tryz.isAgg5
  z5 := Tryz.sizeOf5
  v5 := Tryz.zeroValue5
  t9 := Tryz.underlying9
  a9 := Tryz.isAgg9
  z9 := Tryz.sizeOf9
  v9 := Tryz.zeroValue9
  t22 := Tryz.underlying57
  a22 := Tryz.isAgg57
  z22 := Tryz.sizeOf57
  v22 := Tryz.zeroValue57
  t23 := Tryz.underlying57
  a23 := Tryz.isAgg57
  z23 := Tryz.sizeOf57
  v23 := Tryz.zeroValue57
  t25 := Tryz.underlying3
  a25 := Tryz.isAgg3
  z25 := Tryz.sizeOf3
  v25 := Tryz.zeroValue3
  t32 := Tryz.underlying130
  a32 := Tryz.isAgg130
  z32 := Tryz.sizeOf130
  v32 := Tryz.zeroValue130
  t35 := Tryz.underlying156
  a35 := Tryz.isAgg156
  z35 := Tryz.sizeOf156
  v35 := Tryz.zeroValue156
  t36 := Tryz.underlying157
  a36 := Tryz.isAgg157
  z36 := Tryz.sizeOf157
  v36 := Tryz.zeroValue157
  t41 := Tryz.underlying162
  a41 := Tryz.isAgg162
  z41 := Tryz.sizeOf162
  v41 := Tryz.zeroValue162
  t44 := Tryz.underlying143
  a44 := Tryz.isAgg143
  z44 := Tryz.sizeOf143
  v44 := Tryz.zeroValue143
  t46 := Tryz.underlying146
  a46 := Tryz.isAgg146
  z46 := Tryz.sizeOf146
  v46 := Tryz.zeroValue146
  t53 := Tryz.underlying166
  a53 := Tryz.isAgg166
  z53 := Tryz.sizeOf166
  v53 := Tryz.zeroValue166
  t57 := Tryz.underlying170
  a57 := Tryz.isAgg170
  z57 := Tryz.sizeOf170
  v57 := Tryz.zeroValue170
  t63 := Tryz.underlying172
  a63 := Tryz.isAgg172
  z63 := Tryz.sizeOf172
  v63 := Tryz.zeroValue172
  t64 := Tryz.underlying104
  a64 := Tryz.isAgg104
  z64 := Tryz.sizeOf104
  v64 := Tryz.zeroValue104 }
def delA_ren : Go.Shelf.Ren := ⟨fun | 10 => 60 | 6 => 78 | n => n, fun | 22 => 57 | 23 => 3 | 25 => 86 | 3 => 3 | 4 => 4 | 0 => 0 | n => n, fun | n => n⟩
theorem delA : Go.Proofs.SlLaysH.n10 Tryz.prog delA_ren := {
  mixed := by kernel_rfl
  f6 := ⟨Tryz.f78.name, by decide, Tryz.func78.trans (congrArg some (by kernel_rfl))⟩
  f10 := ⟨Tryz.f60.name, by decide, Tryz.func60.trans (congrArg some (by kernel_rfl))⟩
  t0 := Tryz.underlying0
  a0 := Tryz.isAgg0
  z0 := Tryz.sizeOf0
  v0 := Tryz.zeroValue0
  t3 := Tryz.underlying3
  a3 := Tryz.isAgg3
  z3 := Tryz.sizeOf3
  v3 := Tryz.zeroValue3
  t4 := Tryz.underlying4
  a4 := Tryz.isAgg4
  z4 := Tryz.sizeOf4
  v4 := Tryz.zeroValue4
  t22 := Tryz.underlying57
  a22 := Tryz.isAgg57
  z22 := Tryz.sizeOf57
  v22 := Tryz.zeroValue57
  a23 := Tryz.isAgg3
  z23 := Tryz.sizeOf3
  t25 := Tryz.underlying86
  a25 := Tryz.isAgg86
  z25 := Tryz.sizeOf86
  v25 := Tryz.zeroValue86 }
end Go.Proofs.YtcaaiihjolnkgaaGreat

namespace Go.Proofs.YtcaaiihjolnkgaaGreat
open Go.RowKit
set_option maxRecDepth 100000
set_option linter.unusedVariables false

/-- What is held of a page reads as it is. -/
def RF (v : Value) : Option (DataW Value × List MemPlace) := some (.held v, [])
def zeroFr : Value := .agg #[.slice none 0 0, .bool false, .int .i64 0]
theorem zeroFr_is (w : World) : (zeroValue 89).run Tryz.prog w = .ok zeroFr w := Tryz.zeroValue89 w
theorem mapT : Tryz.prog.underlying 80 = some (.map 3 89) := Tryz.underlying80
theorem keyT : Go.Maps.Keyed Tryz.prog 3 := Go.Maps.int_keyed Tryz.underlying3
theorem key_is {k : Int} (h : (Lit.int .i64 k).wf = true) : keyOf Tryz.prog 3 (.int .i64 k) = some (.int .i64 k) := Go.Maps.keyOf_int_mk Tryz.underlying3 h
/-- What is found of a key. -/
def AtIs (D : DataW Value) (f : Int → Option Value) : Prop := ∀ k : Int, ∀ z, D.atKey (.int .i64 k) z = (match f k with | none => z | some v => .held v)
structure MapIs (w : World) (b : Nat) (f : Int → Option Value) : Prop where
  ex : ∃ D : DataW Value, w.ownsMap Tryz.prog 3 RF b (Maps.size D) D ∧ AtIs D f
  few : ∀ k, (f k).isSome = true → 0 ≤ k ∧ k < 64

theorem owns_tight {w : World} {b n : Nat} {D : DataW Value} (h : w.ownsMap Tryz.prog 3 RF b n D) : w.ownsMap Tryz.prog 3 RF b (Maps.size D) D := by
  obtain ⟨es, clock, hb, F, hs, hD⟩ := h
  refine ⟨es, clock, hb, F, ?_, hD⟩
  rw [hD]
  simp [Maps.size, length_sorted]
theorem AtIs.has {D : DataW Value} {f : Int → Option Value} (h : AtIs D f) (k : Int) : Maps.has D (.int .i64 k) = (f k).isSome := by
  cases e : f k with
  | none => exact Maps.has_false_of_atKey (fun z => by rw [h k z, e])
  | some v => exact Maps.has_true_of_atKey (y := .held v) (fun z => by rw [h k z, e])
/-- Its keys. -/
theorem MapIs.perm {w : World} {b : Nat} {f : Int → Option Value} {D : DataW Value} (hown : w.ownsMap Tryz.prog 3 RF b (Maps.size D) D) (hat : AtIs D f) (n : Nat) (few : ∀ k, (f k).isSome = true → 0 ≤ k ∧ k < ((n : Nat) : Int)) :
    (((List.range n).filter fun (k : Nat) => (f ((k : Nat) : Int)).isSome).map fun (k : Nat) => ((k : Nat) : Int)).Perm (intKeys D) := by
  obtain ⟨es, hD, hpw, _⟩ := hown.entries keyT
  obtain ⟨es', hD', hko⟩ := hown.keysOf
  obtain rfl : es = es' := by rw [hD] at hD'; simpa using hD'
  subst hD
  refine perm_intKeys hpw (fun p hp => ?_) ?_ (fun x => ?_)
  · obtain ⟨v, hv⟩ := hko p hp
    obtain ⟨x, _, hx, _⟩ := Maps.keyOf_i64 Tryz.underlying3 hv
    exact ⟨x, hx⟩
  · refine List.pairwise_map.2 ((List.Pairwise.filter _ List.nodup_range).imp fun {a b} hne e => hne ?_)
    omega
  · rw [hat.has x, List.mem_map]
    constructor
    · rintro ⟨k, hk, rfl⟩
      exact (List.mem_filter.1 hk).2
    · intro hx
      obtain ⟨h0, h1⟩ := few x hx
      refine ⟨x.toNat, List.mem_filter.2 ⟨List.mem_range.2 (by omega), ?_⟩, by omega⟩
      rw [show ((x.toNat : Nat) : Int) = x by omega]
      exact hx
theorem MapIs.size {w : World} {b : Nat} {f : Int → Option Value} {D : DataW Value} (hown : w.ownsMap Tryz.prog 3 RF b (Maps.size D) D) (hat : AtIs D f) (few : ∀ k, (f k).isSome = true → 0 ≤ k ∧ k < 64) : Maps.size D ≤ 64 := by
  have hp := MapIs.perm hown hat 64 few
  have e : (intKeys D).length = Maps.size D := by
    obtain ⟨es, rfl⟩ := hown.isMap
    simp [intKeys, Maps.size]
  rw [← e, ← hp.length_eq, List.length_map]
  exact Nat.le_trans (List.length_filter_le _ _) (by simp)
theorem MapIs.lt {w : World} {b : Nat} {f : Int → Option Value} (h : MapIs w b f) : b < w.heap.size := by
  obtain ⟨D, hown, _⟩ := h.ex
  exact hown.lt
theorem MapIs.obj {w : World} {b : Nat} {f : Int → Option Value} (h : MapIs w b f) : ∃ es c, w.heap[b]? = some (.map es c) := by
  obtain ⟨D, ⟨es, c, hb, _⟩, _⟩ := h.ex
  exact ⟨es, c, hb⟩
theorem MapIs.frm {w w' : World} {b : Nat} {f : Int → Option Value} (h : MapIs w b f) (hb : w'.heap[b]? = w.heap[b]?) : MapIs w' b f := by
  obtain ⟨D, ⟨es, c, h1, r⟩, hat⟩ := h.ex
  exact ⟨⟨D, ⟨es, c, hb.trans h1, r⟩, hat⟩, h.few⟩
theorem MapIs.look {w : World} {b : Nat} {f : Int → Option Value} (h : MapIs w b f) {k : Int} (hk : (Lit.int .i64 k).wf = true) : (Instr.lookup 80 (.map (some b)) (.int .i64 k) false).run Tryz.prog w = .ok ((f k).getD zeroFr) w := by
  obtain ⟨D, hown, hat⟩ := h.ex
  obtain ⟨v, ps, hrun, hv⟩ := hown.lookup keyT mapT (zeroFr_is w) (zd := .held zeroFr) (zp := []) rfl (key_is hk)
  rw [hat k] at hv
  rw [hrun]
  cases e : f k with
  | none => rw [e] at hv; simp only [RF, Option.some.injEq, Prod.mk.injEq, DataW.held.injEq] at hv; rw [hv.1]; rfl
  | some u => rw [e] at hv; simp only [RF, Option.some.injEq, Prod.mk.injEq, DataW.held.injEq] at hv; rw [hv.1]; rfl
theorem MapIs.lookOk {w : World} {b : Nat} {f : Int → Option Value} (h : MapIs w b f) {k : Int} (hk : (Lit.int .i64 k).wf = true) : (Instr.lookup 80 (.map (some b)) (.int .i64 k) true).run Tryz.prog w = .ok (.tuple #[(f k).getD zeroFr, .bool (f k).isSome]) w := by
  obtain ⟨D, hown, hat⟩ := h.ex
  obtain ⟨v, ps, hrun, hv⟩ := hown.look_ok keyT mapT (zeroFr_is w) (zd := .held zeroFr) (zp := []) rfl (key_is hk)
  rw [hat k] at hv
  rw [hrun, hat.has k]
  cases e : f k with
  | none => rw [e] at hv; simp only [RF, Option.some.injEq, Prod.mk.injEq, DataW.held.injEq] at hv; rw [hv.1]; rfl
  | some u => rw [e] at hv; simp only [RF, Option.some.injEq, Prod.mk.injEq, DataW.held.injEq] at hv; rw [hv.1]; rfl
theorem frm_turned {w w' : World} {b : Nat} (h : w.mapTurned w' b) : Frm (fun k => k = b) w w' ∧ w'.heap.size = w.heap.size := by
  obtain ⟨es, c, es', c', hb, rfl⟩ := h
  exact ⟨⟨rfl, rfl, rfl, by simp [Go.ChangeMaps.setBlock], fun k hk hne => Go.ChangeMaps.heap_setBlock_other hb _ hne⟩, by simp [Go.ChangeMaps.setBlock]⟩
def putF (f : Int → Option Value) (k : Int) (o : Option Value) : Int → Option Value := fun j => if j = k then o else f j
theorem MapIs.put {w : World} {b : Nat} {f : Int → Option Value} (h : MapIs w b f) (k : Nat) (hk : k < 64) (v : Value) : ∃ w', (Instr.mapUpdate 80 (.map (some b)) (.int .i64 ((k : Nat) : Int)) v).run Tryz.prog w = .ok () w' ∧ MapIs w' b (putF f ((k : Nat) : Int) (some v)) ∧ Frm (fun i => i = b) w w' ∧ w'.heap.size = w.heap.size := by
  obtain ⟨D, hown, hat⟩ := h.ex
  have hsz := MapIs.size hown hat h.few
  obtain ⟨w', hrun, hown', ht⟩ := hown.store keyT mapT (by unfold maxLen; omega) (key_is (wf_page k (by omega))) (val := v) (d := .held v) (ps := []) rfl
  obtain ⟨f1, f2⟩ := frm_turned ht
  refine ⟨w', hrun, ⟨⟨_, owns_tight hown', fun j z => ?_⟩, fun j hj => ?_⟩, f1, f2⟩
  · unfold putF
    by_cases e : j = ((k : Nat) : Int)
    · rw [if_pos e, e, Maps.atKey_put_same hown.isMap (by simp [WideAt.IsKeyLit])]
    · rw [if_neg e, Maps.atKey_put_other (by simpa using e), hat j]
  · unfold putF at hj
    by_cases e : j = ((k : Nat) : Int)
    · omega
    · rw [if_neg e] at hj
      exact h.few j hj
theorem MapIs.del {w : World} {b : Nat} {f : Int → Option Value} (h : MapIs w b f) {k : Int} (hk : (Lit.int .i64 k).wf = true) (ty : TypeId) : ∃ w', (Builtin.delete_ #[80, 3] ty #[.map (some b), .int .i64 k]).run Tryz.prog w = .ok (.tuple #[]) w' ∧ MapIs w' b (putF f k none) ∧ Frm (fun i => i = b) w w' ∧ w'.heap.size = w.heap.size := by
  obtain ⟨D, hown, hat⟩ := h.ex
  obtain ⟨w', hrun, hown', ht⟩ := hown.drop keyT mapT (key_is hk) ty
  obtain ⟨f1, f2⟩ := frm_turned ht
  refine ⟨w', hrun, ⟨⟨_, owns_tight hown', fun j z => ?_⟩, fun j hj => ?_⟩, f1, f2⟩
  · unfold putF
    by_cases e : j = k
    · rw [if_pos e, e, Maps.atKey_del_same]
    · rw [if_neg e, Maps.atKey_del_other (by simpa using e), hat j]
  · unfold putF at hj
    by_cases e : j = k
    · rw [if_pos e] at hj; cases hj
    · rw [if_neg e] at hj
      exact h.few j hj
theorem MapIs.made (w : World) : MapIs (w.alloc (.map #[] 0)) w.heap.size (fun _ => none) :=
  ⟨⟨.map [], World.ownsMap_made w Tryz.prog 3 RF, fun k z => rfl⟩, fun k hk => by cases hk⟩

def frV (s : Sl) (d : Bool) (z : Int) : Value := .agg #[s.val, .bool d, .int .i64 z]
def poCells (d : Nat) (v : Sl) (h : Int) (mb : Nat) (sy : Int) : Array Value := #[at0 d, v.val, .int .i64 h, .map (some mb), .int .i64 sy]
def PoBlk (w : World) (p d : Nat) (v : Sl) (h : Int) (mb : Nat) (sy : Int) : Prop := w.heap[p]? = some (.cells (poCells d v h mb sy) 82 (0, 0))
theorem PoBlk.c0 {w : World} {p d : Nat} {v : Sl} {h : Int} {mb : Nat} {sy : Int} (k : PoBlk w p d v h mb sy) : w.cell? ⟨p, 0, none⟩ = some (.pointer (some ⟨d, 0, none⟩)) := (Addr.cell0 k).trans rfl
theorem PoBlk.c1 {w : World} {p d : Nat} {v : Sl} {h : Int} {mb : Nat} {sy : Int} (k : PoBlk w p d v h mb sy) : w.cell? ⟨p, 1, none⟩ = some (.slice v.a v.len v.cap) := (Addr.cell0 k).trans rfl
theorem PoBlk.c2 {w : World} {p d : Nat} {v : Sl} {h : Int} {mb : Nat} {sy : Int} (k : PoBlk w p d v h mb sy) : w.cell? ⟨p, 2, none⟩ = some (.int .i64 h) := (Addr.cell0 k).trans rfl
theorem PoBlk.c3 {w : World} {p d : Nat} {v : Sl} {h : Int} {mb : Nat} {sy : Int} (k : PoBlk w p d v h mb sy) : w.cell? ⟨p, 3, none⟩ = some (.map (some mb)) := (Addr.cell0 k).trans rfl
theorem PoBlk.c4 {w : World} {p d : Nat} {v : Sl} {h : Int} {mb : Nat} {sy : Int} (k : PoBlk w p d v h mb sy) : w.cell? ⟨p, 4, none⟩ = some (.int .i64 sy) := (Addr.cell0 k).trans rfl
theorem PoBlk.fz {w : World} {p d : Nat} {v : Sl} {h : Int} {mb : Nat} {sy : Int} (k : PoBlk w p d v h mb sy) (o : Nat) : w.frozen? ⟨p, o, none⟩ = false := frozen_of_row w p _ _ 82 k
theorem PoBlk.lt {w : World} {p d : Nat} {v : Sl} {h : Int} {mb : Nat} {sy : Int} (k : PoBlk w p d v h mb sy) : p < w.heap.size := (Array.getElem?_eq_some_iff.1 k).1
theorem PoBlk.keep {w w' : World} {p d : Nat} {v : Sl} {h : Int} {mb : Nat} {sy : Int} (k : PoBlk w p d v h mb sy) (e : w'.heap[p]? = w.heap[p]?) : PoBlk w' p d v h mb sy := e.trans k
theorem stClk {w : World} {p d : Nat} {v : Sl} {h : Int} {mb : Nat} {sy : Int} (k : PoBlk w p d v h mb sy) (v' : Sl) (h' : Int) : ∃ W, (Instr.storeAt 40 (.pointer (some ⟨p, 1, none⟩)) (ckV v' h')).run Tryz.prog w = .ok () W ∧ PoBlk W p d v' h' mb sy ∧ Frm (fun i => i = p) w W ∧ W.heap.size = w.heap.size := by
  have c1 := k.c1
  have c2 := k.c2
  have f1 := k.fz 1
  have f2 := k.fz 2
  refine ⟨(w.setCell ⟨p, 1, none⟩ v'.val).setCell ⟨p, 2, none⟩ (.int .i64 h'), ?_, ?_, ((Frm.refl (fun i => i = p) w).setCell (p := ⟨p, 1, none⟩) rfl _).setCell (p := ⟨p, 2, none⟩) rfl _, by simp only [setCell_size]⟩
  · obtain ⟨a, len, cap⟩ := v'
    unfold ckV Sl.val
    simp [go_sem, Instr.storeAt, c1, c2, f1, f2]
  · have s1 := heap_setCell_same w p 1 _ 82 v'.val k
    have s2 := heap_setCell_same _ p 2 _ 82 (.int .i64 h') s1
    unfold PoBlk
    rw [s2]
    simp [poCells]
theorem stSy {w : World} {p d : Nat} {v : Sl} {h : Int} {mb : Nat} {sy : Int} (k : PoBlk w p d v h mb sy) (z : Int) : ∃ W, (Instr.storeAt 3 (.pointer (some ⟨p, 4, none⟩)) (.int .i64 z)).run Tryz.prog w = .ok () W ∧ PoBlk W p d v h mb z ∧ Frm (fun i => i = p) w W ∧ W.heap.size = w.heap.size := by
  have c4 := k.c4
  have f4 := k.fz 4
  refine ⟨w.setCell ⟨p, 4, none⟩ (.int .i64 z), by simp [go_sem, Instr.storeAt, c4, f4], ?_, (Frm.refl (fun i => i = p) w).setCell (p := ⟨p, 4, none⟩) rfl _, by simp only [setCell_size]⟩
  have s4 := heap_setCell_same w p 4 _ 82 (.int .i64 z) k
  unfold PoBlk
  rw [s4]
  simp [poCells]

/-- A sheet of the pool: what the map holds of it. -/
structure ShIs (w : World) (Y : Nat → Prop) (s : Sh) (u : Value) (sl : Sl) (z : Int) : Prop where
  val : u = frV sl s.dirty z
  place : s.dirty = true → z = s.place
  own : Own 5 1 w sl (vals s.b)
  len : sl.len = 512
  home : ∀ i, sl.blk = some i → Y i
def ShAt (w : World) (Y : Nat → Prop) (o : Option Sh) (f : Option Value) : Prop := (o = none ∧ f = none) ∨ ∃ s u sl z, o = some s ∧ f = some u ∧ ShIs w Y s u sl z
theorem ShIs.frm {w w' : World} {Y Z : Nat → Prop} {s : Sh} {u : Value} {sl : Sl} {z : Int} (h : ShIs w Y s u sl z) (hk : ∀ i, Y i → w'.heap[i]? = w.heap[i]?) (hZ : ∀ i, Y i → Z i) : ShIs w' Z s u sl z :=
  ⟨h.val, h.place, h.own.frame fun k hk' => hk k (h.home k hk'), h.len, fun i hi => hZ i (h.home i hi)⟩
theorem ShAt.frm {w w' : World} {Y Z : Nat → Prop} {o : Option Sh} {f : Option Value} (h : ShAt w Y o f) (hk : ∀ i, Y i → w'.heap[i]? = w.heap[i]?) (hZ : ∀ i, Y i → Z i) : ShAt w' Z o f := by
  rcases h with h | ⟨s, u, sl, z, h1, h2, h3⟩
  · exact .inl h
  · exact .inr ⟨s, u, sl, z, h1, h2, h3.frm hk hZ⟩
/-- A block of frames or of bytes. -/
def TyB (w : World) (k : Nat) : Prop := ∃ C t fz, w.heap[k]? = some (.cells C t fz) ∧ (t = 85 ∨ t = 5)
theorem TyB.frm {w w' : World} {k : Nat} (h : TyB w k) (e : w'.heap[k]? = w.heap[k]?) : TyB w' k := by
  obtain ⟨C, t, fz, hc, ht⟩ := h
  exact ⟨C, t, fz, e.trans hc, ht⟩
theorem TyB.lt {w : World} {k : Nat} (h : TyB w k) : k < w.heap.size := by
  obtain ⟨C, t, fz, hc, _⟩ := h
  exact (Array.getElem?_eq_some_iff.1 hc).1
theorem frmG {w w' : World} {Y Z : Nat → Prop} {v : Sl} {l : List Sp} (h : Gs Y w v l) (hk : ∀ i, Y i → w'.heap[i]? = w.heap[i]?) (hZ : ∀ i, Y i → Z i) : Gs Z w' v l := by
  refine ⟨h.len, h.nil, h.le, h.big, fun ad e hl => hZ _ (h.home ad e hl), fun i hi => ?_, fun ad e hl => by
    obtain ⟨C, fz, hc⟩ := h.ty ad e hl
    exact ⟨C, fz, (hk _ (h.home ad e hl)).trans hc⟩⟩
  obtain ⟨b, off, ha, c0, c1, c2⟩ := h.cell i hi
  have hb := hk b (h.home _ ha (by omega))
  have hc : ∀ o, w'.cell? ⟨b, o, none⟩ = w.cell? ⟨b, o, none⟩ := fun o => by simp only [World.cell?, hb]
  exact ⟨b, off, ha, (hc _).trans c0, (hc _).trans c1, (hc _).trans c2⟩

structure PoIn (w : World) (p d : Nat) (P : Po) (L : Dl) (Y : Nat → Prop) (v : Sl) (mb : Nat) (f : Int → Option Value) : Prop where
  dev : DevM w d P.D L
  blk : PoBlk w p d v P.h mb P.sy
  map : MapIs w mb f
  ck : Gs Y w v P.l
  sh : ∀ k : Nat, ShAt w Y (P.m k) (f ((k : Nat) : Int))
  yp : ¬ Y p
  ym : ¬ Y mb
  pm : p ≠ mb
  lt : ∀ k, Y k → k < w.heap.size
  ap : ∀ k, (k = p ∨ k = mb ∨ Y k) → ¬ L.F d k
  ty : ∀ k, Y k → TyB w k
/-- The blocks that are the pool's own. -/
def poX (p mb : Nat) (Y : Nat → Prop) (k : Nat) : Prop := k = p ∨ k = mb ∨ Y k
def poM : PoM := fun w p d P L X => ∃ Y v mb f, PoIn w p d P L Y v mb f ∧ X = poX p mb Y
/-- What an act leaves. -/
structure Did (w : World) (p d mb : Nat) (L : Dl) (Y : Nat → Prop) (w' : World) (Q : Po) : Prop where
  ex : ∃ L' Y' v' f', PoIn w' p d Q L' Y' v' mb f' ∧ (∀ k, Y' k → Y k ∨ w.heap.size ≤ k) ∧ (∀ k, L'.F d k → L.F d k ∨ w.heap.size ≤ k)
  frm : Frm (fun k => k = p ∨ k = mb ∨ L.F d k) w w'

theorem PoIn.frm {w w' : World} {p d : Nat} {P : Po} {L : Dl} {Y : Nat → Prop} {v : Sl} {mb : Nat} {f : Int → Option Value} {F : Nat → Prop} (h : PoIn w p d P L Y v mb f) (hf : Frm F w w') (hF : ∀ k, poX p mb Y k ∨ L.F d k → ¬ F k) : PoIn w' p d P L Y v mb f := by
  have hp := hf.block p h.blk.lt (hF p (.inl (.inl rfl)))
  have hm := hf.block mb h.map.lt (hF mb (.inl (.inr (.inl rfl))))
  have hy : ∀ i, Y i → w'.heap[i]? = w.heap[i]? := fun i hi => hf.block i (h.lt i hi) (hF i (.inl (.inr (.inr hi))))
  exact ⟨h.dev.frm hf (fun k hk => hF k (.inr hk)), h.blk.keep hp, h.map.frm hm, frmG h.ck hy (fun _ e => e), fun k => (h.sh k).frm hy (fun _ e => e), h.yp, h.ym, h.pm, fun k hk => Nat.lt_of_lt_of_le (h.lt k hk) hf.size, h.ap, fun k hk => (h.ty k hk).frm (hy k hk)⟩
theorem PoIn.keep {w w' : World} {p d : Nat} {P : Po} {L : Dl} {Y : Nat → Prop} {v : Sl} {mb : Nat} {f : Int → Option Value} (h : PoIn w p d P L Y v mb f) (hb : Below w.heap.size w w') : PoIn w' p d P L Y v mb f :=
  h.frm (F := fun _ => False) (Frm.ofBelow hb) (fun _ _ e => e)
/-- The device alone has turned. -/
theorem PoIn.turn {w w' : World} {p d : Nat} {P : Po} {L L' : Dl} {D' : Ds} {Y : Nat → Prop} {v : Sl} {mb : Nat} {f : Int → Option Value} (h : PoIn w p d P L Y v mb f) (t : Turned w d L w' D' L') : PoIn w' p d { P with D := D' } L' Y v mb f := by
  have hb : ∀ k, poX p mb Y k → k < w.heap.size → w'.heap[k]? = w.heap[k]? := fun k hk hl => t.frm.block k hl (h.ap k hk)
  have hy : ∀ i, Y i → w'.heap[i]? = w.heap[i]? := fun i hi => hb i (.inr (.inr hi)) (h.lt i hi)
  have hl : ∀ k, poX p mb Y k → k < w.heap.size := fun k hk => by
    rcases hk with rfl | rfl | hk
    · exact h.blk.lt
    · exact h.map.lt
    · exact h.lt k hk
  refine ⟨t.dev, h.blk.keep (hb p (.inl rfl) h.blk.lt), h.map.frm (hb mb (.inr (.inl rfl)) h.map.lt), frmG h.ck hy (fun _ e => e), fun k => (h.sh k).frm hy (fun _ e => e), h.yp, h.ym, h.pm, fun k hk => Nat.lt_of_lt_of_le (h.lt k hk) t.frm.size, fun k hk hF => ?_, fun k hk => (h.ty k hk).frm (hy k hk)⟩
  rcases t.foot k hF with e | e
  · exact h.ap k hk e
  · have := hl k hk
    omega
theorem PoIn.did {w w' : World} {p d : Nat} {P Q : Po} {L : Dl} {Y : Nat → Prop} {v v' : Sl} {mb : Nat} {f f' : Int → Option Value} (h : PoIn w' p d Q L Y v' mb f') (hf : Frm (fun k => k = p ∨ k = mb ∨ L.F d k) w w') : Did w p d mb L Y w' Q :=
  ⟨⟨L, Y, v', f', h, fun _ e => .inl e, fun _ e => .inl e⟩, hf⟩
theorem PoIn.same {w w' : World} {p d : Nat} {P : Po} {L : Dl} {Y : Nat → Prop} {v : Sl} {mb : Nat} {f : Int → Option Value} (h : PoIn w p d P L Y v mb f) (hb : Below w.heap.size w w') : Did w p d mb L Y w' P :=
  ⟨⟨L, Y, v, f, h.keep hb, fun _ e => .inl e, fun _ e => .inl e⟩, Frm.ofBelow hb⟩
theorem PoIn.turned {w w' : World} {p d : Nat} {P : Po} {L L' : Dl} {D' : Ds} {Y : Nat → Prop} {v : Sl} {mb : Nat} {f : Int → Option Value} (h : PoIn w p d P L Y v mb f) (t : Turned w d L w' D' L') : Did w p d mb L Y w' { P with D := D' } :=
  ⟨⟨L', Y, v, f, h.turn t, fun _ e => .inl e, t.foot⟩, t.frm.mono (fun i _ e => .inr (.inr e))⟩
/-- One act behind another. -/
theorem Did.trans {w w1 w2 : World} {p d mb : Nat} {L : Dl} {Y : Nat → Prop} {Q R : Po} (h : Did w p d mb L Y w1 Q) (k : ∀ L' Y' v' f', PoIn w1 p d Q L' Y' v' mb f' → Did w1 p d mb L' Y' w2 R) : Did w p d mb L Y w2 R := by
  obtain ⟨L', Y', v', f', hi, hy, hl⟩ := h.ex
  obtain ⟨L2, Y2, v2, f2, hi2, hy2, hl2⟩ := (k L' Y' v' f' hi).ex
  have fr := (k L' Y' v' f' hi).frm
  refine ⟨⟨L2, Y2, v2, f2, hi2, fun i e => ?_, fun i e => ?_⟩, h.frm.trans fr (fun i hlt e => ?_)⟩
  · rcases hy2 i e with e | e
    · exact hy i e
    · exact .inr (Nat.le_trans h.frm.size e)
  · rcases hl2 i e with e | e
    · exact hl i e
    · exact .inr (Nat.le_trans h.frm.size e)
  · rcases e with e | e | e
    · exact .inl e
    · exact .inr (.inl e)
    · rcases hl i e with e | e
      · exact .inr (.inr e)
      · omega
theorem Did.acted {w : World} {p d mb : Nat} {L : Dl} {Y : Nat → Prop} {w' : World} {Q : Po} (h : Did w p d mb L Y w' Q) : Acted poM w p d L (poX p mb Y) w' Q := by
  obtain ⟨L', Y', v', f', hi, hy, hl⟩ := h.ex
  refine ⟨⟨L', _, ⟨Y', v', mb, f', hi, rfl⟩, fun k hk => ?_⟩, h.frm.mono (fun i _ e => ?_)⟩
  · rcases hk with (e | e | e) | e
    · exact .inl (.inl (.inl e))
    · exact .inl (.inl (.inr (.inl e)))
    · rcases hy k e with e | e
      · exact .inl (.inl (.inr (.inr e)))
      · exact .inr e
    · rcases hl k e with e | e
      · exact .inl (.inr e)
      · exact .inr e
  · rcases e with e | e | e
    · exact .inl (.inl e)
    · exact .inl (.inr (.inl e))
    · exact .inr e

/-- The map holds something else of a page. -/
theorem PoIn.put {w w1 : World} {p d : Nat} {P : Po} {L : Dl} {Y : Nat → Prop} {v : Sl} {mb : Nat} {f : Int → Option Value} (h : PoIn w p d P L Y v mb f) (k : Nat) (o : Option Sh) (g : Int → Option Value) (hm : MapIs w1 mb g) (hg : ∀ j : Int, j ≠ ((k : Nat) : Int) → g j = f j) (hf : Frm (fun i => i = mb) w w1) (ho : ShAt w1 Y o (g ((k : Nat) : Int))) : PoIn w1 p d (P.put k o) L Y v mb g := by
  have hb : ∀ i, i ≠ mb → i < w.heap.size → w1.heap[i]? = w.heap[i]? := fun i hi hl => hf.block i hl hi
  have hy : ∀ i, Y i → w1.heap[i]? = w.heap[i]? := fun i hi => hb i (fun e => h.ym (e ▸ hi)) (h.lt i hi)
  refine ⟨h.dev.frm hf (fun i hi e => h.ap mb (.inr (.inl rfl)) (e ▸ hi)), h.blk.keep (hb p h.pm h.blk.lt), hm, frmG h.ck hy (fun _ e => e), fun j => ?_, h.yp, h.ym, h.pm, fun i hi => Nat.lt_of_lt_of_le (h.lt i hi) hf.size, h.ap, fun i hi => (h.ty i hi).frm (hy i hi)⟩
  by_cases e : j = k
  · rw [e, put_same]
    exact ho
  · rw [put_other _ _ e, hg _ (by omega)]
    exact (h.sh j).frm hy (fun _ e => e)
/-- One more block is its own. -/
theorem PoIn.widen {w : World} {p d : Nat} {P : Po} {L : Dl} {Y Z : Nat → Prop} {v : Sl} {mb : Nat} {f : Int → Option Value} (h : PoIn w p d P L Y v mb f) (hz : ∀ i, Y i → Z i) (hp : ¬ Z p) (hm : ¬ Z mb) (hl : ∀ i, Z i → i < w.heap.size) (ha : ∀ i, Z i → ¬ L.F d i) (ht : ∀ i, Z i → TyB w i) : PoIn w p d P L Z v mb f :=
  ⟨h.dev, h.blk, h.map, frmG h.ck (fun _ _ => rfl) hz, fun k => (h.sh k).frm (fun _ _ => rfl) hz, hp, hm, h.pm, hl, fun k hk => by
    rcases hk with e | e | e
    · exact h.ap k (.inl e)
    · exact h.ap k (.inr (.inl e))
    · exact ha k e, ht⟩
/-- Another clock. -/
theorem PoIn.clock {w w1 : World} {p d : Nat} {P : Po} {L : Dl} {Y : Nat → Prop} {v : Sl} {mb : Nat} {f : Int → Option Value} (h : PoIn w p d P L Y v mb f) (v' : Sl) (l : List Sp) (hh : Int) (hb : PoBlk w1 p d v' hh mb P.sy) (hf : Frm (fun i => i = p) w w1) (hg : Gs Y w1 v' l) : PoIn w1 p d (P.clock l hh) L Y v' mb f := by
  have hk : ∀ i, i ≠ p → i < w.heap.size → w1.heap[i]? = w.heap[i]? := fun i hi hl => hf.block i hl hi
  have hy : ∀ i, Y i → w1.heap[i]? = w.heap[i]? := fun i hi => hk i (fun e => h.yp (e ▸ hi)) (h.lt i hi)
  exact ⟨h.dev.frm hf (fun i hi e => h.ap p (.inl rfl) (e ▸ hi)), hb, h.map.frm (hk mb (Ne.symm h.pm) h.map.lt), hg, fun j => (h.sh j).frm hy (fun _ e => e), h.yp, h.ym, h.pm, fun i hi => Nat.lt_of_lt_of_le (h.lt i hi) hf.size, h.ap, fun i hi => (h.ty i hi).frm (hy i hi)⟩
/-- Another place that is synced. -/
theorem PoIn.sync {w w1 : World} {p d : Nat} {P : Po} {L : Dl} {Y : Nat → Prop} {v : Sl} {mb : Nat} {f : Int → Option Value} (h : PoIn w p d P L Y v mb f) (z : Int) (hb : PoBlk w1 p d v P.h mb z) (hf : Frm (fun i => i = p) w w1) : PoIn w1 p d { P with sy := z } L Y v mb f := by
  have hk : ∀ i, i ≠ p → i < w.heap.size → w1.heap[i]? = w.heap[i]? := fun i hi hl => hf.block i hl hi
  have hy : ∀ i, Y i → w1.heap[i]? = w.heap[i]? := fun i hi => hk i (fun e => h.yp (e ▸ hi)) (h.lt i hi)
  exact ⟨h.dev.frm hf (fun i hi e => h.ap p (.inl rfl) (e ▸ hi)), hb, h.map.frm (hk mb (Ne.symm h.pm) h.map.lt), frmG h.ck hy (fun _ e => e), fun j => (h.sh j).frm hy (fun _ e => e), h.yp, h.ym, h.pm, fun i hi => Nat.lt_of_lt_of_le (h.lt i hi) hf.size, h.ap, fun i hi => (h.ty i hi).frm (hy i hi)⟩
end Go.Proofs.YtcaaiihjolnkgaaGreat
