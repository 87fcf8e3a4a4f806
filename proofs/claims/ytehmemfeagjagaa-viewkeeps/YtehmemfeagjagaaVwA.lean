/-
  Numbers in memory: read, and of one's own; comparisons that are drawn; the document's Ints. (Written by mk16.py.)
-/
import Derived.Test.YtehmemfeagjagaaSlB
import Derived.Test.YtehmemfeagjagaaPlanF
namespace Go.Proofs.Ytehmemfeagjagaa
open Go.RowKit
set_option maxRecDepth 100000
set_option linter.unusedVariables false

/-- The blocks of D that are there stay as they are. -/
def Kept (D : Nat → Prop) (w w' : World) : Prop := ∀ k, D k → k < w.heap.size → w'.heap[k]? = w.heap[k]?
theorem Kept.all {D : Nat → Prop} {B : Nat} {w w' : World} (h : Below B w w') (hB : w.heap.size ≤ B) : Kept D w w' := fun k _ hl => h.block k (by omega)
theorem Kept.frm {D F : Nat → Prop} {w w' : World} (h : Frm F w w') (hD : ∀ k, D k → ¬ F k) : Kept D w w' := fun k hk hl => h.block k hl (hD k hk)
theorem Kept.cell {D : Nat → Prop} {w w' : World} (h : Kept D w w') {a : Addr} {u : Value} (hc : w.cell? a = some u) (hD : D a.block) : w'.cell? a = some u := by
  have := h a.block hD (World.block_lt_of_cell? w _ hc)
  simp only [World.cell?] at hc ⊢
  rw [this]
  exact hc
/-- The numbers t lie where the slice leads. -/
structure Gi (D : Nat → Prop) (w : World) (v : Sl) (t : List Int) : Prop where
  len : t.length = v.len
  nil : v.a = none → v.cap = 0
  le : v.len ≤ v.cap
  big : v.len ≤ 1000000
  home : ∀ ad, v.a = some ad → 0 < v.len → D ad.block
  cell : ∀ i, i < v.len → ∃ b off, v.a = some ⟨b, off, none⟩ ∧ w.cell? ⟨b, off + i, none⟩ = some (.int .i64 (t.getD i 0))
theorem Gi.keep {D : Nat → Prop} {w w' : World} {v : Sl} {t : List Int} (h : Gi D w v t) (hk : Kept D w w') : Gi D w' v t := by
  refine ⟨h.len, h.nil, h.le, h.big, h.home, fun i hi => ?_⟩
  obtain ⟨b, off, ha, c0⟩ := h.cell i hi
  exact ⟨b, off, ha, hk.cell c0 (h.home ⟨b, off, none⟩ ha (by omega))⟩
theorem Gi.below {D : Nat → Prop} {B : Nat} {w w' : World} {v : Sl} {t : List Int} (h : Gi D w v t) (hb : Below B w w') (hB : w.heap.size ≤ B) : Gi D w' v t := h.keep (Kept.all hb hB)
theorem alloc_size (w : World) (o : Obj) : (w.alloc o).heap.size = w.heap.size + 1 := by
  show (w.heap.push o).size = _
  simp
theorem Gi.wide {D E : Nat → Prop} {w : World} {v : Sl} {t : List Int} (h : Gi D w v t) (hE : ∀ k, D k → E k) : Gi E w v t :=
  ⟨h.len, h.nil, h.le, h.big, fun ad ha hl => hE _ (h.home ad ha hl), h.cell⟩
theorem Gi.mono {D E : Nat → Prop} {w : World} {v : Sl} {t : List Int} (h : Gi D w v t) (hE : ∀ k, D k → k < w.heap.size → E k) : Gi E w v t := by
  refine ⟨h.len, h.nil, h.le, h.big, fun ad ha hl => ?_, h.cell⟩
  obtain ⟨b, off, hb, hc⟩ := h.cell 0 hl
  rw [ha] at hb
  cases hb
  exact hE _ (h.home _ ha hl) (World.block_lt_of_cell? _ _ hc)
theorem lssT (a c : Int) (x y : Operand) (h : a < c) (w : World) : (do eqGuard .lss 3 x y (.int .i64 a) (.int .i64 c); binOp .lss 3 (.int .i64 a) (.int .i64 c) : Sem Value).run Try.prog w = .ok (.bool true) w := by
  simp [go_sem, eqGuard]
  first | done | omega
theorem lssF (a c : Int) (x y : Operand) (h : ¬ (a < c)) (w : World) : (do eqGuard .lss 3 x y (.int .i64 a) (.int .i64 c); binOp .lss 3 (.int .i64 a) (.int .i64 c) : Sem Value).run Try.prog w = .ok (.bool false) w := by
  simp [go_sem, eqGuard]
  first | done | omega
theorem leqT (a c : Int) (x y : Operand) (h : a ≤ c) (w : World) : (do eqGuard .leq 3 x y (.int .i64 a) (.int .i64 c); binOp .leq 3 (.int .i64 a) (.int .i64 c) : Sem Value).run Try.prog w = .ok (.bool true) w := by
  simp [go_sem, eqGuard]
  first | done | omega
theorem leqF (a c : Int) (x y : Operand) (h : ¬ (a ≤ c)) (w : World) : (do eqGuard .leq 3 x y (.int .i64 a) (.int .i64 c); binOp .leq 3 (.int .i64 a) (.int .i64 c) : Sem Value).run Try.prog w = .ok (.bool false) w := by
  simp [go_sem, eqGuard]
  first | done | omega
theorem gtrT (a c : Int) (x y : Operand) (h : c < a) (w : World) : (do eqGuard .gtr 3 x y (.int .i64 a) (.int .i64 c); binOp .gtr 3 (.int .i64 a) (.int .i64 c) : Sem Value).run Try.prog w = .ok (.bool true) w := by
  simp [go_sem, eqGuard]
  first | done | omega
theorem gtrF (a c : Int) (x y : Operand) (h : ¬ (c < a)) (w : World) : (do eqGuard .gtr 3 x y (.int .i64 a) (.int .i64 c); binOp .gtr 3 (.int .i64 a) (.int .i64 c) : Sem Value).run Try.prog w = .ok (.bool false) w := by
  simp [go_sem, eqGuard]
  first | done | omega
theorem geqT (a c : Int) (x y : Operand) (h : c ≤ a) (w : World) : (do eqGuard .geq 3 x y (.int .i64 a) (.int .i64 c); binOp .geq 3 (.int .i64 a) (.int .i64 c) : Sem Value).run Try.prog w = .ok (.bool true) w := by
  simp [go_sem, eqGuard]
  first | done | omega
theorem geqF (a c : Int) (x y : Operand) (h : ¬ (c ≤ a)) (w : World) : (do eqGuard .geq 3 x y (.int .i64 a) (.int .i64 c); binOp .geq 3 (.int .i64 a) (.int .i64 c) : Sem Value).run Try.prog w = .ok (.bool false) w := by
  simp [go_sem, eqGuard]
  first | done | omega
theorem eqlT (a c : Int) (x y : Operand) (h : a = c) (w : World) : (do eqGuard .eql 3 x y (.int .i64 a) (.int .i64 c); binOp .eql 3 (.int .i64 a) (.int .i64 c) : Sem Value).run Try.prog w = .ok (.bool true) w := by
  simp [go_sem, eqGuard]
  first | done | omega
theorem eqlF (a c : Int) (x y : Operand) (h : ¬ (a = c)) (w : World) : (do eqGuard .eql 3 x y (.int .i64 a) (.int .i64 c); binOp .eql 3 (.int .i64 a) (.int .i64 c) : Sem Value).run Try.prog w = .ok (.bool false) w := by
  simp [go_sem, eqGuard]
  first | done | omega
theorem neqT (a c : Int) (x y : Operand) (h : a ≠ c) (w : World) : (do eqGuard .neq 3 x y (.int .i64 a) (.int .i64 c); binOp .neq 3 (.int .i64 a) (.int .i64 c) : Sem Value).run Try.prog w = .ok (.bool true) w := by
  simp [go_sem, eqGuard]
  first | done | omega
theorem neqF (a c : Int) (x y : Operand) (h : ¬ (a ≠ c)) (w : World) : (do eqGuard .neq 3 x y (.int .i64 a) (.int .i64 c); binOp .neq 3 (.int .i64 a) (.int .i64 c) : Sem Value).run Try.prog w = .ok (.bool false) w := by
  simp [go_sem, eqGuard]
  first | done | omega
theorem below_drew (w : World) : Below w.heap.size w w.drew := (Below.refl _ _).drew
theorem ixI1 (b o len cap k : Nat) (hk : k < len) (w : World) : (Instr.indexAt 22 (.slice (some ⟨b, o, none⟩) len cap) (.int .i64 ((k : Nat) : Int))).run Try.prog w = .ok (.pointer (some ⟨b, o + k, none⟩)) w := by
  have h2 : ((k : Nat) : Int) < ((len : Nat) : Int) := by omega
  simp [go_sem, Instr.indexAt, hk, Addr.add_lit]
theorem ldI1 (b o : Nat) (x : Int) (w : World) (h : w.cell? ⟨b, o, none⟩ = some (.int .i64 x)) : (Instr.loadAt 3 (.pointer (some ⟨b, o, none⟩))).run Try.prog w = .ok (.int .i64 x) w := by
  simp [go_sem, Instr.loadAt, h]
theorem cell_below {w w' : World} {b o : Nat} {u : Value} (h : w.cell? ⟨b, o, none⟩ = some u) (hb : Below w.heap.size w w') : w'.cell? ⟨b, o, none⟩ = some u := (hb.cell (p := ⟨b, o, none⟩) (World.block_lt_of_cell? w _ h)).trans h
theorem ldInt (b o : Nat) (x : Int) (w : World) (h : w.cell? ⟨b, o, none⟩ = some (.int .i64 x)) : (Instr.loadAt 3 (.pointer (some ⟨b, o, none⟩))).run Try.prog w = .ok (.int .i64 x) w := by simp [go_sem, h]
theorem infoIn1 : (Try.prog.info? 3).map (fun i => (i.zero, i.size, i.bytes)) = some (some (.int .i64 0), 1, 8) := by kernel_rfl
def cellsN (t : List Int) : List Value := t.map fun x => .int .i64 x
theorem cellsN_one (t : List Int) : ∀ u ∈ cellsN t, u.oneCell' = true := by
  intro u hu
  obtain ⟨i, _, rfl⟩ := List.mem_map.1 hu
  rfl
theorem cellsN_length (t : List Int) : (cellsN t).length = t.length := by simp [cellsN]
theorem cellsN_get {t : List Int} {i : Nat} (h : i < t.length) : (cellsN t)[i]? = some (.int .i64 (t.getD i 0)) := by simp [cellsN, List.getD, h]
theorem cellsN_set (t : List Int) (i : Nat) (x : Int) : cellsN (t.set i x) = (cellsN t).set i (.int .i64 x) := by simp [cellsN, List.map_set]
/-- A row of numbers that the call has made. -/
def OwnN (w : World) (v : Sl) (t : List Int) : Prop := Own 3 1 w v (cellsN t)
theorem OwnN.len {w : World} {v : Sl} {t : List Int} (h : OwnN w v t) : t.length = v.len := by
  have := h.1
  rw [cellsN_length] at this
  omega
theorem OwnN.new (w : World) : OwnN (w.alloc (.cells #[] 3)) ⟨some ⟨w.heap.size, 0, none⟩, 0, 0⟩ [] :=
  ⟨rfl, .inr ⟨w.heap.size, 0, _, rfl, heap_alloc_new w _, by simp, Nat.le_refl _, by simp, rfl⟩⟩
theorem OwnN.cellAt {w : World} {v : Sl} {t : List Int} (h : OwnN w v t) {g off : Nat} (ha : v.a = some ⟨g, off, none⟩) {i : Nat} (hi : i < v.len) : w.cell? ⟨g, off + i, none⟩ = some (.int .i64 (t.getD i 0)) := by
  have := Own.cell h ha i _ (cellsN_get (by rw [h.len]; exact hi))
  rwa [Addr.add_lit] at this
theorem OwnN.frozen {w : World} {v : Sl} {t : List Int} (h : OwnN w v t) {g off : Nat} (ha : v.a = some ⟨g, off, none⟩) (o : Nat) : w.frozen? ⟨g, o, none⟩ = false := by
  obtain ⟨cur, hc⟩ := Own.kind h (k := g) (by rw [Sl.blk, ha]; rfl)
  exact frozen_of_row w g _ cur 3 hc
theorem OwnN.pos {w : World} {v : Sl} {t : List Int} (h : OwnN w v t) (hp : 0 < v.len) : ∃ g off, v.a = some ⟨g, off, none⟩ := by
  rcases h.2 with ⟨h0, _⟩ | ⟨g, off, cur, ha, _⟩
  · rw [h0] at hp; exact absurd hp (Nat.not_lt_zero _)
  · exact ⟨g, off, ha⟩
theorem OwnN.gi {D : Nat → Prop} {w : World} {v : Sl} {t : List Int} (h : OwnN w v t) (hD : ∀ k, v.blk = some k → D k) (hm : v.len ≤ 1000000) : Gi D w v t := by
  refine ⟨h.len, Own.nilcap h, Own.lecap h, hm, fun ad ha _ => hD _ (by rw [Sl.blk, ha]; rfl), fun i hi => ?_⟩
  obtain ⟨g, off, ha⟩ := h.pos (by omega)
  exact ⟨g, off, ha, h.cellAt ha hi⟩
theorem Gi.src {D : Nat → Prop} {w : World} {v : Sl} {t : List Int} (h : Gi D w v t) : Src Try.prog 1 22 v.val v.len (cellsN t) w := by
  obtain ⟨a, len, cap⟩ := v
  have hl : t.length = len := h.len
  cases a with
  | none =>
    have hc : cap = 0 := h.nil rfl
    have h0 : len = 0 := by have : len ≤ cap := h.le; omega
    subst hc; subst h0
    have : t = [] := List.eq_nil_of_length_eq_zero hl
    subst this
    exact Src.ofNil w Try.underlying22 0
  | some ad =>
    refine Src.ofSlice w Try.underlying22 ad len cap (cellsN t) (by rw [cellsN_length, hl, Nat.mul_one]) (fun j u hj => ?_) (cellsN_one t)
    have hjl : j < t.length := by
      have := (List.getElem?_eq_some_iff.1 hj).1
      rwa [cellsN_length] at this
    obtain ⟨b, off, e, c0⟩ := h.cell j (by show j < len; omega)
    obtain rfl := Option.some.inj e
    rw [Addr.add_lit, c0, ← cellsN_get hjl, hj]
/-- append([]int{}, s...): a row of the call's own. -/
theorem append_newN {D : Nat → Prop} (w : World) (v : Sl) (t : List Int) (h : Gi D w v t) (ty : TypeId) :
    ∃ v' w', (Builtin.append_ #[22, 22] ty #[.slice (some ⟨w.heap.size, 0, none⟩) 0 0, v.val]).run Try.prog (w.alloc (.cells #[] 3)) = .ok v'.val w' ∧ OwnN w' v' t ∧ v'.len = v.len ∧ Below w.heap.size w w' ∧ ∀ k, v'.blk = some k → w.heap.size ≤ k := by
  have hB := below_alloc w (.cells #[] 3)
  have h1 := (h.below hB (Nat.le_refl _)).src
  obtain ⟨v', w', hrun, ho, hlen, hf, hbk⟩ := own_append Try.underlying22 infoIn1 rfl (by decide) _ ⟨some ⟨w.heap.size, 0, none⟩, 0, 0⟩ [] (OwnN.new w) (fun _ h => by cases h) _ v.len (cellsN t) h1 (by have := h.big; show 0 + v.len ≤ _; omega) ty
  refine ⟨v', w', hrun, ho, by rw [hlen]; exact Nat.zero_add _, hB.trans (hf.below hB.size (fun k hk => ?_)), fun k hk => ?_⟩
  · have : some w.heap.size = some k := hk
    cases this
    exact Nat.le_refl _
  · rcases hbk with e | ⟨e, _⟩
    · rw [e] at hk
      have : some w.heap.size = some k := hk
      cases this
      exact Nat.le_refl _
    · rw [e] at hk
      cases hk
      exact hB.size
def Ks (w : World) (a : Option Addr) (len : Nat) (ks : List Int) : Prop :=
  ks.length = len ∧ ∀ j, j < len → ∃ b off, a = some ⟨b, off, none⟩ ∧ w.cell? ⟨b, off + j, none⟩ = some (.int .i64 (ks.getD j 0))
theorem Ks.keep {w w' : World} {B : Nat} {a : Option Addr} {len : Nat} {ks : List Int} (h : Ks w a len ks) (hb : Below B w w') (hB : w.heap.size ≤ B) : Ks w' a len ks := by
  refine ⟨h.1, fun i hi => ?_⟩
  obtain ⟨b, off, ha, hc⟩ := h.2 i hi
  exact ⟨b, off, ha, (hb.cell (Nat.lt_of_lt_of_le (World.block_lt_of_cell? w _ hc) hB)).trans hc⟩
set_option maxHeartbeats 2000000 in
set_option maxRecDepth 100000 in
theorem rints6a (w : World) (b o len cap b2 o2 len2 cap2 i : Nat) (x y : Int) (hi : i < len) (hi2 : i < len2) (hx : w.cell? ⟨b, o + i, none⟩ = some (.int .i64 x)) (hy : w.cell? ⟨b2, o2 + i, none⟩ = some (.int .i64 y)) (hr : x ≠ y)
    {Q : Exit → Act → World → Prop} {A : Act} (hsz : A.tmps.size = 26) (hdf : A.defers = []) (s0 : A.tmps.getD 0 undef = .slice (some ⟨b, o, none⟩) len cap) (s1 : A.tmps.getD 1 undef = .slice (some ⟨b2, o2, none⟩) len2 cap2) (s5 : A.tmps.getD 5 undef = .int .i64 ((i : Nat) : Int))
    (hend : ∀ (u : Nat → Value) w', Below w.heap.size w w' → Q .normal ((((((((((A).put (some 17) (u 17)).put (some 18) (u 18)).put (some 19) (u 19)).put (some 20) (u 20)).put (some 21) (u 21)).put (some 22) (u 22)).put (some 23) (u 23)).put (some 24) (u 24)).put (some 25) (.bool true)) w') :
    (Code.region 6 (Pl.find 6 ((Try.f21.body).getD .skip)) true).wp Try.prog Q A w := by
  have hA := Pl.At.same (v := .int .i64 ((i : Nat) : Int)) (d := 5) (Pl.At.same (v := .slice (some ⟨b2, o2, none⟩) len2 cap2) (d := 1) (Pl.At.same (v := .slice (some ⟨b, o, none⟩) len cap) (d := 0) (Pl.At.here hsz hdf) s0) s1) s5
  refine Pl.H.start (S := (fun w' => Below w.heap.size w w')) (by kernel_rfl) hA (below_drew w) ?_
  rw [show (Pl.find 6 ((Try.f21.body).getD .skip)).size = 9 by kernel_rfl]
  refine Pl.H.take 0 17 (.slice (some ⟨b, o, none⟩) len cap) (by kernel_rfl) (by kernel_rfl) (by kernel_rfl) (Pl.free 0 (by kernel_rfl)) (Pl.move 0 (.tmp 0) (by kernel_rfl) (by decide)) (below_drew w) ?_
  refine Pl.H.take 1 18 (.int .i64 ((i : Nat) : Int)) (by kernel_rfl) (by kernel_rfl) (by kernel_rfl) (Pl.free 1 (by kernel_rfl)) (Pl.move 1 (.tmp 5) (by kernel_rfl) (by decide)) (below_drew w) ?_
  refine Pl.H.take 2 19 (.pointer (some ⟨b, o + i, none⟩)) (by kernel_rfl) (by kernel_rfl) (by kernel_rfl) (Pl.free 2 (by kernel_rfl)) (Pl.index 2 22 (.tmp 17) (.tmp 18) _ (by kernel_rfl) (by decide) (by decide) (ixI1 b o len cap i hi)) (below_drew w) ?_
  refine Pl.H.take 3 20 (.int .i64 x) (by kernel_rfl) (by kernel_rfl) (by kernel_rfl) (Pl.free 3 (by kernel_rfl)) (Pl.load 3 3 (.tmp 19) _ (by kernel_rfl) (by decide) (fun w' hS => ldInt b (o + i) x w' ((hS.cell (p := ⟨b, o + i, none⟩) (World.block_lt_of_cell? w _ hx)).trans hx))) (below_drew w) ?_
  refine Pl.H.take 4 21 (.slice (some ⟨b2, o2, none⟩) len2 cap2) (by kernel_rfl) (by kernel_rfl) (by kernel_rfl) (Pl.free 4 (by kernel_rfl)) (Pl.move 4 (.tmp 1) (by kernel_rfl) (by decide)) (below_drew w) ?_
  refine Pl.H.take 5 22 (.int .i64 ((i : Nat) : Int)) (by kernel_rfl) (by kernel_rfl) (by kernel_rfl) (Pl.free 5 (by kernel_rfl)) (Pl.move 5 (.tmp 5) (by kernel_rfl) (by decide)) (below_drew w) ?_
  refine Pl.H.take 6 23 (.pointer (some ⟨b2, o2 + i, none⟩)) (by kernel_rfl) (by kernel_rfl) (by kernel_rfl) (Pl.free 6 (by kernel_rfl)) (Pl.index 6 22 (.tmp 21) (.tmp 22) _ (by kernel_rfl) (by decide) (by decide) (ixI1 b2 o2 len2 cap2 i hi2)) (below_drew w) ?_
  refine Pl.H.take 7 24 (.int .i64 y) (by kernel_rfl) (by kernel_rfl) (by kernel_rfl) (Pl.free 7 (by kernel_rfl)) (Pl.load 7 3 (.tmp 23) _ (by kernel_rfl) (by decide) (fun w' hS => ldInt b2 (o2 + i) y w' ((hS.cell (p := ⟨b2, o2 + i, none⟩) (World.block_lt_of_cell? w _ hy)).trans hy))) (below_drew w) ?_
  refine Pl.H.take 8 25 (.bool true) (by kernel_rfl) (by kernel_rfl) (by kernel_rfl) (Pl.free 8 (by kernel_rfl)) (Pl.binV 8 .neq 3 3 (.tmp 20) (.tmp 24) (.int .i64 x) (.int .i64 y) _ (by kernel_rfl) (by decide) (by decide) rfl rfl (fun w => neqT x y _ _ hr w)) (below_drew w) ?_
  refine Pl.H.done (by kernel_rfl) (fun A' hA' => ?_)
  rw [Pl.At.ext hA' (((((((((hA.put 17 _).put 18 _).put 19 _).put 20 _).put 21 _).put 22 _).put 23 _).put 24 _).put 25 _)]
  exact hend (fun d => if d = 17 then .slice (some ⟨b, o, none⟩) len cap else if d = 18 then .int .i64 ((i : Nat) : Int) else if d = 19 then .pointer (some ⟨b, o + i, none⟩) else if d = 20 then .int .i64 x else if d = 21 then .slice (some ⟨b2, o2, none⟩) len2 cap2 else if d = 22 then .int .i64 ((i : Nat) : Int) else if d = 23 then .pointer (some ⟨b2, o2 + i, none⟩) else if d = 24 then .int .i64 y else undef) _ (below_drew w)
set_option maxHeartbeats 2000000 in
set_option maxRecDepth 100000 in
theorem rints6b (w : World) (b o len cap b2 o2 len2 cap2 i : Nat) (x y : Int) (hi : i < len) (hi2 : i < len2) (hx : w.cell? ⟨b, o + i, none⟩ = some (.int .i64 x)) (hy : w.cell? ⟨b2, o2 + i, none⟩ = some (.int .i64 y)) (hr : x = y)
    {Q : Exit → Act → World → Prop} {A : Act} (hsz : A.tmps.size = 26) (hdf : A.defers = []) (s0 : A.tmps.getD 0 undef = .slice (some ⟨b, o, none⟩) len cap) (s1 : A.tmps.getD 1 undef = .slice (some ⟨b2, o2, none⟩) len2 cap2) (s5 : A.tmps.getD 5 undef = .int .i64 ((i : Nat) : Int))
    (hend : ∀ (u : Nat → Value) w', Below w.heap.size w w' → Q .normal ((((((((((A).put (some 17) (u 17)).put (some 18) (u 18)).put (some 19) (u 19)).put (some 20) (u 20)).put (some 21) (u 21)).put (some 22) (u 22)).put (some 23) (u 23)).put (some 24) (u 24)).put (some 25) (.bool false)) w') :
    (Code.region 6 (Pl.find 6 ((Try.f21.body).getD .skip)) true).wp Try.prog Q A w := by
  have hA := Pl.At.same (v := .int .i64 ((i : Nat) : Int)) (d := 5) (Pl.At.same (v := .slice (some ⟨b2, o2, none⟩) len2 cap2) (d := 1) (Pl.At.same (v := .slice (some ⟨b, o, none⟩) len cap) (d := 0) (Pl.At.here hsz hdf) s0) s1) s5
  refine Pl.H.start (S := (fun w' => Below w.heap.size w w')) (by kernel_rfl) hA (below_drew w) ?_
  rw [show (Pl.find 6 ((Try.f21.body).getD .skip)).size = 9 by kernel_rfl]
  refine Pl.H.take 0 17 (.slice (some ⟨b, o, none⟩) len cap) (by kernel_rfl) (by kernel_rfl) (by kernel_rfl) (Pl.free 0 (by kernel_rfl)) (Pl.move 0 (.tmp 0) (by kernel_rfl) (by decide)) (below_drew w) ?_
  refine Pl.H.take 1 18 (.int .i64 ((i : Nat) : Int)) (by kernel_rfl) (by kernel_rfl) (by kernel_rfl) (Pl.free 1 (by kernel_rfl)) (Pl.move 1 (.tmp 5) (by kernel_rfl) (by decide)) (below_drew w) ?_
  refine Pl.H.take 2 19 (.pointer (some ⟨b, o + i, none⟩)) (by kernel_rfl) (by kernel_rfl) (by kernel_rfl) (Pl.free 2 (by kernel_rfl)) (Pl.index 2 22 (.tmp 17) (.tmp 18) _ (by kernel_rfl) (by decide) (by decide) (ixI1 b o len cap i hi)) (below_drew w) ?_
  refine Pl.H.take 3 20 (.int .i64 x) (by kernel_rfl) (by kernel_rfl) (by kernel_rfl) (Pl.free 3 (by kernel_rfl)) (Pl.load 3 3 (.tmp 19) _ (by kernel_rfl) (by decide) (fun w' hS => ldInt b (o + i) x w' ((hS.cell (p := ⟨b, o + i, none⟩) (World.block_lt_of_cell? w _ hx)).trans hx))) (below_drew w) ?_
  refine Pl.H.take 4 21 (.slice (some ⟨b2, o2, none⟩) len2 cap2) (by kernel_rfl) (by kernel_rfl) (by kernel_rfl) (Pl.free 4 (by kernel_rfl)) (Pl.move 4 (.tmp 1) (by kernel_rfl) (by decide)) (below_drew w) ?_
  refine Pl.H.take 5 22 (.int .i64 ((i : Nat) : Int)) (by kernel_rfl) (by kernel_rfl) (by kernel_rfl) (Pl.free 5 (by kernel_rfl)) (Pl.move 5 (.tmp 5) (by kernel_rfl) (by decide)) (below_drew w) ?_
  refine Pl.H.take 6 23 (.pointer (some ⟨b2, o2 + i, none⟩)) (by kernel_rfl) (by kernel_rfl) (by kernel_rfl) (Pl.free 6 (by kernel_rfl)) (Pl.index 6 22 (.tmp 21) (.tmp 22) _ (by kernel_rfl) (by decide) (by decide) (ixI1 b2 o2 len2 cap2 i hi2)) (below_drew w) ?_
  refine Pl.H.take 7 24 (.int .i64 y) (by kernel_rfl) (by kernel_rfl) (by kernel_rfl) (Pl.free 7 (by kernel_rfl)) (Pl.load 7 3 (.tmp 23) _ (by kernel_rfl) (by decide) (fun w' hS => ldInt b2 (o2 + i) y w' ((hS.cell (p := ⟨b2, o2 + i, none⟩) (World.block_lt_of_cell? w _ hy)).trans hy))) (below_drew w) ?_
  refine Pl.H.take 8 25 (.bool false) (by kernel_rfl) (by kernel_rfl) (by kernel_rfl) (Pl.free 8 (by kernel_rfl)) (Pl.binV 8 .neq 3 3 (.tmp 20) (.tmp 24) (.int .i64 x) (.int .i64 y) _ (by kernel_rfl) (by decide) (by decide) rfl rfl (fun w => neqF x y _ _ (fun h => h hr) w)) (below_drew w) ?_
  refine Pl.H.done (by kernel_rfl) (fun A' hA' => ?_)
  rw [Pl.At.ext hA' (((((((((hA.put 17 _).put 18 _).put 19 _).put 20 _).put 21 _).put 22 _).put 23 _).put 24 _).put 25 _)]
  exact hend (fun d => if d = 17 then .slice (some ⟨b, o, none⟩) len cap else if d = 18 then .int .i64 ((i : Nat) : Int) else if d = 19 then .pointer (some ⟨b, o + i, none⟩) else if d = 20 then .int .i64 x else if d = 21 then .slice (some ⟨b2, o2, none⟩) len2 cap2 else if d = 22 then .int .i64 ((i : Nat) : Int) else if d = 23 then .pointer (some ⟨b2, o2 + i, none⟩) else if d = 24 then .int .i64 y else undef) _ (below_drew w)
set_option maxHeartbeats 4000000 in
set_option maxRecDepth 100000 in
theorem rints_any (a : Option Addr) (len cap : Nat) (l : List Int) (b : Option Addr) (len2 cap2 : Nat) (m : List Int) (w : World) (h : Ks w a len l) (k : Ks w b len2 m) (hl : len ≤ 9223372036854775807) (hl2 : len2 ≤ 9223372036854775807) :
    Calls Try.prog 21 #[.slice a len cap, .slice b len2 cap2] w fun e w' => e = .returned (.bool (decide (l = m))) ∧ Below w.heap.size w w' := by
  by_cases hne : len = len2
  · subst hne
    have H := hide h
    have HK := hide k
    have H0 := hide (Below.refl w.heap.size w)
    clear h k hl2
    go_enter Try.func21, Try.ntmps21
    go_wp2_with fail
    go_loopw [5] (fun iv wr => ∃ i : Nat, i ≤ len ∧ iv = .int .i64 (i : Nat) ∧ Hid (∀ j, j < i → l.getD j 0 = m.getD j 0) ∧ Hid (Below w.heap.size w wr)) (fun iv _ => len - (intOf iv).toNat)
    case atStart => exact ⟨0, Nat.zero_le _, rfl, fun j hj => absurd hj (Nat.not_lt_zero _), H0⟩
    case round =>
      obtain ⟨i, hi, rfl, hix, hbr⟩ := hrel
      rcases Nat.lt_or_ge i len with hlt | hge
      · have i1 : ((i : Nat) : Int) < ((len : Nat) : Int) := by omega
        obtain ⟨b1, o1, ha, hx⟩ := (H.out.keep hbr.out (Nat.le_refl _)).2 i hlt
        subst ha
        obtain ⟨b2, o2, ha2, hy⟩ := (HK.out.keep hbr.out (Nat.le_refl _)).2 i hlt
        subst ha2
        have HX := hide hx
        have HY := hide hy
        clear hx hy
        by_cases hon : l.getD i 0 = m.getD i 0
        · have HN : Hid (∀ j, j < i + 1 → l.getD j 0 = m.getD j 0) := by
            intro j hj
            by_cases e : j = i
            · rw [e]; exact hon
            · exact hix.out j (by omega)
          have HON := hide hon
          clear hix hon
          go_wp2_with fail
          refine Pl.region_is (ops := Pl.find 6 ((Try.f21.body).getD .skip)) (by kernel_rfl) ?_
          refine rints6b _ b1 o1 len cap b2 o2 len cap2 i _ _ hlt hlt HX.out HY.out HON.out (by rfl) rfl (by rfl) (by rfl) (by rfl) ?_
          intro u1 w1 hb1
          simp only [Act.put, List.setIfInBounds_toArray, List.set_cons_zero, List.set_cons_succ]
          have HB1 := hide (rBelow hbr.out hb1)
          clear hb1
          go_wp2_with fail
          go_roundw
          case rel => exact ⟨i + 1, by omega, by go_num, HN, HB1⟩
          case measure => simp only [intOf]; omega
        · have HNE : Hid (decide (l = m) = false) := decide_eq_false (fun e => hon (by rw [e]))
          have HON := hide hon
          clear hix hon
          go_wp2_with fail
          refine Pl.region_is (ops := Pl.find 6 ((Try.f21.body).getD .skip)) (by kernel_rfl) ?_
          refine rints6a _ b1 o1 len cap b2 o2 len cap2 i _ _ hlt hlt HX.out HY.out HON.out (by rfl) rfl (by rfl) (by rfl) (by rfl) ?_
          intro u1 w1 hb1
          simp only [Act.put, List.setIfInBounds_toArray, List.set_cons_zero, List.set_cons_succ]
          have HB1 := hide (rBelow hbr.out hb1)
          clear hb1
          go_wp2_with fail
          go_ret
          exact ⟨by rw [HNE.out]; rfl, HB1.out⟩
      · have i1 : ¬ ((i : Nat) : Int) < ((len : Nat) : Int) := by omega
        have HY : Hid (decide (l = m) = true) := decide_eq_true (by
          apply List.ext_getElem
          · rw [H.out.1, HK.out.1]
          · intro j h1 h2
            have := hix.out j (by rw [H.out.1] at h1; omega)
            simpa [List.getD, h1, h2] using this)
        clear hix
        go_wp2_with fail
        go_ret
        exact ⟨by rw [HY.out]; rfl, hbr.out⟩
  · have HNE : Hid (decide (l = m) = false) := decide_eq_false (fun e => hne (by rw [← h.1, ← k.1, e]))
    have q4 : (((len : Nat) : Int) != ((len2 : Nat) : Int)) = true := by simp; omega
    have q5 : ¬ ((len : Nat) : Int) = ((len2 : Nat) : Int) := by omega
    clear h k hne
    go_enter Try.func21, Try.ntmps21
    go_wp2_with fail
    go_ret
    exact ⟨by rw [HNE.out]; rfl, Below.refl _ _⟩

theorem Gi.ks {D : Nat → Prop} {w : World} {v : Sl} {t : List Int} (h : Gi D w v t) : Ks w v.a v.len t := ⟨h.len, h.cell⟩
theorem rintsG {D E : Nat → Prop} (w : World) (u v : Sl) (s t : List Int) (h : Gi D w u s) (k : Gi E w v t) :
    Calls Try.prog 21 #[u.val, v.val] w fun e w' => e = .returned (.bool (decide (s = t))) ∧ Below w.heap.size w w' :=
  rints_any u.a u.len u.cap s v.a v.len v.cap t w h.ks k.ks (by have := h.big; omega) (by have := k.big; omega)

end Go.Proofs.Ytehmemfeagjagaa
