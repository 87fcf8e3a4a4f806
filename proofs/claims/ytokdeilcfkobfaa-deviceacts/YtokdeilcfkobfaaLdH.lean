/-
  The landed device: keep.
-/
import Derived.Test.YtokdeilcfkobfaaLdG
import Derived.Deep.MidRow
import Derived.Deep.WholeRow
namespace Go.Proofs.Ytokdeilcfkobfaa
open Go.RowKit

/-- A pattern: bools behind a slice. -/
structure Pat (w : World) (a : Option Addr) (len : Nat) (bs : List Bool) : Prop where
  len_ : bs.length = len
  at_ : ∀ i, i < len → ∃ b off, a = some ⟨b, off, none⟩ ∧ w.cell? ⟨b, off + i, none⟩ = some (.bool (bs.getD i false))
theorem Pat.frm {F : Nat → Prop} {w w1 : World} {a : Option Addr} {len : Nat} {bs : List Bool} (h : Pat w a len bs) (hf : Frm F w w1) (ho : Off F a len) : Pat w1 a len bs := by
  refine ⟨h.len_, fun i hi => ?_⟩
  obtain ⟨b, off, ha, hc⟩ := h.at_ i hi
  refine ⟨b, off, ha, ?_⟩
  have := hf.block b (World.block_lt_of_cell? w _ hc) (ho _ ha (by omega))
  simp only [World.cell?] at hc ⊢
  rw [this]
  exact hc
/-- Does the pattern keep the i-th write? -/
def hit (bs : List Bool) (i : Nat) : Bool := decide (0 < bs.length) && bs.getD (i % bs.length) false
/-- The pages behind the writes that are kept. -/
def keepW (bs : List Bool) : Nat → List Sw → List Nat → List Nat
  | _, [], kp => kp
  | i, x :: r, kp => keepW bs (i + 1) r (if hit bs i = true then splice kp x.at_ x.b else kp)
theorem keepW_snoc (bs : List Bool) : ∀ (l : List Sw) (i : Nat) (x : Sw) (kp : List Nat), keepW bs i (l ++ [x]) kp = if hit bs (i + l.length) = true then splice (keepW bs i l kp) x.at_ x.b else keepW bs i l kp
  | [], i, x, kp => by simp [keepW]
  | y :: r, i, x, kp => by
    show keepW bs (i + 1) (r ++ [x]) _ = _
    have e : i + (y :: r).length = i + 1 + r.length := by simp only [List.length_cons]; omega
    rw [keepW_snoc bs r (i + 1) x, e]
    simp only [keepW]
/-- A sector's write that fits. -/
structure Sw.Ok (x : Sw) (m : Nat) : Prop where
  len : x.b.length = 128
  byt : Bytes x.b
  le : x.at_ + 128 ≤ m
theorem keepW_length (bs : List Bool) (m : Nat) : ∀ (l : List Sw) (i : Nat) (kp : List Nat), (∀ x ∈ l, x.Ok m) → kp.length = m → (keepW bs i l kp).length = m
  | [], _, kp, _, h => h
  | x :: r, i, kp, hl, h => by
    have hx := hl x (by simp)
    refine keepW_length bs m r (i + 1) _ (fun y hy => hl y (by simp [hy])) ?_
    split
    · rw [splice_length _ _ _ (by have := hx.len; have := hx.le; omega)]; exact h
    · exact h
theorem Bytes.splice {xs ys : List Nat} (h : Bytes xs) (k : Bytes ys) (o : Nat) : Bytes (splice xs o ys) := by
  unfold Go.Proofs.Ytokdeilcfkobfaa.splice
  exact ((h.take o).append k).append (h.drop _)
theorem keepW_bytes (bs : List Bool) : ∀ (l : List Sw) (i : Nat) (kp : List Nat), (∀ x ∈ l, Bytes x.b) → Bytes kp → Bytes (keepW bs i l kp)
  | [], _, kp, _, h => h
  | x :: r, i, kp, hl, h => by
    refine keepW_bytes bs r (i + 1) _ (fun y hy => hl y (by simp [hy])) ?_
    split
    · exact h.splice (hl x (by simp)) _
    · exact h

def swD : Sw := ⟨0, []⟩
theorem swCells_get : ∀ (l : List Sw) (j t : Nat), (∀ x ∈ l, x.b.length = 128) → j < l.length → t < 129 → (swCells l)[j * 129 + t]? = (l.getD j swD).cells[t]?
  | i :: r, 0, t, h, _, ht => by
    simp only [swCells, List.flatMap_cons]
    rw [List.getElem?_append_left (by rw [i.cells_length (h i (by simp))]; omega)]
    simp
  | i :: r, j + 1, t, h, hj, ht => by
    have := swCells_get r j t (fun x hx => h x (by simp [hx])) (by simpa using hj) ht
    have hc := i.cells_length (h i (by simp))
    simp only [swCells, List.flatMap_cons] at *
    rw [List.getElem?_append_right (by rw [hc]; omega)]
    have e : (j + 1) * 129 + t - i.cells.length = j * 129 + t := by rw [hc]; omega
    rw [e, this]
    simp [List.getD]
/-- Where a sector's write lies. -/
theorem DevM.swAt {w : World} {p : Nat} {D : Ds} {L : Dl} (h : DevM w p D L) (hw : ∀ x ∈ D.wr, x.b.length = 128) (j : Nat) (hj : j < D.wr.length) : ∃ g off, L.wr.a = some ⟨g, off, none⟩ ∧ w.rangeAt g (off + j * 129) (D.wr.getD j swD).cells := by
  have hl := h.lenW hw
  rcases h.wr.2 with ⟨h0, _⟩ | ⟨g, off, cur, ha, _⟩
  · rw [h0] at hl
    have : D.wr.length = 0 := hl
    omega
  · refine ⟨g, off, ha, fun t v ht => ?_⟩
    have hx : (D.wr.getD j swD).cells.length = 129 := by
      refine Sw.cells_length _ ?_
      have := hw _ (List.getElem_mem hj)
      simpa [List.getD, hj] using this
    have htl : t < 129 := by have := (List.getElem?_eq_some_iff.1 ht).1; omega
    have h1 := h.wr.cell ha (j * 129 + t) v ((swCells_get D.wr j t hw hj htl).trans ht)
    rw [Addr.add_lit] at h1
    rw [show off + j * 129 + t = off + (j * 129 + t) by omega]
    exact h1
def swZ : Array Value := ((.int .i64 0 : Value) :: List.replicate 128 (.int .u8 0)).toArray
theorem Sw.cells_one (x : Sw) : ∀ u ∈ x.cells, u.oneCell' = true := by
  intro u hu
  rcases List.mem_cons.1 hu with rfl | h
  · rfl
  · exact vals_one _ u h
theorem sizeSw : (Try.prog.info? 78).map (·.size) = some 129 := by kernel_rfl
theorem sw_alloc (w : World) : (Instr.alloc 78 true (.tuple #[])).run Try.prog w = .ok (.pointer (some ⟨w.heap.size, 0, none⟩)) (w.alloc (.cells swZ 78)) := by
  have hz : (Try.prog.info? 78).map (fun i => (i.zero, i.size, i.bytes)) = some (some (.agg swZ), 129, 136) := by kernel_rfl
  obtain ⟨i0, hi, hz0, hz1, hz2⟩ := info_parts hz
  simp [Instr.alloc, zeroValue, typeInfo, hi, hz0, newVar, newRow, Value.cells]
theorem sw_store (x : Sw) (h : x.b.length = 128) (w : World) : (Instr.storeAt 78 (.pointer (some ⟨w.heap.size, 0, none⟩)) (.agg x.cells.toArray)).run Try.prog (w.alloc (.cells swZ 78)) = .ok () (w.alloc (.cells x.cells.toArray 78)) :=
  run_storeAt_new w 78 swZ x.cells.toArray (by rw [sizeSw]; simp [x.cells_length h]) (by simp [swZ, x.cells_length h]) (by simp; exact x.cells_one)
theorem sw_load (x : Sw) (h : x.b.length = 128) (w : World) (g o : Nat) (hc : w.rangeAt g o x.cells) : (Instr.loadAt 78 (.pointer (some ⟨g, o, none⟩))).run Try.prog w = .ok (.agg x.cells.toArray) w :=
  run_loadAt_mid w g o 78 x.cells _ hc Try.underlying78 rfl (by rw [sizeSw, x.cells_length h])

theorem Pl.copyV {P : Program} {ops : Array Oper} {n : Nat} {f : Nat → Value} {w : World} (i : Nat) (t : TypeId) (x y : Operand) (v : Value) (w' : World) (h : (Pl.op ops i).op = .call { callee := .builtin .copy, args := #[x, y], argTypes := #[t, t] }) (hx : Pl.inB n x = true) (hy : Pl.inB n y = true)
    (hv : ∀ ty, (Builtin.copy_ #[t, t] ty #[Pl.ev f x, Pl.ev f y]).run P w = .ok v w') :
    ∀ A, Pl.At n A f → (execOp A.eval (Pl.op ops i)).run P w = .ok (.value v) w' := by
  intro A hA
  unfold execOp
  rw [h]
  simp [resolve, invoke, builtin, hA.ev x hx, hA.ev y hy, hv]

section
variable {ops : Array Oper} {rest : List Oper} {o : Oper} {a : Act} {Q : Exit → Act → World → Prop}
theorem wpList_val (w : World) (hgd : o.guard = none) (v : Value) (w' : World) (hrun : (execOp a.eval o).run Try.prog w = .ok (.value v) w') (hK : wpList Try.prog ops Q rest (a.put o.dst v) w') : wpList Try.prog ops Q (o :: rest) a w := by
  refine wpList_plain hgd fun K hK' => ?_
  unfold Oper.wp
  rw [hrun]
  exact hK' _ _ hK
theorem wpList_load (w : World) (hgd : o.guard = none) (t : TypeId) (x : Operand) (ho : o.op = .load t x) (p v : Value) (hp : a.eval x = p) (hrun : (Instr.loadAt t p).run Try.prog w = .ok v w) (hK : wpList Try.prog ops Q rest (a.put o.dst v) w) : wpList Try.prog ops Q (o :: rest) a w := by
  refine wpList_val w hgd v w ?_ hK
  have e : execOp a.eval o = (do pure (.value (← Instr.loadAt t (a.eval x)))) := by
    unfold execOp
    rw [ho]
  rw [e, hp]
  simp [hrun]
theorem wpList_alloc (w : World) (hgd : o.guard = none) (t : TypeId) (ho : o.op = .alloc t) (v : Value) (w' : World) (hrun : (Instr.alloc t true (.tuple #[])).run Try.prog w = .ok v w') (hK : wpList Try.prog ops Q rest (a.put o.dst v) w') : wpList Try.prog ops Q (o :: rest) a w := by
  refine wpList_val w hgd v w' ?_ hK
  have e : execOp a.eval o = (do pure (.value (← Instr.alloc t true (.tuple #[])))) := by
    unfold execOp
    rw [ho]
  rw [e]
  simp [hrun]
theorem wpList_store (w : World) (hgd : o.guard = none) (hd : o.dst = none) (t : TypeId) (x y : Operand) (ho : o.op = .store t x y) (p v : Value) (hp : a.eval x = p) (hv : a.eval y = v) (w' : World) (hrun : (Instr.storeAt t p v).run Try.prog w = .ok () w') (hK : wpList Try.prog ops Q rest a w') : wpList Try.prog ops Q (o :: rest) a w := by
  refine wpList_plain hgd fun K hK' => ?_
  have e : (execOp a.eval o).run Try.prog w = .ok .skip w' := by
    have e : execOp a.eval o = (do Instr.storeAt t (a.eval x) (a.eval y); pure .skip) := by
      unfold execOp
      rw [ho]
    rw [e, hp, hv]
    simp [hrun]
  unfold Oper.wp
  rw [e]
  obtain ⟨dst, op, ty, pos, aft, gd⟩ := o
  simp only at hd
  subst hd
  exact hK' _ _ hK
theorem wpList_copy (w : World) (hgd : o.guard = none) (t : TypeId) (x y : Operand) (ho : o.op = .call { callee := .builtin .copy, args := #[x, y], argTypes := #[t, t] }) (v : Value) (w' : World) (hrun : ∀ ty, (Builtin.copy_ #[t, t] ty #[a.eval x, a.eval y]).run Try.prog w = .ok v w') (hK : wpList Try.prog ops Q rest (a.put o.dst v) w') : wpList Try.prog ops Q (o :: rest) a w := by
  refine wpList_plain hgd fun K hK' => ?_
  unfold Oper.wp
  simp [execOp, ho, resolve, invoke, builtin, hrun, Result.andThen]
  exact hK' _ _ hK
end

theorem slice76 (q : Nat) (w : World) : (Instr.sliceAt 76 (.pointer (some ⟨q, 1, none⟩)) none none none).run Try.prog w = .ok (.slice (some ⟨q, 1, none⟩) 128 128) w := by simp [go_sem, Instr.sliceAt]
/-- How many units of the stream's are kept. -/
def Ds.count (D : Ds) (u : Int) : Nat := if u < 0 then 0 else if u ≤ ((D.units : Nat) : Int) then u.toNat else D.units
/-- What is not synced is kept, as far as the pattern and the number say; the rest is forgotten. -/
def Ds.keep (D : Ds) (bs : List Bool) (u0 mm : Nat) : Ds := { Ds.keepU { D with kp := keepW bs 0 D.wr D.kp } u0 mm with wr := [], ap := [], tr := [] }
theorem DevM.clr6 {w : World} {p : Nat} {D : Ds} {L : Dl} (h : DevM w p D L) : Turned w p L (w.setCell ⟨p, 6, none⟩ (.slice none 0 0)) { D with wr := [] } { L with wr := Sl.nil } := h.swapW Sl.nil [] (Frm.refl _ _) (Own.nil _ _ _) (fun k hk => by cases hk)
theorem DevM.clr7 {w : World} {p : Nat} {D : Ds} {L : Dl} (h : DevM w p D L) : Turned w p L (w.setCell ⟨p, 7, none⟩ (.slice none 0 0)) { D with ap := [] } { L with ap := Sl.nil } := h.swap .ap Sl.nil [] (Frm.refl _ _) (Own.nil _ _ _) (fun x hx => by cases hx) (fun k hk => by cases hk) 7 _ _ (by rfl) ⟨rfl, rfl⟩ (fun f hf => by cases f <;> first | exact ⟨rfl, rfl⟩ | exact absurd rfl hf) ⟨rfl, rfl⟩ ⟨rfl, rfl⟩
theorem DevM.clr8 {w : World} {p : Nat} {D : Ds} {L : Dl} (h : DevM w p D L) : Turned w p L (w.setCell ⟨p, 8, none⟩ (.slice none 0 0)) { D with tr := [] } { L with tr := Sl.nil } := h.swapT Sl.nil [] (Frm.refl _ _) (Own.nil _ _ _) (fun k hk => by cases hk)

/-- A sector's write in a block of its own. -/
def SwBlk (w : World) (q : Nat) (x : Sw) : Prop := w.heap[q]? = some (.cells x.cells.toArray 78 (0, 0))
theorem SwBlk.c0 {w : World} {q : Nat} {x : Sw} (h : SwBlk w q x) : w.cell? ⟨q, 0, none⟩ = some (.int .i64 ((x.at_ : Nat) : Int)) := (Addr.cell0 h).trans rfl
theorem SwBlk.came {w : World} {q : Nat} {x : Sw} (h : SwBlk w q x) (hl : x.b.length = 128) (hb : Bytes x.b) : Came w (some ⟨q, 1, none⟩) 128 128 x.b := by
  refine ⟨⟨hl, hb, fun i hi => ⟨q, 1, rfl, ?_⟩⟩, (fun e => by cases e), Nat.le_refl _, by omega⟩
  rw [Addr.cell0 h]
  have : x.cells.toArray[1 + i]? = (vals x.b)[i]? := by
    simp only [Sw.cells, List.getElem?_toArray]
    rw [Nat.add_comm, List.getElem?_cons_succ]
  rw [this, vals_get (by omega)]

set_option maxHeartbeats 2000000 in
set_option maxRecDepth 100000 in
theorem keep4 (w : World) (p : Nat) (D : Ds) (L : Dl) (h : DevM w p D L) (q : Nat) (x : Sw) (hb : SwBlk w q x) (hx : x.Ok D.kp.length)
    {Q : Exit → Act → World → Prop} {A : Act} (hsz : A.tmps.size = 58) (hdf : A.defers = []) (s0 : A.tmps.getD 0 undef = .pointer (some ⟨p, 0, none⟩)) (s7 : A.tmps.getD 7 undef = .pointer (some ⟨q, 0, none⟩))
    (hend : ∀ (u : Nat → Value) w', Turned w p L w' { D with kp := splice D.kp x.at_ x.b } L → Q .normal ((((((((((((A).put (some 30) (u 30)).put (some 31) (u 31)).put (some 32) (u 32)).put (some 33) (u 33)).put (some 34) (u 34)).put (some 35) (u 35)).put (some 36) (u 36)).put (some 37) (u 37)).put (some 38) (u 38)).put (some 39) (u 39)).put (some 40) (u 40)) w') :
    (Code.region 4 (Pl.find 4 ((Try.f39.body).getD .skip)) true).wp Try.prog Q A w := by
  have hlen : D.kp.length = L.kp.len := h.len .kp
  have hal : x.at_ ≤ L.kp.len := by have := hx.le; omega
  have hq : SwBlk w.drew q x := hb
  have hS0 : (fun (w' : World) => w'.cell? ⟨p, 3, none⟩ = some (.slice L.kp.a L.kp.len L.kp.cap) ∧ w'.cell? ⟨q, 0, none⟩ = some (.int .i64 ((x.at_ : Nat) : Int))) w.drew := ⟨h.drew.c3, hq.c0⟩
  obtain ⟨n1, w1, hr1, ho1, hf1, hz1⟩ : ∃ n1 w1, (∀ ty, (Builtin.copy_ #[30, 30] ty #[(L.kp.from_ x.at_).val, .slice (some ⟨q, 1, none⟩) 128 128]).run Try.prog w.drew = .ok n1 w1) ∧ Own 5 1 w1 L.kp (vals (splice D.kp x.at_ x.b)) ∧ Frm (fun k => L.kp.blk = some k) w.drew w1 ∧ w1.heap.size = w.drew.heap.size := by
    obtain ⟨n1, w1, e1, e2, e3, e4⟩ := own_copy w.drew L.kp D.kp (h.drew.own .kp) x.at_ (some ⟨q, 1, none⟩) 128 128 x.b x.b (hq.came hx.len hx.byt) (by rw [List.take_of_length_le]; have := hx.le; have := hx.len; omega) hal 3
    exact ⟨n1, w1, fun ty => e1, e2, e3, e4⟩
  have hT := (Turned.same h (below_drew w)).trans (h.drew.over .kp _ hf1 ho1 ((h.byt .kp).splice hx.byt x.at_) { D with kp := splice D.kp x.at_ x.b } (by rfl) rfl (fun f hf => by cases f <;> first | rfl | exact absurd rfl hf) rfl rfl)
  have hqk : L.kp.blk ≠ some q := by
    intro e
    obtain ⟨cur, hc⟩ := (h.own .kp).kind e
    have hb' : w.heap[q]? = _ := hb
    rw [hc] at hb'
    simp only [Option.some.injEq, Obj.cells.injEq] at hb'
    exact absurd hb'.2.1 (by decide)
  have hq1 : SwBlk w1 q x := (hf1.block q (Array.getElem?_eq_some_iff.1 hq).1 hqk).trans hq
  have hS1 : (fun (w' : World) => w'.cell? ⟨p, 3, none⟩ = some (.slice L.kp.a L.kp.len L.kp.cap) ∧ w'.cell? ⟨q, 0, none⟩ = some (.int .i64 ((x.at_ : Nat) : Int))) w1 := ⟨hT.dev.c3, hq1.c0⟩
  have hA := Pl.At.same (v := .pointer (some ⟨q, 0, none⟩)) (d := 7) (Pl.At.same (v := .pointer (some ⟨p, 0, none⟩)) (d := 0) (Pl.At.here hsz hdf) s0) s7
  refine Pl.H.start (S := fun w' => w'.cell? ⟨p, 3, none⟩ = some (.slice L.kp.a L.kp.len L.kp.cap) ∧ w'.cell? ⟨q, 0, none⟩ = some (.int .i64 ((x.at_ : Nat) : Int))) (by kernel_rfl) hA hS0 ?_
  rw [show (Pl.find 4 ((Try.f39.body).getD .skip)).size = 11 by kernel_rfl]
  refine Pl.H.take 0 30 (.pointer (some ⟨p, 0, none⟩)) (by kernel_rfl) (by kernel_rfl) (by kernel_rfl) (Pl.free 0 (by kernel_rfl)) (Pl.move 0 (.tmp 0) (by kernel_rfl) (by decide)) hS0 ?_
  refine Pl.H.take 1 31 (.pointer (some ⟨p, 0, none⟩)) (by kernel_rfl) (by kernel_rfl) (by kernel_rfl) (Pl.free 1 (by kernel_rfl)) (Pl.nilc 1 (.tmp 30) _ (by kernel_rfl) (by decide) rfl) hS0 ?_
  refine Pl.H.take 2 32 (.pointer (some ⟨p, 3, none⟩)) (by kernel_rfl) (by kernel_rfl) (by kernel_rfl) (Pl.free 2 (by kernel_rfl)) (Pl.field 2 69 (.tmp 31) 1 _ (by kernel_rfl) (by decide) (fdDev1_0 p)) hS0 ?_
  refine Pl.H.take 3 33 (.pointer (some ⟨p, 3, none⟩)) (by kernel_rfl) (by kernel_rfl) (by kernel_rfl) (Pl.free 3 (by kernel_rfl)) (Pl.field 3 65 (.tmp 32) 0 _ (by kernel_rfl) (by decide) (fdDk0_3 p)) hS0 ?_
  refine Pl.H.take 4 34 (.slice L.kp.a L.kp.len L.kp.cap) (by kernel_rfl) (by kernel_rfl) (by kernel_rfl) (Pl.free 4 (by kernel_rfl)) (Pl.load 4 30 (.tmp 33) _ (by kernel_rfl) (by decide) (fun w' hS => ldBs p 3 _ _ _ w' hS.1)) hS0 ?_
  refine Pl.H.take 5 35 (.pointer (some ⟨q, 0, none⟩)) (by kernel_rfl) (by kernel_rfl) (by kernel_rfl) (Pl.free 5 (by kernel_rfl)) (Pl.field 5 78 (.tmp 7) 0 _ (by kernel_rfl) (by decide) (fdSw0_0 q)) hS0 ?_
  refine Pl.H.take 6 36 (.int .i64 ((x.at_ : Nat) : Int)) (by kernel_rfl) (by kernel_rfl) (by kernel_rfl) (Pl.free 6 (by kernel_rfl)) (Pl.load 6 3 (.tmp 35) _ (by kernel_rfl) (by decide) (fun w' hS => ldInt q 0 _ w' hS.2)) hS0 ?_
  refine Pl.H.take 7 37 ((L.kp.from_ x.at_).val) (by kernel_rfl) (by kernel_rfl) (by kernel_rfl) (Pl.free 7 (by kernel_rfl)) (Pl.slice 7 30 (.tmp 34) (some (.tmp 36)) none _ (by kernel_rfl) (by decide) (by decide) (by decide) (fun w => slice_from L.kp.a L.kp.len L.kp.cap x.at_ hal w)) hS0 ?_
  refine Pl.H.take 8 38 (.pointer (some ⟨q, 1, none⟩)) (by kernel_rfl) (by kernel_rfl) (by kernel_rfl) (Pl.free 8 (by kernel_rfl)) (Pl.field 8 78 (.tmp 7) 1 _ (by kernel_rfl) (by decide) (fdSw1_0 q)) hS0 ?_
  refine Pl.H.take 9 39 (.slice (some ⟨q, 1, none⟩) 128 128) (by kernel_rfl) (by kernel_rfl) (by kernel_rfl) (Pl.free 9 (by kernel_rfl)) (Pl.slice 9 76 (.tmp 38) none none _ (by kernel_rfl) (by decide) (by decide) (by decide) (slice76 q)) hS0 ?_
  refine Pl.H.make 10 40 (n1) w1 (by kernel_rfl) (by kernel_rfl) (by kernel_rfl) (Pl.free 10 (by kernel_rfl)) (Pl.copyV 10 30 (.tmp 37) (.tmp 39) _ _ (by kernel_rfl) (by decide) (by decide) hr1) hS1 ?_
  refine Pl.H.done (by kernel_rfl) (fun A' hA' => ?_)
  rw [Pl.At.ext hA' (((((((((((hA.put 30 _).put 31 _).put 32 _).put 33 _).put 34 _).put 35 _).put 36 _).put 37 _).put 38 _).put 39 _).put 40 _)]
  exact hend (fun d => if d = 30 then .pointer (some ⟨p, 0, none⟩) else if d = 31 then .pointer (some ⟨p, 0, none⟩) else if d = 32 then .pointer (some ⟨p, 3, none⟩) else if d = 33 then .pointer (some ⟨p, 3, none⟩) else if d = 34 then .slice L.kp.a L.kp.len L.kp.cap else if d = 35 then .pointer (some ⟨q, 0, none⟩) else if d = 36 then .int .i64 ((x.at_ : Nat) : Int) else if d = 37 then (L.kp.from_ x.at_).val else if d = 38 then .pointer (some ⟨q, 1, none⟩) else if d = 39 then .slice (some ⟨q, 1, none⟩) 128 128 else if d = 40 then n1 else undef) _ hT

set_option maxHeartbeats 4000000 in
set_option maxRecDepth 100000 in
theorem keep_any (w : World) (p : Nat) (D : Ds) (L : Dl) (h : DevM w p D L) (m : Nat) (hkp : D.kp.length = m) (hw : ∀ x ∈ D.wr, x.Ok m) (hwl : D.wr.length ≤ 1000000) (pa : Option Addr) (pl pc : Nat) (bs : List Bool) (hpat : Pat w pa pl bs) (hoff : Off (L.F p) pa pl) (hpl : pl ≤ 9223372036854775807) (u : Int)
    (u0 mm : Nat) (hu0 : u0 = D.count u) (ht : D.Trims u0 mm) (hum : mm ≤ u0) (hua : u0 - mm ≤ D.ap.length) (hks : D.ks.length + D.ap.length ≤ 1000000) (htl : D.tr.length ≤ 100000)
    (hp : 0 < mm → D.kb ≤ (D.tr.getD (mm - 1) tmD).place ∧ (D.tr.getD (mm - 1) tmD).place ≤ D.kb + (D.ks.length + (u0 - mm)) ∧ (D.tr.getD (mm - 1) tmD).place ≤ 1000000000000) :
    Calls Try.prog 39 #[at0 p, .slice pa pl pc, .int .i64 u] w fun e w' => e = .returned (.tuple #[]) ∧ ∃ L', Turned w p L w' (D.keep bs u0 mm) L' := by
  have hunits : D.units ≤ 2000000 := by unfold Ds.units; omega
  have HUN : Hid (∀ w' kp', DevM w' p { D with kp := kp' } L → Calls Try.prog 38 #[at0 p] w' fun e w2 => e = .returned (.int .i64 ((D.units : Nat) : Int)) ∧ Below w'.heap.size w' w2) := fun w' kp' hd => units_any w' p { D with kp := kp' } L hd (by show D.units ≤ _; omega)
  have hcle : u0 ≤ D.units := by
    rw [hu0]
    unfold Ds.count
    split
    · omega
    · split <;> omega
  have HKU : Hid (∀ w' kp', DevM w' p { D with kp := kp' } L → Calls Try.prog 46 #[at0 p, .int .i64 ((u0 : Nat) : Int)] w' fun e w2 => e = .returned (.tuple #[]) ∧ ∃ L', Turned w' p L w2 (Ds.keepU { D with kp := kp' } u0 mm) L') := fun w' kp' hd =>
    keepU_any w' p _ L hd u0 mm ⟨ht.le, ht.lt, ht.ge⟩ hum hua hks (Nat.le_trans hcle (by omega)) hp htl
  have HKE : Hid (D.keep bs u0 mm = { Ds.keepU { D with kp := keepW bs 0 D.wr D.kp } u0 mm with wr := [], ap := [], tr := [] }) := rfl
  have hcase : (u < 0 ∧ u0 = 0) ∨ (0 ≤ u ∧ u ≤ ((D.units : Nat) : Int) ∧ u = ((u0 : Nat) : Int)) ∨ (0 ≤ u ∧ ((D.units : Nat) : Int) < u ∧ u0 = D.units) := by
    rw [hu0]
    unfold Ds.count
    split
    · exact .inl ⟨by assumption, rfl⟩
    · split
      · exact .inr (.inl ⟨by omega, by assumption, by omega⟩)
      · exact .inr (.inr ⟨by omega, by omega, rfl⟩)
  clear hu0 ht hum hua hks htl hp hcle
  generalize D.units = un at HUN hcase hunits
  have HH := hide h
  have c6 := h.c6
  have hw' : ∀ x ∈ D.wr, x.b.length = 128 := fun x hx => (hw x hx).len
  have hlw := h.lenW hw'
  rw [← hlw] at c6
  have HW := hide hw
  have HW' := hide hw'
  have HKP := hide hkp
  have HPAT := hide hpat
  have HOFF := hide hoff
  have HT0 := hide (Turned.same h (Below.refl _ w))
  clear h hw hw' hlw hkp hpat hoff
  unfold at0 at *
  go_enter Try.func39, Try.ntmps39
  go_wp2_with fail
  go_loopw [13] (fun i wr => ∃ j : Nat, j ≤ D.wr.length ∧ i = .int .i64 j ∧ Hid (Turned w p L wr { D with kp := keepW bs 0 (D.wr.take j) D.kp } L)) (fun i _ => D.wr.length - (intOf i).toNat)
  case atStart => exact ⟨0, by omega, rfl, HT0⟩
  case round =>
    obtain ⟨j, hj, rfl, hT⟩ := hrel
    rcases Nat.lt_or_ge j D.wr.length with hlt | hge
    · obtain ⟨g, off, ha, hr⟩ := hT.out.dev.swAt HW'.out j hlt
      obtain ⟨x, hx⟩ : ∃ x, x = D.wr.getD j swD := ⟨_, rfl⟩
      have hmem : x ∈ D.wr := by rw [hx]; simp [List.getD, hlt]
      simp only at hr
      rw [← hx] at hr
      have HLD := hide (sw_load x (HW'.out x hmem) wr g (off + j * 129) hr)
      have HAL := hide (sw_alloc wr)
      have HST := hide (sw_store x (HW'.out x hmem) wr)
      obtain ⟨C, hC⟩ : ∃ C, C = (.cells x.cells.toArray 78 : Obj) := ⟨_, rfl⟩
      rw [← hC] at HST
      have HTK : Hid (D.wr.take (j + 1) = D.wr.take j ++ [x]) := by
        rw [hx]
        show _ = _
        rw [List.take_succ_eq_append_getElem hlt]
        simp [List.getD, hlt]
      have HTA := hide (hT.out.trans (Turned.same hT.out.dev (below_alloc wr C)))
      have HQ : Hid (SwBlk (wr.alloc C) wr.heap.size x) := by
        show SwBlk _ _ _
        rw [hC]
        exact heap_alloc_new wr _
      have hpat2 := (HPAT.out.frm hT.out.frm HOFF.out).frm (Frm.ofBelow (F := L.F p) (below_alloc wr C)) HOFF.out
      have HSZ : Hid ((wr.alloc C).heap.size = wr.heap.size + 1) := by show _ = _; simp
      have HMEM := hide hmem
      have hlx := HW'.out x hmem
      rw [ha]
      have HPL : Hid (bs.length = pl) := HPAT.out.len_
      by_cases h0 : pl = 0
      · subst h0
        have HHIT : Hid (hit bs j = false) := by show hit bs j = false; simp [hit, HPL.out]
        clear hx hmem hC hr ha hpat2 hlx
        go_wp2_with (first | refine wpList_load _ rfl 78 (.tmp 16) rfl _ _ rfl HLD.out ?_ | refine wpList_alloc _ rfl 78 rfl _ _ HAL.out ?_ | refine wpList_store _ rfl rfl 78 (.tmp 7) (.tmp 17) rfl _ _ rfl rfl _ HST.out ?_)
        go_roundw
        case rel =>
          refine ⟨j + 1, by omega, by go_num, ?_⟩
          have e := HTA.out
          have e2 : keepW bs 0 (D.wr.take (j + 1)) D.kp = keepW bs 0 (D.wr.take j) D.kp := by
            rw [HTK.out, keepW_snoc, Nat.zero_add, List.length_take, Nat.min_eq_left hj, HHIT.out]
            rfl
          show Turned _ _ _ _ _ _
          rw [e2]
          exact e
        case measure => simp only [intOf]; omega
      · have hjm : j % pl < pl := Nat.mod_lt _ (by omega)
        obtain ⟨pb, po, hpa, hpc⟩ := hpat2.at_ (j % pl) hjm
        have i0 : (0 : Int) < ((pl : Nat) : Int) := by omega
        have HH2 : Hid (hit bs j = bs.getD (j % pl) false) := by
          show _ = _
          unfold hit
          rw [HPL.out, decide_eq_true (by omega : 0 < pl), Bool.true_and]
        have i1 : ((j % pl : Nat) : Int) < ((pl : Nat) : Int) := by omega
        have hm0 : ¬ pl = 0 := h0
        subst hpa
        cases hbv : bs.getD (j % pl) false
        · rw [hbv] at hpc HH2
          clear hx hmem hC hr ha hpat2 hlx hbv
          go_wp2_with (first | refine wpList_load _ rfl 78 (.tmp 16) rfl _ _ rfl HLD.out ?_ | refine wpList_alloc _ rfl 78 rfl _ _ HAL.out ?_ | refine wpList_store _ rfl rfl 78 (.tmp 7) (.tmp 17) rfl _ _ rfl rfl _ HST.out ?_)
          go_roundw
          case rel =>
            refine ⟨j + 1, by omega, by go_num, ?_⟩
            have e := HTA.out
            have e2 : keepW bs 0 (D.wr.take (j + 1)) D.kp = keepW bs 0 (D.wr.take j) D.kp := by
              rw [HTK.out, keepW_snoc, Nat.zero_add, List.length_take, Nat.min_eq_left hj, HH2.out]
              rfl
            show Turned _ _ _ _ _ _
            rw [e2]
            exact e
          case measure => simp only [intOf]; omega
        · rw [hbv] at hpc HH2
          clear hx hmem hC hr ha hpat2 hlx hbv
          go_wp2_with (first | refine wpList_load _ rfl 78 (.tmp 16) rfl _ _ rfl HLD.out ?_ | refine wpList_alloc _ rfl 78 rfl _ _ HAL.out ?_ | refine wpList_store _ rfl rfl 78 (.tmp 7) (.tmp 17) rfl _ _ rfl rfl _ HST.out ?_)
          refine Pl.region_is (ops := Pl.find 4 ((Try.f39.body).getD .skip)) (by kernel_rfl) ?_
          refine keep4 _ p _ L HTA.out.dev wr.heap.size x HQ.out (by
            have e1 := HW.out x HMEM.out
            have e2 : (keepW bs 0 (D.wr.take j) D.kp).length = m := keepW_length bs m _ 0 _ (fun y hy => HW.out y (List.mem_of_mem_take hy)) HKP.out
            show x.Ok (keepW bs 0 (D.wr.take j) D.kp).length
            rw [e2]; exact e1) (by rfl) rfl (by rfl) (by rfl) ?_
          intro uu w2 hT2
          have HT2 := hide (HTA.out.trans hT2)
          clear hT2
          simp only [Act.put, List.setIfInBounds_toArray, List.set_cons_zero, List.set_cons_succ]
          go_wp2_with fail
          go_roundw
          case rel =>
            refine ⟨j + 1, by omega, by go_num, ?_⟩
            have e := HT2.out
            have e2 : keepW bs 0 (D.wr.take (j + 1)) D.kp = splice (keepW bs 0 (D.wr.take j) D.kp) x.at_ x.b := by
              rw [HTK.out, keepW_snoc, Nat.zero_add, List.length_take, Nat.min_eq_left hj, HH2.out]
              rfl
            show Turned _ _ _ _ _ _
            rw [e2]
            exact e
          case measure => simp only [intOf]; omega
    · obtain rfl : j = D.wr.length := by omega
      rcases hcase with ⟨q1, rfl⟩ | ⟨q1, q2, rfl⟩ | ⟨q1, q2, rfl⟩
      · have r1 : ¬ 0 ≤ u := by omega
        have r2 : ¬ (0 : Int) < u := by omega
        have r3 : u ≤ 0 := by omega
        have r4 : max u 0 = 0 := by omega
        have r5 : min (0 : Int) ((un : Nat) : Int) = 0 := by omega
        have r6 : ¬ ((un : Nat) : Int) < 0 := by omega
        go_wp2_with fail
        refine (HUN.out wr _ hT.out.dev).mono ?_
        rintro e w1 ⟨rfl, hb1⟩
        have HT1 := hide (hT.out.trans (Turned.same hT.out.dev hb1))
        clear hb1
        go_wp2_with fail
        refine (HKU.out w1 _ HT1.out.dev).mono ?_
        rintro e w2 ⟨rfl, L2, hT2⟩
        have hT3 := hT2.dev.clr6
        have hT4 := hT3.dev.clr7
        have hT5 := hT4.dev.clr8
        have HT5 := hide (((HT1.out.trans hT2).trans hT3).trans (hT4.trans hT5))
        have e6 := hT2.dev.c6
        have f6 := hT2.dev.fz
        have e7 := hT3.dev.c7
        have f7 := hT3.dev.fz
        have e8 := hT4.dev.c8
        have f8 := hT4.dev.fz
        simp only at e7 e8
        clear hT2 hT3 hT4 hT5
        go_wp2_with fail
        go_end0
        have e := HT5.out
        rw [List.take_length] at e
        rw [HKE.out]
        exact ⟨rfl, _, e⟩
      · have r4 : max ((u0 : Nat) : Int) 0 = ((u0 : Nat) : Int) := by omega
        have r5 : min ((u0 : Nat) : Int) ((un : Nat) : Int) = ((u0 : Nat) : Int) := by omega
        have r6 : u0 ≤ un := by omega
        go_wp2_with fail
        refine (HUN.out wr _ hT.out.dev).mono ?_
        rintro e w1 ⟨rfl, hb1⟩
        have HT1 := hide (hT.out.trans (Turned.same hT.out.dev hb1))
        clear hb1
        go_wp2_with fail
        refine (HKU.out w1 _ HT1.out.dev).mono ?_
        rintro e w2 ⟨rfl, L2, hT2⟩
        have hT3 := hT2.dev.clr6
        have hT4 := hT3.dev.clr7
        have hT5 := hT4.dev.clr8
        have HT5 := hide (((HT1.out.trans hT2).trans hT3).trans (hT4.trans hT5))
        have e6 := hT2.dev.c6
        have f6 := hT2.dev.fz
        have e7 := hT3.dev.c7
        have f7 := hT3.dev.fz
        have e8 := hT4.dev.c8
        have f8 := hT4.dev.fz
        simp only at e7 e8
        clear hT2 hT3 hT4 hT5
        go_wp2_with fail
        go_end0
        have e := HT5.out
        rw [List.take_length] at e
        rw [HKE.out]
        exact ⟨rfl, _, e⟩
      · have r4 : max u 0 = u := by omega
        have r5 : min u ((u0 : Nat) : Int) = ((u0 : Nat) : Int) := by omega
        have r6 : ¬ u ≤ ((u0 : Nat) : Int) := by omega
        go_wp2_with fail
        refine (HUN.out wr _ hT.out.dev).mono ?_
        rintro e w1 ⟨rfl, hb1⟩
        have HT1 := hide (hT.out.trans (Turned.same hT.out.dev hb1))
        clear hb1
        go_wp2_with fail
        refine (HKU.out w1 _ HT1.out.dev).mono ?_
        rintro e w2 ⟨rfl, L2, hT2⟩
        have hT3 := hT2.dev.clr6
        have hT4 := hT3.dev.clr7
        have hT5 := hT4.dev.clr8
        have HT5 := hide (((HT1.out.trans hT2).trans hT3).trans (hT4.trans hT5))
        have e6 := hT2.dev.c6
        have f6 := hT2.dev.fz
        have e7 := hT3.dev.c7
        have f7 := hT3.dev.fz
        have e8 := hT4.dev.c8
        have f8 := hT4.dev.fz
        simp only at e7 e8
        clear hT2 hT3 hT4 hT5
        go_wp2_with fail
        go_end0
        have e := HT5.out
        rw [List.take_length] at e
        rw [HKE.out]
        exact ⟨rfl, _, e⟩

end Go.Proofs.Ytokdeilcfkobfaa
