/-
  The law of numbers: just what stands is got.
-/
import Derived.Test.YtpdkeghmpnanpaaUdR
namespace Go.Proofs.Ytpdkeghmpnanpaa
open Go.RowKit
set_option linter.unusedVariables false

namespace Pl
section
variable {P : Program} {ops : Array Oper} {S : World → Prop} {n : Nat} {f : Nat → Value}
theorem fieldV (i : Nat) (t : TypeId) (x : Operand) (k : Nat) (v : Value) (h : (op ops i).op = .field t x k) (hx : inB n x = true) (hv : ∀ w, (Instr.field t (ev f x) k).run P w = .ok v w) :
    ∀ A, At n A f → ∀ w, S w → (execOp A.eval (op ops i)).run P w = .ok (.value v) w := by
  intro A hA w _
  have e : execOp A.eval (op ops i) = (do pure (.value (← Instr.field t (A.eval x) k))) := by
    unfold execOp
    rw [h]
  rw [e, hA.ev x hx]
  simp [hv w]
end
end Pl

theorem fieldUn1 (x : Ux) (w : World) : (Instr.field 30 x.val 1).run Try.prog w = .ok (.int .i64 x.u.no) w := by
  unfold Ux.val Un.val
  simp [go_sem, Instr.field, asAgg]
theorem eqlB (a c : Int) (x y : Operand) (g : Bool) (h : (a == c) = g) (w : World) : (do eqGuard .eql 3 x y (.int .i64 a) (.int .i64 c); binOp .eql 3 (.int .i64 a) (.int .i64 c) : Sem Value).run Try.prog w = .ok (.bool g) w := by
  subst h
  simp [go_sem, eqGuard]
theorem neqBB (g : Bool) (x y : Operand) (w : World) : (do eqGuard .neq 4 x y (.bool g) (.bool g); binOp .neq 4 (.bool g) (.bool g) : Sem Value).run Try.prog w = .ok (.bool false) w := by
  simp [go_sem, eqGuard]

/-! ### Rolls behind a slice -/
def cellsR (ps : List (Int × Int)) : List Value := ps.flatMap fun p => [.int .i64 p.1, .int .i64 p.2]
theorem cellsR_len : ∀ ps : List (Int × Int), (cellsR ps).length = ps.length * 2
  | [] => rfl
  | p :: ps => by
    have e : cellsR (p :: ps) = [.int .i64 p.1, .int .i64 p.2] ++ cellsR ps := rfl
    rw [e, List.length_append, cellsR_len ps, List.length_cons]
    simp
    omega
theorem cellsR_append (a b : List (Int × Int)) : cellsR (a ++ b) = cellsR a ++ cellsR b := by simp [cellsR]
theorem cellsR_one (ps : List (Int × Int)) : ∀ u ∈ cellsR ps, u.oneCell' = true := by
  intro u hu
  obtain ⟨p, _, hp⟩ := List.mem_flatMap.1 hu
  simp only [List.mem_cons, List.not_mem_nil, or_false] at hp
  rcases hp with rfl | rfl <;> rfl
theorem cellsR_get : ∀ (ps : List (Int × Int)) (j : Nat), j < ps.length → (cellsR ps)[j * 2]? = some (.int .i64 (ps.getD j (0, 0)).1) ∧ (cellsR ps)[j * 2 + 1]? = some (.int .i64 (ps.getD j (0, 0)).2)
  | [], j, hj => by simp at hj
  | p :: ps, 0, _ => ⟨rfl, rfl⟩
  | p :: ps, j + 1, hj => by
    have e : cellsR (p :: ps) = [.int .i64 p.1, .int .i64 p.2] ++ cellsR ps := rfl
    have h := cellsR_get ps j (by simpa using hj)
    rw [e, List.getElem?_append_right (by simp; omega), List.getElem?_append_right (by simp; omega), show (j + 1) * 2 - [Value.int .i64 p.1, Value.int .i64 p.2].length = j * 2 by simp; omega, show (j + 1) * 2 + 1 - [Value.int .i64 p.1, Value.int .i64 p.2].length = j * 2 + 1 by simp; omega]
    exact h
theorem infoRl : (Try.prog.info? 26).map (fun i => (i.zero, i.size, i.bytes)) = some (some (.agg #[.int .i64 0, .int .i64 0]), 2, 16) := by kernel_rfl
/-- A row of rolls of one's own, in blocks that are new since w0. -/
structure Rl (w0 w : World) (s : Sl) (ps : List (Int × Int)) : Prop where
  own : Own 26 2 w s (cellsR ps)
  new : ∀ k, s.blk = some k → w0.heap.size ≤ k
theorem Rl.len {w0 w : World} {s : Sl} {ps : List (Int × Int)} (h : Rl w0 w s ps) : ps.length = s.len := by
  have := h.own.1
  rw [cellsR_len] at this
  omega
theorem Rl.keep {w0 w w' : World} {s : Sl} {ps : List (Int × Int)} (h : Rl w0 w s ps) (hb : Below w.heap.size w w') : Rl w0 w' s ps := ⟨h.own.frame (fun k hk => hb.block k (h.own.lt hk)), h.new⟩
theorem Rl.new0 (w0 w : World) (hb : Below w0.heap.size w0 w) : Rl w0 (w.alloc (.cells #[] 26)) ⟨some ⟨w.heap.size, 0, none⟩, 0, 0⟩ [] := by
  refine ⟨⟨rfl, .inr ⟨w.heap.size, 0, _, rfl, heap_alloc_new w _, by simp, Nat.le_refl _, by simp, rfl⟩⟩, fun k hk => ?_⟩
  have e : some w.heap.size = some k := hk
  cases e
  exact hb.size
theorem Rl.at {w0 w : World} {s : Sl} {ps : List (Int × Int)} (h : Rl w0 w s ps) (j : Nat) (hj : j < s.len) : ∃ b off, s.a = some ⟨b, off, none⟩ ∧ w.cell? ⟨b, off + j * 2, none⟩ = some (.int .i64 (ps.getD j (0, 0)).1) ∧ w.cell? ⟨b, off + j * 2 + 1, none⟩ = some (.int .i64 (ps.getD j (0, 0)).2) := by
  rcases h.own.2 with ⟨h0, _⟩ | ⟨g, off, cur, ha, _⟩
  · rw [h0] at hj; exact absurd hj (Nat.not_lt_zero _)
  · obtain ⟨h1, h2⟩ := cellsR_get ps j (by rw [h.len]; exact hj)
    have c1 := h.own.cell ha (j * 2) _ h1
    have c2 := h.own.cell ha (j * 2 + 1) _ h2
    rw [Addr.add_lit] at c1 c2
    rw [← Nat.add_assoc] at c2
    exact ⟨g, off, ha, c1, c2⟩
theorem src_rl (w : World) (c m : Int) : Src Try.prog 2 48 (.slice (some ⟨w.heap.size, 0, none⟩) 1 1) 1 (cellsR [(c, m)]) (w.alloc (.cells #[.int .i64 c, .int .i64 m] 26)) := by
  refine Src.ofSlice _ Try.underlying48 ⟨w.heap.size, 0, none⟩ 1 1 (cellsR [(c, m)]) rfl (fun j u hj => ?_) (cellsR_one _)
  have hb : (w.alloc (.cells #[.int .i64 c, .int .i64 m] 26)).heap[w.heap.size]? = some (.cells #[.int .i64 c, .int .i64 m] 26) := heap_alloc_new w _
  rw [Addr.add_lit, cell_of_row _ _ _ _ _ _ hb]
  simpa [cellsR] using hj
/-- append(cells, api.Roll{..}): the literal is laid first. -/
theorem Rl.one {w0 w : World} {s : Sl} {ps : List (Int × Int)} (h : Rl w0 w s ps) (hb : Below w0.heap.size w0 w) (c m : Int) (hl : ps.length + 1 ≤ 1000000) :
    ∃ s' W, (∀ ty, (Builtin.append_ #[48, 48] ty #[s.val, .slice (some ⟨w.heap.size, 0, none⟩) 1 1]).run Try.prog (w.alloc (.cells #[.int .i64 c, .int .i64 m] 26)) = .ok s'.val W) ∧ Rl w0 W s' (ps ++ [(c, m)]) ∧ Frm (fun k => s.blk = some k) w W := by
  have hB := below_alloc w (.cells #[.int .i64 c, .int .i64 m] 26)
  have hk := h.keep hB
  obtain ⟨s', W, hrun, ho, hlen, hfr, hbk⟩ := own_append Try.underlying48 infoRl rfl (by decide) _ s (cellsR ps) hk.own (cellsR_one ps) _ 1 (cellsR [(c, m)]) (src_rl w c m) (by rw [← h.len]; exact hl) 0
  refine ⟨s', W, fun ty => hrun, ⟨by rw [cellsR_append]; exact ho, fun k e => ?_⟩, (Frm.ofBelow hB).trans hfr (fun i _ hi => hi)⟩
  rcases hbk with e' | ⟨e', _⟩
  · exact h.new k (by rw [← e']; exact e)
  · rw [e'] at e
    cases e
    exact Nat.le_trans hb.size hB.size
theorem Ud.rolled {w0 w W : World} {s t : Sl} {l : List Ux} {ps : List (Int × Int)} (h : Ud w0 w s l) (hr : Rl w0 w t ps) (hf : Frm (fun k => t.blk = some k) w W) : Ud w0 W s l := by
  refine h.turned (h.below.trans (hf.below h.below.size (fun k hk => hr.new k hk))) (fun k C t' fr hk ho => hf.block k (Array.getElem?_eq_some_iff.1 hk).1 (fun e => ?_))
  obtain ⟨cur, hcur⟩ := hr.own.kind e
  rw [hk] at hcur
  simp only [Option.some.injEq, Obj.cells.injEq] at hcur
  have := hr.new k e
  rcases ho with ho | ho | ho
  · omega
  · exact absurd (ho.symm.trans hcur.2.1) (by decide)
  · exact absurd (ho.symm.trans hcur.2.1) (by decide)
theorem index_rl (b o len cap k : Nat) (hk : k < len) (w : World) : (Instr.indexAt 48 (.slice (some ⟨b, o, none⟩) len cap) (.int .i64 (k : Nat))).run Try.prog w = .ok (.pointer (some ⟨b, o + k * 2, none⟩)) w := by
  have h22 : Try.prog.underlying 48 = some (.slice (Try.prog.elem 48)) := by kernel_rfl
  have h1 : (0 : Int) ≤ (k : Int) := by omega
  simp [go_sem, Instr.indexAt, run_underlying h22, h1, Addr.add_lit]
  omega
theorem fdRl0 (p o : Nat) (w : World) : (Instr.fieldAt 26 (.pointer (some ⟨p, o, none⟩)) 0).run Try.prog w = .ok (.pointer (some ⟨p, o, none⟩)) w := by simp [go_sem, Instr.fieldAt]
theorem fdRl1 (p o : Nat) (w : World) : (Instr.fieldAt 26 (.pointer (some ⟨p, o, none⟩)) 1).run Try.prog w = .ok (.pointer (some ⟨p, o + 1, none⟩)) w := by simp [go_sem, Instr.fieldAt]
theorem setUnN {w : World} {g : Nat} {u : Un} {c : Value} (h : UnBlk w g u c) (n : Int) : UnBlk (w.setCell ⟨g, 1, none⟩ (.int .i64 n)) g { u with no := n } c := by
  unfold UnBlk at h ⊢
  rw [heap_setCell_same w g 1 _ 30 (.int .i64 n) h]
  rfl
theorem enters25 : ∀ args w, (callFunc 25 args).run Try.prog w = .ok (.enter 25 args) w := Pl.enters Try.func25 (by kernel_rfl) (by kernel_rfl)

set_option maxHeartbeats 2000000 in
set_option maxRecDepth 100000 in
theorem once21 (w0 w : World) (na : Option Addr) (n nc : Nat) (l : List Ux) (hu : Us w0 na n l) (hn : n ≤ 1000000) (b2 o2 k c2 j : Nat) (hj : j < k) (c m : Int) (h0 : w0.cell? ⟨b2, o2 + j * 2, none⟩ = some (.int .i64 c)) (h1 : w0.cell? ⟨b2, o2 + j * 2 + 1, none⟩ = some (.int .i64 m)) (gb : Bool) (hok : ((atU (uns l) c).no == m) = gb) (hW : Below w0.heap.size w0 w)
    {Q : Exit → Act → World → Prop} {A : Act} (hsz : A.tmps.size = 121) (hdf : A.defers = []) (s5 : A.tmps.getD 5 undef = .slice na n nc) (s6 : A.tmps.getD 6 undef = .slice (some ⟨b2, o2, none⟩) k c2) (s14 : A.tmps.getD 14 undef = .int .i64 ((j : Nat) : Int)) (s16 : A.tmps.getD 16 undef = .bool gb)
    (hend : ∀ (u : Nat → Value) w', Below w0.heap.size w0 w' → Q .normal (((((((((((((((((A).put (some 104) (u 104)).put (some 105) (u 105)).put (some 106) (u 106)).put (some 107) (u 107)).put (some 108) (u 108)).put (some 109) (u 109)).put (some 110) (u 110)).put (some 113) (u 113)).put (some 114) (u 114)).put (some 115) (u 115)).put (some 116) (u 116)).put (some 117) (u 117)).put (some 111) (u 111)).put (some 112) (u 112)).put (some 118) (u 118)).put (some 119) (.bool false)) w') :
    (Code.region 21 (Pl.find 21 ((Try.f5.body).getD .skip)) true).wp Try.prog Q A w := by
  have hS0 : Below w0.heap.size w0 w.drew := hW.drew
  have hA := Pl.At.same (v := .bool gb) (d := 16) (Pl.At.same (v := .int .i64 ((j : Nat) : Int)) (d := 14) (Pl.At.same (v := .slice (some ⟨b2, o2, none⟩) k c2) (d := 6) (Pl.At.same (v := .slice na n nc) (d := 5) (Pl.At.here hsz hdf) s5) s6) s14) s16
  refine Pl.H.start (S := fun w' => Below w0.heap.size w0 w') (by kernel_rfl) hA hS0 ?_
  rw [show (Pl.find 21 ((Try.f5.body).getD .skip)).size = 16 by kernel_rfl]
  refine Pl.H.take 0 104 (.bool gb) (by kernel_rfl) (by kernel_rfl) (by kernel_rfl) (Pl.free 0 (by kernel_rfl)) (Pl.move 0 (.tmp 16) (by kernel_rfl) (by decide)) hS0 ?_
  refine Pl.H.take 1 105 (.slice na n nc) (by kernel_rfl) (by kernel_rfl) (by kernel_rfl) (Pl.free 1 (by kernel_rfl)) (Pl.move 1 (.tmp 5) (by kernel_rfl) (by decide)) hS0 ?_
  refine Pl.H.take 2 106 (.slice (some ⟨b2, o2, none⟩) k c2) (by kernel_rfl) (by kernel_rfl) (by kernel_rfl) (Pl.free 2 (by kernel_rfl)) (Pl.move 2 (.tmp 6) (by kernel_rfl) (by decide)) hS0 ?_
  refine Pl.H.take 3 107 (.int .i64 ((j : Nat) : Int)) (by kernel_rfl) (by kernel_rfl) (by kernel_rfl) (Pl.free 3 (by kernel_rfl)) (Pl.move 3 (.tmp 14) (by kernel_rfl) (by decide)) hS0 ?_
  refine Pl.H.take 4 108 (.pointer (some ⟨b2, o2 + j * 2, none⟩)) (by kernel_rfl) (by kernel_rfl) (by kernel_rfl) (Pl.free 4 (by kernel_rfl)) (Pl.index 4 48 (.tmp 106) (.tmp 107) _ (by kernel_rfl) (by decide) (by decide) (index_rl b2 o2 k c2 j hj)) hS0 ?_
  refine Pl.H.take 5 109 (.pointer (some ⟨b2, o2 + j * 2, none⟩)) (by kernel_rfl) (by kernel_rfl) (by kernel_rfl) (Pl.free 5 (by kernel_rfl)) (Pl.field 5 26 (.tmp 108) 0 _ (by kernel_rfl) (by decide) (fdRl0 b2 (o2 + j * 2))) hS0 ?_
  refine Pl.H.take 6 110 (.int .i64 c) (by kernel_rfl) (by kernel_rfl) (by kernel_rfl) (Pl.free 6 (by kernel_rfl)) (Pl.load 6 3 (.tmp 109) _ (by kernel_rfl) (by decide) (fun w' hS => load_intC ((hS.cell (World.block_lt_of_cell? _ _ h0)).trans h0))) hS0 ?_
  refine Pl.H.take 9 113 (.slice (some ⟨b2, o2, none⟩) k c2) (by kernel_rfl) (by kernel_rfl) (by kernel_rfl) (Pl.free 9 (by kernel_rfl)) (Pl.move 9 (.tmp 6) (by kernel_rfl) (by decide)) hS0 ?_
  refine Pl.H.take 10 114 (.int .i64 ((j : Nat) : Int)) (by kernel_rfl) (by kernel_rfl) (by kernel_rfl) (Pl.free 10 (by kernel_rfl)) (Pl.move 10 (.tmp 14) (by kernel_rfl) (by decide)) hS0 ?_
  refine Pl.H.take 11 115 (.pointer (some ⟨b2, o2 + j * 2, none⟩)) (by kernel_rfl) (by kernel_rfl) (by kernel_rfl) (Pl.free 11 (by kernel_rfl)) (Pl.index 11 48 (.tmp 113) (.tmp 114) _ (by kernel_rfl) (by decide) (by decide) (index_rl b2 o2 k c2 j hj)) hS0 ?_
  refine Pl.H.take 12 116 (.pointer (some ⟨b2, o2 + j * 2 + 1, none⟩)) (by kernel_rfl) (by kernel_rfl) (by kernel_rfl) (Pl.free 12 (by kernel_rfl)) (Pl.field 12 26 (.tmp 115) 1 _ (by kernel_rfl) (by decide) (fdRl1 b2 (o2 + j * 2))) hS0 ?_
  refine Pl.H.take 13 117 (.int .i64 m) (by kernel_rfl) (by kernel_rfl) (by kernel_rfl) (Pl.free 13 (by kernel_rfl)) (Pl.load 13 3 (.tmp 116) _ (by kernel_rfl) (by decide) (fun w' hS => load_intC ((hS.cell (World.block_lt_of_cell? _ _ h1)).trans h1))) hS0 ?_
  refine Pl.H.call 7 111 25 [(.tmp 105), (.tmp 110)] #[22, 3] (by kernel_rfl) (by kernel_rfl) (by kernel_rfl) (Pl.free 7 (by kernel_rfl)) (by kernel_rfl) (by decide) enters25 (Calls.mono (rAt_any na n nc l w.drew (hu.keep hS0 (Nat.le_refl _)) hn c) ?_)
  rintro e w1 ⟨x, rfl, hxu, hxm, hb1⟩
  have hS1 : Below w0.heap.size w0 w1 := rBelow hS0 hb1
  have hgb : (x.u.no == m) = gb := by rw [hxu]; exact hok
  refine ⟨x.val, rfl, hS1, ?_⟩
  refine Pl.H.take 8 112 (.int .i64 x.u.no) (by kernel_rfl) (by kernel_rfl) (by kernel_rfl) (Pl.free 8 (by kernel_rfl)) (Pl.fieldV 8 30 (.tmp 111) 1 _ (by kernel_rfl) (by decide) (fieldUn1 x)) hS1 ?_
  refine Pl.H.take 14 118 (.bool gb) (by kernel_rfl) (by kernel_rfl) (by kernel_rfl) (Pl.free 14 (by kernel_rfl)) (Pl.binV 14 .eql 3 3 (.tmp 112) (.tmp 117) (.int .i64 x.u.no) (.int .i64 m) _ (by kernel_rfl) (by decide) (by decide) rfl rfl (eqlB _ _ _ _ _ hgb)) hS1 ?_
  refine Pl.H.take 15 119 (.bool false) (by kernel_rfl) (by kernel_rfl) (by kernel_rfl) (Pl.free 15 (by kernel_rfl)) (Pl.binV 15 .neq 4 4 (.tmp 104) (.tmp 118) (.bool gb) (.bool gb) _ (by kernel_rfl) (by decide) (by decide) rfl rfl (neqBB gb _ _)) hS1 ?_
  refine Pl.H.done (by kernel_rfl) (fun A' hA' => ?_)
  rw [Pl.At.ext hA' ((((((((((((((((hA.put 104 _).put 105 _).put 106 _).put 107 _).put 108 _).put 109 _).put 110 _).put 113 _).put 114 _).put 115 _).put 116 _).put 117 _).put 111 _).put 112 _).put 118 _).put 119 _)]
  exact hend (fun d => if d = 104 then .bool gb else if d = 105 then .slice na n nc else if d = 106 then .slice (some ⟨b2, o2, none⟩) k c2 else if d = 107 then .int .i64 ((j : Nat) : Int) else if d = 108 then .pointer (some ⟨b2, o2 + j * 2, none⟩) else if d = 109 then .pointer (some ⟨b2, o2 + j * 2, none⟩) else if d = 110 then .int .i64 c else if d = 113 then .slice (some ⟨b2, o2, none⟩) k c2 else if d = 114 then .int .i64 ((j : Nat) : Int) else if d = 115 then .pointer (some ⟨b2, o2 + j * 2, none⟩) else if d = 116 then .pointer (some ⟨b2, o2 + j * 2 + 1, none⟩) else if d = 117 then .int .i64 m else if d = 111 then x.val else if d = 112 then .int .i64 x.u.no else if d = 118 then .bool gb else undef) _ hS1

theorem getP_mem (ps : List (Int × Int)) (j : Nat) (h : j < ps.length) : ps.getD j (0, 0) ∈ ps := by simp [List.getD, h]
/-- What stands between two rounds of the law of numbers. -/
def OnI (w wr : World) (s t : Sl) (i : Nat) : Prop := ∃ l ps, Ud w wr s l ∧ MayU (uns l) = true ∧ Rl w wr t ps ∧ (∀ p ∈ ps, (1 : Int) ≤ p.2) ∧ ps.length ≤ i
theorem Ud.few {w wr : World} {s : Sl} {l : List Ux} (h : Ud w wr s l) (hm : MayU (uns l) = true) : s.len ≤ 1000000 := by
  have h1 := ((mayU_iff _).1 hm).hi
  rw [uns_len, h.len] at h1
  omega

set_option maxHeartbeats 16000000 in
set_option maxRecDepth 100000 in
theorem once_walk (a : Option Addr) (n cap : Nat) (l0 : List Ux) (w : World) (h : Us w a n l0) (hbig : n ≤ 9223372036854775807) (da : Option Addr) (dn dc : Nat) (xs : List Nat) (hC : Came w da dn dc xs) :
    Calls Try.prog 5 #[.slice a n cap, .slice da dn dc] w fun e w' => e = .returned (.bool true) ∧ Below w.heap.size w w' := by
  have HMk := hide (make_six w)
  have hu0 := Ud.six w w (Below.refl _ _)
  have HAW := hide awake_any
  have hdbig := hC.big
  generalize w.alloc (.cells (cellsU (List.replicate 6 Ux.zero)).toArray 30) = W0 at *
  have HI0 : Hid (OnI w (W0.alloc (.cells #[] 26)) ⟨some ⟨w.heap.size, 0, none⟩, 6, 6⟩ ⟨some ⟨W0.heap.size, 0, none⟩, 0, 0⟩ 0) := ⟨_, [], hu0.keep (below_alloc _ _), by rw [six_uns]; exact six_may, Rl.new0 w W0 hu0.below, (fun p hp => by cases hp), Nat.le_refl _⟩
  have HE := hide h
  have HC := hide hC
  clear h hC hu0
  go_enter Try.func5, Try.ntmps5
  go_wp2_with (refine wpList_make _ rfl 22 (.const (.int .i64 6)) (.const (.int .i64 6)) rfl (.int .i64 6) (.int .i64 6) (.slice (some ⟨w.heap.size, 0, none⟩) 6 6) rfl rfl W0 HMk.out ?_)
  go_loopw [5, 6, 7] (fun nv cv iv wr => ∃ (s t : Sl) (i : Nat), nv = .slice s.a s.len s.cap ∧ cv = .slice t.a t.len t.cap ∧ iv = .int .i64 (i : Nat) ∧ i ≤ 40 ∧ i ≤ n ∧ Hid (OnI w wr s t i)) (fun _ _ iv _ => 40 - (intOf iv).toNat)
  case atStart => exact ⟨⟨some ⟨w.heap.size, 0, none⟩, 6, 6⟩, ⟨some ⟨W0.heap.size, 0, none⟩, 0, 0⟩, 0, rfl, rfl, rfl, by omega, by omega, HI0⟩
  case round =>
    obtain ⟨⟨sa, sl, sc⟩, ⟨ca, cl, cc⟩, i, rfl, rfl, rfl, hi40, hin, hI⟩ := hrel
    simp only
    rcases Nat.lt_or_ge i n with hlt | hge
    · have i1 : ((i : Nat) : Int) < ((n : Nat) : Int) := by omega
      rcases Nat.lt_or_ge i 40 with hl4 | hg4
      · have i2 : ((i : Nat) : Int) < 40 := by omega
        obtain ⟨l, ps, hud, hm, hrl, hps, hpl⟩ := hI.out
        have hmem := HE.out.mem hlt
        have HFY := hide (HE.out.cols _ hmem)
        have HFT := hide (HE.out.fits _ hmem)
        obtain ⟨b1, off, rfl, hat0⟩ := HE.out.at' i hlt
        generalize l0.getD i Ux.zero = y at *
        have hat := hat0.keep hud.below (Nat.le_refl _)
        have x8 := hat.c8
        by_cases hc : 20 < y.n
        · have i3 : (20 : Int) < ((y.n : Nat) : Int) := by omega
          have HI1 : Hid (OnI w wr ⟨sa, sl, sc⟩ ⟨ca, cl, cc⟩ (i + 1)) := ⟨l, ps, hud, hm, hrl, hps, by omega⟩
          clear hud hrl hat hat0 hmem hc hps hm
          go_wp2_with fail
          go_roundw
          case rel => exact ⟨⟨sa, sl, sc⟩, ⟨ca, cl, cc⟩, i + 1, rfl, rfl, by go_num, by omega, by omega, HI1⟩
          case measure => simp only [intOf]; omega
        · have i3 : ¬ (20 : Int) < ((y.n : Nat) : Int) := by omega
          have HLD := hide (load_unAt b1 (off + i * 12) y wr hat)
          obtain ⟨W3, hst3, hblk3, hb3⟩ := box_un wr y
          have HST := hide hst3
          have y1 := hblk3.c1
          have z1 := hblk3.fz 1
          have hbk4 := setUnN hblk3 ((i : Int) + 1)
          have hb4 : Below wr.heap.size wr (W3.setCell ⟨wr.heap.size, 1, none⟩ (.int .i64 ((i : Int) + 1))) := hb3.trans ((setC_frm W3 wr.heap.size 1 _).below hb3.size (fun k hk => by rw [hk]; exact Nat.le_refl _))
          obtain ⟨xx, hxx⟩ : ∃ xx : Ux, xx = ⟨{ y.u with no := (i : Int) + 1 }, y.a, y.n, y.c⟩ := ⟨_, rfl⟩
          have HL4 := hide (load_un _ { y.u with no := (i : Int) + 1 } (.slice y.a y.n y.c) ⟨_, _, _, rfl⟩ _ hbk4)
          have hv4 : ({ y.u with no := (i : Int) + 1 } : Un).val (.slice y.a y.n y.c) = xx.val := by rw [hxx]; rfl
          rw [hv4] at HL4
          have hud4 := hud.keep hb4
          have HUD4 := hide hud4
          have HRL4 := hide (hrl.keep hb4)
          have HM := hide hm
          have HPS := hide hps
          have hfx : Fs (W3.setCell ⟨wr.heap.size, 1, none⟩ (.int .i64 ((i : Int) + 1))) xx.a xx.n xx.c xx.u.row.xs := by rw [hxx]; exact HFY.out.keep hud4.below (Nat.le_refl _)
          have hft : xx.u.fits := by rw [hxx]; exact ⟨HFT.out.tx, by simp [Lit.wf, IntKind.min, IntKind.max, IntKind.signed, IntKind.bits]; omega, HFT.out.prev, HFT.out.kind, HFT.out.page, HFT.out.slot, HFT.out.row⟩
          have HPU := hide (putL_ok sa sl sc l _ hud4.us (hud4.few hm) xx hfx hft hm)
          have HBK4 := hide hbk4
          have HPM := hide ((mayU_iff _).2 (putU_may ((mayU_iff _).1 hm) xx.u))
          clear hat hat0 hmem hc hst3 hb3 hb4 hbk4 hblk3 hud hud4 hrl hm hps hfx hft hv4 hxx hI HFY HFT
          go_wp2_with (first | refine wpList_load _ rfl 30 (.tmp 39) rfl (.pointer (some ⟨b1, off + i * 12, none⟩)) y.val rfl HLD.out ?_ | refine wpList_store _ rfl rfl 30 (.tmp 8) (.tmp 40) rfl (.pointer (some ⟨wr.heap.size, 0, none⟩)) y.val rfl rfl W3 HST.out ?_ | refine wpList_load _ rfl 30 (.tmp 8) rfl (.pointer (some ⟨wr.heap.size, 0, none⟩)) xx.val rfl HL4.out ?_)
          refine HPU.out.mono ?_
          rintro e w5 ⟨⟨ta, tl, tc⟩, rfl, hrow5, hb5⟩
          have HRO5 := hide (hrow5.lower HUD4.out.below)
          have HUD5 := hide (HUD4.out.keep hb5)
          have HRL5 := hide (HRL4.out.keep hb5)
          have y5 := (HBK4.out.keep hb5).c1
          clear hrow5 hb5 HPU HL4 HST HLD x8 y1 z1 HBK4 HUD4 HRL4
          generalize putU (uns l) xx.u = PS at *
          obtain ⟨pl, pn, pe⟩ := PS
          simp only at HRO5 HPM
          simp only [Sl.val]
          by_cases hpe : pe = 0
          · subst hpe
            obtain ⟨l5, hud5, he5, _⟩ := HRO5.out
            subst he5
            have HPL0 : Hid (ps.length ≤ i) := hpl
            obtain ⟨⟨qa, ql, qc⟩, W6, hrun6, hrl6, hfr6⟩ := HRL5.out.one HUD5.out.below pn ((i : Int) + 1) (by omega)
            have HR6 : Hid (∀ ty, (Builtin.append_ #[48, 48] ty #[.slice ca cl cc, .slice (some ⟨w5.heap.size, 0, none⟩) 1 1]).run Try.prog (w5.alloc (.cells #[.int .i64 pn, .int .i64 ((i : Int) + 1)] 26)) = .ok (.slice qa ql qc) W6) := hrun6
            have HUD6 := hide (hud5.rolled HRL5.out hfr6)
            have HRL6 := hide hrl6
            have HPS6 : Hid (∀ p ∈ ps ++ [(pn, (i : Int) + 1)], (1 : Int) ≤ p.2) := fun p hp => by
              rcases List.mem_append.1 hp with hp | hp
              · exact HPS.out p hp
              · rw [List.mem_singleton.1 hp]; show (1 : Int) ≤ (i : Int) + 1; omega
            have HPL6 : Hid ((ps ++ [(pn, (i : Int) + 1)]).length ≤ i + 1) := by show _ ≤ _; rw [List.length_append, List.length_singleton]; omega
            clear hud5 hrun6 hrl6 hfr6 HRO5 HUD5 HRL5
            rcases Nat.lt_or_ge i dn with hdl | hdg
            · have d1 : ((i : Nat) : Int) < ((dn : Nat) : Int) := by omega
              have hbsd := HC.out.bs.keep HUD6.out.below (Nat.le_refl _)
              obtain ⟨db, dof, hda, _⟩ := hbsd.2.2 i hdl
              subst hda
              have hx1 := hbsd.at i hdl
              have hxb := hbsd.2.1 (xs.getD i 0) (by have := hbsd.1; simp [List.getD, show i < xs.length by omega])
              generalize xs.getD i 0 = bt at *
              have HDR : Hid (∀ c, Calls Try.prog 10 #[.slice ta tl tc, .int .i64 c] W6 fun e w' => ∃ (s : Sl) (d : List Un × Int), e = .returned (.tuple #[s.val, .int .i64 d.2]) ∧ RowT W6 w' s d.1 ∧ MayU d.1 = true ∧ Below W6.heap.size W6 w') := fun c => (dropL_ok ta tl tc l5 W6 HUD6.out.us (HUD6.out.few HPM.out) c HPM.out).mono (fun e w' ⟨s, he, hr, hb⟩ => ⟨s, _, he, hr, (mayU_iff _).2 (dropU_may ((mayU_iff _).1 HPM.out) c), hb⟩)
              clear hbsd
              by_cases hev : bt % 2 = 0
              · have hev1 : ((bt : Nat) : Int) % 2 = 0 := by omega
                clear hev
                go_wp2_with (at_builtin; refine wpList_app _ rfl 48 (.tmp 53) (.tmp 58) rfl _ _ rfl rfl (.slice qa ql qc) W6 HR6.out ?_)
                refine (HDR.out _).mono ?_
                rintro e w7 ⟨⟨va, vl, vc⟩, ⟨dl, de⟩, rfl, hrow7, hdm7, hb7⟩
                have HRO7 := hide (hrow7.lower HUD6.out.below)
                have HDM7 := hide hdm7
                simp only at HRO7 HDM7
                have HUD7 := hide (HUD6.out.keep hb7)
                have HRL7 := hide (HRL6.out.keep hb7)
                clear hrow7 hb7 hdm7 HDR hx1
                simp only [Sl.val]
                by_cases hde : de = 0
                · subst hde
                  obtain ⟨l7, hud7, he7, _⟩ := HRO7.out
                  subst he7
                  have HUV := hide hud7
                  clear hud7 HRO7
                  have hclb : ql ≤ 1000 := by have h1 := HRL7.out.len; have h2 := HPL6.out; simp only at h1; omega
                  go_wp2_with fail
                  try clear hev1
                  try clear hxb
                  try clear hx1
                  go_loopw [14] (fun jv ws => ∃ j : Nat, j ≤ ql ∧ jv = .int .i64 (j : Nat) ∧ Hid (Below w7.heap.size w7 ws)) (fun jv _ => ql - (intOf jv).toNat)
                  case atStart => exact ⟨0, Nat.zero_le _, rfl, Below.refl _ _⟩
                  case round =>
                    obtain ⟨j, hj, rfl, hbs⟩ := hrel
                    rcases Nat.lt_or_ge j ql with hjl | hjg
                    · have j1 : ((j : Nat) : Int) < ((ql : Nat) : Int) := by omega
                      have hrl := HRL7.out.keep hbs.out
                      have hlenp := hrl.len
                      simp only at hlenp
                      obtain ⟨b2, o2, hca, c0, c1⟩ := hrl.at j hjl
                      replace hca : qa = some ⟨b2, o2, none⟩ := hca
                      subst hca
                      have hp1 := HPS6.out ((ps ++ [(pn, (i : Int) + 1)]).getD j (0, 0)) (getP_mem (ps ++ [(pn, (i : Int) + 1)]) j (by omega))
                      have hud := HUV.out.keep hbs.out
                      have HG := hide (getL_any va vl vc l7 wr hud.us (hud.few HDM7.out) ((ps ++ [(pn, (i : Int) + 1)]).getD j (0, 0)).1 ((ps ++ [(pn, (i : Int) + 1)]).getD j (0, 0)).2)
                      rw [HDM7.out, if_pos rfl] at HG
                      have hok := (getU_iff (uns l7) (c := ((ps ++ [(pn, (i : Int) + 1)]).getD j (0, 0)).1) hp1).symm
                      generalize ((ps ++ [(pn, (i : Int) + 1)]).getD j (0, 0)).1 = pc at *
                      generalize ((ps ++ [(pn, (i : Int) + 1)]).getD j (0, 0)).2 = pm at *
                      generalize (getU (uns l7) pc pm).2 = gb at *
                      have HUDS := hide hud
                      have HOK := hide hok
                      have C0 := hide c0
                      have C1 := hide c1
                      clear hrl hlenp hp1 hud hok
                      go_wp2_with fail
                      refine HG.out.mono ?_
                      rintro e w8 ⟨x9, rfl, _, _, hb8⟩
                      obtain ⟨W9, hst9, _, hb9⟩ := box_un w8 x9
                      have HST := hide hst9
                      have hb89 := rBelow hb8 hb9
                      have HB9 := hide (rBelow hbs.out hb89)
                      have HU9 := hide (HUDS.out.keep hb89)
                      have D0 := hide ((hb89.cell (World.block_lt_of_cell? _ _ C0.out)).trans C0.out)
                      have D1 := hide ((hb89.cell (World.block_lt_of_cell? _ _ C1.out)).trans C1.out)
                      clear hst9 hb8 hb9 hb89 HG HUDS C0 C1 c0 c1
                      go_wp2_with (refine wpList_store _ rfl rfl 30 (.tmp 15) (.tmp 102) rfl (.pointer (some ⟨w8.heap.size, 0, none⟩)) x9.val rfl rfl W9 HST.out ?_)
                      refine Pl.region_is (ops := Pl.find 21 ((Try.f5.body).getD .skip)) (by kernel_rfl) ?_
                      refine once21 W9 W9 va vl vc l7 HU9.out.us (HU9.out.few HDM7.out) b2 o2 ql qc j hjl pc pm D0.out D1.out gb HOK.out (Below.refl _ _) (by rfl) (by rfl) (by rfl) (by rfl) (by rfl) (by rfl) ?_
                      intro u w10 hb10
                      have HB10 := hide (rBelow HB9.out hb10)
                      clear hb10 HU9 D0 D1 HST HB9
                      simp only [Act.put, List.setIfInBounds_toArray, List.set_cons_zero, List.set_cons_succ]
                      go_wp2_with fail
                      go_roundw
                      case rel => exact ⟨j + 1, by omega, by go_num, HB10⟩
                      case measure => simp only [intOf]; omega
                    · have j1 : ¬ ((j : Nat) : Int) < ((ql : Nat) : Int) := by omega
                      have HI1 : Hid (OnI w wr ⟨va, vl, vc⟩ ⟨qa, ql, qc⟩ (i + 1)) := ⟨l7, (ps ++ [(pn, (i : Int) + 1)]), HUV.out.keep hbs.out, HDM7.out, HRL7.out.keep hbs.out, HPS6.out, by have := HPL6.out; omega⟩
                      go_wp2_with fail
                      go_roundw
                      case rel => exact ⟨⟨va, vl, vc⟩, ⟨qa, ql, qc⟩, i + 1, rfl, rfl, by go_num, by omega, by omega, HI1⟩
                      case measure => simp only [intOf]; omega
                · have hde' : (de == 0) = false := beq_eq_false_iff_ne.2 hde
                  clear hde HRO7 HDM7
                  have hclb : ql ≤ 1000 := by have h1 := HRL7.out.len; have h2 := HPL6.out; simp only at h1; omega
                  go_wp2_with fail
                  try clear hev1
                  try clear hxb
                  try clear hx1
                  go_loopw [14] (fun jv ws => ∃ j : Nat, j ≤ ql ∧ jv = .int .i64 (j : Nat) ∧ Hid (Below w7.heap.size w7 ws)) (fun jv _ => ql - (intOf jv).toNat)
                  case atStart => exact ⟨0, Nat.zero_le _, rfl, Below.refl _ _⟩
                  case round =>
                    obtain ⟨j, hj, rfl, hbs⟩ := hrel
                    rcases Nat.lt_or_ge j ql with hjl | hjg
                    · have j1 : ((j : Nat) : Int) < ((ql : Nat) : Int) := by omega
                      have hrl := HRL7.out.keep hbs.out
                      have hlenp := hrl.len
                      simp only at hlenp
                      obtain ⟨b2, o2, hca, c0, c1⟩ := hrl.at j hjl
                      replace hca : qa = some ⟨b2, o2, none⟩ := hca
                      subst hca
                      have hp1 := HPS6.out ((ps ++ [(pn, (i : Int) + 1)]).getD j (0, 0)) (getP_mem (ps ++ [(pn, (i : Int) + 1)]) j (by omega))
                      have hud := HUD7.out.keep hbs.out
                      have HG := hide (getL_any ta tl tc l5 wr hud.us (hud.few HPM.out) ((ps ++ [(pn, (i : Int) + 1)]).getD j (0, 0)).1 ((ps ++ [(pn, (i : Int) + 1)]).getD j (0, 0)).2)
                      rw [HPM.out, if_pos rfl] at HG
                      have hok := (getU_iff (uns l5) (c := ((ps ++ [(pn, (i : Int) + 1)]).getD j (0, 0)).1) hp1).symm
                      generalize ((ps ++ [(pn, (i : Int) + 1)]).getD j (0, 0)).1 = pc at *
                      generalize ((ps ++ [(pn, (i : Int) + 1)]).getD j (0, 0)).2 = pm at *
                      generalize (getU (uns l5) pc pm).2 = gb at *
                      have HUDS := hide hud
                      have HOK := hide hok
                      have C0 := hide c0
                      have C1 := hide c1
                      clear hrl hlenp hp1 hud hok
                      go_wp2_with fail
                      refine HG.out.mono ?_
                      rintro e w8 ⟨x9, rfl, _, _, hb8⟩
                      obtain ⟨W9, hst9, _, hb9⟩ := box_un w8 x9
                      have HST := hide hst9
                      have hb89 := rBelow hb8 hb9
                      have HB9 := hide (rBelow hbs.out hb89)
                      have HU9 := hide (HUDS.out.keep hb89)
                      have D0 := hide ((hb89.cell (World.block_lt_of_cell? _ _ C0.out)).trans C0.out)
                      have D1 := hide ((hb89.cell (World.block_lt_of_cell? _ _ C1.out)).trans C1.out)
                      clear hst9 hb8 hb9 hb89 HG HUDS C0 C1 c0 c1
                      go_wp2_with (refine wpList_store _ rfl rfl 30 (.tmp 15) (.tmp 102) rfl (.pointer (some ⟨w8.heap.size, 0, none⟩)) x9.val rfl rfl W9 HST.out ?_)
                      refine Pl.region_is (ops := Pl.find 21 ((Try.f5.body).getD .skip)) (by kernel_rfl) ?_
                      refine once21 W9 W9 ta tl tc l5 HU9.out.us (HU9.out.few HPM.out) b2 o2 ql qc j hjl pc pm D0.out D1.out gb HOK.out (Below.refl _ _) (by rfl) (by rfl) (by rfl) (by rfl) (by rfl) (by rfl) ?_
                      intro u w10 hb10
                      have HB10 := hide (rBelow HB9.out hb10)
                      clear hb10 HU9 D0 D1 HST HB9
                      simp only [Act.put, List.setIfInBounds_toArray, List.set_cons_zero, List.set_cons_succ]
                      go_wp2_with fail
                      go_roundw
                      case rel => exact ⟨j + 1, by omega, by go_num, HB10⟩
                      case measure => simp only [intOf]; omega
                    · have j1 : ¬ ((j : Nat) : Int) < ((ql : Nat) : Int) := by omega
                      have HI1 : Hid (OnI w wr ⟨ta, tl, tc⟩ ⟨qa, ql, qc⟩ (i + 1)) := ⟨l5, (ps ++ [(pn, (i : Int) + 1)]), HUD7.out.keep hbs.out, HPM.out, HRL7.out.keep hbs.out, HPS6.out, by have := HPL6.out; omega⟩
                      go_wp2_with fail
                      go_roundw
                      case rel => exact ⟨⟨ta, tl, tc⟩, ⟨qa, ql, qc⟩, i + 1, rfl, rfl, by go_num, by omega, by omega, HI1⟩
                      case measure => simp only [intOf]; omega
              · have hev1 : ((bt : Nat) : Int) % 2 = 1 := by omega
                clear hev HDR
                have hclb : ql ≤ 1000 := by have h1 := HRL6.out.len; have h2 := HPL6.out; simp only at h1; omega
                go_wp2_with (at_builtin; refine wpList_app _ rfl 48 (.tmp 53) (.tmp 58) rfl _ _ rfl rfl (.slice qa ql qc) W6 HR6.out ?_)
                try clear hev1
                try clear hxb
                try clear hx1
                go_loopw [14] (fun jv ws => ∃ j : Nat, j ≤ ql ∧ jv = .int .i64 (j : Nat) ∧ Hid (Below W6.heap.size W6 ws)) (fun jv _ => ql - (intOf jv).toNat)
                case atStart => exact ⟨0, Nat.zero_le _, rfl, Below.refl _ _⟩
                case round =>
                  obtain ⟨j, hj, rfl, hbs⟩ := hrel
                  rcases Nat.lt_or_ge j ql with hjl | hjg
                  · have j1 : ((j : Nat) : Int) < ((ql : Nat) : Int) := by omega
                    have hrl := HRL6.out.keep hbs.out
                    have hlenp := hrl.len
                    simp only at hlenp
                    obtain ⟨b2, o2, hca, c0, c1⟩ := hrl.at j hjl
                    replace hca : qa = some ⟨b2, o2, none⟩ := hca
                    subst hca
                    have hp1 := HPS6.out ((ps ++ [(pn, (i : Int) + 1)]).getD j (0, 0)) (getP_mem (ps ++ [(pn, (i : Int) + 1)]) j (by omega))
                    have hud := HUD6.out.keep hbs.out
                    have HG := hide (getL_any ta tl tc l5 wr hud.us (hud.few HPM.out) ((ps ++ [(pn, (i : Int) + 1)]).getD j (0, 0)).1 ((ps ++ [(pn, (i : Int) + 1)]).getD j (0, 0)).2)
                    rw [HPM.out, if_pos rfl] at HG
                    have hok := (getU_iff (uns l5) (c := ((ps ++ [(pn, (i : Int) + 1)]).getD j (0, 0)).1) hp1).symm
                    generalize ((ps ++ [(pn, (i : Int) + 1)]).getD j (0, 0)).1 = pc at *
                    generalize ((ps ++ [(pn, (i : Int) + 1)]).getD j (0, 0)).2 = pm at *
                    generalize (getU (uns l5) pc pm).2 = gb at *
                    have HUDS := hide hud
                    have HOK := hide hok
                    have C0 := hide c0
                    have C1 := hide c1
                    clear hrl hlenp hp1 hud hok
                    go_wp2_with fail
                    refine HG.out.mono ?_
                    rintro e w8 ⟨x9, rfl, _, _, hb8⟩
                    obtain ⟨W9, hst9, _, hb9⟩ := box_un w8 x9
                    have HST := hide hst9
                    have hb89 := rBelow hb8 hb9
                    have HB9 := hide (rBelow hbs.out hb89)
                    have HU9 := hide (HUDS.out.keep hb89)
                    have D0 := hide ((hb89.cell (World.block_lt_of_cell? _ _ C0.out)).trans C0.out)
                    have D1 := hide ((hb89.cell (World.block_lt_of_cell? _ _ C1.out)).trans C1.out)
                    clear hst9 hb8 hb9 hb89 HG HUDS C0 C1 c0 c1
                    go_wp2_with (refine wpList_store _ rfl rfl 30 (.tmp 15) (.tmp 102) rfl (.pointer (some ⟨w8.heap.size, 0, none⟩)) x9.val rfl rfl W9 HST.out ?_)
                    refine Pl.region_is (ops := Pl.find 21 ((Try.f5.body).getD .skip)) (by kernel_rfl) ?_
                    refine once21 W9 W9 ta tl tc l5 HU9.out.us (HU9.out.few HPM.out) b2 o2 ql qc j hjl pc pm D0.out D1.out gb HOK.out (Below.refl _ _) (by rfl) (by rfl) (by rfl) (by rfl) (by rfl) (by rfl) ?_
                    intro u w10 hb10
                    have HB10 := hide (rBelow HB9.out hb10)
                    clear hb10 HU9 D0 D1 HST HB9
                    simp only [Act.put, List.setIfInBounds_toArray, List.set_cons_zero, List.set_cons_succ]
                    go_wp2_with fail
                    go_roundw
                    case rel => exact ⟨j + 1, by omega, by go_num, HB10⟩
                    case measure => simp only [intOf]; omega
                  · have j1 : ¬ ((j : Nat) : Int) < ((ql : Nat) : Int) := by omega
                    have HI1 : Hid (OnI w wr ⟨ta, tl, tc⟩ ⟨qa, ql, qc⟩ (i + 1)) := ⟨l5, (ps ++ [(pn, (i : Int) + 1)]), HUD6.out.keep hbs.out, HPM.out, HRL6.out.keep hbs.out, HPS6.out, by have := HPL6.out; omega⟩
                    go_wp2_with fail
                    go_roundw
                    case rel => exact ⟨⟨ta, tl, tc⟩, ⟨qa, ql, qc⟩, i + 1, rfl, rfl, by go_num, by omega, by omega, HI1⟩
                    case measure => simp only [intOf]; omega
            · have d1 : ¬ ((i : Nat) : Int) < ((dn : Nat) : Int) := by omega
              have hclb : ql ≤ 1000 := by have h1 := HRL6.out.len; have h2 := HPL6.out; simp only at h1; omega
              go_wp2_with (at_builtin; refine wpList_app _ rfl 48 (.tmp 53) (.tmp 58) rfl _ _ rfl rfl (.slice qa ql qc) W6 HR6.out ?_)
              try clear hev1
              try clear hxb
              try clear hx1
              go_loopw [14] (fun jv ws => ∃ j : Nat, j ≤ ql ∧ jv = .int .i64 (j : Nat) ∧ Hid (Below W6.heap.size W6 ws)) (fun jv _ => ql - (intOf jv).toNat)
              case atStart => exact ⟨0, Nat.zero_le _, rfl, Below.refl _ _⟩
              case round =>
                obtain ⟨j, hj, rfl, hbs⟩ := hrel
                rcases Nat.lt_or_ge j ql with hjl | hjg
                · have j1 : ((j : Nat) : Int) < ((ql : Nat) : Int) := by omega
                  have hrl := HRL6.out.keep hbs.out
                  have hlenp := hrl.len
                  simp only at hlenp
                  obtain ⟨b2, o2, hca, c0, c1⟩ := hrl.at j hjl
                  replace hca : qa = some ⟨b2, o2, none⟩ := hca
                  subst hca
                  have hp1 := HPS6.out ((ps ++ [(pn, (i : Int) + 1)]).getD j (0, 0)) (getP_mem (ps ++ [(pn, (i : Int) + 1)]) j (by omega))
                  have hud := HUD6.out.keep hbs.out
                  have HG := hide (getL_any ta tl tc l5 wr hud.us (hud.few HPM.out) ((ps ++ [(pn, (i : Int) + 1)]).getD j (0, 0)).1 ((ps ++ [(pn, (i : Int) + 1)]).getD j (0, 0)).2)
                  rw [HPM.out, if_pos rfl] at HG
                  have hok := (getU_iff (uns l5) (c := ((ps ++ [(pn, (i : Int) + 1)]).getD j (0, 0)).1) hp1).symm
                  generalize ((ps ++ [(pn, (i : Int) + 1)]).getD j (0, 0)).1 = pc at *
                  generalize ((ps ++ [(pn, (i : Int) + 1)]).getD j (0, 0)).2 = pm at *
                  generalize (getU (uns l5) pc pm).2 = gb at *
                  have HUDS := hide hud
                  have HOK := hide hok
                  have C0 := hide c0
                  have C1 := hide c1
                  clear hrl hlenp hp1 hud hok
                  go_wp2_with fail
                  refine HG.out.mono ?_
                  rintro e w8 ⟨x9, rfl, _, _, hb8⟩
                  obtain ⟨W9, hst9, _, hb9⟩ := box_un w8 x9
                  have HST := hide hst9
                  have hb89 := rBelow hb8 hb9
                  have HB9 := hide (rBelow hbs.out hb89)
                  have HU9 := hide (HUDS.out.keep hb89)
                  have D0 := hide ((hb89.cell (World.block_lt_of_cell? _ _ C0.out)).trans C0.out)
                  have D1 := hide ((hb89.cell (World.block_lt_of_cell? _ _ C1.out)).trans C1.out)
                  clear hst9 hb8 hb9 hb89 HG HUDS C0 C1 c0 c1
                  go_wp2_with (refine wpList_store _ rfl rfl 30 (.tmp 15) (.tmp 102) rfl (.pointer (some ⟨w8.heap.size, 0, none⟩)) x9.val rfl rfl W9 HST.out ?_)
                  refine Pl.region_is (ops := Pl.find 21 ((Try.f5.body).getD .skip)) (by kernel_rfl) ?_
                  refine once21 W9 W9 ta tl tc l5 HU9.out.us (HU9.out.few HPM.out) b2 o2 ql qc j hjl pc pm D0.out D1.out gb HOK.out (Below.refl _ _) (by rfl) (by rfl) (by rfl) (by rfl) (by rfl) (by rfl) ?_
                  intro u w10 hb10
                  have HB10 := hide (rBelow HB9.out hb10)
                  clear hb10 HU9 D0 D1 HST HB9
                  simp only [Act.put, List.setIfInBounds_toArray, List.set_cons_zero, List.set_cons_succ]
                  go_wp2_with fail
                  go_roundw
                  case rel => exact ⟨j + 1, by omega, by go_num, HB10⟩
                  case measure => simp only [intOf]; omega
                · have j1 : ¬ ((j : Nat) : Int) < ((ql : Nat) : Int) := by omega
                  have HI1 : Hid (OnI w wr ⟨ta, tl, tc⟩ ⟨qa, ql, qc⟩ (i + 1)) := ⟨l5, (ps ++ [(pn, (i : Int) + 1)]), HUD6.out.keep hbs.out, HPM.out, HRL6.out.keep hbs.out, HPS6.out, by have := HPL6.out; omega⟩
                  go_wp2_with fail
                  go_roundw
                  case rel => exact ⟨⟨ta, tl, tc⟩, ⟨qa, ql, qc⟩, i + 1, rfl, rfl, by go_num, by omega, by omega, HI1⟩
                  case measure => simp only [intOf]; omega
          · have hpe' : (pe == 0) = false := beq_eq_false_iff_ne.2 hpe
            clear hpe y5 HRO5 HPM
            have HPL0 : Hid (ps.length ≤ i) := hpl
            rcases Nat.lt_or_ge i dn with hdl | hdg
            · have d1 : ((i : Nat) : Int) < ((dn : Nat) : Int) := by omega
              have hbsd := HC.out.bs.keep HUD5.out.below (Nat.le_refl _)
              obtain ⟨db, dof, hda, _⟩ := hbsd.2.2 i hdl
              subst hda
              have hx1 := hbsd.at i hdl
              have hxb := hbsd.2.1 (xs.getD i 0) (by have := hbsd.1; simp [List.getD, show i < xs.length by omega])
              generalize xs.getD i 0 = bt at *
              have HDR : Hid (∀ c, Calls Try.prog 10 #[.slice sa sl sc, .int .i64 c] w5 fun e w' => ∃ (s : Sl) (d : List Un × Int), e = .returned (.tuple #[s.val, .int .i64 d.2]) ∧ RowT w5 w' s d.1 ∧ MayU d.1 = true ∧ Below w5.heap.size w5 w') := fun c => (dropL_ok sa sl sc l w5 HUD5.out.us (HUD5.out.few HM.out) c HM.out).mono (fun e w' ⟨s, he, hr, hb⟩ => ⟨s, _, he, hr, (mayU_iff _).2 (dropU_may ((mayU_iff _).1 HM.out) c), hb⟩)
              clear hbsd
              by_cases hev : bt % 2 = 0
              · have hev1 : ((bt : Nat) : Int) % 2 = 0 := by omega
                clear hev
                go_wp2_with fail
                refine (HDR.out _).mono ?_
                rintro e w7 ⟨⟨va, vl, vc⟩, ⟨dl, de⟩, rfl, hrow7, hdm7, hb7⟩
                have HRO7 := hide (hrow7.lower HUD5.out.below)
                have HDM7 := hide hdm7
                simp only at HRO7 HDM7
                have HUD7 := hide (HUD5.out.keep hb7)
                have HRL7 := hide (HRL5.out.keep hb7)
                clear hrow7 hb7 hdm7 HDR hx1
                simp only [Sl.val]
                by_cases hde : de = 0
                · subst hde
                  obtain ⟨l7, hud7, he7, _⟩ := HRO7.out
                  subst he7
                  have HUV := hide hud7
                  clear hud7 HRO7
                  have hclb : cl ≤ 1000 := by have h1 := HRL7.out.len; have h2 := HPL0.out; simp only at h1; omega
                  go_wp2_with fail
                  try clear hev1
                  try clear hxb
                  try clear hx1
                  go_loopw [14] (fun jv ws => ∃ j : Nat, j ≤ cl ∧ jv = .int .i64 (j : Nat) ∧ Hid (Below w7.heap.size w7 ws)) (fun jv _ => cl - (intOf jv).toNat)
                  case atStart => exact ⟨0, Nat.zero_le _, rfl, Below.refl _ _⟩
                  case round =>
                    obtain ⟨j, hj, rfl, hbs⟩ := hrel
                    rcases Nat.lt_or_ge j cl with hjl | hjg
                    · have j1 : ((j : Nat) : Int) < ((cl : Nat) : Int) := by omega
                      have hrl := HRL7.out.keep hbs.out
                      have hlenp := hrl.len
                      simp only at hlenp
                      obtain ⟨b2, o2, hca, c0, c1⟩ := hrl.at j hjl
                      replace hca : ca = some ⟨b2, o2, none⟩ := hca
                      subst hca
                      have hp1 := HPS.out (ps.getD j (0, 0)) (getP_mem ps j (by omega))
                      have hud := HUV.out.keep hbs.out
                      have HG := hide (getL_any va vl vc l7 wr hud.us (hud.few HDM7.out) (ps.getD j (0, 0)).1 (ps.getD j (0, 0)).2)
                      rw [HDM7.out, if_pos rfl] at HG
                      have hok := (getU_iff (uns l7) (c := (ps.getD j (0, 0)).1) hp1).symm
                      generalize (ps.getD j (0, 0)).1 = pc at *
                      generalize (ps.getD j (0, 0)).2 = pm at *
                      generalize (getU (uns l7) pc pm).2 = gb at *
                      have HUDS := hide hud
                      have HOK := hide hok
                      have C0 := hide c0
                      have C1 := hide c1
                      clear hrl hlenp hp1 hud hok
                      go_wp2_with fail
                      refine HG.out.mono ?_
                      rintro e w8 ⟨x9, rfl, _, _, hb8⟩
                      obtain ⟨W9, hst9, _, hb9⟩ := box_un w8 x9
                      have HST := hide hst9
                      have hb89 := rBelow hb8 hb9
                      have HB9 := hide (rBelow hbs.out hb89)
                      have HU9 := hide (HUDS.out.keep hb89)
                      have D0 := hide ((hb89.cell (World.block_lt_of_cell? _ _ C0.out)).trans C0.out)
                      have D1 := hide ((hb89.cell (World.block_lt_of_cell? _ _ C1.out)).trans C1.out)
                      clear hst9 hb8 hb9 hb89 HG HUDS C0 C1 c0 c1
                      go_wp2_with (refine wpList_store _ rfl rfl 30 (.tmp 15) (.tmp 102) rfl (.pointer (some ⟨w8.heap.size, 0, none⟩)) x9.val rfl rfl W9 HST.out ?_)
                      refine Pl.region_is (ops := Pl.find 21 ((Try.f5.body).getD .skip)) (by kernel_rfl) ?_
                      refine once21 W9 W9 va vl vc l7 HU9.out.us (HU9.out.few HDM7.out) b2 o2 cl cc j hjl pc pm D0.out D1.out gb HOK.out (Below.refl _ _) (by rfl) (by rfl) (by rfl) (by rfl) (by rfl) (by rfl) ?_
                      intro u w10 hb10
                      have HB10 := hide (rBelow HB9.out hb10)
                      clear hb10 HU9 D0 D1 HST HB9
                      simp only [Act.put, List.setIfInBounds_toArray, List.set_cons_zero, List.set_cons_succ]
                      go_wp2_with fail
                      go_roundw
                      case rel => exact ⟨j + 1, by omega, by go_num, HB10⟩
                      case measure => simp only [intOf]; omega
                    · have j1 : ¬ ((j : Nat) : Int) < ((cl : Nat) : Int) := by omega
                      have HI1 : Hid (OnI w wr ⟨va, vl, vc⟩ ⟨ca, cl, cc⟩ (i + 1)) := ⟨l7, ps, HUV.out.keep hbs.out, HDM7.out, HRL7.out.keep hbs.out, HPS.out, by have := HPL0.out; omega⟩
                      go_wp2_with fail
                      go_roundw
                      case rel => exact ⟨⟨va, vl, vc⟩, ⟨ca, cl, cc⟩, i + 1, rfl, rfl, by go_num, by omega, by omega, HI1⟩
                      case measure => simp only [intOf]; omega
                · have hde' : (de == 0) = false := beq_eq_false_iff_ne.2 hde
                  clear hde HRO7 HDM7
                  have hclb : cl ≤ 1000 := by have h1 := HRL7.out.len; have h2 := HPL0.out; simp only at h1; omega
                  go_wp2_with fail
                  try clear hev1
                  try clear hxb
                  try clear hx1
                  go_loopw [14] (fun jv ws => ∃ j : Nat, j ≤ cl ∧ jv = .int .i64 (j : Nat) ∧ Hid (Below w7.heap.size w7 ws)) (fun jv _ => cl - (intOf jv).toNat)
                  case atStart => exact ⟨0, Nat.zero_le _, rfl, Below.refl _ _⟩
                  case round =>
                    obtain ⟨j, hj, rfl, hbs⟩ := hrel
                    rcases Nat.lt_or_ge j cl with hjl | hjg
                    · have j1 : ((j : Nat) : Int) < ((cl : Nat) : Int) := by omega
                      have hrl := HRL7.out.keep hbs.out
                      have hlenp := hrl.len
                      simp only at hlenp
                      obtain ⟨b2, o2, hca, c0, c1⟩ := hrl.at j hjl
                      replace hca : ca = some ⟨b2, o2, none⟩ := hca
                      subst hca
                      have hp1 := HPS.out (ps.getD j (0, 0)) (getP_mem ps j (by omega))
                      have hud := HUD7.out.keep hbs.out
                      have HG := hide (getL_any sa sl sc l wr hud.us (hud.few HM.out) (ps.getD j (0, 0)).1 (ps.getD j (0, 0)).2)
                      rw [HM.out, if_pos rfl] at HG
                      have hok := (getU_iff (uns l) (c := (ps.getD j (0, 0)).1) hp1).symm
                      generalize (ps.getD j (0, 0)).1 = pc at *
                      generalize (ps.getD j (0, 0)).2 = pm at *
                      generalize (getU (uns l) pc pm).2 = gb at *
                      have HUDS := hide hud
                      have HOK := hide hok
                      have C0 := hide c0
                      have C1 := hide c1
                      clear hrl hlenp hp1 hud hok
                      go_wp2_with fail
                      refine HG.out.mono ?_
                      rintro e w8 ⟨x9, rfl, _, _, hb8⟩
                      obtain ⟨W9, hst9, _, hb9⟩ := box_un w8 x9
                      have HST := hide hst9
                      have hb89 := rBelow hb8 hb9
                      have HB9 := hide (rBelow hbs.out hb89)
                      have HU9 := hide (HUDS.out.keep hb89)
                      have D0 := hide ((hb89.cell (World.block_lt_of_cell? _ _ C0.out)).trans C0.out)
                      have D1 := hide ((hb89.cell (World.block_lt_of_cell? _ _ C1.out)).trans C1.out)
                      clear hst9 hb8 hb9 hb89 HG HUDS C0 C1 c0 c1
                      go_wp2_with (refine wpList_store _ rfl rfl 30 (.tmp 15) (.tmp 102) rfl (.pointer (some ⟨w8.heap.size, 0, none⟩)) x9.val rfl rfl W9 HST.out ?_)
                      refine Pl.region_is (ops := Pl.find 21 ((Try.f5.body).getD .skip)) (by kernel_rfl) ?_
                      refine once21 W9 W9 sa sl sc l HU9.out.us (HU9.out.few HM.out) b2 o2 cl cc j hjl pc pm D0.out D1.out gb HOK.out (Below.refl _ _) (by rfl) (by rfl) (by rfl) (by rfl) (by rfl) (by rfl) ?_
                      intro u w10 hb10
                      have HB10 := hide (rBelow HB9.out hb10)
                      clear hb10 HU9 D0 D1 HST HB9
                      simp only [Act.put, List.setIfInBounds_toArray, List.set_cons_zero, List.set_cons_succ]
                      go_wp2_with fail
                      go_roundw
                      case rel => exact ⟨j + 1, by omega, by go_num, HB10⟩
                      case measure => simp only [intOf]; omega
                    · have j1 : ¬ ((j : Nat) : Int) < ((cl : Nat) : Int) := by omega
                      have HI1 : Hid (OnI w wr ⟨sa, sl, sc⟩ ⟨ca, cl, cc⟩ (i + 1)) := ⟨l, ps, HUD7.out.keep hbs.out, HM.out, HRL7.out.keep hbs.out, HPS.out, by have := HPL0.out; omega⟩
                      go_wp2_with fail
                      go_roundw
                      case rel => exact ⟨⟨sa, sl, sc⟩, ⟨ca, cl, cc⟩, i + 1, rfl, rfl, by go_num, by omega, by omega, HI1⟩
                      case measure => simp only [intOf]; omega
              · have hev1 : ((bt : Nat) : Int) % 2 = 1 := by omega
                clear hev HDR
                have hclb : cl ≤ 1000 := by have h1 := HRL5.out.len; have h2 := HPL0.out; simp only at h1; omega
                go_wp2_with fail
                try clear hev1
                try clear hxb
                try clear hx1
                go_loopw [14] (fun jv ws => ∃ j : Nat, j ≤ cl ∧ jv = .int .i64 (j : Nat) ∧ Hid (Below w5.heap.size w5 ws)) (fun jv _ => cl - (intOf jv).toNat)
                case atStart => exact ⟨0, Nat.zero_le _, rfl, Below.refl _ _⟩
                case round =>
                  obtain ⟨j, hj, rfl, hbs⟩ := hrel
                  rcases Nat.lt_or_ge j cl with hjl | hjg
                  · have j1 : ((j : Nat) : Int) < ((cl : Nat) : Int) := by omega
                    have hrl := HRL5.out.keep hbs.out
                    have hlenp := hrl.len
                    simp only at hlenp
                    obtain ⟨b2, o2, hca, c0, c1⟩ := hrl.at j hjl
                    replace hca : ca = some ⟨b2, o2, none⟩ := hca
                    subst hca
                    have hp1 := HPS.out (ps.getD j (0, 0)) (getP_mem ps j (by omega))
                    have hud := HUD5.out.keep hbs.out
                    have HG := hide (getL_any sa sl sc l wr hud.us (hud.few HM.out) (ps.getD j (0, 0)).1 (ps.getD j (0, 0)).2)
                    rw [HM.out, if_pos rfl] at HG
                    have hok := (getU_iff (uns l) (c := (ps.getD j (0, 0)).1) hp1).symm
                    generalize (ps.getD j (0, 0)).1 = pc at *
                    generalize (ps.getD j (0, 0)).2 = pm at *
                    generalize (getU (uns l) pc pm).2 = gb at *
                    have HUDS := hide hud
                    have HOK := hide hok
                    have C0 := hide c0
                    have C1 := hide c1
                    clear hrl hlenp hp1 hud hok
                    go_wp2_with fail
                    refine HG.out.mono ?_
                    rintro e w8 ⟨x9, rfl, _, _, hb8⟩
                    obtain ⟨W9, hst9, _, hb9⟩ := box_un w8 x9
                    have HST := hide hst9
                    have hb89 := rBelow hb8 hb9
                    have HB9 := hide (rBelow hbs.out hb89)
                    have HU9 := hide (HUDS.out.keep hb89)
                    have D0 := hide ((hb89.cell (World.block_lt_of_cell? _ _ C0.out)).trans C0.out)
                    have D1 := hide ((hb89.cell (World.block_lt_of_cell? _ _ C1.out)).trans C1.out)
                    clear hst9 hb8 hb9 hb89 HG HUDS C0 C1 c0 c1
                    go_wp2_with (refine wpList_store _ rfl rfl 30 (.tmp 15) (.tmp 102) rfl (.pointer (some ⟨w8.heap.size, 0, none⟩)) x9.val rfl rfl W9 HST.out ?_)
                    refine Pl.region_is (ops := Pl.find 21 ((Try.f5.body).getD .skip)) (by kernel_rfl) ?_
                    refine once21 W9 W9 sa sl sc l HU9.out.us (HU9.out.few HM.out) b2 o2 cl cc j hjl pc pm D0.out D1.out gb HOK.out (Below.refl _ _) (by rfl) (by rfl) (by rfl) (by rfl) (by rfl) (by rfl) ?_
                    intro u w10 hb10
                    have HB10 := hide (rBelow HB9.out hb10)
                    clear hb10 HU9 D0 D1 HST HB9
                    simp only [Act.put, List.setIfInBounds_toArray, List.set_cons_zero, List.set_cons_succ]
                    go_wp2_with fail
                    go_roundw
                    case rel => exact ⟨j + 1, by omega, by go_num, HB10⟩
                    case measure => simp only [intOf]; omega
                  · have j1 : ¬ ((j : Nat) : Int) < ((cl : Nat) : Int) := by omega
                    have HI1 : Hid (OnI w wr ⟨sa, sl, sc⟩ ⟨ca, cl, cc⟩ (i + 1)) := ⟨l, ps, HUD5.out.keep hbs.out, HM.out, HRL5.out.keep hbs.out, HPS.out, by have := HPL0.out; omega⟩
                    go_wp2_with fail
                    go_roundw
                    case rel => exact ⟨⟨sa, sl, sc⟩, ⟨ca, cl, cc⟩, i + 1, rfl, rfl, by go_num, by omega, by omega, HI1⟩
                    case measure => simp only [intOf]; omega
            · have d1 : ¬ ((i : Nat) : Int) < ((dn : Nat) : Int) := by omega
              have hclb : cl ≤ 1000 := by have h1 := HRL5.out.len; have h2 := HPL0.out; simp only at h1; omega
              go_wp2_with fail
              try clear hev1
              try clear hxb
              try clear hx1
              go_loopw [14] (fun jv ws => ∃ j : Nat, j ≤ cl ∧ jv = .int .i64 (j : Nat) ∧ Hid (Below w5.heap.size w5 ws)) (fun jv _ => cl - (intOf jv).toNat)
              case atStart => exact ⟨0, Nat.zero_le _, rfl, Below.refl _ _⟩
              case round =>
                obtain ⟨j, hj, rfl, hbs⟩ := hrel
                rcases Nat.lt_or_ge j cl with hjl | hjg
                · have j1 : ((j : Nat) : Int) < ((cl : Nat) : Int) := by omega
                  have hrl := HRL5.out.keep hbs.out
                  have hlenp := hrl.len
                  simp only at hlenp
                  obtain ⟨b2, o2, hca, c0, c1⟩ := hrl.at j hjl
                  replace hca : ca = some ⟨b2, o2, none⟩ := hca
                  subst hca
                  have hp1 := HPS.out (ps.getD j (0, 0)) (getP_mem ps j (by omega))
                  have hud := HUD5.out.keep hbs.out
                  have HG := hide (getL_any sa sl sc l wr hud.us (hud.few HM.out) (ps.getD j (0, 0)).1 (ps.getD j (0, 0)).2)
                  rw [HM.out, if_pos rfl] at HG
                  have hok := (getU_iff (uns l) (c := (ps.getD j (0, 0)).1) hp1).symm
                  generalize (ps.getD j (0, 0)).1 = pc at *
                  generalize (ps.getD j (0, 0)).2 = pm at *
                  generalize (getU (uns l) pc pm).2 = gb at *
                  have HUDS := hide hud
                  have HOK := hide hok
                  have C0 := hide c0
                  have C1 := hide c1
                  clear hrl hlenp hp1 hud hok
                  go_wp2_with fail
                  refine HG.out.mono ?_
                  rintro e w8 ⟨x9, rfl, _, _, hb8⟩
                  obtain ⟨W9, hst9, _, hb9⟩ := box_un w8 x9
                  have HST := hide hst9
                  have hb89 := rBelow hb8 hb9
                  have HB9 := hide (rBelow hbs.out hb89)
                  have HU9 := hide (HUDS.out.keep hb89)
                  have D0 := hide ((hb89.cell (World.block_lt_of_cell? _ _ C0.out)).trans C0.out)
                  have D1 := hide ((hb89.cell (World.block_lt_of_cell? _ _ C1.out)).trans C1.out)
                  clear hst9 hb8 hb9 hb89 HG HUDS C0 C1 c0 c1
                  go_wp2_with (refine wpList_store _ rfl rfl 30 (.tmp 15) (.tmp 102) rfl (.pointer (some ⟨w8.heap.size, 0, none⟩)) x9.val rfl rfl W9 HST.out ?_)
                  refine Pl.region_is (ops := Pl.find 21 ((Try.f5.body).getD .skip)) (by kernel_rfl) ?_
                  refine once21 W9 W9 sa sl sc l HU9.out.us (HU9.out.few HM.out) b2 o2 cl cc j hjl pc pm D0.out D1.out gb HOK.out (Below.refl _ _) (by rfl) (by rfl) (by rfl) (by rfl) (by rfl) (by rfl) ?_
                  intro u w10 hb10
                  have HB10 := hide (rBelow HB9.out hb10)
                  clear hb10 HU9 D0 D1 HST HB9
                  simp only [Act.put, List.setIfInBounds_toArray, List.set_cons_zero, List.set_cons_succ]
                  go_wp2_with fail
                  go_roundw
                  case rel => exact ⟨j + 1, by omega, by go_num, HB10⟩
                  case measure => simp only [intOf]; omega
                · have j1 : ¬ ((j : Nat) : Int) < ((cl : Nat) : Int) := by omega
                  have HI1 : Hid (OnI w wr ⟨sa, sl, sc⟩ ⟨ca, cl, cc⟩ (i + 1)) := ⟨l, ps, HUD5.out.keep hbs.out, HM.out, HRL5.out.keep hbs.out, HPS.out, by have := HPL0.out; omega⟩
                  go_wp2_with fail
                  go_roundw
                  case rel => exact ⟨⟨sa, sl, sc⟩, ⟨ca, cl, cc⟩, i + 1, rfl, rfl, by go_num, by omega, by omega, HI1⟩
                  case measure => simp only [intOf]; omega
      · have i2 : ¬ ((i : Nat) : Int) < 40 := by omega
        have HBR : Hid (Below w.heap.size w wr) := by obtain ⟨l, ps, hud, _⟩ := hI.out; exact hud.below
        clear hI
        go_wp2_with fail
        refine (HAW.out _).mono ?_
        rintro e w2 ⟨rfl, hb2⟩
        have HB2 := hide (rBelow HBR.out hb2)
        clear hb2
        go_wp2_with fail
        go_ret
        exact ⟨rfl, HB2.out⟩
    · have i1 : ¬ ((i : Nat) : Int) < ((n : Nat) : Int) := by omega
      have HBR : Hid (Below w.heap.size w wr) := by obtain ⟨l, ps, hud, _⟩ := hI.out; exact hud.below
      clear hI
      go_wp2_with fail
      refine (HAW.out _).mono ?_
      rintro e w2 ⟨rfl, hb2⟩
      have HB2 := hide (rBelow HBR.out hb2)
      clear hb2
      go_wp2_with fail
      go_ret
      exact ⟨rfl, HB2.out⟩

end Go.Proofs.Ytpdkeghmpnanpaa
