/-
  The landed device: Trim.
-/
import Derived.Test.YtokdeilcfkobfaaLdE
namespace Go.Proofs.Ytokdeilcfkobfaa
open Go.RowKit

theorem Pl.buildV {P : Program} {ops : Array Oper} {S : World → Prop} {n : Nat} {f : Nat → Value} (i : Nat) (t : TypeId) (parts : List (Nat × Operand)) (v : Value) (h : (Pl.op ops i).op = .build t parts.toArray) (hx : parts.all (fun p => Pl.inB n p.2) = true) (hv : ∀ w, (Instr.build t (parts.map fun p => (p.1, Pl.ev f p.2)).toArray).run P w = .ok v w) :
    ∀ A, Pl.At n A f → ∀ w, S w → (execOp A.eval (Pl.op ops i)).run P w = .ok (.value v) w := by
  intro A hA w _
  have e : execOp A.eval (Pl.op ops i) = (do pure (.value (← Instr.build t (parts.toArray.map fun p => (p.1, A.eval p.2))))) := by
    unfold execOp
    rw [h]
  have hm : (parts.toArray.map fun p => (p.1, A.eval p.2)) = (parts.map fun p => (p.1, Pl.ev f p.2)).toArray := by
    simp only [List.map_toArray]
    congr 1
    apply List.map_congr_left
    intro p hp
    rw [hA.ev p.2 (List.all_eq_true.1 hx p hp)]
  rw [e, hm]
  simp [hv w]

theorem infoT : (Try.prog.info? 83).map (fun i => (i.zero, i.size, i.bytes)) = some (some (.agg #[.int .i64 0, .int .i64 0]), 2, 16) := by kernel_rfl
theorem tmCells_one (l : List Tm) : ∀ u ∈ tmCells l, u.oneCell' = true := by
  intro u hu
  obtain ⟨i, _, hi⟩ := List.mem_flatMap.1 hu
  simp only [Tm.cells, List.mem_cons, List.mem_nil_iff, or_false] at hi
  rcases hi with rfl | rfl <;> rfl
theorem tmCells_append (l m : List Tm) : tmCells (l ++ m) = tmCells l ++ tmCells m := by simp [tmCells]
theorem build_tm (a b : Int) (w : World) : (Instr.build 83 #[(0, .int .i64 a), (1, .int .i64 b)]).run Try.prog w = .ok (.agg #[.int .i64 a, .int .i64 b]) w := by simp [go_sem, Instr.build]
theorem build_tm1 (a b : Int) (w : World) : (Instr.buildSlice 67 1 #[(0, .agg #[.int .i64 a, .int .i64 b])]).run Try.prog w = .ok (.slice (some ⟨w.heap.size, 0, none⟩) 1 1) (w.alloc (.cells #[.int .i64 a, .int .i64 b] 83)) := by
  simp [go_sem, Instr.buildSlice]

/-- A trimming more. -/
theorem DevM.appT {w : World} {p : Nat} {D : Ds} {L : Dl} (h : DevM w p D L) (g : Nat) (x : Tm) (hg : w.heap[g]? = some (.cells #[.int .i64 ((x.ahead : Nat) : Int), .int .i64 ((x.place : Nat) : Int)] 83 (0, 0))) (hm : D.tr.length ≤ 100000) :
    ∃ s' w1, (∀ ty, (Builtin.append_ #[67, 67] ty #[L.tr.val, .slice (some ⟨g, 0, none⟩) 1 1]).run Try.prog w = .ok s'.val w1) ∧ Own 83 2 w1 s' (tmCells (D.tr ++ [x])) ∧ Frm (fun k => L.tr.blk = some k) w w1 ∧ (∀ k, s'.blk = some k → L.tr.blk = some k ∨ w.heap.size ≤ k) := by
  have hl := h.lenT
  have hsrc : Src Try.prog 2 67 (.slice (some ⟨g, 0, none⟩) 1 1) 1 (tmCells [x]) w := by
    refine Src.ofSlice w Try.underlying67 ⟨g, 0, none⟩ 1 1 (tmCells [x]) rfl (fun j u hj => ?_) (tmCells_one _)
    rw [Addr.add_lit, Nat.zero_add, Addr.cell0 hg]
    rw [← hj]
    rcases j with _ | _ | j
    · rfl
    · rfl
    · simp [tmCells, Tm.cells]
  obtain ⟨s', w1, hr, ho, _, hf, hb⟩ := own_append (S := 67) Try.underlying67 infoT rfl (by omega) w L.tr _ h.tr (tmCells_one _) _ 1 _ hsrc (by omega) 67
  refine ⟨s', w1, fun ty => hr, by rw [tmCells_append]; exact ho, hf, fun k hk => ?_⟩
  rcases hb with e | ⟨e, _⟩
  · exact .inl (by rw [← e]; exact hk)
  · rw [e] at hk
    cases hk
    exact .inr (Nat.le_refl _)

set_option maxHeartbeats 2000000 in
set_option maxRecDepth 100000 in
theorem trim5 (w : World) (p : Nat) (D : Ds) (L : Dl) (h : DevM w p D L) (pl : Nat) (hu : D.units ≤ 1000000000) (hm : D.tr.length ≤ 100000)
    {Q : Exit → Act → World → Prop} {A : Act} (hsz : A.tmps.size = 46) (hdf : A.defers = []) (s0 : A.tmps.getD 0 undef = .pointer (some ⟨p, 0, none⟩)) (s1 : A.tmps.getD 1 undef = .int .i64 ((pl : Nat) : Int))
    (hend : ∀ (u : Nat → Value) w', (∃ L', Turned w p L w' { D with tr := D.tr ++ [⟨D.units, pl⟩] } L') → Q .normal ((((((((((((((A).put (some 33) (u 33)).put (some 34) (u 34)).put (some 35) (u 35)).put (some 36) (u 36)).put (some 38) (u 38)).put (some 40) (u 40)).put (some 37) (u 37)).put (some 39) (u 39)).put (some 41) (u 41)).put (some 42) (u 42)).put (some 43) (u 43)).put (some 44) (u 44)).put (some 45) (u 45)) w') :
    (Code.region 5 (Pl.find 5 ((Try.f18.body).getD .skip)) true).wp Try.prog Q A w := by
  have hA := Pl.At.same (v := .int .i64 ((pl : Nat) : Int)) (d := 1) (Pl.At.same (v := .pointer (some ⟨p, 0, none⟩)) (d := 0) (Pl.At.here hsz hdf) s0) s1
  refine Pl.H.start (S := fun _ => True) (by kernel_rfl) hA True.intro ?_
  rw [show (Pl.find 5 ((Try.f18.body).getD .skip)).size = 14 by kernel_rfl]
  refine Pl.H.take 0 33 (.pointer (some ⟨p, 0, none⟩)) (by kernel_rfl) (by kernel_rfl) (by kernel_rfl) (Pl.free 0 (by kernel_rfl)) (Pl.move 0 (.tmp 0) (by kernel_rfl) (by decide)) True.intro ?_
  refine Pl.H.take 1 34 (.pointer (some ⟨p, 0, none⟩)) (by kernel_rfl) (by kernel_rfl) (by kernel_rfl) (Pl.free 1 (by kernel_rfl)) (Pl.move 1 (.tmp 0) (by kernel_rfl) (by decide)) True.intro ?_
  refine Pl.H.take 2 35 (.pointer (some ⟨p, 0, none⟩)) (by kernel_rfl) (by kernel_rfl) (by kernel_rfl) (Pl.free 2 (by kernel_rfl)) (Pl.nilc 2 (.tmp 34) _ (by kernel_rfl) (by decide) rfl) True.intro ?_
  refine Pl.H.take 3 36 (.pointer (some ⟨p, 8, none⟩)) (by kernel_rfl) (by kernel_rfl) (by kernel_rfl) (Pl.free 3 (by kernel_rfl)) (Pl.field 3 69 (.tmp 35) 4 _ (by kernel_rfl) (by decide) (fdDev4_0 p)) True.intro ?_
  refine Pl.H.take 5 38 (.pointer (some ⟨p, 0, none⟩)) (by kernel_rfl) (by kernel_rfl) (by kernel_rfl) (Pl.free 5 (by kernel_rfl)) (Pl.move 5 (.tmp 0) (by kernel_rfl) (by decide)) True.intro ?_
  refine Pl.H.take 7 40 (.int .i64 ((pl : Nat) : Int)) (by kernel_rfl) (by kernel_rfl) (by kernel_rfl) (Pl.free 7 (by kernel_rfl)) (Pl.move 7 (.tmp 1) (by kernel_rfl) (by decide)) True.intro ?_
  refine Pl.H.two 4 6 (by kernel_rfl) ?_ ?_
  · refine Pl.HOp.value 4 37 (.slice L.tr.a L.tr.len L.tr.cap) w.drew (by kernel_rfl) (by kernel_rfl) (by kernel_rfl) (Pl.load1 4 67 (.tmp 36) _ (by kernel_rfl) (by decide) (ldTs p 8 _ _ _ _ h.drew.c8)) True.intro ?_
    refine Pl.H.call 6 39 38 [(.tmp 38)] #[23] (by kernel_rfl) (by kernel_rfl) (by kernel_rfl) (Pl.free 6 (by kernel_rfl)) (by kernel_rfl) (by decide) entUnits (Calls.mono (units_any w.drew p D L h.drew hu) ?_)
    rintro e w2 ⟨rfl, hb2⟩
    have hd2 := h.drew.keep hb2
    refine ⟨.int .i64 ((D.units : Nat) : Int), rfl, True.intro, ?_⟩
    refine Pl.H.take 8 41 (.agg #[.int .i64 ((D.units : Nat) : Int), .int .i64 ((pl : Nat) : Int)]) (by kernel_rfl) (by kernel_rfl) (by kernel_rfl) (Pl.free 8 (by kernel_rfl)) (Pl.buildV 8 83 [(0, .tmp 39), (1, .tmp 40)] _ (by kernel_rfl) (by decide) (build_tm _ _)) True.intro ?_
    have hd3 := hd2.keep (below_alloc w2 (.cells #[.int .i64 ((D.units : Nat) : Int), .int .i64 ((pl : Nat) : Int)] 83))
    refine Pl.H.make 9 42 (.slice (some ⟨w2.heap.size, 0, none⟩) 1 1) (w2.alloc (.cells #[.int .i64 ((D.units : Nat) : Int), .int .i64 ((pl : Nat) : Int)] 83)) (by kernel_rfl) (by kernel_rfl) (by kernel_rfl) (Pl.free 9 (by kernel_rfl)) (Pl.one 9 67 (.tmp 41) _ _ (by kernel_rfl) (by decide) (build_tm1 _ _ w2)) True.intro ?_
    obtain ⟨s4, w4, hr4, ho4, hf4, hb4⟩ := hd3.appT w2.heap.size ⟨D.units, pl⟩ (heap_alloc_new w2 _) hm
    have hT := (Turned.same h ((below_drew w).trans (hb2.trans (below_alloc w2 (.cells #[.int .i64 ((D.units : Nat) : Int), .int .i64 ((pl : Nat) : Int)] 83) |>.mono hb2.size)))).trans (hd3.swapT s4 _ hf4 ho4 hb4)
    have hp4 := hf4.pblk hd3 hd3.neT
    refine Pl.H.make 10 43 (s4.val) w4 (by kernel_rfl) (by kernel_rfl) (by kernel_rfl) (Pl.free 10 (by kernel_rfl)) (Pl.appT 10 67 67 (.tmp 37) (.tmp 42) _ _ (by kernel_rfl) (by kernel_rfl) (by decide) (by decide) (hr4 _)) True.intro ?_
    refine Pl.H.take 11 44 (.pointer (some ⟨p, 0, none⟩)) (by kernel_rfl) (by kernel_rfl) (by kernel_rfl) (Pl.free 11 (by kernel_rfl)) (Pl.nilc 11 (.tmp 33) _ (by kernel_rfl) (by decide) rfl) True.intro ?_
    refine Pl.H.take 12 45 (.pointer (some ⟨p, 8, none⟩)) (by kernel_rfl) (by kernel_rfl) (by kernel_rfl) (Pl.free 12 (by kernel_rfl)) (Pl.field 12 69 (.tmp 44) 4 _ (by kernel_rfl) (by decide) (fdDev4_0 p)) True.intro ?_
    refine Pl.H.store 13 (w4.setCell ⟨p, 8, none⟩ s4.val) (by kernel_rfl) (by kernel_rfl) (by kernel_rfl) (Pl.free 13 (by kernel_rfl)) (Pl.storeV 13 67 (.tmp 45) (.tmp 43) _ (by kernel_rfl) (by decide) (by decide) (stTs p 8 _ _ w4 (Addr.cell0 hp4) (frozen_of_row w4 p _ _ 69 hp4))) True.intro ?_
    refine Pl.H.done (by kernel_rfl) (fun A' hA' => ?_)
    rw [Pl.At.ext hA' (((((((((((((hA.put 33 _).put 34 _).put 35 _).put 36 _).put 38 _).put 40 _).put 37 _).put 39 _).put 41 _).put 42 _).put 43 _).put 44 _).put 45 _)]
    exact hend (fun d => if d = 33 then .pointer (some ⟨p, 0, none⟩) else if d = 34 then .pointer (some ⟨p, 0, none⟩) else if d = 35 then .pointer (some ⟨p, 0, none⟩) else if d = 36 then .pointer (some ⟨p, 8, none⟩) else if d = 38 then .pointer (some ⟨p, 0, none⟩) else if d = 40 then .int .i64 ((pl : Nat) : Int) else if d = 37 then .slice L.tr.a L.tr.len L.tr.cap else if d = 39 then .int .i64 ((D.units : Nat) : Int) else if d = 41 then .agg #[.int .i64 ((D.units : Nat) : Int), .int .i64 ((pl : Nat) : Int)] else if d = 42 then .slice (some ⟨w2.heap.size, 0, none⟩) 1 1 else if d = 43 then s4.val else if d = 44 then .pointer (some ⟨p, 0, none⟩) else if d = 45 then .pointer (some ⟨p, 8, none⟩) else undef) _ ⟨_, hT⟩
  · refine Pl.HOp.call 6 39 38 [(.tmp 38)] #[23] (by kernel_rfl) (by kernel_rfl) (by kernel_rfl) (by kernel_rfl) (by decide) entUnits (Calls.mono (units_any w.drew p D L h.drew hu) ?_)
    rintro e w2 ⟨rfl, hb2⟩
    have hd2 := h.drew.keep hb2
    refine ⟨.int .i64 ((D.units : Nat) : Int), rfl, True.intro, ?_⟩
    refine Pl.H.take 8 41 (.agg #[.int .i64 ((D.units : Nat) : Int), .int .i64 ((pl : Nat) : Int)]) (by kernel_rfl) (by kernel_rfl) (by kernel_rfl) (Pl.free 8 (by kernel_rfl)) (Pl.buildV 8 83 [(0, .tmp 39), (1, .tmp 40)] _ (by kernel_rfl) (by decide) (build_tm _ _)) True.intro ?_
    refine Pl.H.two 4 9 (by kernel_rfl) ?_ ?_
    · refine Pl.HOp.value 4 37 (.slice L.tr.a L.tr.len L.tr.cap) w2 (by kernel_rfl) (by kernel_rfl) (by kernel_rfl) (Pl.load1 4 67 (.tmp 36) _ (by kernel_rfl) (by decide) (ldTs p 8 _ _ _ _ hd2.c8)) True.intro ?_
      rw [Pl.upd_comm _ 41 37 _ _ (by decide)]
      rw [Pl.upd_comm _ 39 37 _ _ (by decide)]
      have hd3 := hd2.keep (below_alloc w2 (.cells #[.int .i64 ((D.units : Nat) : Int), .int .i64 ((pl : Nat) : Int)] 83))
      refine Pl.H.make 9 42 (.slice (some ⟨w2.heap.size, 0, none⟩) 1 1) (w2.alloc (.cells #[.int .i64 ((D.units : Nat) : Int), .int .i64 ((pl : Nat) : Int)] 83)) (by kernel_rfl) (by kernel_rfl) (by kernel_rfl) (Pl.free 9 (by kernel_rfl)) (Pl.one 9 67 (.tmp 41) _ _ (by kernel_rfl) (by decide) (build_tm1 _ _ w2)) True.intro ?_
      obtain ⟨s4, w4, hr4, ho4, hf4, hb4⟩ := hd3.appT w2.heap.size ⟨D.units, pl⟩ (heap_alloc_new w2 _) hm
      have hT := (Turned.same h ((below_drew w).trans (hb2.trans (below_alloc w2 (.cells #[.int .i64 ((D.units : Nat) : Int), .int .i64 ((pl : Nat) : Int)] 83) |>.mono hb2.size)))).trans (hd3.swapT s4 _ hf4 ho4 hb4)
      have hp4 := hf4.pblk hd3 hd3.neT
      refine Pl.H.make 10 43 (s4.val) w4 (by kernel_rfl) (by kernel_rfl) (by kernel_rfl) (Pl.free 10 (by kernel_rfl)) (Pl.appT 10 67 67 (.tmp 37) (.tmp 42) _ _ (by kernel_rfl) (by kernel_rfl) (by decide) (by decide) (hr4 _)) True.intro ?_
      refine Pl.H.take 11 44 (.pointer (some ⟨p, 0, none⟩)) (by kernel_rfl) (by kernel_rfl) (by kernel_rfl) (Pl.free 11 (by kernel_rfl)) (Pl.nilc 11 (.tmp 33) _ (by kernel_rfl) (by decide) rfl) True.intro ?_
      refine Pl.H.take 12 45 (.pointer (some ⟨p, 8, none⟩)) (by kernel_rfl) (by kernel_rfl) (by kernel_rfl) (Pl.free 12 (by kernel_rfl)) (Pl.field 12 69 (.tmp 44) 4 _ (by kernel_rfl) (by decide) (fdDev4_0 p)) True.intro ?_
      refine Pl.H.store 13 (w4.setCell ⟨p, 8, none⟩ s4.val) (by kernel_rfl) (by kernel_rfl) (by kernel_rfl) (Pl.free 13 (by kernel_rfl)) (Pl.storeV 13 67 (.tmp 45) (.tmp 43) _ (by kernel_rfl) (by decide) (by decide) (stTs p 8 _ _ w4 (Addr.cell0 hp4) (frozen_of_row w4 p _ _ 69 hp4))) True.intro ?_
      refine Pl.H.done (by kernel_rfl) (fun A' hA' => ?_)
      rw [Pl.At.ext hA' (((((((((((((hA.put 33 _).put 34 _).put 35 _).put 36 _).put 38 _).put 40 _).put 37 _).put 39 _).put 41 _).put 42 _).put 43 _).put 44 _).put 45 _)]
      exact hend (fun d => if d = 33 then .pointer (some ⟨p, 0, none⟩) else if d = 34 then .pointer (some ⟨p, 0, none⟩) else if d = 35 then .pointer (some ⟨p, 0, none⟩) else if d = 36 then .pointer (some ⟨p, 8, none⟩) else if d = 38 then .pointer (some ⟨p, 0, none⟩) else if d = 40 then .int .i64 ((pl : Nat) : Int) else if d = 37 then .slice L.tr.a L.tr.len L.tr.cap else if d = 39 then .int .i64 ((D.units : Nat) : Int) else if d = 41 then .agg #[.int .i64 ((D.units : Nat) : Int), .int .i64 ((pl : Nat) : Int)] else if d = 42 then .slice (some ⟨w2.heap.size, 0, none⟩) 1 1 else if d = 43 then s4.val else if d = 44 then .pointer (some ⟨p, 0, none⟩) else if d = 45 then .pointer (some ⟨p, 8, none⟩) else undef) _ ⟨_, hT⟩
    · have hd3 := hd2.keep (below_alloc w2 (.cells #[.int .i64 ((D.units : Nat) : Int), .int .i64 ((pl : Nat) : Int)] 83))
      refine Pl.HOp.value 9 42 (.slice (some ⟨w2.heap.size, 0, none⟩) 1 1) (w2.alloc (.cells #[.int .i64 ((D.units : Nat) : Int), .int .i64 ((pl : Nat) : Int)] 83)) (by kernel_rfl) (by kernel_rfl) (by kernel_rfl) (Pl.one 9 67 (.tmp 41) _ _ (by kernel_rfl) (by decide) (build_tm1 _ _ w2)) True.intro ?_
      refine Pl.H.solo 4 37 (.slice L.tr.a L.tr.len L.tr.cap) (by kernel_rfl) (by kernel_rfl) (by kernel_rfl) (Pl.free 4 (by kernel_rfl)) (Pl.load1 4 67 (.tmp 36) _ (by kernel_rfl) (by decide) (ldTs p 8 _ _ _ _ hd3.c8)) True.intro ?_
      rw [Pl.upd_comm _ 42 37 _ _ (by decide)]
      rw [Pl.upd_comm _ 41 37 _ _ (by decide)]
      rw [Pl.upd_comm _ 39 37 _ _ (by decide)]
      obtain ⟨s4, w4, hr4, ho4, hf4, hb4⟩ := hd3.appT w2.heap.size ⟨D.units, pl⟩ (heap_alloc_new w2 _) hm
      have hT := (Turned.same h ((below_drew w).trans (hb2.trans (below_alloc w2 (.cells #[.int .i64 ((D.units : Nat) : Int), .int .i64 ((pl : Nat) : Int)] 83) |>.mono hb2.size)))).trans (hd3.swapT s4 _ hf4 ho4 hb4)
      have hp4 := hf4.pblk hd3 hd3.neT
      refine Pl.H.make 10 43 (s4.val) w4 (by kernel_rfl) (by kernel_rfl) (by kernel_rfl) (Pl.free 10 (by kernel_rfl)) (Pl.appT 10 67 67 (.tmp 37) (.tmp 42) _ _ (by kernel_rfl) (by kernel_rfl) (by decide) (by decide) (hr4 _)) True.intro ?_
      refine Pl.H.take 11 44 (.pointer (some ⟨p, 0, none⟩)) (by kernel_rfl) (by kernel_rfl) (by kernel_rfl) (Pl.free 11 (by kernel_rfl)) (Pl.nilc 11 (.tmp 33) _ (by kernel_rfl) (by decide) rfl) True.intro ?_
      refine Pl.H.take 12 45 (.pointer (some ⟨p, 8, none⟩)) (by kernel_rfl) (by kernel_rfl) (by kernel_rfl) (Pl.free 12 (by kernel_rfl)) (Pl.field 12 69 (.tmp 44) 4 _ (by kernel_rfl) (by decide) (fdDev4_0 p)) True.intro ?_
      refine Pl.H.store 13 (w4.setCell ⟨p, 8, none⟩ s4.val) (by kernel_rfl) (by kernel_rfl) (by kernel_rfl) (Pl.free 13 (by kernel_rfl)) (Pl.storeV 13 67 (.tmp 45) (.tmp 43) _ (by kernel_rfl) (by decide) (by decide) (stTs p 8 _ _ w4 (Addr.cell0 hp4) (frozen_of_row w4 p _ _ 69 hp4))) True.intro ?_
      refine Pl.H.done (by kernel_rfl) (fun A' hA' => ?_)
      rw [Pl.At.ext hA' (((((((((((((hA.put 33 _).put 34 _).put 35 _).put 36 _).put 38 _).put 40 _).put 37 _).put 39 _).put 41 _).put 42 _).put 43 _).put 44 _).put 45 _)]
      exact hend (fun d => if d = 33 then .pointer (some ⟨p, 0, none⟩) else if d = 34 then .pointer (some ⟨p, 0, none⟩) else if d = 35 then .pointer (some ⟨p, 0, none⟩) else if d = 36 then .pointer (some ⟨p, 8, none⟩) else if d = 38 then .pointer (some ⟨p, 0, none⟩) else if d = 40 then .int .i64 ((pl : Nat) : Int) else if d = 37 then .slice L.tr.a L.tr.len L.tr.cap else if d = 39 then .int .i64 ((D.units : Nat) : Int) else if d = 41 then .agg #[.int .i64 ((D.units : Nat) : Int), .int .i64 ((pl : Nat) : Int)] else if d = 42 then .slice (some ⟨w2.heap.size, 0, none⟩) 1 1 else if d = 43 then s4.val else if d = 44 then .pointer (some ⟨p, 0, none⟩) else if d = 45 then .pointer (some ⟨p, 8, none⟩) else undef) _ ⟨_, hT⟩

/-- A device behind a trimming. -/
def Ds.trim0 (D : Ds) (pl : Nat) : Ds := { D with ss := D.ss.drop (pl - D.sb), sb := pl }
def Ds.trim (D : Ds) (pl : Nat) : Ds := if (D.trim0 pl).spent 1 = 1 then { (D.trim0 pl).spend 1 with tr := D.tr ++ [⟨D.units, pl⟩] } else (D.trim0 pl).spend 1
theorem Ds.spend_units (D : Ds) (n : Nat) : (D.spend n).units = D.units := by
  unfold Ds.units
  rw [D.spend_tr, show (D.spend n).ap = D.ap from D.spend_b n .ap]

set_option maxHeartbeats 4000000 in
theorem trim_ok (w : World) (p : Nat) (D : Ds) (L : Dl) (h : DevM w p D L) (n : Nat) (hn : D.sp.length = 512 * n) (hn2 : n ≤ 64) (hn1 : 1 ≤ n) (pl : Nat) (h1 : D.sb ≤ pl) (h2 : pl ≤ D.sb + D.ss.length) (h3 : D.sb + D.ss.length ≤ 1000000000000) (hl : D.armed = true → 0 ≤ D.left ∧ D.left ≤ 9223372036854775807) (hu : D.units ≤ 1000000000) (hm : D.tr.length ≤ 100000) :
    Calls Try.prog 18 #[at0 p, .int .i64 ((pl : Nat) : Int)] w fun e w' => e = .returned (.int .i64 0) ∧ ∃ L', Turned w p L w' (D.trim pl) L' := by
  have HG := hide (given_any w p D L h n hn hn2 hn1)
  have HE := hide (end_any w p D L h h3)
  have HTR : Hid (∀ w', Below w.heap.size w w' → Calls Try.prog 37 #[.pointer (some ⟨p, 0, none⟩), .int .i64 ((pl : Nat) : Int)] w' fun e w2 => e = .returned (.tuple #[]) ∧ ∃ L', Turned w' p L w2 (D.trim0 pl) L') := fun w' hb => trimS w' p D L (h.keep hb) pl h1 h2 (by omega)
  have HSP : Hid (∀ w' L', DevM w' p (D.trim0 pl) L' → Calls Try.prog 33 #[at0 p, .int .i64 1] w' fun e w2 => e = .returned (.int .i64 (((D.trim0 pl).spent 1 : Nat) : Int)) ∧ DevM w2 p ((D.trim0 pl).spend 1) L' ∧ Frm (fun k => k = p) w' w2 ∧ w2.heap.size = w'.heap.size) := fun w' L' hd => spend_any w' p _ L' hd 1 hl (by omega)
  have HR : Hid (∀ w' L', DevM w' p ((D.trim0 pl).spend 1) L' → ∀ {Q : Exit → Act → World → Prop} {A : Act}, _) := fun w' L' hd {Q A} => trim5 w' p _ L' hd pl (by rw [Ds.spend_units]; exact hu) (by rw [Ds.spend_tr]; exact hm) (Q := Q) (A := A)
  have c1 := h.c1
  have HS := hide h
  have i1 : ¬ (((pl : Nat) : Int) < ((D.sb : Nat) : Int)) := by omega
  have i2 : ¬ ((((D.sb + D.ss.length : Nat)) : Int) < ((pl : Nat) : Int)) := by omega
  have i1' : ¬ (pl < D.sb) := by omega
  have i2' : ¬ (D.sb + D.ss.length < pl) := by omega
  have i1n : D.sb ≤ pl := h1
  have i2n : pl ≤ D.sb + D.ss.length := h2
  have hsle := (D.trim0 pl).spent_le 1
  have hty : (D.trim0 pl).spent 1 = 0 ∨ (D.trim0 pl).spent 1 = 1 := by omega
  have HD0 : Hid (((D.trim0 pl).spend 1).tr = D.tr) := ((D.trim0 pl).spend_tr 1)
  have HD1 : Hid (((D.trim0 pl).spend 1).units = D.units) := ((D.trim0 pl).spend_units 1)
  generalize hSB : D.sb + D.ss.length = SB at HE i2 i2' i2n
  have HDT : Hid (D.trim pl = if (D.trim0 pl).spent 1 = 1 then { (D.trim0 pl).spend 1 with tr := D.tr ++ [⟨D.units, pl⟩] } else (D.trim0 pl).spend 1) := rfl
  clear h hn h3 hl hu hm hSB hsle h1 h2
  unfold at0 at *
  rcases hty with hty | hty
  · rw [hty] at HSP HDT
    go_enter Try.func18, Try.ntmps18
    go_wp2_with fail
    refine HG.out.mono ?_
    rintro e w' ⟨rfl, hw⟩
    obtain rfl := hw.symm
    go_wp2_with fail
    refine HE.out.mono ?_
    rintro e w1 ⟨rfl, hb1⟩
    have HB1 := hide hb1
    clear hb1
    go_wp2_with fail
    refine (HTR.out w1 HB1.out).mono ?_
    rintro e w2 ⟨rfl, L2, hT2⟩
    have HT2 := hide ((Turned.same HS.out HB1.out).trans hT2)
    clear hT2
    go_wp2_with fail
    refine (HSP.out w2 L2 HT2.out.dev).mono ?_
    rintro e w3 ⟨rfl, hd3, hf3, _⟩
    have HT3 := hide (HT2.out.trans (Turned.cell hd3 hf3))
    clear hd3 hf3
    go_wp2_with fail
    go_ret
    refine ⟨rfl, L2, ?_⟩
    have := HDT.out
    rw [if_neg (by decide)] at this
    rw [this]
    exact HT3.out
  · rw [hty] at HSP HDT
    go_enter Try.func18, Try.ntmps18
    go_wp2_with fail
    refine HG.out.mono ?_
    rintro e w' ⟨rfl, hw⟩
    obtain rfl := hw.symm
    go_wp2_with fail
    refine HE.out.mono ?_
    rintro e w1 ⟨rfl, hb1⟩
    have HB1 := hide hb1
    clear hb1
    go_wp2_with fail
    refine (HTR.out w1 HB1.out).mono ?_
    rintro e w2 ⟨rfl, L2, hT2⟩
    have HT2 := hide ((Turned.same HS.out HB1.out).trans hT2)
    clear hT2
    go_wp2_with fail
    refine (HSP.out w2 L2 HT2.out.dev).mono ?_
    rintro e w3 ⟨rfl, hd3, hf3, _⟩
    have HT3 := hide (HT2.out.trans (Turned.cell hd3 hf3))
    clear hd3 hf3
    go_wp2_with fail
    refine Pl.region_is (ops := Pl.find 5 ((Try.f18.body).getD .skip)) (by kernel_rfl) ?_
    refine HR.out w3 L2 HT3.out.dev (by rfl) rfl (by rfl) (by rfl) ?_
    rintro u w4 ⟨L4, hT4⟩
    have HT4 := hide (HT3.out.trans hT4)
    simp only [Act.put, List.setIfInBounds_toArray, List.set_cons_zero, List.set_cons_succ]
    clear hT4
    go_wp2_with fail
    go_ret
    refine ⟨rfl, L4, ?_⟩
    have := HDT.out
    rw [if_pos True.intro] at this
    rw [this]
    have e := HT4.out
    rw [HD0.out, HD1.out] at e
    exact e

set_option maxHeartbeats 4000000 in
theorem trim_bad (w : World) (p : Nat) (D : Ds) (L : Dl) (h : DevM w p D L) (n : Nat) (hn : D.sp.length = 512 * n) (hn2 : n ≤ 64) (hn1 : 1 ≤ n) (pl : Int) (h1 : pl < (D.sb : Int) ∨ ((D.sb + D.ss.length : Nat) : Int) < pl) (h3 : D.sb + D.ss.length ≤ 1000000000000) :
    Calls Try.prog 18 #[at0 p, .int .i64 pl] w fun e w' => e = .returned (.int .i64 1) ∧ Below w.heap.size w w' := by
  have HG := hide (given_any w p D L h n hn hn2 hn1)
  have HE := hide (end_any w p D L h h3)
  have c1 := h.c1
  generalize hSB : D.sb + D.ss.length = SB at HE h1
  have HBR := hide (Below.refl w.heap.size w)
  clear h hn h3 hSB
  unfold at0 at *
  by_cases i1 : pl < ((D.sb : Nat) : Int)
  · clear h1
    go_enter Try.func18, Try.ntmps18
    go_wp2_with fail
    refine HG.out.mono ?_
    rintro e w' ⟨rfl, hw⟩
    obtain rfl := hw.symm
    go_wp2_with fail
    go_ret
    exact ⟨rfl, HBR.out⟩
  · have i2 : ((SB : Nat) : Int) < pl := by omega
    have i1n : ((D.sb : Nat) : Int) ≤ pl := by omega
    clear h1
    go_enter Try.func18, Try.ntmps18
    go_wp2_with fail
    refine HG.out.mono ?_
    rintro e w' ⟨rfl, hw⟩
    obtain rfl := hw.symm
    go_wp2_with fail
    refine HE.out.mono ?_
    rintro e w1 ⟨rfl, hb1⟩
    have HB1 := hide hb1
    clear hb1
    go_wp2_with fail
    go_ret
    exact ⟨rfl, HB1.out⟩

end Go.Proofs.Ytokdeilcfkobfaa
