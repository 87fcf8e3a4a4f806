/-
  The landed device: Write.
-/
import Derived.Test.YtokdeilcfkobfaaLdJ
import Derived.Great.BuildSlice
import Derived.Great.FillDense
namespace Go.Proofs.Ytokdeilcfkobfaa
open Go.RowKit

theorem sw_build (x : Int) (w : World) : (Instr.build 78 #[(0, .int .i64 x)]).run Try.prog w = .ok (.agg ((.int .i64 x : Value) :: List.replicate 128 (.int .u8 0)).toArray) w := by kernel_rfl
theorem sw_zero (a : Nat) : ((.int .i64 ((a : Nat) : Int) : Value) :: List.replicate 128 (.int .u8 0)).toArray = (Sw.cells ⟨a, List.replicate 128 0⟩).toArray := by simp [Sw.cells, vals]
theorem infoW : (Try.prog.info? 78).map (fun i => (i.zero, i.size, i.bytes)) = some (some (.agg swZ), 129, 136) := by kernel_rfl
theorem build_sw1 (x : Sw) (h : x.b.length = 128) (w : World) : (Instr.buildSlice 66 1 #[(0, .agg x.cells.toArray)]).run Try.prog w = .ok (.slice (some ⟨w.heap.size, 0, none⟩) 1 1) (w.alloc (.cells x.cells.toArray 78)) := by
  obtain ⟨i0, hi, hz0, hz1, hz2⟩ := info_parts infoW
  refine run_buildSlice w 66 78 1 _ _ i0 (.agg swZ) Try.underlying66 hi hz0 (by rw [hz1]; decide) (by rw [hz1]; decide) ?_
  rw [hz1]
  have := Great.fill_whole (s := 129) (by omega) [.agg x.cells.toArray] ((Array.range (1 * 129)).map fun i => (Value.agg swZ).cells[i % (Value.agg swZ).cells.size]!) (by simp [Value.cells, x.cells_length h]) (by simp)
  simpa [Value.cells] using this
theorem wpList_build78 {ops : Array Oper} {rest : List Oper} {o : Oper} {a : Act} {Q : Exit → Act → World → Prop} (w : World) (hgd : o.guard = none) (t : TypeId) (x : Operand) (ho : o.op = .build t #[(0, x)]) (u v : Value) (hu : a.eval x = u) (hrun : ∀ w, (Instr.build t #[(0, u)]).run Try.prog w = .ok v w) (hK : wpList Try.prog ops Q rest (a.put o.dst v) w) : wpList Try.prog ops Q (o :: rest) a w := by
  refine wpList_val w hgd v w ?_ hK
  have e : execOp a.eval o = (do pure (.value (← Instr.build t (Array.map (fun (p : Nat × Operand) => (p.1, a.eval p.2)) #[(0, x)])))) := by
    unfold execOp
    rw [ho]
  rw [e]
  simp [hu, hrun]
theorem swCells_append (l m : List Sw) : swCells (l ++ m) = swCells l ++ swCells m := by simp [swCells]
theorem swCells_one (l : List Sw) : ∀ u ∈ swCells l, u.oneCell' = true := by
  intro u hu
  obtain ⟨i, _, hi⟩ := List.mem_flatMap.1 hu
  exact i.cells_one u hi

/-- A sector's write more. -/
theorem DevM.appW {w : World} {p : Nat} {D : Ds} {L : Dl} (h : DevM w p D L) (g : Nat) (x : Sw) (hx : x.b.length = 128) (hw : ∀ x ∈ D.wr, x.b.length = 128) (hg : SwBlk w g x) (hm : D.wr.length ≤ 100000) :
    ∃ s' w1, (∀ ty, (Builtin.append_ #[66, 66] ty #[L.wr.val, .slice (some ⟨g, 0, none⟩) 1 1]).run Try.prog w = .ok s'.val w1) ∧ Own 78 129 w1 s' (swCells (D.wr ++ [x])) ∧ Frm (fun k => L.wr.blk = some k) w w1 ∧ (∀ k, s'.blk = some k → L.wr.blk = some k ∨ w.heap.size ≤ k) := by
  have hl := h.lenW hw
  have e1 : swCells [x] = x.cells := by simp [swCells]
  have hsrc : Src Try.prog 129 66 (.slice (some ⟨g, 0, none⟩) 1 1) 1 (swCells [x]) w := by
    refine Src.ofSlice w Try.underlying66 ⟨g, 0, none⟩ 1 1 (swCells [x]) (by rw [e1, x.cells_length hx]) (fun j u hj => ?_) (swCells_one _)
    rw [Addr.add_lit, Nat.zero_add, Addr.cell0 hg]
    rw [e1] at hj
    simpa using hj
  obtain ⟨s', w1, hr, ho, _, hf, hb⟩ := own_append (S := 66) Try.underlying66 infoW (by simp [swZ, Value.cells]) (by omega) w L.wr _ h.wr (swCells_one _) _ 1 _ hsrc (by omega) 66
  refine ⟨s', w1, fun ty => hr, by rw [swCells_append]; exact ho, hf, fun k hk => ?_⟩
  rcases hb with e | ⟨e, _⟩
  · exact .inl (by rw [← e]; exact hk)
  · rw [e] at hk
    cases hk
    exact .inr (Nat.le_refl _)
theorem SwBlk.range {w : World} {q : Nat} {x : Sw} (h : SwBlk w q x) : w.rangeAt q 0 x.cells := by
  intro j v hj
  rw [Nat.zero_add, Addr.cell0 h]
  simpa using hj
theorem SwBlk.lt {w : World} {q : Nat} {x : Sw} (h : SwBlk w q x) : q < w.heap.size := (Array.getElem?_eq_some_iff.1 h).1

set_option maxHeartbeats 2000000 in
set_option maxRecDepth 100000 in
theorem write11 (w : World) (q x i : Nat) (a : Option Addr) (len cap : Nat) (ys : List Nat) (hy : Came w a len cap ys) (hlen : len = 512) (hi : i < 4) (hb : SwBlk w q ⟨x, List.replicate 128 0⟩)
    {Q : Exit → Act → World → Prop} {A : Act} (hsz : A.tmps.size = 56) (hdf : A.defers = []) (s9 : A.tmps.getD 9 undef = .pointer (some ⟨q, 0, none⟩)) (s2 : A.tmps.getD 2 undef = .slice a len cap) (s8 : A.tmps.getD 8 undef = .int .i64 ((i : Nat) : Int))
    (hend : ∀ (u : Nat → Value) w', SwBlk w' q ⟨x, (ys.drop (128 * i)).take 128⟩ → Frm (fun k => k = q) w w' → Q .normal ((((((((A).put (some 38) (u 38)).put (some 39) (u 39)).put (some 40) (u 40)).put (some 41) (u 41)).put (some 42) (u 42)).put (some 43) (u 43)).put (some 44) (u 44)) w') :
    (Code.region 11 (Pl.find 11 ((Try.f13.body).getD .skip)) true).wp Try.prog Q A w := by
  have hmul : IntKind.i64.wrap (((i : Nat) : Int) * 128) = 128 * ((i : Nat) : Int) := by rw [IntKind.wrap_i64]; omega
  have hyl := hy.bs.1
  have hb0 : w.drew.heap[q]? = some (.cells (Sw.cells ⟨x, List.replicate 128 0⟩).toArray 78 (0, 0)) := hb
  obtain ⟨zs, hz⟩ : ∃ zs, zs = (ys.drop (128 * i)).take 128 := ⟨_, rfl⟩
  have hzl : zs.length = 128 := by rw [hz]; simp only [List.length_take, List.length_drop]; omega
  have hfr := (hy.bs.from (cap := cap) (k := 128 * i) (by omega) hy.le)
  obtain ⟨bb, oo, hao, _⟩ := hfr.2.2 0 (by omega)
  have hsrc : ∀ j v, (vals zs)[j]? = some v → w.drew.cell? ((⟨bb, oo, none⟩ : Addr).add j) = some v := by
    intro j v hj
    have hjl : j < zs.length := by
      have := (List.getElem?_eq_some_iff.1 hj).1
      simpa [vals] using this
    have hfr2 := hfr
    rw [hao] at hfr2
    rw [Addr.add_lit]
    have := hfr2.at j (by omega)
    rw [vals_get hjl] at hj
    rw [← hj, hz]
    show w.cell? _ = _
    rw [this]
    have hj2 : j < 128 := by omega
    simp [List.getD, hj2]
  have hr1' : ∀ ty, _ := fun ty => run_copy_row (P := Try.prog) w.drew 30 30 ty 5 q 1 128 128 ⟨bb, oo, none⟩ (len - 128 * i) (cap - 128 * i) _ 78 (vals zs) Try.underlying30 (by kernel_rfl) hb0 (by rw [vals_length, hzl]; show 128 = min _ 128; omega) hsrc (by rw [vals_length, hzl]; simp [Sw.cells, vals]) (vals_one zs)
  have hcells : ((Sw.cells ⟨x, List.replicate 128 0⟩).toArray.toList.take 1 ++ vals zs ++ (Sw.cells ⟨x, List.replicate 128 0⟩).toArray.toList.drop (1 + (vals zs).length)).toArray = (Sw.cells ⟨x, zs⟩).toArray := by
    rw [vals_length, hzl]
    simp [Sw.cells, vals]
  rw [hcells, vals_length, hzl] at hr1'
  obtain ⟨hf1, hf2⟩ := setRow_frm hb0 (Sw.cells ⟨x, zs⟩).toArray
  obtain ⟨w1, hw1⟩ : ∃ w1, w1 = w.drew.setRow q (Sw.cells ⟨x, zs⟩).toArray := ⟨_, rfl⟩
  have hr1 : ∀ ty, (Builtin.copy_ #[30, 30] ty #[.slice (some ⟨q, 1, none⟩) 128 128, .slice (fromA a cap (128 * i)) (len - 128 * i) (cap - 128 * i)]).run Try.prog w.drew = .ok (goInt 128) w1 := by
    intro ty
    rw [hw1, hao]
    exact hr1' ty
  rw [← hw1] at hf1 hf2
  have hend2 : SwBlk w1 q ⟨x, (ys.drop (128 * i)).take 128⟩ := by rw [← hz]; exact hf2
  have hfrm : Frm (fun k => k = q) w w1 := (Frm.refl _ w).drew.trans hf1 (fun _ _ e => e)
  have hA := Pl.At.same (v := .int .i64 ((i : Nat) : Int)) (d := 8) (Pl.At.same (v := .slice a len cap) (d := 2) (Pl.At.same (v := .pointer (some ⟨q, 0, none⟩)) (d := 9) (Pl.At.here hsz hdf) s9) s2) s8
  refine Pl.H.start (S := fun _ => True) (by kernel_rfl) hA True.intro ?_
  rw [show (Pl.find 11 ((Try.f13.body).getD .skip)).size = 7 by kernel_rfl]
  refine Pl.H.take 0 38 (.pointer (some ⟨q, 1, none⟩)) (by kernel_rfl) (by kernel_rfl) (by kernel_rfl) (Pl.free 0 (by kernel_rfl)) (Pl.field 0 78 (.tmp 9) 1 _ (by kernel_rfl) (by decide) (fdSw1_0 q)) True.intro ?_
  refine Pl.H.take 1 39 (.slice (some ⟨q, 1, none⟩) 128 128) (by kernel_rfl) (by kernel_rfl) (by kernel_rfl) (Pl.free 1 (by kernel_rfl)) (Pl.slice 1 76 (.tmp 38) none none _ (by kernel_rfl) (by decide) (by decide) (by decide) (slice76 q)) True.intro ?_
  refine Pl.H.take 2 40 (.slice a len cap) (by kernel_rfl) (by kernel_rfl) (by kernel_rfl) (Pl.free 2 (by kernel_rfl)) (Pl.move 2 (.tmp 2) (by kernel_rfl) (by decide)) True.intro ?_
  refine Pl.H.take 3 41 (.int .i64 ((i : Nat) : Int)) (by kernel_rfl) (by kernel_rfl) (by kernel_rfl) (Pl.free 3 (by kernel_rfl)) (Pl.move 3 (.tmp 8) (by kernel_rfl) (by decide)) True.intro ?_
  refine Pl.H.take 4 42 (.int .i64 ((128 * i : Nat) : Int)) (by kernel_rfl) (by kernel_rfl) (by kernel_rfl) (Pl.free 4 (by kernel_rfl)) (Pl.binV 4 .mul 3 3 (.tmp 41) (.const (.int .i64 128)) (.int .i64 ((i : Nat) : Int)) (.int .i64 128) _ (by kernel_rfl) (by decide) (by decide) rfl rfl (fun w => by simp [go_sem, eqGuard, hmul])) True.intro ?_
  refine Pl.H.take 5 43 (.slice (fromA a cap (128 * i)) (len - 128 * i) (cap - 128 * i)) (by kernel_rfl) (by kernel_rfl) (by kernel_rfl) (Pl.free 5 (by kernel_rfl)) (Pl.slice 5 30 (.tmp 40) (some (.tmp 42)) none _ (by kernel_rfl) (by decide) (by decide) (by decide) (fun w => slice_from a len cap (128 * i) (by omega) w)) True.intro ?_
  refine Pl.H.make 6 44 (goInt 128) w1 (by kernel_rfl) (by kernel_rfl) (by kernel_rfl) (Pl.free 6 (by kernel_rfl)) (Pl.copyV 6 30 (.tmp 39) (.tmp 43) _ _ (by kernel_rfl) (by decide) (by decide) hr1) True.intro ?_
  refine Pl.H.done (by kernel_rfl) (fun A' hA' => ?_)
  rw [Pl.At.ext hA' (((((((hA.put 38 _).put 39 _).put 40 _).put 41 _).put 42 _).put 43 _).put 44 _)]
  exact hend (fun d => if d = 38 then .pointer (some ⟨q, 1, none⟩) else if d = 39 then .slice (some ⟨q, 1, none⟩) 128 128 else if d = 40 then .slice a len cap else if d = 41 then .int .i64 ((i : Nat) : Int) else if d = 42 then .int .i64 ((128 * i : Nat) : Int) else if d = 43 then .slice (fromA a cap (128 * i)) (len - 128 * i) (cap - 128 * i) else if d = 44 then goInt 128 else undef) _ hend2 hfrm

set_option maxHeartbeats 2000000 in
set_option maxRecDepth 100000 in
theorem write12 (w : World) (p : Nat) (D : Ds) (L : Dl) (h : DevM w p D L) (q : Nat) (x : Sw) (hb : SwBlk w q x) (hx : x.b.length = 128) (hw : ∀ x ∈ D.wr, x.b.length = 128) (hq : ¬ L.F p q) (hm : D.wr.length ≤ 100000)
    {Q : Exit → Act → World → Prop} {A : Act} (hsz : A.tmps.size = 56) (hdf : A.defers = []) (s0 : A.tmps.getD 0 undef = .pointer (some ⟨p, 0, none⟩)) (s9 : A.tmps.getD 9 undef = .pointer (some ⟨q, 0, none⟩))
    (hend : ∀ (u : Nat → Value) w', (∃ L', Turned w p L w' { D with wr := D.wr ++ [x] } L') → Q .normal (((((((((((A).put (some 45) (u 45)).put (some 46) (u 46)).put (some 47) (u 47)).put (some 48) (u 48)).put (some 50) (u 50)).put (some 49) (u 49)).put (some 51) (u 51)).put (some 52) (u 52)).put (some 53) (u 53)).put (some 54) (u 54)) w') :
    (Code.region 12 (Pl.find 12 ((Try.f13.body).getD .skip)) true).wp Try.prog Q A w := by
  have hS0 : (fun w' : World => SwBlk w' q x) w.drew := hb
  have hd2 := h.drew.keep (below_alloc w.drew (.cells x.cells.toArray 78))
  have hS2 : (fun w' : World => SwBlk w' q x) (w.drew.alloc (.cells x.cells.toArray 78)) := ((below_alloc w.drew _).block q hb.lt).trans hb
  obtain ⟨s3, w3, hr3, ho3, hf3, hb3⟩ := hd2.appW w.drew.heap.size x hx hw (heap_alloc_new w.drew _) hm
  have hqw : L.wr.blk ≠ some q := fun e => hq (.inr (.inr (.inl e)))
  have hS3 : (fun w' : World => SwBlk w' q x) w3 := (hf3.block q (Nat.lt_of_lt_of_le hb.lt (below_alloc w.drew _).size) hqw).trans hS2
  have hp3 := hf3.pblk hd2 hd2.neW
  have hT := (Turned.same h ((below_drew w).trans (below_alloc w.drew (.cells x.cells.toArray 78)))).trans (hd2.swapW s3 _ hf3 ho3 hb3)
  have hS4 : (fun w' : World => SwBlk w' q x) (w3.setCell ⟨p, 6, none⟩ s3.val) := (Below.heap_setCell w3 ⟨p, 6, none⟩ _ q (fun e => hq (.inl e))).trans hS3
  have hA := Pl.At.same (v := .pointer (some ⟨q, 0, none⟩)) (d := 9) (Pl.At.same (v := .pointer (some ⟨p, 0, none⟩)) (d := 0) (Pl.At.here hsz hdf) s0) s9
  refine Pl.H.start (S := fun w' => SwBlk w' q x) (by kernel_rfl) hA hS0 ?_
  rw [show (Pl.find 12 ((Try.f13.body).getD .skip)).size = 11 by kernel_rfl]
  refine Pl.H.take 0 45 (.pointer (some ⟨p, 0, none⟩)) (by kernel_rfl) (by kernel_rfl) (by kernel_rfl) (Pl.free 0 (by kernel_rfl)) (Pl.move 0 (.tmp 0) (by kernel_rfl) (by decide)) hS0 ?_
  refine Pl.H.take 1 46 (.pointer (some ⟨p, 0, none⟩)) (by kernel_rfl) (by kernel_rfl) (by kernel_rfl) (Pl.free 1 (by kernel_rfl)) (Pl.move 1 (.tmp 0) (by kernel_rfl) (by decide)) hS0 ?_
  refine Pl.H.take 2 47 (.pointer (some ⟨p, 0, none⟩)) (by kernel_rfl) (by kernel_rfl) (by kernel_rfl) (Pl.free 2 (by kernel_rfl)) (Pl.nilc 2 (.tmp 46) _ (by kernel_rfl) (by decide) rfl) hS0 ?_
  refine Pl.H.take 3 48 (.pointer (some ⟨p, 6, none⟩)) (by kernel_rfl) (by kernel_rfl) (by kernel_rfl) (Pl.free 3 (by kernel_rfl)) (Pl.field 3 69 (.tmp 47) 2 _ (by kernel_rfl) (by decide) (fdDev2_0 p)) hS0 ?_
  refine Pl.H.take 5 50 (.agg x.cells.toArray) (by kernel_rfl) (by kernel_rfl) (by kernel_rfl) (Pl.free 5 (by kernel_rfl)) (Pl.load 5 78 (.tmp 9) _ (by kernel_rfl) (by decide) (fun w' hS => sw_load x hx w' q 0 hS.range)) hS0 ?_
  refine Pl.H.two 4 6 (by kernel_rfl) ?_ ?_
  · refine Pl.HOp.value 4 49 (.slice L.wr.a L.wr.len L.wr.cap) w.drew (by kernel_rfl) (by kernel_rfl) (by kernel_rfl) (Pl.load1 4 66 (.tmp 48) _ (by kernel_rfl) (by decide) (ldWs p 6 _ _ _ _ h.drew.c6)) hS0 ?_
    refine Pl.H.make 6 51 (.slice (some ⟨w.drew.heap.size, 0, none⟩) 1 1) (w.drew.alloc (.cells x.cells.toArray 78)) (by kernel_rfl) (by kernel_rfl) (by kernel_rfl) (Pl.free 6 (by kernel_rfl)) (Pl.one 6 66 (.tmp 50) _ _ (by kernel_rfl) (by decide) (build_sw1 x hx w.drew)) hS2 ?_
    refine Pl.H.make 7 52 (s3.val) w3 (by kernel_rfl) (by kernel_rfl) (by kernel_rfl) (Pl.free 7 (by kernel_rfl)) (Pl.appT 7 66 66 (.tmp 49) (.tmp 51) _ _ (by kernel_rfl) (by kernel_rfl) (by decide) (by decide) (hr3 _)) hS3 ?_
    refine Pl.H.take 8 53 (.pointer (some ⟨p, 0, none⟩)) (by kernel_rfl) (by kernel_rfl) (by kernel_rfl) (Pl.free 8 (by kernel_rfl)) (Pl.nilc 8 (.tmp 45) _ (by kernel_rfl) (by decide) rfl) hS3 ?_
    refine Pl.H.take 9 54 (.pointer (some ⟨p, 6, none⟩)) (by kernel_rfl) (by kernel_rfl) (by kernel_rfl) (Pl.free 9 (by kernel_rfl)) (Pl.field 9 69 (.tmp 53) 2 _ (by kernel_rfl) (by decide) (fdDev2_0 p)) hS3 ?_
    refine Pl.H.store 10 (w3.setCell ⟨p, 6, none⟩ s3.val) (by kernel_rfl) (by kernel_rfl) (by kernel_rfl) (Pl.free 10 (by kernel_rfl)) (Pl.storeV 10 66 (.tmp 54) (.tmp 52) _ (by kernel_rfl) (by decide) (by decide) (stWs p 6 _ _ w3 (Addr.cell0 hp3) (frozen_of_row w3 p _ _ 69 hp3))) hS4 ?_
    refine Pl.H.done (by kernel_rfl) (fun A' hA' => ?_)
    rw [Pl.At.ext hA' ((((((((((hA.put 45 _).put 46 _).put 47 _).put 48 _).put 50 _).put 49 _).put 51 _).put 52 _).put 53 _).put 54 _)]
    exact hend (fun d => if d = 45 then .pointer (some ⟨p, 0, none⟩) else if d = 46 then .pointer (some ⟨p, 0, none⟩) else if d = 47 then .pointer (some ⟨p, 0, none⟩) else if d = 48 then .pointer (some ⟨p, 6, none⟩) else if d = 50 then .agg x.cells.toArray else if d = 49 then .slice L.wr.a L.wr.len L.wr.cap else if d = 51 then .slice (some ⟨w.drew.heap.size, 0, none⟩) 1 1 else if d = 52 then s3.val else if d = 53 then .pointer (some ⟨p, 0, none⟩) else if d = 54 then .pointer (some ⟨p, 6, none⟩) else undef) _ ⟨_, hT⟩
  · refine Pl.HOp.value 6 51 (.slice (some ⟨w.drew.heap.size, 0, none⟩) 1 1) (w.drew.alloc (.cells x.cells.toArray 78)) (by kernel_rfl) (by kernel_rfl) (by kernel_rfl) (Pl.one 6 66 (.tmp 50) _ _ (by kernel_rfl) (by decide) (build_sw1 x hx w.drew)) hS2 ?_
    refine Pl.H.solo 4 49 (.slice L.wr.a L.wr.len L.wr.cap) (by kernel_rfl) (by kernel_rfl) (by kernel_rfl) (Pl.free 4 (by kernel_rfl)) (Pl.load1 4 66 (.tmp 48) _ (by kernel_rfl) (by decide) (ldWs p 6 _ _ _ _ hd2.c6)) hS2 ?_
    rw [Pl.upd_comm _ 51 49 _ _ (by decide)]
    refine Pl.H.make 7 52 (s3.val) w3 (by kernel_rfl) (by kernel_rfl) (by kernel_rfl) (Pl.free 7 (by kernel_rfl)) (Pl.appT 7 66 66 (.tmp 49) (.tmp 51) _ _ (by kernel_rfl) (by kernel_rfl) (by decide) (by decide) (hr3 _)) hS3 ?_
    refine Pl.H.take 8 53 (.pointer (some ⟨p, 0, none⟩)) (by kernel_rfl) (by kernel_rfl) (by kernel_rfl) (Pl.free 8 (by kernel_rfl)) (Pl.nilc 8 (.tmp 45) _ (by kernel_rfl) (by decide) rfl) hS3 ?_
    refine Pl.H.take 9 54 (.pointer (some ⟨p, 6, none⟩)) (by kernel_rfl) (by kernel_rfl) (by kernel_rfl) (Pl.free 9 (by kernel_rfl)) (Pl.field 9 69 (.tmp 53) 2 _ (by kernel_rfl) (by decide) (fdDev2_0 p)) hS3 ?_
    refine Pl.H.store 10 (w3.setCell ⟨p, 6, none⟩ s3.val) (by kernel_rfl) (by kernel_rfl) (by kernel_rfl) (Pl.free 10 (by kernel_rfl)) (Pl.storeV 10 66 (.tmp 54) (.tmp 52) _ (by kernel_rfl) (by decide) (by decide) (stWs p 6 _ _ w3 (Addr.cell0 hp3) (frozen_of_row w3 p _ _ 69 hp3))) hS4 ?_
    refine Pl.H.done (by kernel_rfl) (fun A' hA' => ?_)
    rw [Pl.At.ext hA' ((((((((((hA.put 45 _).put 46 _).put 47 _).put 48 _).put 50 _).put 49 _).put 51 _).put 52 _).put 53 _).put 54 _)]
    exact hend (fun d => if d = 45 then .pointer (some ⟨p, 0, none⟩) else if d = 46 then .pointer (some ⟨p, 0, none⟩) else if d = 47 then .pointer (some ⟨p, 0, none⟩) else if d = 48 then .pointer (some ⟨p, 6, none⟩) else if d = 50 then .agg x.cells.toArray else if d = 49 then .slice L.wr.a L.wr.len L.wr.cap else if d = 51 then .slice (some ⟨w.drew.heap.size, 0, none⟩) 1 1 else if d = 52 then s3.val else if d = 53 then .pointer (some ⟨p, 0, none⟩) else if d = 54 then .pointer (some ⟨p, 6, none⟩) else undef) _ ⟨_, hT⟩

end Go.Proofs.Ytokdeilcfkobfaa
