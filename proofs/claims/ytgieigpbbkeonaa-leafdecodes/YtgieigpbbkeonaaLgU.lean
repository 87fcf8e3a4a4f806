/-
  Layer 8, the landed leaf: drawn statements of leafOf.
-/
import Derived.Test.YtgieigpbbkeonaaLgT
namespace Go.Proofs.Ytgieigpbbkeonaa
open Go.RowKit

theorem Pl.H.three {P : Program} {ops : Array Oper} {S : World → Prop} {Q : Exit → Act → World → Prop} {n fuel : Nat} {listed : Array Bool} {f : Nat → Value} {w : World} (i k l : Nat) (hr : Region.ready .any ops listed = [i, k, l]) (h : Pl.HOp P ops S Q n fuel listed f w i) (h2 : Pl.HOp P ops S Q n fuel listed f w k) (h3 : Pl.HOp P ops S Q n fuel listed f w l) : Pl.H P ops S Q n (fuel + 1) listed f w := by
  intro A hA
  refine wpAnyH_all hr (by simp) ?_
  intro j hj
  have : j = i ∨ j = k ∨ j = l := by simpa using hj
  rcases this with rfl | rfl | rfl
  · exact h A hA
  · exact h2 A hA
  · exact h3 A hA
theorem ixIt (g len cap k : Nat) (hk : k < len) (w : World) : (Instr.indexAt 50 (.slice (some ⟨g, 0, none⟩) len cap) (.int .i64 ((k : Nat) : Int))).run Try.prog w = .ok (.pointer (some ⟨g, k * 4, none⟩)) w := by
  have h2 : ((k : Nat) : Int) < ((len : Nat) : Int) := by omega
  simp [go_sem, Instr.indexAt, hk, Addr.add_lit]
theorem fdIt (g o k : Nat) (hk : k = 1 ∨ k = 3) (w : World) : (Instr.fieldAt 59 (.pointer (some ⟨g, o, none⟩)) k).run Try.prog w = .ok (.pointer (some ⟨g, o + k, none⟩)) w := by
  rcases hk with rfl | rfl <;> simp [go_sem, Instr.fieldAt, Addr.add_lit]
theorem sliceIt (g cap : Nat) (hc : 6 ≤ cap) (w : World) : (Instr.sliceAt 50 (.slice (some ⟨g, 0, none⟩) 6 cap) (some (.int .i64 1)) (some (.int .i64 5)) none).run Try.prog w = .ok (.slice (some ⟨g, 4, none⟩) 4 (cap - 1)) w := by
  have h22 : Try.prog.underlying 50 = some (.slice (Try.prog.elem 50)) := by kernel_rfl
  have he : Try.prog.elem 50 = 59 := by kernel_rfl
  rw [run_sliceAt_slice w 50 _ _ _ _ h22, run_slice_lh w 50 _ 6 cap h22 .i64 .i64 1 5 (by decide) (by decide) (by omega), he, sz_of info35]
  have hne : ¬ cap = 1 := by omega
  simp [Result.andThen, sliced, hne, Addr.add_lit]
theorem slice18 (tb tp tc : Nat) (htc : 508 ≤ tc) (w : World) : (Instr.sliceAt 28 (.slice (some ⟨tb, tp, none⟩) 508 tc) (some (.int .i64 ((18 : Nat) : Int))) none none).run Try.prog w = .ok (.slice (some ⟨tb, tp + 18, none⟩) 490 (tc - 18)) w := by
  have h := slice_from (some ⟨tb, tp, none⟩) 508 tc 18 (by decide) w
  have e : fromA (some ⟨tb, tp, none⟩) tc 18 = some ⟨tb, tp + 18, none⟩ := by
    unfold fromA
    rw [if_neg (by omega)]
    simp [Addr.add_lit]
  rw [e] at h
  exact h
theorem ldStr (b o : Nat) (x : ByteArray) (w : World) (h : w.cell? ⟨b, o, none⟩ = some (.string x)) : (Instr.loadAt 9 (.pointer (some ⟨b, o, none⟩))).run Try.prog w = .ok (.string x) w := by
  simp [go_sem, Instr.loadAt, h]
theorem entRep : ∀ args w, (callFunc 55 args).run Try.prog w = .ok (.enter 55 args) w := Pl.enters Try.func55 (by kernel_rfl) (by kernel_rfl)
theorem entTake : ∀ args w, (callFunc 53 args).run Try.prog w = .ok (.enter 53 args) w := Pl.enters Try.func53 (by kernel_rfl) (by kernel_rfl)
theorem entCutU : ∀ args w, (callFunc 56 args).run Try.prog w = .ok (.enter 56 args) w := Pl.enters Try.func56 (by kernel_rfl) (by kernel_rfl)
theorem lit_one (w : World) (q : Int) : (Instr.buildSlice 22 1 #[(0, .int .i64 q)]).run Try.prog w = .ok (.slice (some ⟨w.heap.size, 0, none⟩) 1 1) (w.alloc (.cells #[.int .i64 q] 3)) := by
  simp [go_sem]
theorem lit_cell (w : World) (q : Int) : (w.alloc (.cells #[.int .i64 q] 3)).cell? ⟨w.heap.size, 0, none⟩ = some (.int .i64 q) := by
  have hn := heap_alloc_new w (.cells #[.int .i64 q] 3)
  simp only [World.cell?]
  rw [hn]
  rfl

set_option maxHeartbeats 2000000 in
set_option maxRecDepth 100000 in
theorem leaf4 (w : World) (g c : Nat) (n : Int) (hc : 6 ≤ c) (hx : w.cell? ⟨g, 5 * 4 + 1, none⟩ = some (.int .i64 n))
    {Q : Exit → Act → World → Prop} {A : Act} (hsz : A.tmps.size = 104) (hdf : A.defers = []) (s4 : A.tmps.getD 4 undef = .slice (some ⟨g, 0, none⟩) 6 c)
    (hend : ∀ (u : Nat → Value) w', Below w.heap.size w w' → Q .normal (((((((((A).put (some 33) (u 33)).put (some 34) (u 34)).put (some 35) (u 35)).put (some 36) (u 36)).put (some 37) (u 37)).put (some 38) (u 38)).put (some 7) (.slice (some ⟨g, 4, none⟩) 4 (c - 1))).put (some 8) (.int .i64 n)) w') :
    (Code.region 4 (Pl.find 4 ((Try.f33.body).getD .skip)) true).wp Try.prog Q A w := by
  have hA := Pl.At.same (v := .slice (some ⟨g, 0, none⟩) 6 c) (d := 4) (Pl.At.here hsz hdf) s4
  refine Pl.H.start (S := (fun w' => Below w.heap.size w w')) (by kernel_rfl) hA (below_drew w) ?_
  rw [show (Pl.find 4 ((Try.f33.body).getD .skip)).size = 8 by kernel_rfl]
  refine Pl.H.take 0 33 (.slice (some ⟨g, 0, none⟩) 6 c) (by kernel_rfl) (by kernel_rfl) (by kernel_rfl) (Pl.free 0 (by kernel_rfl)) (Pl.move 0 (.tmp 4) (by kernel_rfl) (by decide)) (below_drew w) ?_
  refine Pl.H.take 1 34 (.slice (some ⟨g, 4, none⟩) 4 (c - 1)) (by kernel_rfl) (by kernel_rfl) (by kernel_rfl) (Pl.free 1 (by kernel_rfl)) (Pl.slice 1 50 (.tmp 33) (some (.const (.int .i64 1))) (some (.const (.int .i64 5))) _ (by kernel_rfl) (by decide) (by decide) (by decide) (fun w => sliceIt g c hc w)) (below_drew w) ?_
  refine Pl.H.take 2 35 (.slice (some ⟨g, 0, none⟩) 6 c) (by kernel_rfl) (by kernel_rfl) (by kernel_rfl) (Pl.free 2 (by kernel_rfl)) (Pl.move 2 (.tmp 4) (by kernel_rfl) (by decide)) (below_drew w) ?_
  refine Pl.H.take 3 36 (.pointer (some ⟨g, 5 * 4, none⟩)) (by kernel_rfl) (by kernel_rfl) (by kernel_rfl) (Pl.free 3 (by kernel_rfl)) (Pl.index 3 50 (.tmp 35) (.const (.int .i64 5)) _ (by kernel_rfl) (by decide) (by decide) (fun w => ixIt g 6 c 5 (by decide) w)) (below_drew w) ?_
  refine Pl.H.take 4 37 (.pointer (some ⟨g, 5 * 4 + 1, none⟩)) (by kernel_rfl) (by kernel_rfl) (by kernel_rfl) (Pl.free 4 (by kernel_rfl)) (Pl.field 4 59 (.tmp 36) 1 _ (by kernel_rfl) (by decide) (fdIt g (5 * 4) 1 (.inl rfl))) (below_drew w) ?_
  refine Pl.H.take 5 38 (.int .i64 n) (by kernel_rfl) (by kernel_rfl) (by kernel_rfl) (Pl.free 5 (by kernel_rfl)) (Pl.load 5 3 (.tmp 37) _ (by kernel_rfl) (by decide) (fun w' hS => ldI1 g (5 * 4 + 1) n w' (cell_below hx hS))) (below_drew w) ?_
  refine Pl.H.take 6 7 (.slice (some ⟨g, 4, none⟩) 4 (c - 1)) (by kernel_rfl) (by kernel_rfl) (by kernel_rfl) (Pl.free 6 (by kernel_rfl)) (Pl.assign 6 (.tmp 34) (by kernel_rfl) (by decide)) (below_drew w) ?_
  refine Pl.H.take 7 8 (.int .i64 n) (by kernel_rfl) (by kernel_rfl) (by kernel_rfl) (Pl.free 7 (by kernel_rfl)) (Pl.assign 7 (.tmp 38) (by kernel_rfl) (by decide)) (below_drew w) ?_
  refine Pl.H.done (by kernel_rfl) (fun A' hA' => ?_)
  rw [Pl.At.ext hA' ((((((((hA.put 33 _).put 34 _).put 35 _).put 36 _).put 37 _).put 38 _).put 7 _).put 8 _)]
  exact hend (fun d => if d = 33 then .slice (some ⟨g, 0, none⟩) 6 c else if d = 34 then .slice (some ⟨g, 4, none⟩) 4 (c - 1) else if d = 35 then .slice (some ⟨g, 0, none⟩) 6 c else if d = 36 then .pointer (some ⟨g, 5 * 4, none⟩) else if d = 37 then .pointer (some ⟨g, 5 * 4 + 1, none⟩) else if d = 38 then .int .i64 n else undef) _ (below_drew w)

set_option maxHeartbeats 2000000 in
set_option maxRecDepth 100000 in
theorem leaf5 (w : World) (tb tp tc n : Nat) (xs : List Nat) (htc : 508 ≤ tc) (hn : n ≤ 255) (hT : ∀ W, Below w.heap.size w W → Came W (some ⟨tb, tp + 18, none⟩) 490 (tc - 18) (xs.drop 18))
    {Q : Exit → Act → World → Prop} {A : Act} (hsz : A.tmps.size = 104) (hdf : A.defers = []) (s0 : A.tmps.getD 0 undef = .slice (some ⟨tb, tp, none⟩) 508 tc) (s5 : A.tmps.getD 5 undef = .int .i64 ((18 : Nat) : Int)) (s8 : A.tmps.getD 8 undef = .int .i64 ((n : Nat) : Int))
    (hend : ∀ (u : Nat → Value) w' (v6 : Value), Below w.heap.size w w' ∧ OwnsI w' w.heap.size v6 (takeOut (xs.drop 18) (List.replicate n 5)).1 ∧ (∀ i ∈ (takeOut (xs.drop 18) (List.replicate n 5)).1, i.fits) → Q .normal (((((((((((((((A).put (some 40) (u 40)).put (some 41) (u 41)).put (some 42) (u 42)).put (some 44) (u 44)).put (some 43) (u 43)).put (some 45) (u 45)).put (some 46) (u 46)).put (some 39) (u 39)).put (some 47) (u 47)).put (some 48) (u 48)).put (some 49) (u 49)).put (some 9) (v6)).put (some 10) (.int .i64 ((takeOut (xs.drop 18) (List.replicate n 5)).2.1 : Nat))).put (some 6) (.int .i64 (takeOut (xs.drop 18) (List.replicate n 5)).2.2)) w') :
    (Code.region 5 (Pl.find 5 ((Try.f33.body).getD .skip)) true).wp Try.prog Q A w := by
  have hA := Pl.At.same (v := .int .i64 ((n : Nat) : Int)) (d := 8) (Pl.At.same (v := .int .i64 ((18 : Nat) : Int)) (d := 5) (Pl.At.same (v := .slice (some ⟨tb, tp, none⟩) 508 tc) (d := 0) (Pl.At.here hsz hdf) s0) s5) s8
  refine Pl.H.start (S := (fun w' => Below w.heap.size w w')) (by kernel_rfl) hA (below_drew w) ?_
  rw [show (Pl.find 5 ((Try.f33.body).getD .skip)).size = 14 by kernel_rfl]
  refine Pl.H.take 0 40 (.slice (some ⟨tb, tp, none⟩) 508 tc) (by kernel_rfl) (by kernel_rfl) (by kernel_rfl) (Pl.free 0 (by kernel_rfl)) (Pl.move 0 (.tmp 0) (by kernel_rfl) (by decide)) (below_drew w) ?_
  refine Pl.H.take 1 41 (.int .i64 ((18 : Nat) : Int)) (by kernel_rfl) (by kernel_rfl) (by kernel_rfl) (Pl.free 1 (by kernel_rfl)) (Pl.move 1 (.tmp 5) (by kernel_rfl) (by decide)) (below_drew w) ?_
  refine Pl.H.take 2 42 (.slice (some ⟨tb, tp + 18, none⟩) 490 (tc - 18)) (by kernel_rfl) (by kernel_rfl) (by kernel_rfl) (Pl.free 2 (by kernel_rfl)) (Pl.slice 2 28 (.tmp 40) (some (.tmp 41)) none _ (by kernel_rfl) (by decide) (by decide) (by decide) (fun w => slice18 tb tp tc htc w)) (below_drew w) ?_
  refine Pl.H.take 4 44 (.int .i64 ((n : Nat) : Int)) (by kernel_rfl) (by kernel_rfl) (by kernel_rfl) (Pl.free 4 (by kernel_rfl)) (Pl.move 4 (.tmp 8) (by kernel_rfl) (by decide)) (below_drew w) ?_
  have ea := rBelow (below_drew w) (below_alloc w.drew (.cells #[.int .i64 5] 3))
  refine Pl.H.make 3 43 (.slice (some ⟨w.drew.heap.size, 0, none⟩) 1 1) (w.drew.alloc (.cells #[.int .i64 5] 3)) (by kernel_rfl) (by kernel_rfl) (by kernel_rfl) (Pl.free 3 (by kernel_rfl)) (Pl.bsV 3 22 1 [(0, .const (.int .i64 5))] _ _ (by kernel_rfl) (by decide) (lit_one w.drew 5)) ea ?_
  refine Pl.H.call 5 45 55 [(.tmp 43), (.tmp 44)] #[22, 3] (by kernel_rfl) (by kernel_rfl) (by kernel_rfl) (Pl.free 5 (by kernel_rfl)) (by kernel_rfl) (by decide) entRep (Calls.mono (repeat_any w.drew.heap.size n _ (lit_cell w.drew 5) hn) ?_)
  rintro e w5 ⟨v5, rfl, ho5, hb5⟩
  obtain ⟨s5, rfl, ho5, hk5⟩ := OwnsV.own ho5
  have e5 := rBelow ea hb5
  refine ⟨Sl.val s5, rfl, e5, ?_⟩
  refine Pl.H.call 6 46 53 [(.tmp 42), (.tmp 45)] #[28, 22] (by kernel_rfl) (by kernel_rfl) (by kernel_rfl) (Pl.free 6 (by kernel_rfl)) (by kernel_rfl) (by decide) entTake (Calls.mono (take_any (some ⟨tb, tp + 18, none⟩) 490 (tc - 18) (xs.drop 18) s5.a s5.len s5.cap (List.replicate n 5) w5 (hT w5 e5) (Gi.ks (OwnN.gi (D := fun _ => True) ho5 (fun _ _ => trivial) (by have := OwnN.len ho5; rw [List.length_replicate] at this; omega))) (by decide) (by have := OwnN.len ho5; rw [List.length_replicate] at this; omega)) ?_)
  rintro e w6 ⟨v6, rfl, hb6, ho6, hf6⟩
  have e6 := rBelow e5 hb6
  refine ⟨.tuple #[v6, .int .i64 ((takeOut (xs.drop 18) (List.replicate n 5)).2.1 : Nat), .int .i64 (takeOut (xs.drop 18) (List.replicate n 5)).2.2], rfl, e6, ?_⟩
  refine Pl.H.take 7 39 (.tuple #[v6, .int .i64 ((takeOut (xs.drop 18) (List.replicate n 5)).2.1 : Nat), .int .i64 (takeOut (xs.drop 18) (List.replicate n 5)).2.2]) (by kernel_rfl) (by kernel_rfl) (by kernel_rfl) (Pl.free 7 (by kernel_rfl)) (Pl.move 7 (.tmp 46) (by kernel_rfl) (by decide)) e6 ?_
  refine Pl.H.take 8 47 (v6) (by kernel_rfl) (by kernel_rfl) (by kernel_rfl) (Pl.free 8 (by kernel_rfl)) (Pl.extr 8 (.tmp 39) 0 _ (by kernel_rfl) (by decide) (fun _ => rfl)) e6 ?_
  refine Pl.H.take 9 48 (.int .i64 ((takeOut (xs.drop 18) (List.replicate n 5)).2.1 : Nat)) (by kernel_rfl) (by kernel_rfl) (by kernel_rfl) (Pl.free 9 (by kernel_rfl)) (Pl.extr 9 (.tmp 39) 1 _ (by kernel_rfl) (by decide) (fun _ => rfl)) e6 ?_
  refine Pl.H.take 10 49 (.int .i64 (takeOut (xs.drop 18) (List.replicate n 5)).2.2) (by kernel_rfl) (by kernel_rfl) (by kernel_rfl) (Pl.free 10 (by kernel_rfl)) (Pl.extr 10 (.tmp 39) 2 _ (by kernel_rfl) (by decide) (fun _ => rfl)) e6 ?_
  refine Pl.H.take 11 9 (v6) (by kernel_rfl) (by kernel_rfl) (by kernel_rfl) (Pl.free 11 (by kernel_rfl)) (Pl.assign 11 (.tmp 47) (by kernel_rfl) (by decide)) e6 ?_
  refine Pl.H.take 12 10 (.int .i64 ((takeOut (xs.drop 18) (List.replicate n 5)).2.1 : Nat)) (by kernel_rfl) (by kernel_rfl) (by kernel_rfl) (Pl.free 12 (by kernel_rfl)) (Pl.assign 12 (.tmp 48) (by kernel_rfl) (by decide)) e6 ?_
  refine Pl.H.take 13 6 (.int .i64 (takeOut (xs.drop 18) (List.replicate n 5)).2.2) (by kernel_rfl) (by kernel_rfl) (by kernel_rfl) (Pl.free 13 (by kernel_rfl)) (Pl.assign 13 (.tmp 49) (by kernel_rfl) (by decide)) e6 ?_
  refine Pl.H.done (by kernel_rfl) (fun A' hA' => ?_)
  rw [Pl.At.ext hA' ((((((((((((((hA.put 40 _).put 41 _).put 42 _).put 44 _).put 43 _).put 45 _).put 46 _).put 39 _).put 47 _).put 48 _).put 49 _).put 9 _).put 10 _).put 6 _)]
  exact hend (fun d => if d = 40 then .slice (some ⟨tb, tp, none⟩) 508 tc else if d = 41 then .int .i64 ((18 : Nat) : Int) else if d = 42 then .slice (some ⟨tb, tp + 18, none⟩) 490 (tc - 18) else if d = 44 then .int .i64 ((n : Nat) : Int) else if d = 43 then .slice (some ⟨w.drew.heap.size, 0, none⟩) 1 1 else if d = 45 then Sl.val s5 else if d = 46 then .tuple #[v6, .int .i64 ((takeOut (xs.drop 18) (List.replicate n 5)).2.1 : Nat), .int .i64 (takeOut (xs.drop 18) (List.replicate n 5)).2.2] else if d = 39 then .tuple #[v6, .int .i64 ((takeOut (xs.drop 18) (List.replicate n 5)).2.1 : Nat), .int .i64 (takeOut (xs.drop 18) (List.replicate n 5)).2.2] else if d = 47 then v6 else if d = 48 then .int .i64 ((takeOut (xs.drop 18) (List.replicate n 5)).2.1 : Nat) else if d = 49 then .int .i64 (takeOut (xs.drop 18) (List.replicate n 5)).2.2 else undef) _ v6 ⟨e6, ho6.lower e5.size, hf6⟩

set_option maxHeartbeats 2000000 in
set_option maxRecDepth 100000 in
theorem leaf8 (w : World) (n : Nat) (hn : n ≤ 255)
    {Q : Exit → Act → World → Prop} {A : Act} (hsz : A.tmps.size = 104) (hdf : A.defers = []) (s8 : A.tmps.getD 8 undef = .int .i64 ((n : Nat) : Int))
    (hend : ∀ (u : Nat → Value) w' (g3 : Nat) (s0 s2 : Sl), Cp w w' g3 s0 s2 (List.replicate 4 0) (List.replicate n Sb.zero) → Q .normal ((((((A).put (some 63) (u 63)).put (some 62) (u 62)).put (some 64) (u 64)).put (some 65) (u 65)).put (some 11) (.pointer (some ⟨g3, 0, none⟩))) w') :
    (Code.region 8 (Pl.find 8 ((Try.f33.body).getD .skip)) true).wp Try.prog Q A w := by
  have hA := Pl.At.same (v := .int .i64 ((n : Nat) : Int)) (d := 8) (Pl.At.here hsz hdf) s8
  refine Pl.H.start (S := (fun w' => Below w.heap.size w w')) (by kernel_rfl) hA (below_drew w) ?_
  rw [show (Pl.find 8 ((Try.f33.body).getD .skip)).size = 6 by kernel_rfl]
  refine Pl.H.take 1 63 (.int .i64 ((n : Nat) : Int)) (by kernel_rfl) (by kernel_rfl) (by kernel_rfl) (Pl.free 1 (by kernel_rfl)) (Pl.move 1 (.tmp 8) (by kernel_rfl) (by decide)) (below_drew w) ?_
  refine Pl.H.three 0 2 4 (by kernel_rfl) ?_ ?_ ?_
  · obtain ⟨s0, W0, hmk0, ho0, hl0, hk0, hb0⟩ := mk_ints w.drew 4 (by decide)
    have e0 := rBelow (below_drew w) hb0
    have un : ∀ k, s0.blk = some k → w.heap.size ≤ k := fun k hk => Nat.le_trans (below_drew w).size (hk0 k hk)
    refine Pl.HOp.value 0 62 (Sl.val s0) W0 (by kernel_rfl) (by kernel_rfl) (by kernel_rfl) (Pl.mkV 0 22 (.const (.int .i64 4)) (.const (.int .i64 4)) _ _ (by kernel_rfl) (by decide) (by decide) hmk0) e0 ?_
    refine Pl.H.two 2 4 (by kernel_rfl) ?_ ?_
    · obtain ⟨s2, W2, hmk2, ho2, hl2, hk2, hb2⟩ := mk_slots W0 n (by omega)
      have e2 := rBelow e0 hb2
      have n2 : OwnN W2 s0 (List.replicate 4 0) := Own.below ho0 hb2
      have vn : ∀ k, s2.blk = some k → w.heap.size ≤ k := fun k hk => Nat.le_trans e0.size (hk2 k hk)
      refine Pl.HOp.value 2 64 (Sl.val s2) W2 (by kernel_rfl) (by kernel_rfl) (by kernel_rfl) (Pl.mkV 2 23 (.tmp 63) (.tmp 63) _ _ (by kernel_rfl) (by decide) (by decide) hmk2) e2 ?_
      refine Pl.H.take 3 65 (lfV s0 s2) (by kernel_rfl) (by kernel_rfl) (by kernel_rfl) (Pl.free 3 (by kernel_rfl)) (Pl.buildV 3 25 [(0, .tmp 62), (1, .tmp 64)] _ (by kernel_rfl) (by decide) (build_lf s0 s2)) e2 ?_
      have hb4 := below_alloc W2 (.cells #[.slice none 0 0, .slice none 0 0] 25)
      have e4 := rBelow e2 hb4
      have n4 : OwnN (W2.alloc (.cells #[.slice none 0 0, .slice none 0 0] 25)) s0 (List.replicate 4 0) := Own.below n2 hb4
      have b4 : OwnB (W2.alloc (.cells #[.slice none 0 0, .slice none 0 0] 25)) s2 (List.replicate n Sb.zero) := Own.below ho2 hb4
      have k4 := lfBlk_new W2 (.slice none 0 0) (.slice none 0 0)
      have gn : w.heap.size ≤ W2.heap.size := e2.size
      refine Pl.H.make 4 11 (.pointer (some ⟨W2.heap.size, 0, none⟩)) (W2.alloc (.cells #[.slice none 0 0, .slice none 0 0] 25)) (by kernel_rfl) (by kernel_rfl) (by kernel_rfl) (Pl.free 4 (by kernel_rfl)) (Pl.allocV 4 25 _ _ (by kernel_rfl) (alloc_lf W2)) e4 ?_
      obtain ⟨W8, hst8, k8, f8⟩ := st_lf (W2.alloc (.cells #[.slice none 0 0, .slice none 0 0] 25)) W2.heap.size _ _ k4 s0 s2
      have e8 : Below w.heap.size w W8 := e4.trans (f8.below e4.size (fun k hk => by rw [hk]; exact gn))
      have cp : Cp w W8 W2.heap.size s0 s2 (List.replicate 4 0) (List.replicate n Sb.zero) := ⟨k8, Own.kept n4 f8 (Own.unbox n4 k4 (by decide)), Own.kept b4 f8 (Own.unbox b4 k4 (by decide)), un, vn, gn, e8⟩
      refine Pl.H.store 5 W8 (by kernel_rfl) (by kernel_rfl) (by kernel_rfl) (Pl.free 5 (by kernel_rfl)) (Pl.storeV 5 25 (.tmp 11) (.tmp 65) _ (by kernel_rfl) (by decide) (by decide) hst8) e8 ?_
      refine Pl.H.done (by kernel_rfl) (fun A' hA' => ?_)
      rw [Pl.At.ext hA' (((((hA.put 63 _).put 62 _).put 64 _).put 65 _).put 11 _)]
      exact hend (fun d => if d = 63 then .int .i64 ((n : Nat) : Int) else if d = 62 then Sl.val s0 else if d = 64 then Sl.val s2 else if d = 65 then lfV s0 s2 else undef) _ _ s0 s2 cp
    · have hb4 := below_alloc W0 (.cells #[.slice none 0 0, .slice none 0 0] 25)
      have e4 := rBelow e0 hb4
      have n4 : OwnN (W0.alloc (.cells #[.slice none 0 0, .slice none 0 0] 25)) s0 (List.replicate 4 0) := Own.below ho0 hb4
      have k4 := lfBlk_new W0 (.slice none 0 0) (.slice none 0 0)
      have gn : w.heap.size ≤ W0.heap.size := e0.size
      refine Pl.HOp.value 4 11 (.pointer (some ⟨W0.heap.size, 0, none⟩)) (W0.alloc (.cells #[.slice none 0 0, .slice none 0 0] 25)) (by kernel_rfl) (by kernel_rfl) (by kernel_rfl) (Pl.allocV 4 25 _ _ (by kernel_rfl) (alloc_lf W0)) e4 ?_
      obtain ⟨s2, W2, hmk2, ho2, hl2, hk2, hb2⟩ := mk_slots (W0.alloc (.cells #[.slice none 0 0, .slice none 0 0] 25)) n (by omega)
      have e2 := rBelow e4 hb2
      have n2 : OwnN W2 s0 (List.replicate 4 0) := Own.below n4 hb2
      have k2 : LfBlk W2 W0.heap.size (.slice none 0 0) (.slice none 0 0) := LfBlk.below k4 hb2
      have vn : ∀ k, s2.blk = some k → w.heap.size ≤ k := fun k hk => Nat.le_trans e4.size (hk2 k hk)
      refine Pl.H.make 2 64 (Sl.val s2) W2 (by kernel_rfl) (by kernel_rfl) (by kernel_rfl) (Pl.free 2 (by kernel_rfl)) (Pl.mkV 2 23 (.tmp 63) (.tmp 63) _ _ (by kernel_rfl) (by decide) (by decide) hmk2) e2 ?_
      rw [Pl.upd_comm _ 11 64 _ _ (by decide)]
      refine Pl.H.take 3 65 (lfV s0 s2) (by kernel_rfl) (by kernel_rfl) (by kernel_rfl) (Pl.free 3 (by kernel_rfl)) (Pl.buildV 3 25 [(0, .tmp 62), (1, .tmp 64)] _ (by kernel_rfl) (by decide) (build_lf s0 s2)) e2 ?_
      rw [Pl.upd_comm _ 11 65 _ _ (by decide)]
      obtain ⟨W8, hst8, k8, f8⟩ := st_lf W2 W0.heap.size _ _ k2 s0 s2
      have e8 : Below w.heap.size w W8 := e2.trans (f8.below e2.size (fun k hk => by rw [hk]; exact gn))
      have cp : Cp w W8 W0.heap.size s0 s2 (List.replicate 4 0) (List.replicate n Sb.zero) := ⟨k8, Own.kept n2 f8 (Own.unbox n2 k2 (by decide)), Own.kept ho2 f8 (Own.unbox ho2 k2 (by decide)), un, vn, gn, e8⟩
      refine Pl.H.store 5 W8 (by kernel_rfl) (by kernel_rfl) (by kernel_rfl) (Pl.free 5 (by kernel_rfl)) (Pl.storeV 5 25 (.tmp 11) (.tmp 65) _ (by kernel_rfl) (by decide) (by decide) hst8) e8 ?_
      refine Pl.H.done (by kernel_rfl) (fun A' hA' => ?_)
      rw [Pl.At.ext hA' (((((hA.put 63 _).put 62 _).put 64 _).put 65 _).put 11 _)]
      exact hend (fun d => if d = 63 then .int .i64 ((n : Nat) : Int) else if d = 62 then Sl.val s0 else if d = 64 then Sl.val s2 else if d = 65 then lfV s0 s2 else undef) _ _ s0 s2 cp
  · obtain ⟨s2, W2, hmk2, ho2, hl2, hk2, hb2⟩ := mk_slots w.drew n (by omega)
    have e2 := rBelow (below_drew w) hb2
    have vn : ∀ k, s2.blk = some k → w.heap.size ≤ k := fun k hk => Nat.le_trans (below_drew w).size (hk2 k hk)
    refine Pl.HOp.value 2 64 (Sl.val s2) W2 (by kernel_rfl) (by kernel_rfl) (by kernel_rfl) (Pl.mkV 2 23 (.tmp 63) (.tmp 63) _ _ (by kernel_rfl) (by decide) (by decide) hmk2) e2 ?_
    refine Pl.H.two 0 4 (by kernel_rfl) ?_ ?_
    · obtain ⟨s0, W0, hmk0, ho0, hl0, hk0, hb0⟩ := mk_ints W2 4 (by decide)
      have e0 := rBelow e2 hb0
      have b0 : OwnB W0 s2 (List.replicate n Sb.zero) := Own.below ho2 hb0
      have un : ∀ k, s0.blk = some k → w.heap.size ≤ k := fun k hk => Nat.le_trans e2.size (hk0 k hk)
      refine Pl.HOp.value 0 62 (Sl.val s0) W0 (by kernel_rfl) (by kernel_rfl) (by kernel_rfl) (Pl.mkV 0 22 (.const (.int .i64 4)) (.const (.int .i64 4)) _ _ (by kernel_rfl) (by decide) (by decide) hmk0) e0 ?_
      rw [Pl.upd_comm _ 64 62 _ _ (by decide)]
      refine Pl.H.take 3 65 (lfV s0 s2) (by kernel_rfl) (by kernel_rfl) (by kernel_rfl) (Pl.free 3 (by kernel_rfl)) (Pl.buildV 3 25 [(0, .tmp 62), (1, .tmp 64)] _ (by kernel_rfl) (by decide) (build_lf s0 s2)) e0 ?_
      have hb4 := below_alloc W0 (.cells #[.slice none 0 0, .slice none 0 0] 25)
      have e4 := rBelow e0 hb4
      have n4 : OwnN (W0.alloc (.cells #[.slice none 0 0, .slice none 0 0] 25)) s0 (List.replicate 4 0) := Own.below ho0 hb4
      have b4 : OwnB (W0.alloc (.cells #[.slice none 0 0, .slice none 0 0] 25)) s2 (List.replicate n Sb.zero) := Own.below b0 hb4
      have k4 := lfBlk_new W0 (.slice none 0 0) (.slice none 0 0)
      have gn : w.heap.size ≤ W0.heap.size := e0.size
      refine Pl.H.make 4 11 (.pointer (some ⟨W0.heap.size, 0, none⟩)) (W0.alloc (.cells #[.slice none 0 0, .slice none 0 0] 25)) (by kernel_rfl) (by kernel_rfl) (by kernel_rfl) (Pl.free 4 (by kernel_rfl)) (Pl.allocV 4 25 _ _ (by kernel_rfl) (alloc_lf W0)) e4 ?_
      obtain ⟨W8, hst8, k8, f8⟩ := st_lf (W0.alloc (.cells #[.slice none 0 0, .slice none 0 0] 25)) W0.heap.size _ _ k4 s0 s2
      have e8 : Below w.heap.size w W8 := e4.trans (f8.below e4.size (fun k hk => by rw [hk]; exact gn))
      have cp : Cp w W8 W0.heap.size s0 s2 (List.replicate 4 0) (List.replicate n Sb.zero) := ⟨k8, Own.kept n4 f8 (Own.unbox n4 k4 (by decide)), Own.kept b4 f8 (Own.unbox b4 k4 (by decide)), un, vn, gn, e8⟩
      refine Pl.H.store 5 W8 (by kernel_rfl) (by kernel_rfl) (by kernel_rfl) (Pl.free 5 (by kernel_rfl)) (Pl.storeV 5 25 (.tmp 11) (.tmp 65) _ (by kernel_rfl) (by decide) (by decide) hst8) e8 ?_
      refine Pl.H.done (by kernel_rfl) (fun A' hA' => ?_)
      rw [Pl.At.ext hA' (((((hA.put 63 _).put 62 _).put 64 _).put 65 _).put 11 _)]
      exact hend (fun d => if d = 63 then .int .i64 ((n : Nat) : Int) else if d = 62 then Sl.val s0 else if d = 64 then Sl.val s2 else if d = 65 then lfV s0 s2 else undef) _ _ s0 s2 cp
    · have hb4 := below_alloc W2 (.cells #[.slice none 0 0, .slice none 0 0] 25)
      have e4 := rBelow e2 hb4
      have b4 : OwnB (W2.alloc (.cells #[.slice none 0 0, .slice none 0 0] 25)) s2 (List.replicate n Sb.zero) := Own.below ho2 hb4
      have k4 := lfBlk_new W2 (.slice none 0 0) (.slice none 0 0)
      have gn : w.heap.size ≤ W2.heap.size := e2.size
      refine Pl.HOp.value 4 11 (.pointer (some ⟨W2.heap.size, 0, none⟩)) (W2.alloc (.cells #[.slice none 0 0, .slice none 0 0] 25)) (by kernel_rfl) (by kernel_rfl) (by kernel_rfl) (Pl.allocV 4 25 _ _ (by kernel_rfl) (alloc_lf W2)) e4 ?_
      obtain ⟨s0, W0, hmk0, ho0, hl0, hk0, hb0⟩ := mk_ints (W2.alloc (.cells #[.slice none 0 0, .slice none 0 0] 25)) 4 (by decide)
      have e0 := rBelow e4 hb0
      have b0 : OwnB W0 s2 (List.replicate n Sb.zero) := Own.below b4 hb0
      have k0 : LfBlk W0 W2.heap.size (.slice none 0 0) (.slice none 0 0) := LfBlk.below k4 hb0
      have un : ∀ k, s0.blk = some k → w.heap.size ≤ k := fun k hk => Nat.le_trans e4.size (hk0 k hk)
      refine Pl.H.make 0 62 (Sl.val s0) W0 (by kernel_rfl) (by kernel_rfl) (by kernel_rfl) (Pl.free 0 (by kernel_rfl)) (Pl.mkV 0 22 (.const (.int .i64 4)) (.const (.int .i64 4)) _ _ (by kernel_rfl) (by decide) (by decide) hmk0) e0 ?_
      rw [Pl.upd_comm _ 11 62 _ _ (by decide)]
      rw [Pl.upd_comm _ 64 62 _ _ (by decide)]
      refine Pl.H.take 3 65 (lfV s0 s2) (by kernel_rfl) (by kernel_rfl) (by kernel_rfl) (Pl.free 3 (by kernel_rfl)) (Pl.buildV 3 25 [(0, .tmp 62), (1, .tmp 64)] _ (by kernel_rfl) (by decide) (build_lf s0 s2)) e0 ?_
      rw [Pl.upd_comm _ 11 65 _ _ (by decide)]
      obtain ⟨W8, hst8, k8, f8⟩ := st_lf W0 W2.heap.size _ _ k0 s0 s2
      have e8 : Below w.heap.size w W8 := e0.trans (f8.below e0.size (fun k hk => by rw [hk]; exact gn))
      have cp : Cp w W8 W2.heap.size s0 s2 (List.replicate 4 0) (List.replicate n Sb.zero) := ⟨k8, Own.kept ho0 f8 (Own.unbox ho0 k0 (by decide)), Own.kept b0 f8 (Own.unbox b0 k0 (by decide)), un, vn, gn, e8⟩
      refine Pl.H.store 5 W8 (by kernel_rfl) (by kernel_rfl) (by kernel_rfl) (Pl.free 5 (by kernel_rfl)) (Pl.storeV 5 25 (.tmp 11) (.tmp 65) _ (by kernel_rfl) (by decide) (by decide) hst8) e8 ?_
      refine Pl.H.done (by kernel_rfl) (fun A' hA' => ?_)
      rw [Pl.At.ext hA' (((((hA.put 63 _).put 62 _).put 64 _).put 65 _).put 11 _)]
      exact hend (fun d => if d = 63 then .int .i64 ((n : Nat) : Int) else if d = 62 then Sl.val s0 else if d = 64 then Sl.val s2 else if d = 65 then lfV s0 s2 else undef) _ _ s0 s2 cp
  · have hb4 := below_alloc w.drew (.cells #[.slice none 0 0, .slice none 0 0] 25)
    have e4 := rBelow (below_drew w) hb4
    have k4 := lfBlk_new w.drew (.slice none 0 0) (.slice none 0 0)
    have gn : w.heap.size ≤ w.drew.heap.size := (below_drew w).size
    refine Pl.HOp.value 4 11 (.pointer (some ⟨w.drew.heap.size, 0, none⟩)) (w.drew.alloc (.cells #[.slice none 0 0, .slice none 0 0] 25)) (by kernel_rfl) (by kernel_rfl) (by kernel_rfl) (Pl.allocV 4 25 _ _ (by kernel_rfl) (alloc_lf w.drew)) e4 ?_
    refine Pl.H.two 0 2 (by kernel_rfl) ?_ ?_
    · obtain ⟨s0, W0, hmk0, ho0, hl0, hk0, hb0⟩ := mk_ints (w.drew.alloc (.cells #[.slice none 0 0, .slice none 0 0] 25)) 4 (by decide)
      have e0 := rBelow e4 hb0
      have k0 : LfBlk W0 w.drew.heap.size (.slice none 0 0) (.slice none 0 0) := LfBlk.below k4 hb0
      have un : ∀ k, s0.blk = some k → w.heap.size ≤ k := fun k hk => Nat.le_trans e4.size (hk0 k hk)
      refine Pl.HOp.value 0 62 (Sl.val s0) W0 (by kernel_rfl) (by kernel_rfl) (by kernel_rfl) (Pl.mkV 0 22 (.const (.int .i64 4)) (.const (.int .i64 4)) _ _ (by kernel_rfl) (by decide) (by decide) hmk0) e0 ?_
      rw [Pl.upd_comm _ 11 62 _ _ (by decide)]
      obtain ⟨s2, W2, hmk2, ho2, hl2, hk2, hb2⟩ := mk_slots W0 n (by omega)
      have e2 := rBelow e0 hb2
      have n2 : OwnN W2 s0 (List.replicate 4 0) := Own.below ho0 hb2
      have k2 : LfBlk W2 w.drew.heap.size (.slice none 0 0) (.slice none 0 0) := LfBlk.below k0 hb2
      have vn : ∀ k, s2.blk = some k → w.heap.size ≤ k := fun k hk => Nat.le_trans e0.size (hk2 k hk)
      refine Pl.H.make 2 64 (Sl.val s2) W2 (by kernel_rfl) (by kernel_rfl) (by kernel_rfl) (Pl.free 2 (by kernel_rfl)) (Pl.mkV 2 23 (.tmp 63) (.tmp 63) _ _ (by kernel_rfl) (by decide) (by decide) hmk2) e2 ?_
      rw [Pl.upd_comm _ 11 64 _ _ (by decide)]
      refine Pl.H.take 3 65 (lfV s0 s2) (by kernel_rfl) (by kernel_rfl) (by kernel_rfl) (Pl.free 3 (by kernel_rfl)) (Pl.buildV 3 25 [(0, .tmp 62), (1, .tmp 64)] _ (by kernel_rfl) (by decide) (build_lf s0 s2)) e2 ?_
      rw [Pl.upd_comm _ 11 65 _ _ (by decide)]
      obtain ⟨W8, hst8, k8, f8⟩ := st_lf W2 w.drew.heap.size _ _ k2 s0 s2
      have e8 : Below w.heap.size w W8 := e2.trans (f8.below e2.size (fun k hk => by rw [hk]; exact gn))
      have cp : Cp w W8 w.drew.heap.size s0 s2 (List.replicate 4 0) (List.replicate n Sb.zero) := ⟨k8, Own.kept n2 f8 (Own.unbox n2 k2 (by decide)), Own.kept ho2 f8 (Own.unbox ho2 k2 (by decide)), un, vn, gn, e8⟩
      refine Pl.H.store 5 W8 (by kernel_rfl) (by kernel_rfl) (by kernel_rfl) (Pl.free 5 (by kernel_rfl)) (Pl.storeV 5 25 (.tmp 11) (.tmp 65) _ (by kernel_rfl) (by decide) (by decide) hst8) e8 ?_
      refine Pl.H.done (by kernel_rfl) (fun A' hA' => ?_)
      rw [Pl.At.ext hA' (((((hA.put 63 _).put 62 _).put 64 _).put 65 _).put 11 _)]
      exact hend (fun d => if d = 63 then .int .i64 ((n : Nat) : Int) else if d = 62 then Sl.val s0 else if d = 64 then Sl.val s2 else if d = 65 then lfV s0 s2 else undef) _ _ s0 s2 cp
    · obtain ⟨s2, W2, hmk2, ho2, hl2, hk2, hb2⟩ := mk_slots (w.drew.alloc (.cells #[.slice none 0 0, .slice none 0 0] 25)) n (by omega)
      have e2 := rBelow e4 hb2
      have k2 : LfBlk W2 w.drew.heap.size (.slice none 0 0) (.slice none 0 0) := LfBlk.below k4 hb2
      have vn : ∀ k, s2.blk = some k → w.heap.size ≤ k := fun k hk => Nat.le_trans e4.size (hk2 k hk)
      refine Pl.HOp.value 2 64 (Sl.val s2) W2 (by kernel_rfl) (by kernel_rfl) (by kernel_rfl) (Pl.mkV 2 23 (.tmp 63) (.tmp 63) _ _ (by kernel_rfl) (by decide) (by decide) hmk2) e2 ?_
      rw [Pl.upd_comm _ 11 64 _ _ (by decide)]
      obtain ⟨s0, W0, hmk0, ho0, hl0, hk0, hb0⟩ := mk_ints W2 4 (by decide)
      have e0 := rBelow e2 hb0
      have b0 : OwnB W0 s2 (List.replicate n Sb.zero) := Own.below ho2 hb0
      have k0 : LfBlk W0 w.drew.heap.size (.slice none 0 0) (.slice none 0 0) := LfBlk.below k2 hb0
      have un : ∀ k, s0.blk = some k → w.heap.size ≤ k := fun k hk => Nat.le_trans e2.size (hk0 k hk)
      refine Pl.H.make 0 62 (Sl.val s0) W0 (by kernel_rfl) (by kernel_rfl) (by kernel_rfl) (Pl.free 0 (by kernel_rfl)) (Pl.mkV 0 22 (.const (.int .i64 4)) (.const (.int .i64 4)) _ _ (by kernel_rfl) (by decide) (by decide) hmk0) e0 ?_
      rw [Pl.upd_comm _ 11 62 _ _ (by decide)]
      rw [Pl.upd_comm _ 64 62 _ _ (by decide)]
      refine Pl.H.take 3 65 (lfV s0 s2) (by kernel_rfl) (by kernel_rfl) (by kernel_rfl) (Pl.free 3 (by kernel_rfl)) (Pl.buildV 3 25 [(0, .tmp 62), (1, .tmp 64)] _ (by kernel_rfl) (by decide) (build_lf s0 s2)) e0 ?_
      rw [Pl.upd_comm _ 11 65 _ _ (by decide)]
      obtain ⟨W8, hst8, k8, f8⟩ := st_lf W0 w.drew.heap.size _ _ k0 s0 s2
      have e8 : Below w.heap.size w W8 := e0.trans (f8.below e0.size (fun k hk => by rw [hk]; exact gn))
      have cp : Cp w W8 w.drew.heap.size s0 s2 (List.replicate 4 0) (List.replicate n Sb.zero) := ⟨k8, Own.kept ho0 f8 (Own.unbox ho0 k0 (by decide)), Own.kept b0 f8 (Own.unbox b0 k0 (by decide)), un, vn, gn, e8⟩
      refine Pl.H.store 5 W8 (by kernel_rfl) (by kernel_rfl) (by kernel_rfl) (Pl.free 5 (by kernel_rfl)) (Pl.storeV 5 25 (.tmp 11) (.tmp 65) _ (by kernel_rfl) (by decide) (by decide) hst8) e8 ?_
      refine Pl.H.done (by kernel_rfl) (fun A' hA' => ?_)
      rw [Pl.At.ext hA' (((((hA.put 63 _).put 62 _).put 64 _).put 65 _).put 11 _)]
      exact hend (fun d => if d = 63 then .int .i64 ((n : Nat) : Int) else if d = 62 then Sl.val s0 else if d = 64 then Sl.val s2 else if d = 65 then lfV s0 s2 else undef) _ _ s0 s2 cp

/-- A row of bytes that was made of a text, laid into a row of one's own. -/
structure Lz (w w' : World) (g : Nat) (u v : Sl) (m : List Sb) (i : Nat) (xs : List Nat) (s : Sl) : Prop where
  k : LfBlk w' g u.val v.val
  ob : OwnB w' v (m.set i ⟨s, xs⟩)
  cm : Came w' s.a s.len s.cap xs
  si : ∀ k, s.blk = some k → w.heap.size ≤ k
  f : Frm (fun k => v.blk = some k) w w'

set_option maxHeartbeats 2000000 in
set_option maxRecDepth 100000 in
theorem leaf17 (w : World) (g gb b o len cap i : Nat) (un : Sl) (m : List Sb) (xs : List Nat) (hi : i < len) (hxb : Bytes xs) (hxl : xs.length ≤ 1000) (hg : LfBlk w g un.val (.slice (some ⟨b, o, none⟩) len cap)) (hob : OwnB w ⟨some ⟨b, o, none⟩, len, cap⟩ m) (hgb : ¬ Sl.blk ⟨some ⟨b, o, none⟩, len, cap⟩ = some g) (hst : ∀ W, Frm (fun k => Sl.blk ⟨some ⟨b, o, none⟩, len, cap⟩ = some k) w W → W.cell? ⟨gb, 3, none⟩ = some (.string (bstr xs)))
    {Q : Exit → Act → World → Prop} {A : Act} (hsz : A.tmps.size = 104) (hdf : A.defers = []) (s11 : A.tmps.getD 11 undef = .pointer (some ⟨g, 0, none⟩)) (s14 : A.tmps.getD 14 undef = .int .i64 ((i : Nat) : Int)) (s15 : A.tmps.getD 15 undef = .pointer (some ⟨gb, 0, none⟩))
    (hend : ∀ (u : Nat → Value) w' (s : Sl), Lz w w' g un ⟨some ⟨b, o, none⟩, len, cap⟩ m i xs s → Q .normal ((((((((((((A).put (some 87) (u 87)).put (some 88) (u 88)).put (some 89) (u 89)).put (some 90) (u 90)).put (some 91) (u 91)).put (some 93) (u 93)).put (some 94) (u 94)).put (some 95) (u 95)).put (some 92) (u 92)).put (some 96) (u 96)).put (some 97) (u 97)) w') :
    (Code.region 17 (Pl.find 17 ((Try.f33.body).getD .skip)) true).wp Try.prog Q A w := by
  have hA := Pl.At.same (v := .pointer (some ⟨gb, 0, none⟩)) (d := 15) (Pl.At.same (v := .int .i64 ((i : Nat) : Int)) (d := 14) (Pl.At.same (v := .pointer (some ⟨g, 0, none⟩)) (d := 11) (Pl.At.here hsz hdf) s11) s14) s15
  refine Pl.H.start (S := (fun w' => Frm (fun k => Sl.blk ⟨some ⟨b, o, none⟩, len, cap⟩ = some k) w w')) (by kernel_rfl) hA (Frm.ofBelow (below_drew w)) ?_
  rw [show (Pl.find 17 ((Try.f33.body).getD .skip)).size = 12 by kernel_rfl]
  refine Pl.H.take 0 87 (.pointer (some ⟨g, 1, none⟩)) (by kernel_rfl) (by kernel_rfl) (by kernel_rfl) (Pl.free 0 (by kernel_rfl)) (Pl.field 0 25 (.tmp 11) 1 _ (by kernel_rfl) (by decide) (fdLf1 g)) (Frm.ofBelow (below_drew w)) ?_
  refine Pl.H.take 1 88 (.slice (some ⟨b, o, none⟩) len cap) (by kernel_rfl) (by kernel_rfl) (by kernel_rfl) (Pl.free 1 (by kernel_rfl)) (Pl.load 1 23 (.tmp 87) _ (by kernel_rfl) (by decide) (fun w' hS => ldLf1 g un.val ⟨some ⟨b, o, none⟩, len, cap⟩ w' (hS.lf hg hgb))) (Frm.ofBelow (below_drew w)) ?_
  refine Pl.H.take 2 89 (.int .i64 ((i : Nat) : Int)) (by kernel_rfl) (by kernel_rfl) (by kernel_rfl) (Pl.free 2 (by kernel_rfl)) (Pl.move 2 (.tmp 14) (by kernel_rfl) (by decide)) (Frm.ofBelow (below_drew w)) ?_
  refine Pl.H.take 3 90 (.pointer (some ⟨gb, 3, none⟩)) (by kernel_rfl) (by kernel_rfl) (by kernel_rfl) (Pl.free 3 (by kernel_rfl)) (Pl.field 3 59 (.tmp 15) 3 _ (by kernel_rfl) (by decide) (field_it3 gb)) (Frm.ofBelow (below_drew w)) ?_
  refine Pl.H.take 4 91 (.string (bstr xs)) (by kernel_rfl) (by kernel_rfl) (by kernel_rfl) (Pl.free 4 (by kernel_rfl)) (Pl.load 4 9 (.tmp 90) _ (by kernel_rfl) (by decide) (fun w' hS => ldStr gb 3 (bstr xs) w' (hst w' hS))) (Frm.ofBelow (below_drew w)) ?_
  refine Pl.H.take 6 93 (.pointer (some ⟨gb, 3, none⟩)) (by kernel_rfl) (by kernel_rfl) (by kernel_rfl) (Pl.free 6 (by kernel_rfl)) (Pl.field 6 59 (.tmp 15) 3 _ (by kernel_rfl) (by decide) (field_it3 gb)) (Frm.ofBelow (below_drew w)) ?_
  refine Pl.H.take 7 94 (.string (bstr xs)) (by kernel_rfl) (by kernel_rfl) (by kernel_rfl) (Pl.free 7 (by kernel_rfl)) (Pl.load 7 9 (.tmp 93) _ (by kernel_rfl) (by decide) (fun w' hS => ldStr gb 3 (bstr xs) w' (hst w' hS))) (Frm.ofBelow (below_drew w)) ?_
  refine Pl.H.take 8 95 (.int .i64 (((bstr xs).size : Nat) : Int)) (by kernel_rfl) (by kernel_rfl) (by kernel_rfl) (Pl.free 8 (by kernel_rfl)) (Pl.lenOf 8 9 (.tmp 94) _ (by kernel_rfl) (by decide) (fun ty w => len_str (bstr xs) ty w)) (Frm.ofBelow (below_drew w)) ?_
  obtain ⟨s5, w5, hcv5, hcm5, hl5, ha5, hb5⟩ := bytes_of w.drew xs hxb hxl
  have e5 := rBelow (below_drew w) hb5
  refine Pl.H.make 5 92 (Sl.val s5) w5 (by kernel_rfl) (by kernel_rfl) (by kernel_rfl) (Pl.free 5 (by kernel_rfl)) (Pl.convM 5 9 28 (.tmp 91) _ _ (by kernel_rfl) (by decide) hcv5) (Frm.ofBelow e5) ?_
  refine Pl.H.call 9 96 56 [(.tmp 92), (.tmp 95)] #[28, 3] (by kernel_rfl) (by kernel_rfl) (by kernel_rfl) (Pl.free 9 (by kernel_rfl)) (by kernel_rfl) (by decide) entCutU (Calls.mono (cut_bytes w5 s5.a s5.len s5.cap (bstr xs).size (by rw [bstr_size, ← hl5]; exact hcm5.le)) ?_)
  rintro e w9 ⟨rfl, hw9⟩
  subst hw9
  refine ⟨.slice s5.a (bstr xs).size (bstr xs).size, rfl, (Frm.ofBelow e5), ?_⟩
  refine Pl.H.take 10 97 (.pointer (some ⟨b, o + i, none⟩)) (by kernel_rfl) (by kernel_rfl) (by kernel_rfl) (Pl.free 10 (by kernel_rfl)) (Pl.index 10 23 (.tmp 88) (.tmp 89) _ (by kernel_rfl) (by decide) (by decide) (ixB1 b o len cap i hi)) (Frm.ofBelow e5) ?_
  have hob9 := Own.below hob e5
  obtain ⟨W6, hst6, ob6, f6⟩ := st_slot w9 b o len cap m hob9 i hi ⟨⟨s5.a, (bstr xs).size, (bstr xs).size⟩, xs⟩
  have hk9 : LfBlk w9 g un.val (.slice (some ⟨b, o, none⟩) len cap) := hg.below e5
  have hne : g ≠ b := fun e => Own.unbox hob9 hk9 (by decide) (by rw [e]; rfl)
  have hbw : b < w.heap.size := Own.lt hob rfl
  have hcm9 : Came W6 s5.a (bstr xs).size (bstr xs).size xs := by
    refine ⟨⟨(bstr_size xs).symm, hxb, fun j hj => ?_⟩, fun e => (by rw [ha5] at e; cases e), Nat.le_refl _, (by rw [bstr_size]; omega)⟩
    obtain ⟨bb, oo, hba, hbc⟩ := hcm5.bs.2.2 j (by rw [hl5, ← bstr_size xs]; exact hj)
    refine ⟨bb, oo, hba, ?_⟩
    rw [ha5] at hba
    cases hba
    exact (Kept.frm (D := fun k => k ≠ b) f6 (fun k hk e => hk e)).cell hbc (by show w.heap.size ≠ b; omega)
  have hf6 : Frm (fun k => Sl.blk ⟨some ⟨b, o, none⟩, len, cap⟩ = some k) w W6 := (Frm.ofBelow e5).trans (f6.mono (fun k _ e => by rw [e]; rfl)) (fun _ _ h => h)
  have lz : Lz w W6 g un ⟨some ⟨b, o, none⟩, len, cap⟩ m i xs ⟨s5.a, (bstr xs).size, (bstr xs).size⟩ := ⟨hk9.off f6 hne, ob6, hcm9, fun k hk => by have e : s5.a.map Addr.block = some k := hk; rw [ha5] at e; cases e; exact Nat.le_refl _, hf6⟩
  refine Pl.H.store 11 W6 (by kernel_rfl) (by kernel_rfl) (by kernel_rfl) (Pl.free 11 (by kernel_rfl)) (Pl.storeV 11 28 (.tmp 97) (.tmp 96) _ (by kernel_rfl) (by decide) (by decide) hst6) hf6 ?_
  refine Pl.H.done (by kernel_rfl) (fun A' hA' => ?_)
  rw [Pl.At.ext hA' (((((((((((hA.put 87 _).put 88 _).put 89 _).put 90 _).put 91 _).put 93 _).put 94 _).put 95 _).put 92 _).put 96 _).put 97 _)]
  exact hend (fun d => if d = 87 then .pointer (some ⟨g, 1, none⟩) else if d = 88 then .slice (some ⟨b, o, none⟩) len cap else if d = 89 then .int .i64 ((i : Nat) : Int) else if d = 90 then .pointer (some ⟨gb, 3, none⟩) else if d = 91 then .string (bstr xs) else if d = 93 then .pointer (some ⟨gb, 3, none⟩) else if d = 94 then .string (bstr xs) else if d = 95 then .int .i64 (((bstr xs).size : Nat) : Int) else if d = 92 then Sl.val s5 else if d = 96 then .slice s5.a (bstr xs).size (bstr xs).size else if d = 97 then .pointer (some ⟨b, o + i, none⟩) else undef) _ _ lz
end Go.Proofs.Ytgieigpbbkeonaa
