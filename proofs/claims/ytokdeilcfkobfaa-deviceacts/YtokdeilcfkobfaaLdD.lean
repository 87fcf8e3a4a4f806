/-
  The landed device: Stream, Pending, Read.
-/
import Derived.Test.YtokdeilcfkobfaaLdC
namespace Go.Proofs.Ytokdeilcfkobfaa
open Go.RowKit

theorem entClone : ∀ args w, (callFunc 40 args).run Try.prog w = .ok (.enter 40 args) w := Pl.enters Try.func40 (by kernel_rfl) (by kernel_rfl)
theorem entUnits : ∀ args w, (callFunc 38 args).run Try.prog w = .ok (.enter 38 args) w := Pl.enters Try.func38 (by kernel_rfl) (by kernel_rfl)
theorem entSpend : ∀ args w, (callFunc 33 args).run Try.prog w = .ok (.enter 33 args) w := Pl.enters Try.func33 (by kernel_rfl) (by kernel_rfl)
theorem entTrim : ∀ args w, (callFunc 37 args).run Try.prog w = .ok (.enter 37 args) w := Pl.enters Try.func37 (by kernel_rfl) (by kernel_rfl)

/-- A device's field, as bytes. -/
theorem DevM.came {w : World} {p : Nat} {D : Ds} {L : Dl} (h : DevM w p D L) (f : Fld) : Came w (L.s f).a (L.s f).len (L.s f).cap (D.b f) := (h.own f).came (h.byt f)
theorem below_drew (w : World) : Below w.heap.size w w.drew := (Below.refl _ _).drew

set_option maxHeartbeats 2000000 in
set_option maxRecDepth 100000 in
theorem stream3 (w : World) (p : Nat) (D : Ds) (L : Dl) (h : DevM w p D L) (hm : L.ss.len ≤ 1000000)
    {Q : Exit → Act → World → Prop} {A : Act} (hsz : A.tmps.size = 18) (hdf : A.defers = []) (s0 : A.tmps.getD 0 undef = .pointer (some ⟨p, 0, none⟩))
    (hend : ∀ (u : Nat → Value) w' s, Below w.heap.size w w' → Own 5 1 w' s (vals D.ss) → s.len = D.ss.length → (∀ k, s.blk = some k → w.heap.size ≤ k) → Q .normal ((((((((((((((A).put (some 7) (u 7)).put (some 8) (u 8)).put (some 9) (u 9)).put (some 10) (u 10)).put (some 11) (u 11)).put (some 12) (u 12)).put (some 13) (u 13)).put (some 14) (u 14)).put (some 15) (u 15)).put (some 16) (u 16)).put (some 17) (u 17)).put (some 2) (.int .i64 ((D.sb : Nat) : Int))).put (some 3) (s.val)) w') :
    (Code.region 3 (Pl.find 3 ((Try.f27.body).getD .skip)) true).wp Try.prog Q A w := by
  have hA := Pl.At.same (v := .pointer (some ⟨p, 0, none⟩)) (d := 0) (Pl.At.here hsz hdf) s0
  refine Pl.H.start (S := fun w' => DevM w' p D L) (by kernel_rfl) hA h.drew ?_
  rw [show (Pl.find 3 ((Try.f27.body).getD .skip)).size = 13 by kernel_rfl]
  refine Pl.H.take 0 7 (.pointer (some ⟨p, 0, none⟩)) (by kernel_rfl) (by kernel_rfl) (by kernel_rfl) (Pl.free 0 (by kernel_rfl)) (Pl.move 0 (.tmp 0) (by kernel_rfl) (by decide)) h.drew ?_
  refine Pl.H.take 1 8 (.pointer (some ⟨p, 0, none⟩)) (by kernel_rfl) (by kernel_rfl) (by kernel_rfl) (Pl.free 1 (by kernel_rfl)) (Pl.nilc 1 (.tmp 7) _ (by kernel_rfl) (by decide) rfl) h.drew ?_
  refine Pl.H.take 2 9 (.pointer (some ⟨p, 0, none⟩)) (by kernel_rfl) (by kernel_rfl) (by kernel_rfl) (Pl.free 2 (by kernel_rfl)) (Pl.field 2 69 (.tmp 8) 0 _ (by kernel_rfl) (by decide) (fdDev0_0 p)) h.drew ?_
  refine Pl.H.take 3 10 (.pointer (some ⟨p, 1, none⟩)) (by kernel_rfl) (by kernel_rfl) (by kernel_rfl) (Pl.free 3 (by kernel_rfl)) (Pl.field 3 65 (.tmp 9) 1 _ (by kernel_rfl) (by decide) (fdDk1_0 p)) h.drew ?_
  refine Pl.H.take 4 11 (.int .i64 ((D.sb : Nat) : Int)) (by kernel_rfl) (by kernel_rfl) (by kernel_rfl) (Pl.free 4 (by kernel_rfl)) (Pl.load 4 3 (.tmp 10) _ (by kernel_rfl) (by decide) (fun w' hS => ldInt p 1 _ w' hS.c1)) h.drew ?_
  refine Pl.H.take 5 12 (.pointer (some ⟨p, 0, none⟩)) (by kernel_rfl) (by kernel_rfl) (by kernel_rfl) (Pl.free 5 (by kernel_rfl)) (Pl.move 5 (.tmp 0) (by kernel_rfl) (by decide)) h.drew ?_
  refine Pl.H.take 6 13 (.pointer (some ⟨p, 0, none⟩)) (by kernel_rfl) (by kernel_rfl) (by kernel_rfl) (Pl.free 6 (by kernel_rfl)) (Pl.nilc 6 (.tmp 12) _ (by kernel_rfl) (by decide) rfl) h.drew ?_
  refine Pl.H.take 7 14 (.pointer (some ⟨p, 0, none⟩)) (by kernel_rfl) (by kernel_rfl) (by kernel_rfl) (Pl.free 7 (by kernel_rfl)) (Pl.field 7 69 (.tmp 13) 0 _ (by kernel_rfl) (by decide) (fdDev0_0 p)) h.drew ?_
  refine Pl.H.take 8 15 (.pointer (some ⟨p, 2, none⟩)) (by kernel_rfl) (by kernel_rfl) (by kernel_rfl) (Pl.free 8 (by kernel_rfl)) (Pl.field 8 65 (.tmp 14) 2 _ (by kernel_rfl) (by decide) (fdDk2_0 p)) h.drew ?_
  refine Pl.H.take 9 16 (.slice L.ss.a L.ss.len L.ss.cap) (by kernel_rfl) (by kernel_rfl) (by kernel_rfl) (Pl.free 9 (by kernel_rfl)) (Pl.load 9 30 (.tmp 15) _ (by kernel_rfl) (by decide) (fun w' hS => ldBs p 2 _ _ _ w' hS.c2)) h.drew ?_
  refine Pl.H.call 10 17 40 [(.tmp 16)] #[30] (by kernel_rfl) (by kernel_rfl) (by kernel_rfl) (Pl.free 10 (by kernel_rfl)) (by kernel_rfl) (by decide) entClone (Calls.mono (clone_any w.drew _ _ _ _ (h.drew.came .ss) hm) ?_)
  rintro e w2 ⟨hb2, s2, rfl, ho2, hl2, hk2⟩
  refine ⟨s2.val, rfl, (h.drew.keep hb2), ?_⟩
  refine Pl.H.take 11 2 (.int .i64 ((D.sb : Nat) : Int)) (by kernel_rfl) (by kernel_rfl) (by kernel_rfl) (Pl.free 11 (by kernel_rfl)) (Pl.assign 11 (.tmp 11) (by kernel_rfl) (by decide)) (h.drew.keep hb2) ?_
  refine Pl.H.take 12 3 (s2.val) (by kernel_rfl) (by kernel_rfl) (by kernel_rfl) (Pl.free 12 (by kernel_rfl)) (Pl.assign 12 (.tmp 17) (by kernel_rfl) (by decide)) (h.drew.keep hb2) ?_
  refine Pl.H.done (by kernel_rfl) (fun A' hA' => ?_)
  rw [Pl.At.ext hA' (((((((((((((hA.put 7 _).put 8 _).put 9 _).put 10 _).put 11 _).put 12 _).put 13 _).put 14 _).put 15 _).put 16 _).put 17 _).put 2 _).put 3 _)]
  exact hend (fun d => if d = 7 then .pointer (some ⟨p, 0, none⟩) else if d = 8 then .pointer (some ⟨p, 0, none⟩) else if d = 9 then .pointer (some ⟨p, 0, none⟩) else if d = 10 then .pointer (some ⟨p, 1, none⟩) else if d = 11 then .int .i64 ((D.sb : Nat) : Int) else if d = 12 then .pointer (some ⟨p, 0, none⟩) else if d = 13 then .pointer (some ⟨p, 0, none⟩) else if d = 14 then .pointer (some ⟨p, 0, none⟩) else if d = 15 then .pointer (some ⟨p, 2, none⟩) else if d = 16 then .slice L.ss.a L.ss.len L.ss.cap else if d = 17 then s2.val else undef) w2 s2 ((below_drew w).trans hb2) ho2 hl2 hk2

set_option maxHeartbeats 2000000 in
set_option maxRecDepth 100000 in
theorem pending3 (w : World) (p : Nat) (D : Ds) (L : Dl) (h : DevM w p D L) (hu : D.units ≤ 1000000000)
    {Q : Exit → Act → World → Prop} {A : Act} (hsz : A.tmps.size = 14) (hdf : A.defers = []) (s0 : A.tmps.getD 0 undef = .pointer (some ⟨p, 0, none⟩))
    (hend : ∀ (u : Nat → Value) w', Below w.heap.size w w' → Q .normal ((((((((((A).put (some 7) (u 7)).put (some 8) (u 8)).put (some 9) (u 9)).put (some 10) (u 10)).put (some 11) (u 11)).put (some 12) (u 12)).put (some 13) (u 13)).put (some 2) (.int .i64 ((L.wr.len : Nat) : Int))).put (some 3) (.int .i64 ((D.units : Nat) : Int))) w') :
    (Code.region 3 (Pl.find 3 ((Try.f30.body).getD .skip)) true).wp Try.prog Q A w := by
  have hA := Pl.At.same (v := .pointer (some ⟨p, 0, none⟩)) (d := 0) (Pl.At.here hsz hdf) s0
  refine Pl.H.start (S := fun w' => DevM w' p D L) (by kernel_rfl) hA h.drew ?_
  rw [show (Pl.find 3 ((Try.f30.body).getD .skip)).size = 9 by kernel_rfl]
  refine Pl.H.take 0 7 (.pointer (some ⟨p, 0, none⟩)) (by kernel_rfl) (by kernel_rfl) (by kernel_rfl) (Pl.free 0 (by kernel_rfl)) (Pl.move 0 (.tmp 0) (by kernel_rfl) (by decide)) h.drew ?_
  refine Pl.H.take 1 8 (.pointer (some ⟨p, 0, none⟩)) (by kernel_rfl) (by kernel_rfl) (by kernel_rfl) (Pl.free 1 (by kernel_rfl)) (Pl.nilc 1 (.tmp 7) _ (by kernel_rfl) (by decide) rfl) h.drew ?_
  refine Pl.H.take 2 9 (.pointer (some ⟨p, 6, none⟩)) (by kernel_rfl) (by kernel_rfl) (by kernel_rfl) (Pl.free 2 (by kernel_rfl)) (Pl.field 2 69 (.tmp 8) 2 _ (by kernel_rfl) (by decide) (fdDev2_0 p)) h.drew ?_
  refine Pl.H.take 3 10 (.slice L.wr.a L.wr.len L.wr.cap) (by kernel_rfl) (by kernel_rfl) (by kernel_rfl) (Pl.free 3 (by kernel_rfl)) (Pl.load 3 66 (.tmp 9) _ (by kernel_rfl) (by decide) (fun w' hS => ldWs p 6 _ _ _ w' hS.c6)) h.drew ?_
  refine Pl.H.take 4 11 (.int .i64 ((L.wr.len : Nat) : Int)) (by kernel_rfl) (by kernel_rfl) (by kernel_rfl) (Pl.free 4 (by kernel_rfl)) (Pl.lenOf 4 66 (.tmp 10) _ (by kernel_rfl) (by decide) (fun _ _ => rfl)) h.drew ?_
  refine Pl.H.take 5 12 (.pointer (some ⟨p, 0, none⟩)) (by kernel_rfl) (by kernel_rfl) (by kernel_rfl) (Pl.free 5 (by kernel_rfl)) (Pl.move 5 (.tmp 0) (by kernel_rfl) (by decide)) h.drew ?_
  refine Pl.H.call 6 13 38 [(.tmp 12)] #[23] (by kernel_rfl) (by kernel_rfl) (by kernel_rfl) (Pl.free 6 (by kernel_rfl)) (by kernel_rfl) (by decide) entUnits (Calls.mono (units_any w.drew p D L h.drew hu) ?_)
  rintro e w2 ⟨rfl, hb2⟩
  refine ⟨.int .i64 ((D.units : Nat) : Int), rfl, (h.drew.keep hb2), ?_⟩
  refine Pl.H.take 7 2 (.int .i64 ((L.wr.len : Nat) : Int)) (by kernel_rfl) (by kernel_rfl) (by kernel_rfl) (Pl.free 7 (by kernel_rfl)) (Pl.assign 7 (.tmp 11) (by kernel_rfl) (by decide)) (h.drew.keep hb2) ?_
  refine Pl.H.take 8 3 (.int .i64 ((D.units : Nat) : Int)) (by kernel_rfl) (by kernel_rfl) (by kernel_rfl) (Pl.free 8 (by kernel_rfl)) (Pl.assign 8 (.tmp 13) (by kernel_rfl) (by decide)) (h.drew.keep hb2) ?_
  refine Pl.H.done (by kernel_rfl) (fun A' hA' => ?_)
  rw [Pl.At.ext hA' (((((((((hA.put 7 _).put 8 _).put 9 _).put 10 _).put 11 _).put 12 _).put 13 _).put 2 _).put 3 _)]
  exact hend (fun d => if d = 7 then .pointer (some ⟨p, 0, none⟩) else if d = 8 then .pointer (some ⟨p, 0, none⟩) else if d = 9 then .pointer (some ⟨p, 6, none⟩) else if d = 10 then .slice L.wr.a L.wr.len L.wr.cap else if d = 11 then .int .i64 ((L.wr.len : Nat) : Int) else if d = 12 then .pointer (some ⟨p, 0, none⟩) else if d = 13 then .int .i64 ((D.units : Nat) : Int) else undef) w2 ((below_drew w).trans hb2)

theorem Sw.cells_length (x : Sw) (h : x.b.length = 128) : x.cells.length = 129 := by simp [Sw.cells, vals_length, h]
theorem swCells_length : ∀ l : List Sw, (∀ x ∈ l, x.b.length = 128) → (swCells l).length = l.length * 129
  | [], _ => rfl
  | x :: r, h => by
    have := swCells_length r (fun y hy => h y (by simp [hy]))
    simp only [swCells, List.flatMap_cons, List.length_append, List.length_cons] at *
    rw [this, x.cells_length (h x (by simp))]
    omega
theorem DevM.lenW {w : World} {p : Nat} {D : Ds} {L : Dl} (h : DevM w p D L) (hw : ∀ x ∈ D.wr, x.b.length = 128) : D.wr.length = L.wr.len := by have := h.wr.1; rw [swCells_length _ hw] at this; omega

set_option maxHeartbeats 2000000 in
theorem stream_any (w : World) (p : Nat) (D : Ds) (L : Dl) (h : DevM w p D L) (n : Nat) (hn : D.sp.length = 512 * n) (hn2 : n ≤ 64) (hn1 : 1 ≤ n) (hm : D.ss.length ≤ 1000000) : Calls Try.prog 27 #[at0 p] w fun e w' => Below w.heap.size w w' ∧ ∃ s : Sl, e = .returned (.tuple #[.int .i64 ((D.sb : Nat) : Int), s.val]) ∧ Own 5 1 w' s (vals D.ss) ∧ s.len = D.ss.length ∧ ∀ k, s.blk = some k → w.heap.size ≤ k := by
  have HG := hide (given_any w p D L h n hn hn2 hn1)
  have hm' : L.ss.len ≤ 1000000 := by have : D.ss.length = L.ss.len := h.len .ss; omega
  have HR : Hid (∀ {Q : Exit → Act → World → Prop} {A : Act}, _) := fun {Q A} => stream3 w p D L h hm' (Q := Q) (A := A)
  clear h hn hm hm'
  unfold at0 at *
  go_enter Try.func27, Try.ntmps27
  go_wp2_with fail
  refine HG.out.mono ?_
  rintro e w' ⟨rfl, hw⟩
  obtain rfl := hw.symm
  go_wp2_with fail
  refine Pl.region_is (ops := Pl.find 3 ((Try.f27.body).getD .skip)) (by kernel_rfl) ?_
  refine HR.out (by rfl) rfl (by rfl) ?_
  intro u w' s hb ho hl hk
  simp only [Act.put, List.setIfInBounds_toArray, List.set_cons_zero, List.set_cons_succ]
  have HB := hide hb
  have HO := hide ho
  have HL := hide hl
  have HK := hide hk
  clear hb ho hl hk
  go_wp2_with fail
  go_ret2
  exact ⟨HB.out, s, rfl, HO.out, HL.out, HK.out⟩

set_option maxHeartbeats 2000000 in
theorem pending_any (w : World) (p : Nat) (D : Ds) (L : Dl) (h : DevM w p D L) (n : Nat) (hn : D.sp.length = 512 * n) (hn2 : n ≤ 64) (hn1 : 1 ≤ n) (hu : D.units ≤ 1000000000) (hw : ∀ x ∈ D.wr, x.b.length = 128) : Calls Try.prog 30 #[at0 p] w fun e w' => Below w.heap.size w w' ∧ e = .returned (.tuple #[.int .i64 ((D.wr.length : Nat) : Int), .int .i64 ((D.units : Nat) : Int)]) := by
  have HG := hide (given_any w p D L h n hn hn2 hn1)
  have HR : Hid (∀ {Q : Exit → Act → World → Prop} {A : Act}, _) := fun {Q A} => pending3 w p D L h hu (Q := Q) (A := A)
  rw [h.lenW hw]
  clear h hn hu
  unfold at0 at *
  go_enter Try.func30, Try.ntmps30
  go_wp2_with fail
  refine HG.out.mono ?_
  rintro e w' ⟨rfl, hw⟩
  obtain rfl := hw.symm
  go_wp2_with fail
  refine Pl.region_is (ops := Pl.find 3 ((Try.f30.body).getD .skip)) (by kernel_rfl) ?_
  refine HR.out (by rfl) rfl (by rfl) ?_
  intro u w' hb
  simp only [Act.put, List.setIfInBounds_toArray, List.set_cons_zero, List.set_cons_succ]
  have HB := hide hb
  clear hb
  go_wp2_with fail
  go_ret2
  exact ⟨HB.out, rfl⟩

/-- A slice's part, from a place up to one. -/
def Sl.mid (s : Sl) (k l : Nat) : Sl := ⟨fromA s.a s.cap k, l - k, s.cap - k⟩
theorem slice_mid (a : Option Addr) (len cap k l : Nat) (hk : k ≤ l) (hl : l ≤ cap) (w : World) : (Instr.sliceAt 30 (.slice a len cap) (some (.int .i64 (k : Nat))) (some (.int .i64 (l : Nat))) none).run Try.prog w = .ok (.slice (fromA a cap k) (l - k) (cap - k)) w := by
  have h22 : Try.prog.underlying 30 = some (.slice (Try.prog.elem 30)) := by kernel_rfl
  rw [run_sliceAt_slice w 30 _ _ _ _ h22, run_slice_lh w 30 a len cap h22 .i64 .i64 (k : Nat) (l : Nat) (by omega) (by omega) (by omega), elem22, sz5]
  simp [Result.andThen, sliced, fromA]
theorem Came.mid {w : World} {s : Sl} {xs : List Nat} (h : Came w s.a s.len s.cap xs) (k l : Nat) (hk : k ≤ l) (hl : l ≤ s.len) : Came w (s.mid k l).a (s.mid k l).len (s.mid k l).cap ((xs.drop k).take (l - k)) := by
  have hle := h.le
  have h1 := h.bs.from (cap := s.cap) (k := k) (by omega) h.le
  refine ⟨⟨?_, fun x hx => h1.2.1 x (List.mem_of_mem_take hx), fun i hi => ?_⟩, ?_, ?_, ?_⟩
  · have := h.bs.1
    show ((xs.drop k).take (l - k)).length = l - k
    simp only [List.length_take, List.length_drop]
    omega
  · have hi' : i < l - k := hi
    obtain ⟨b, off, e, hc⟩ := h1.2.2 i (by omega)
    refine ⟨b, off, e, ?_⟩
    rw [hc]
    simp [List.getD, hi']
  · intro e
    have e' : fromA s.a s.cap k = none := e
    show s.cap - k = 0
    unfold fromA at e'
    split at e'
    · omega
    · cases hs : s.a with
      | none => have := h.nil hs; omega
      | some x => rw [hs] at e'; cases e'
  · show l - k ≤ s.cap - k
    omega
  · have := h.big
    show l - k ≤ _
    omega

set_option maxHeartbeats 2000000 in
theorem read_any (w : World) (p : Nat) (D : Ds) (L : Dl) (h : DevM w p D L) (n : Nat) (hn : D.sp.length = 512 * n) (hn2 : n ≤ 64) (k : Nat) (hk : k < n) : Calls Try.prog 29 #[at0 p, .int .i64 ((k : Nat) : Int)] w fun e w' => Below w.heap.size w w' ∧ ∃ s : Sl, e = .returned (.tuple #[s.val, .int .i64 0]) ∧ Own 5 1 w' s (vals ((D.sp.drop (512 * k)).take 512)) ∧ s.len = 512 ∧ ∀ k, s.blk = some k → w.heap.size ≤ k := by
  have HG := hide (has_any w p D L h n hn hn2 ((k : Nat) : Int))
  rw [decide_eq_true (show 0 ≤ ((k : Nat) : Int) ∧ ((k : Nat) : Int) < ((n : Nat) : Int) by omega)] at HG
  have hsl : L.sp.len = 512 * n := by have : D.sp.length = L.sp.len := h.len .sp; omega
  have hlc := (h.own .sp).lecap
  have hlc' : L.sp.len ≤ L.sp.cap := hlc
  have hmid := slice_mid L.sp.a L.sp.len L.sp.cap (512 * k) (512 * k + 512) (by omega) (by omega)
  have e0 : 512 * k + 512 - 512 * k = 512 := by omega
  have HC := hide (clone_any w _ _ _ _ ((h.came .sp).mid (512 * k) (512 * k + 512) (by omega) (by show _ ≤ L.sp.len; omega)) (by show 512 * k + 512 - 512 * k ≤ _; omega))
  have c0 := h.c0
  rw [e0] at hmid HC
  have hlen : ((D.sp.drop (512 * k)).take 512).length = 512 := by simp only [List.length_take, List.length_drop]; omega
  unfold Sl.mid Dl.s Ds.b at HC
  simp only at HC
  rw [e0, hlen] at HC
  clear hlen e0
  rw [show (((512 * k : Nat)) : Int) = 512 * ((k : Nat) : Int) by omega, show (((512 * k + 512 : Nat)) : Int) = 512 * ((k : Nat) : Int) + 512 by omega] at hmid
  have hw1 : IntKind.i64.wrap (((k : Nat) : Int) * 512) = 512 * ((k : Nat) : Int) := by rw [IntKind.wrap_i64]; omega
  have hw2 : IntKind.i64.wrap (512 * ((k : Nat) : Int) + 512) = 512 * ((k : Nat) : Int) + 512 := by rw [IntKind.wrap_i64]; omega
  clear h hn hlc hlc' hsl
  unfold at0 at *
  go_enter Try.func29, Try.ntmps29
  go_wp2_with fail
  refine HG.out.mono ?_
  rintro e w' ⟨rfl, hw⟩
  obtain rfl := hw.symm
  go_wp2_with fail
  refine HC.out.mono ?_
  rintro e w' ⟨hb, s, rfl, ho, hl, hk2⟩
  have HB := hide hb
  have HO := hide ho
  have HL := hide hl
  have HK := hide hk2
  clear hb ho hl hk2
  go_wp2_with fail
  go_ret2
  exact ⟨HB.out, s, rfl, HO.out, HL.out, HK.out⟩

set_option maxHeartbeats 2000000 in
theorem read_none (w : World) (p : Nat) (D : Ds) (L : Dl) (h : DevM w p D L) (n : Nat) (hn : D.sp.length = 512 * n) (hn2 : n ≤ 64) (k : Int) (hk : ¬ (0 ≤ k ∧ k < ((n : Nat) : Int))) : Calls Try.prog 29 #[at0 p, .int .i64 k] w fun e w' => e = .returned (.tuple #[.slice none 0 0, .int .i64 3]) ∧ w' = w := by
  have HG := hide (has_any w p D L h n hn hn2 k)
  rw [decide_eq_false hk] at HG
  clear h hn hk
  unfold at0 at *
  go_enter Try.func29, Try.ntmps29
  go_wp2_with fail
  refine HG.out.mono ?_
  rintro e w' ⟨rfl, hw⟩
  obtain rfl := hw.symm
  go_wp2_with fail
  go_ret2
  exact ⟨rfl, rfl⟩

end Go.Proofs.Ytokdeilcfkobfaa
