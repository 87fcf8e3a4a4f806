/-
  Layer 6: groups that are built one image after the other, and the drawn regions that do so.
-/
import Derived.Test.YtjgeiooblcpiaaaRdD
namespace Go.Proofs.Ytjgeiooblcpiaaa
open Go.RowKit

/-- A slice's part, from a place up to one. -/
def Sl.mid (s : Sl) (k l : Nat) : Sl := ⟨fromA s.a s.cap k, l - k, s.cap - k⟩
theorem slice_mid (a : Option Addr) (len cap k l : Nat) (hk : k ≤ l) (hl : l ≤ cap) (w : World) : (Instr.sliceAt 24 (.slice a len cap) (some (.int .i64 (k : Nat))) (some (.int .i64 (l : Nat))) none).run Try.prog w = .ok (.slice (fromA a cap k) (l - k) (cap - k)) w := by
  have h22 : Try.prog.underlying 24 = some (.slice (Try.prog.elem 24)) := by kernel_rfl
  rw [run_sliceAt_slice w 24 _ _ _ _ h22, run_slice_lh w 24 a len cap h22 .i64 .i64 (k : Nat) (l : Nat) (by omega) (by omega) (by omega), elem22, sz5]
  simp [Result.andThen, sliced, fromA]
theorem Came.mid {w : World} {s : Sl} {xs : List Nat} (h : Came w s.a s.len s.cap xs) (k l : Nat) (hk : k ≤ l) (hl : l ≤ s.len) : Came w (s.mid k l).a (s.mid k l).len (s.mid k l).cap ((xs.drop k).take (l - k)) := by
  have hle := h.le
  have h1 := h.bs.from (cap := s.cap) (k := k) (by omega) h.le
  refine ⟨⟨?_, fun x hx => h1.2.1 x (List.mem_of_mem_take hx), fun i hi => ?_⟩, ?_, ?_, ?_⟩
  · have := h.bs.1
    show ((xs.drop k).take (l - k)).length = l - k
    simp only [List.length_take, List.length_drop]
    omega
  · have hi' : i < l - k := hi
    obtain ⟨b, off, e, hc⟩ := h1.2.2 i (by omega)
    refine ⟨b, off, e, ?_⟩
    rw [hc]
    simp [List.getD, hi']
  · intro e
    have e' : fromA s.a s.cap k = none := e
    show s.cap - k = 0
    unfold fromA at e'
    split at e'
    · omega
    · cases hs : s.a with
      | none => have := h.nil hs; omega
      | some x => rw [hs] at e'; cases e'
  · show l - k ≤ s.cap - k
    omega
  · have := h.big
    show l - k ≤ _
    omega

theorem Cm.mid {D : Nat → Prop} {w : World} {s : Sl} {xs : List Nat} (h : Cm D w s xs) (k l : Nat) (hk : k ≤ l) (hl : l ≤ s.len) : Cm D w (s.mid k l) ((xs.drop k).take (l - k)) := by
  refine ⟨h.came.mid k l hk hl, fun ad ha h0 => ?_⟩
  have h0' : 0 < s.len := by have : 0 < l - k := h0; omega
  have ha' : fromA s.a s.cap k = some ad := ha
  unfold fromA at ha'
  split at ha'
  · exact h.home ad ha' h0'
  · obtain ⟨b, off, hs, _⟩ := h.came.bs.2.2 0 h0'
    rw [hs] at ha'
    simp only [Option.map_some, Option.some.injEq, Addr.add_lit] at ha'
    subst ha'
    exact h.home ⟨b, off, none⟩ hs h0'

/-- Bytes below a base stay. -/
theorem Bs.low {w w' : World} {B b o len : Nat} {xs : List Nat} (h : Bs w (some ⟨b, o, none⟩) len xs) (hB : b < B) (hb : Below B w w') : Bs w' (some ⟨b, o, none⟩) len xs := by
  refine ⟨h.1, h.2.1, fun i hi => ⟨b, o, rfl, ?_⟩⟩
  exact (hb.cell (p := ⟨b, o + i, none⟩) hB).trans (h.at i hi)

/-- A row of images that is being built: its own block, and where the bytes lie. -/
structure GI (H : Nat → Prop) (base : Nat) (w : World) (v : Sl) (l : List Ix) : Prop where
  own : OwnI w v l
  blk : ∀ k, v.blk = some k → base ≤ k
  bs : ∀ x ∈ l, Cm (fun k => H k ∧ v.blk ≠ some k) w x.s x.bs
theorem GI.len {H : Nat → Prop} {base : Nat} {w : World} {v : Sl} {l : List Ix} (h : GI H base w v l) : l.length = v.len := h.own.len
theorem GI.gr {H : Nat → Prop} {base : Nat} {w : World} {v : Sl} {l : List Ix} (h : GI H base w v l) (hm : v.len ≤ 1000000) : Gr (fun k => H k ∨ base ≤ k) w v l :=
  h.own.gr (fun x hx => (h.bs x hx).mono (fun _ hk _ => .inl hk.1)) (fun k hk => .inr (h.blk k hk)) hm
theorem GI.none (H : Nat → Prop) (base : Nat) (w : World) : GI H base w Sl.nil [] := ⟨Own.nil _ _ _, fun k hk => (by cases hk), fun _ h => (by cases h)⟩
theorem GI.new (H : Nat → Prop) (base : Nat) (w : World) (hb : base ≤ w.heap.size) : GI H base (w.alloc (.cells #[] 28)) ⟨some ⟨w.heap.size, 0, Option.none⟩, 0, 0⟩ [] := ⟨OwnI.new w, fun k hk => (by cases hk; exact hb), fun _ h => (by cases h)⟩
theorem GI.keep {H : Nat → Prop} {base : Nat} {w w' : World} {v : Sl} {l : List Ix} (h : GI H base w v l) (hb : Below w.heap.size w w') : GI H base w' v l :=
  ⟨h.own.frame (fun k hk => hb.block k (h.own.lt hk)), h.blk, fun x hx => (h.bs x hx).below hb (Nat.le_refl _)⟩
/-- What an append of one image leaves. -/
theorem GI.add {H : Nat → Prop} {base : Nat} {w w' : World} {v v' : Sl} {l : List Ix} {x : Ix} (h : GI H base w v l) (hx : Cm (fun k => H k ∧ v.blk ≠ some k) w x.s x.bs) (ho : OwnI w' v' (l ++ [x])) (hf : Frm (fun k => v.blk = some k) w w') (hb : v'.blk = v.blk ∨ ∃ k, v'.blk = some k ∧ w.heap.size ≤ k) (hbase : base ≤ w.heap.size) : GI H base w' v' (l ++ [x]) ∧ Below base w w' := by
  refine ⟨⟨ho, fun k hk => ?_, fun y hy => ?_⟩, hf.below hbase h.blk⟩
  · rcases hb with e | ⟨j, e, hj⟩
    · exact h.blk k (by rw [← e]; exact hk)
    · rw [e] at hk
      cases hk
      omega
  · have hy' : Cm (fun k => H k ∧ v.blk ≠ some k) w y.s y.bs := by
      rcases List.mem_append.1 hy with hy | hy
      · exact h.bs y hy
      · rw [List.mem_singleton.1 hy]
        exact hx
    have h2 : Cm (fun k => (H k ∧ v.blk ≠ some k) ∧ v'.blk ≠ some k) w y.s y.bs := hy'.mono (fun k hk hl => ⟨hk, fun e => by
      rcases hb with e' | ⟨j, e', hj⟩
      · exact hk.2 (by rw [← e']; exact e)
      · rw [e'] at e
        cases e
        omega⟩)
    exact (h2.keep (Kept.frm hf (fun k hk => hk.1.2))).mono (fun k hk _ => ⟨hk.1.1, hk.2⟩)

theorem build_im (x : Ix) (w : World) : (Instr.buildSlice 25 1 #[(0, x.val)]).run Try.prog w = .ok (.slice (some ⟨w.heap.size, 0, none⟩) 1 1) (w.alloc (.cells #[.int .i64 x.page, x.s.val] 28)) := by
  unfold Ix.val Sl.val
  simp [go_sem]
theorem build_gr (s : Sl) (w : World) : (Instr.buildSlice 40 1 #[(0, s.val)]).run Try.prog w = .ok (.slice (some ⟨w.heap.size, 0, none⟩) 1 1) (w.alloc (.cells #[s.val] 25)) := by
  unfold Sl.val
  simp [go_sem]
theorem cv_b (n : Nat) (h : n < 256) (w : World) : (convert 5 3 (.int .u8 (n : Nat))).run Try.prog w = .ok (.int .i64 (n : Nat)) w := by
  have e : IntKind.i64.wrap (n : Int) = (n : Int) := by rw [IntKind.wrap_i64]; omega
  simp [go_sem, e]
theorem entImageOf : ∀ args w, (callFunc 32 args).run Try.prog w = .ok (.enter 32 args) w := Pl.enters Try.func32 (by kernel_rfl) (by kernel_rfl)
/-- An image of two values. -/
theorem Pl.bldI {P : Program} {ops : Array Oper} {S : World → Prop} {n : Nat} {f : Nat → Value} (i : Nat) (x y : Operand) (m : Ix) (h : (Pl.op ops i).op = .build 28 #[(0, x), (1, y)]) (hx : Pl.inB n x = true) (hy : Pl.inB n y = true)
    (hv : ∀ w, (Instr.build 28 #[(0, Pl.ev f x), (1, Pl.ev f y)]).run P w = .ok m.val w) : ∀ A, Pl.At n A f → ∀ w, S w → (execOp A.eval (Pl.op ops i)).run P w = .ok (.value m.val) w := by
  intro A hA w _
  have e : execOp A.eval (Pl.op ops i) = (do pure (.value (← Instr.build 28 (Array.map (fun (p : Nat × Operand) => (p.1, A.eval p.2)) #[(0, x), (1, y)])))) := by
    unfold execOp
    rw [h]
  rw [e]
  simp [hA.ev x hx, hA.ev y hy, hv w]
theorem run_bldI (m : Ix) (w : World) : (Instr.build 28 #[(0, .int .i64 m.page), (1, m.s.val)]).run Try.prog w = .ok m.val w := by
  unfold Ix.val Sl.val
  simp [go_sem]

set_option maxHeartbeats 2000000 in
set_option maxRecDepth 100000 in
theorem grp7 (w : World) (H : Nat → Prop) (base b o len cap p : Nat) (x : List Nat) (v : Sl) (l : List Ix) (hg : GI H base w.drew v l) (hbase : base ≤ w.drew.heap.size) (hB : Bs w.drew (some ⟨b, o, none⟩) len x) (hbl : b < base) (hx : Bytes x) (hp : p + 513 ≤ len) (hlc : len ≤ cap) (hbig : len ≤ 1000000) (hvl : v.len ≤ 100000) (hm : Came w.drew (Sl.mid ⟨some ⟨b, o, none⟩, len, cap⟩ (p + 1) (p + 513)).a (Sl.mid ⟨some ⟨b, o, none⟩, len, cap⟩ (p + 1) (p + 513)).len (Sl.mid ⟨some ⟨b, o, none⟩, len, cap⟩ (p + 1) (p + 513)).cap ((x.drop (p + 1)).take 512)) (hHn : ∀ k, w.drew.heap.size ≤ k → H k)
    {Q : Exit → Act → World → Prop} {A : Act} (hsz : A.tmps.size = 45) (hdf : A.defers = []) (s0 : A.tmps.getD 0 undef = .slice (some ⟨b, o, none⟩) len cap) (s4 : A.tmps.getD 4 undef = Sl.val v) (s5 : A.tmps.getD 5 undef = .int .i64 ((p : Nat) : Int))
    (hend : ∀ (u : Nat → Value) w' v3 s, GI H base w' v3 (l ++ [(⟨((x.getD p 0 : Nat) : Int), s, (x.drop (p + 1)).take 512⟩ : Ix)]) → v3.len = v.len + 1 → Below base w.drew w' → Q .normal (((((((((((((((((A).put (some 26) (u 26)).put (some 27) (u 27)).put (some 28) (u 28)).put (some 29) (u 29)).put (some 30) (u 30)).put (some 31) (u 31)).put (some 32) (u 32)).put (some 33) (u 33)).put (some 34) (u 34)).put (some 35) (u 35)).put (some 36) (u 36)).put (some 37) (u 37)).put (some 38) (u 38)).put (some 39) (u 39)).put (some 40) (u 40)).put (some 4) (Sl.val v3)) w') :
    (Code.region 7 (Pl.find 7 ((Try.f24.body).getD .skip)) true).wp Try.prog Q A w := by
  have hA := Pl.At.same (v := .int .i64 ((p : Nat) : Int)) (d := 5) (Pl.At.same (v := Sl.val v) (d := 4) (Pl.At.same (v := .slice (some ⟨b, o, none⟩) len cap) (d := 0) (Pl.At.here hsz hdf) s0) s4) s5
  refine Pl.H.start (S := (fun w' => Bs w' (some ⟨b, o, none⟩) len x)) (by kernel_rfl) hA hB ?_
  rw [show (Pl.find 7 ((Try.f24.body).getD .skip)).size = 16 by kernel_rfl]
  refine Pl.H.take 0 26 (Sl.val v) (by kernel_rfl) (by kernel_rfl) (by kernel_rfl) (Pl.free 0 (by kernel_rfl)) (Pl.move 0 (.tmp 4) (by kernel_rfl) (by decide)) hB ?_
  refine Pl.H.take 1 27 (.slice (some ⟨b, o, none⟩) len cap) (by kernel_rfl) (by kernel_rfl) (by kernel_rfl) (Pl.free 1 (by kernel_rfl)) (Pl.move 1 (.tmp 0) (by kernel_rfl) (by decide)) hB ?_
  refine Pl.H.take 2 28 (.int .i64 ((p : Nat) : Int)) (by kernel_rfl) (by kernel_rfl) (by kernel_rfl) (Pl.free 2 (by kernel_rfl)) (Pl.move 2 (.tmp 5) (by kernel_rfl) (by decide)) hB ?_
  refine Pl.H.take 3 29 (.pointer (some ⟨b, o + p, none⟩)) (by kernel_rfl) (by kernel_rfl) (by kernel_rfl) (Pl.free 3 (by kernel_rfl)) (Pl.index 3 24 (.tmp 27) (.tmp 28) _ (by kernel_rfl) (by decide) (by decide) (ixB b o len cap p (by omega))) hB ?_
  refine Pl.H.take 4 30 (.int .u8 ((x.getD p 0 : Nat) : Int)) (by kernel_rfl) (by kernel_rfl) (by kernel_rfl) (Pl.free 4 (by kernel_rfl)) (Pl.load 4 5 (.tmp 29) _ (by kernel_rfl) (by decide) (fun w' hS => ldB _ _ _ w' (hS.at p (by omega)))) hB ?_
  refine Pl.H.take 5 31 (.int .i64 ((x.getD p 0 : Nat) : Int)) (by kernel_rfl) (by kernel_rfl) (by kernel_rfl) (Pl.free 5 (by kernel_rfl)) (Pl.convV 5 5 3 (.tmp 30) (.int .u8 ((x.getD p 0 : Nat) : Int)) _ (by kernel_rfl) (by decide) rfl (fun w _ => cv_b _ (getD_lt hx p) w)) hB ?_
  refine Pl.H.take 6 32 (.slice (some ⟨b, o, none⟩) len cap) (by kernel_rfl) (by kernel_rfl) (by kernel_rfl) (Pl.free 6 (by kernel_rfl)) (Pl.move 6 (.tmp 0) (by kernel_rfl) (by decide)) hB ?_
  refine Pl.H.take 7 33 (.int .i64 ((p : Nat) : Int)) (by kernel_rfl) (by kernel_rfl) (by kernel_rfl) (Pl.free 7 (by kernel_rfl)) (Pl.move 7 (.tmp 5) (by kernel_rfl) (by decide)) hB ?_
  refine Pl.H.take 8 34 (.int .i64 ((p + 1 : Nat) : Int)) (by kernel_rfl) (by kernel_rfl) (by kernel_rfl) (Pl.free 8 (by kernel_rfl)) (Pl.binV 8 .add 3 3 (.tmp 33) (.const (.int .i64 1)) (.int .i64 ((p : Nat) : Int)) (.int .i64 1) _ (by kernel_rfl) (by decide) (by decide) rfl rfl (addN p 1 _ _ (by omega))) hB ?_
  refine Pl.H.take 9 35 (.int .i64 ((p : Nat) : Int)) (by kernel_rfl) (by kernel_rfl) (by kernel_rfl) (Pl.free 9 (by kernel_rfl)) (Pl.move 9 (.tmp 5) (by kernel_rfl) (by decide)) hB ?_
  refine Pl.H.take 10 36 (.int .i64 ((p + 513 : Nat) : Int)) (by kernel_rfl) (by kernel_rfl) (by kernel_rfl) (Pl.free 10 (by kernel_rfl)) (Pl.binV 10 .add 3 3 (.tmp 35) (.const (.int .i64 513)) (.int .i64 ((p : Nat) : Int)) (.int .i64 513) _ (by kernel_rfl) (by decide) (by decide) rfl rfl (addN p 513 _ _ (by omega))) hB ?_
  refine Pl.H.take 11 37 (Sl.val (Sl.mid ⟨some ⟨b, o, none⟩, len, cap⟩ (p + 1) (p + 513))) (by kernel_rfl) (by kernel_rfl) (by kernel_rfl) (Pl.free 11 (by kernel_rfl)) (Pl.slice 11 24 (.tmp 32) (some (.tmp 34)) (some (.tmp 36)) _ (by kernel_rfl) (by decide) (by decide) (by decide) (slice_mid _ len cap (p + 1) (p + 513) (by omega) (by omega))) hB ?_
  refine Pl.H.call 12 38 32 [(.tmp 31), (.tmp 37)] #[3, 24] (by kernel_rfl) (by kernel_rfl) (by kernel_rfl) (Pl.free 12 (by kernel_rfl)) (by kernel_rfl) (by decide) entImageOf (Calls.mono (imageOf_any w.drew ((x.getD p 0 : Nat) : Int) (Sl.mid ⟨some ⟨b, o, none⟩, len, cap⟩ (p + 1) (p + 513)).a (Sl.mid ⟨some ⟨b, o, none⟩, len, cap⟩ (p + 1) (p + 513)).len (Sl.mid ⟨some ⟨b, o, none⟩, len, cap⟩ (p + 1) (p + 513)).cap ((x.drop (p + 1)).take 512) hm (by show p + 513 - (p + 1) ≤ _; omega)) ?_)
  rintro e w2 ⟨s2, rfl, hb2, hc2⟩
  refine ⟨Ix.val (⟨((x.getD p 0 : Nat) : Int), s2, (x.drop (p + 1)).take 512⟩ : Ix), rfl, (hB.keep hb2 (Nat.le_refl _)), ?_⟩
  refine Pl.H.make 13 39 (.slice (some ⟨w2.heap.size, 0, none⟩) 1 1) (w2.alloc (.cells #[.int .i64 (⟨((x.getD p 0 : Nat) : Int), s2, (x.drop (p + 1)).take 512⟩ : Ix).page, (⟨((x.getD p 0 : Nat) : Int), s2, (x.drop (p + 1)).take 512⟩ : Ix).s.val] 28)) (by kernel_rfl) (by kernel_rfl) (by kernel_rfl) (Pl.free 13 (by kernel_rfl)) (Pl.one 13 25 (.tmp 38) _ _ (by kernel_rfl) (by decide) (build_im (⟨((x.getD p 0 : Nat) : Int), s2, (x.drop (p + 1)).take 512⟩ : Ix) w2)) ((hB.keep hb2 (Nat.le_refl _)).keep (below_alloc w2 _) (Nat.le_refl _)) ?_
  have hg2 := hg.keep hb2
  obtain ⟨v3, w3, hrun3, ho3, hl3, hf3, hb3⟩ := own_im w2 v l hg2.own (⟨((x.getD p 0 : Nat) : Int), s2, (x.drop (p + 1)).take 512⟩ : Ix) (by omega) 25
  have hx2 : Cm (fun k => H k ∧ v.blk ≠ some k) w2 s2 ((x.drop (p + 1)).take 512) := hc2.mono (fun k hk _ => ⟨hHn k hk, fun e => by have := hg.own.lt e; omega⟩)
  obtain ⟨hg3, hbb3⟩ := hg2.add (x := (⟨((x.getD p 0 : Nat) : Int), s2, (x.drop (p + 1)).take 512⟩ : Ix)) hx2 ho3 hf3 hb3 (Nat.le_trans hbase hb2.size)
  have hbw := (hb2.mono hbase).trans hbb3
  refine Pl.H.make 14 40 (Sl.val v3) w3 (by kernel_rfl) (by kernel_rfl) (by kernel_rfl) (Pl.free 14 (by kernel_rfl)) (Pl.appT 14 25 25 (.tmp 26) (.tmp 39) _ _ (by kernel_rfl) (by kernel_rfl) (by decide) (by decide) hrun3) (Bs.low hB hbl hbw) ?_
  refine Pl.H.take 15 4 (Sl.val v3) (by kernel_rfl) (by kernel_rfl) (by kernel_rfl) (Pl.free 15 (by kernel_rfl)) (Pl.assign 15 (.tmp 40) (by kernel_rfl) (by decide)) (Bs.low hB hbl hbw) ?_
  refine Pl.H.done (by kernel_rfl) (fun A' hA' => ?_)
  rw [Pl.At.ext hA' ((((((((((((((((hA.put 26 _).put 27 _).put 28 _).put 29 _).put 30 _).put 31 _).put 32 _).put 33 _).put 34 _).put 35 _).put 36 _).put 37 _).put 38 _).put 39 _).put 40 _).put 4 _)]
  exact hend (fun d => if d = 26 then Sl.val v else if d = 27 then .slice (some ⟨b, o, none⟩) len cap else if d = 28 then .int .i64 ((p : Nat) : Int) else if d = 29 then .pointer (some ⟨b, o + p, none⟩) else if d = 30 then .int .u8 ((x.getD p 0 : Nat) : Int) else if d = 31 then .int .i64 ((x.getD p 0 : Nat) : Int) else if d = 32 then .slice (some ⟨b, o, none⟩) len cap else if d = 33 then .int .i64 ((p : Nat) : Int) else if d = 34 then .int .i64 ((p + 1 : Nat) : Int) else if d = 35 then .int .i64 ((p : Nat) : Int) else if d = 36 then .int .i64 ((p + 513 : Nat) : Int) else if d = 37 then Sl.val (Sl.mid ⟨some ⟨b, o, none⟩, len, cap⟩ (p + 1) (p + 513)) else if d = 38 then Ix.val (⟨((x.getD p 0 : Nat) : Int), s2, (x.drop (p + 1)).take 512⟩ : Ix) else if d = 39 then .slice (some ⟨w2.heap.size, 0, none⟩) 1 1 else if d = 40 then Sl.val v3 else undef) _ v3 _ hg3 hl3 hbw

set_option maxHeartbeats 2000000 in
set_option maxRecDepth 100000 in
theorem rfst13 (w : World) (H : Nat → Prop) (base b o len cap p : Nat) (x : List Nat) (v : Sl) (l : List Ix) (hg : GI H base w.drew v l) (hbase : base ≤ w.drew.heap.size) (hB : Bs w.drew (some ⟨b, o, none⟩) len x) (hbl : b < base) (hx : Bytes x) (hp : p + 513 ≤ len) (hlc : len ≤ cap) (hbig : len ≤ 1000000) (hvl : v.len ≤ 100000) (hm : Cm (fun k => H k ∧ v.blk ≠ some k) w.drew (Sl.mid ⟨some ⟨b, o, none⟩, len, cap⟩ (p + 1) (p + 513)) ((x.drop (p + 1)).take 512))
    {Q : Exit → Act → World → Prop} {A : Act} (hsz : A.tmps.size = 83) (hdf : A.defers = []) (s6 : A.tmps.getD 6 undef = .slice (some ⟨b, o, none⟩) len cap) (s7 : A.tmps.getD 7 undef = Sl.val v) (s8 : A.tmps.getD 8 undef = .int .i64 ((p : Nat) : Int))
    (hend : ∀ (u : Nat → Value) w' v3 s, GI H base w' v3 (l ++ [(⟨((x.getD p 0 : Nat) : Int), s, (x.drop (p + 1)).take 512⟩ : Ix)]) → v3.len = v.len + 1 → Below base w.drew w' → Q .normal (((((((((((((((((A).put (some 51) (u 51)).put (some 52) (u 52)).put (some 53) (u 53)).put (some 54) (u 54)).put (some 55) (u 55)).put (some 56) (u 56)).put (some 57) (u 57)).put (some 58) (u 58)).put (some 59) (u 59)).put (some 60) (u 60)).put (some 61) (u 61)).put (some 62) (u 62)).put (some 63) (u 63)).put (some 64) (u 64)).put (some 65) (u 65)).put (some 7) (Sl.val v3)) w') :
    (Code.region 13 (Pl.find 13 ((Try.f16.body).getD .skip)) true).wp Try.prog Q A w := by
  have hA := Pl.At.same (v := .int .i64 ((p : Nat) : Int)) (d := 8) (Pl.At.same (v := Sl.val v) (d := 7) (Pl.At.same (v := .slice (some ⟨b, o, none⟩) len cap) (d := 6) (Pl.At.here hsz hdf) s6) s7) s8
  refine Pl.H.start (S := (fun w' => Bs w' (some ⟨b, o, none⟩) len x)) (by kernel_rfl) hA hB ?_
  rw [show (Pl.find 13 ((Try.f16.body).getD .skip)).size = 16 by kernel_rfl]
  refine Pl.H.take 0 51 (Sl.val v) (by kernel_rfl) (by kernel_rfl) (by kernel_rfl) (Pl.free 0 (by kernel_rfl)) (Pl.move 0 (.tmp 7) (by kernel_rfl) (by decide)) hB ?_
  refine Pl.H.take 1 52 (.slice (some ⟨b, o, none⟩) len cap) (by kernel_rfl) (by kernel_rfl) (by kernel_rfl) (Pl.free 1 (by kernel_rfl)) (Pl.move 1 (.tmp 6) (by kernel_rfl) (by decide)) hB ?_
  refine Pl.H.take 2 53 (.int .i64 ((p : Nat) : Int)) (by kernel_rfl) (by kernel_rfl) (by kernel_rfl) (Pl.free 2 (by kernel_rfl)) (Pl.move 2 (.tmp 8) (by kernel_rfl) (by decide)) hB ?_
  refine Pl.H.take 3 54 (.pointer (some ⟨b, o + p, none⟩)) (by kernel_rfl) (by kernel_rfl) (by kernel_rfl) (Pl.free 3 (by kernel_rfl)) (Pl.index 3 24 (.tmp 52) (.tmp 53) _ (by kernel_rfl) (by decide) (by decide) (ixB b o len cap p (by omega))) hB ?_
  refine Pl.H.take 4 55 (.int .u8 ((x.getD p 0 : Nat) : Int)) (by kernel_rfl) (by kernel_rfl) (by kernel_rfl) (Pl.free 4 (by kernel_rfl)) (Pl.load 4 5 (.tmp 54) _ (by kernel_rfl) (by decide) (fun w' hS => ldB _ _ _ w' (hS.at p (by omega)))) hB ?_
  refine Pl.H.take 5 56 (.int .i64 ((x.getD p 0 : Nat) : Int)) (by kernel_rfl) (by kernel_rfl) (by kernel_rfl) (Pl.free 5 (by kernel_rfl)) (Pl.convV 5 5 3 (.tmp 55) (.int .u8 ((x.getD p 0 : Nat) : Int)) _ (by kernel_rfl) (by decide) rfl (fun w _ => cv_b _ (getD_lt hx p) w)) hB ?_
  refine Pl.H.take 6 57 (.slice (some ⟨b, o, none⟩) len cap) (by kernel_rfl) (by kernel_rfl) (by kernel_rfl) (Pl.free 6 (by kernel_rfl)) (Pl.move 6 (.tmp 6) (by kernel_rfl) (by decide)) hB ?_
  refine Pl.H.take 7 58 (.int .i64 ((p : Nat) : Int)) (by kernel_rfl) (by kernel_rfl) (by kernel_rfl) (Pl.free 7 (by kernel_rfl)) (Pl.move 7 (.tmp 8) (by kernel_rfl) (by decide)) hB ?_
  refine Pl.H.take 8 59 (.int .i64 ((p + 1 : Nat) : Int)) (by kernel_rfl) (by kernel_rfl) (by kernel_rfl) (Pl.free 8 (by kernel_rfl)) (Pl.binV 8 .add 3 3 (.tmp 58) (.const (.int .i64 1)) (.int .i64 ((p : Nat) : Int)) (.int .i64 1) _ (by kernel_rfl) (by decide) (by decide) rfl rfl (addN p 1 _ _ (by omega))) hB ?_
  refine Pl.H.take 9 60 (.int .i64 ((p : Nat) : Int)) (by kernel_rfl) (by kernel_rfl) (by kernel_rfl) (Pl.free 9 (by kernel_rfl)) (Pl.move 9 (.tmp 8) (by kernel_rfl) (by decide)) hB ?_
  refine Pl.H.take 10 61 (.int .i64 ((p + 513 : Nat) : Int)) (by kernel_rfl) (by kernel_rfl) (by kernel_rfl) (Pl.free 10 (by kernel_rfl)) (Pl.binV 10 .add 3 3 (.tmp 60) (.const (.int .i64 513)) (.int .i64 ((p : Nat) : Int)) (.int .i64 513) _ (by kernel_rfl) (by decide) (by decide) rfl rfl (addN p 513 _ _ (by omega))) hB ?_
  refine Pl.H.take 11 62 (Sl.val (Sl.mid ⟨some ⟨b, o, none⟩, len, cap⟩ (p + 1) (p + 513))) (by kernel_rfl) (by kernel_rfl) (by kernel_rfl) (Pl.free 11 (by kernel_rfl)) (Pl.slice 11 24 (.tmp 57) (some (.tmp 59)) (some (.tmp 61)) _ (by kernel_rfl) (by decide) (by decide) (by decide) (slice_mid _ len cap (p + 1) (p + 513) (by omega) (by omega))) hB ?_
  refine Pl.H.take 12 63 (Ix.val (⟨((x.getD p 0 : Nat) : Int), (Sl.mid ⟨some ⟨b, o, none⟩, len, cap⟩ (p + 1) (p + 513)), (x.drop (p + 1)).take 512⟩ : Ix)) (by kernel_rfl) (by kernel_rfl) (by kernel_rfl) (Pl.free 12 (by kernel_rfl)) (Pl.bldI 12 (.tmp 56) (.tmp 62) (⟨((x.getD p 0 : Nat) : Int), (Sl.mid ⟨some ⟨b, o, none⟩, len, cap⟩ (p + 1) (p + 513)), (x.drop (p + 1)).take 512⟩ : Ix) (by kernel_rfl) (by decide) (by decide) (fun w => run_bldI (⟨((x.getD p 0 : Nat) : Int), (Sl.mid ⟨some ⟨b, o, none⟩, len, cap⟩ (p + 1) (p + 513)), (x.drop (p + 1)).take 512⟩ : Ix) w)) hB ?_
  refine Pl.H.make 13 64 (.slice (some ⟨w.drew.heap.size, 0, none⟩) 1 1) (w.drew.alloc (.cells #[.int .i64 (⟨((x.getD p 0 : Nat) : Int), (Sl.mid ⟨some ⟨b, o, none⟩, len, cap⟩ (p + 1) (p + 513)), (x.drop (p + 1)).take 512⟩ : Ix).page, (⟨((x.getD p 0 : Nat) : Int), (Sl.mid ⟨some ⟨b, o, none⟩, len, cap⟩ (p + 1) (p + 513)), (x.drop (p + 1)).take 512⟩ : Ix).s.val] 28)) (by kernel_rfl) (by kernel_rfl) (by kernel_rfl) (Pl.free 13 (by kernel_rfl)) (Pl.one 13 25 (.tmp 63) _ _ (by kernel_rfl) (by decide) (build_im (⟨((x.getD p 0 : Nat) : Int), (Sl.mid ⟨some ⟨b, o, none⟩, len, cap⟩ (p + 1) (p + 513)), (x.drop (p + 1)).take 512⟩ : Ix) w.drew)) (hB.keep (below_alloc w.drew _) (Nat.le_refl _)) ?_
  obtain ⟨v3, w3, hrun3, ho3, hl3, hf3, hb3⟩ := own_im w.drew v l hg.own (⟨((x.getD p 0 : Nat) : Int), (Sl.mid ⟨some ⟨b, o, none⟩, len, cap⟩ (p + 1) (p + 513)), (x.drop (p + 1)).take 512⟩ : Ix) (by omega) 25
  obtain ⟨hg3, hbb3⟩ := hg.add (x := (⟨((x.getD p 0 : Nat) : Int), (Sl.mid ⟨some ⟨b, o, none⟩, len, cap⟩ (p + 1) (p + 513)), (x.drop (p + 1)).take 512⟩ : Ix)) hm ho3 hf3 hb3 hbase
  have hbw := hbb3
  refine Pl.H.make 14 65 (Sl.val v3) w3 (by kernel_rfl) (by kernel_rfl) (by kernel_rfl) (Pl.free 14 (by kernel_rfl)) (Pl.appT 14 25 25 (.tmp 51) (.tmp 64) _ _ (by kernel_rfl) (by kernel_rfl) (by decide) (by decide) hrun3) (Bs.low hB hbl hbw) ?_
  refine Pl.H.take 15 7 (Sl.val v3) (by kernel_rfl) (by kernel_rfl) (by kernel_rfl) (Pl.free 15 (by kernel_rfl)) (Pl.assign 15 (.tmp 65) (by kernel_rfl) (by decide)) (Bs.low hB hbl hbw) ?_
  refine Pl.H.done (by kernel_rfl) (fun A' hA' => ?_)
  rw [Pl.At.ext hA' ((((((((((((((((hA.put 51 _).put 52 _).put 53 _).put 54 _).put 55 _).put 56 _).put 57 _).put 58 _).put 59 _).put 60 _).put 61 _).put 62 _).put 63 _).put 64 _).put 65 _).put 7 _)]
  exact hend (fun d => if d = 51 then Sl.val v else if d = 52 then .slice (some ⟨b, o, none⟩) len cap else if d = 53 then .int .i64 ((p : Nat) : Int) else if d = 54 then .pointer (some ⟨b, o + p, none⟩) else if d = 55 then .int .u8 ((x.getD p 0 : Nat) : Int) else if d = 56 then .int .i64 ((x.getD p 0 : Nat) : Int) else if d = 57 then .slice (some ⟨b, o, none⟩) len cap else if d = 58 then .int .i64 ((p : Nat) : Int) else if d = 59 then .int .i64 ((p + 1 : Nat) : Int) else if d = 60 then .int .i64 ((p : Nat) : Int) else if d = 61 then .int .i64 ((p + 513 : Nat) : Int) else if d = 62 then Sl.val (Sl.mid ⟨some ⟨b, o, none⟩, len, cap⟩ (p + 1) (p + 513)) else if d = 63 then Ix.val (⟨((x.getD p 0 : Nat) : Int), (Sl.mid ⟨some ⟨b, o, none⟩, len, cap⟩ (p + 1) (p + 513)), (x.drop (p + 1)).take 512⟩ : Ix) else if d = 64 then .slice (some ⟨w.drew.heap.size, 0, none⟩) 1 1 else if d = 65 then Sl.val v3 else undef) _ v3 _ hg3 hl3 hbw

end Go.Proofs.Ytjgeiooblcpiaaa
