/-
  The round of the law on turned bytes: three bytes are read, turned by each other, and laid behind what was gathered; every order gives the same.
-/
import Derived.Test.YtjoapceffgibcaaRegs
namespace Go.Proofs.Ytjoapceffgibcaa
open Go.RowKit

theorem index_byte (b o len cap k : Nat) (hk : k < len) (w : World) : (Instr.indexAt 22 (.slice (some ⟨b, o, none⟩) len cap) (.int .i64 (k : Nat))).run Try.prog w = .ok (.pointer (some ⟨b, o + k, none⟩)) w := by
  have h22 : Try.prog.underlying 22 = some (.slice (Try.prog.elem 22)) := by kernel_rfl
  have h1 : (0 : Int) ≤ (k : Int) := by omega
  have h2 : (k : Int) < (len : Int) := by omega
  simp [go_sem, Instr.indexAt, run_underlying h22, h1, Addr.add_lit]
  intro h
  omega

theorem load_byte (b o x : Nat) (w : World) (h : w.cell? ⟨b, o, none⟩ = some (.int .u8 (x : Nat))) : (Instr.loadAt 5 (.pointer (some ⟨b, o, none⟩))).run Try.prog w = .ok (.int .u8 (x : Nat)) w := by
  simp [go_sem, h]

theorem xor_byte {X Y : Operand} (x y : Nat) (hx : x < 256) (hy : y < 256) (w : World) : (do eqGuard .xor 5 X Y (.int .u8 (x : Nat)) (.int .u8 (y : Nat)); binOp .xor 5 (.int .u8 (x : Nat)) (.int .u8 (y : Nat)) : Sem Value).run Try.prog w = .ok (.int .u8 (x ^^^ y : Nat)) w := by
  rw [← u8_xor_nat x y hx hy]
  simp [go_sem, eqGuard]

theorem build_one (x : Nat) (w : World) : (Instr.buildSlice 22 1 #[(0, .int .u8 (x : Nat))]).run Try.prog w = .ok (.slice (some ⟨w.heap.size, 0, none⟩) 1 1) (w.alloc (.cells (vals [x]).toArray 5)) := by
  simp [go_sem, vals]

theorem app_one (w : World) (base : Nat) (v : Value) (xs : List Nat) (hown : Owns w base v xs) (a : Option Addr) (cap : Nat) (ys : List Nat) (hb : Bs w a 1 ys) (hlen : xs.length + 1 ≤ 1000000) (hbase : base ≤ w.heap.size) :
    ∃ v' w', (∀ ty, (Builtin.append_ #[22, 22] ty #[v, .slice a 1 cap]).run Try.prog w = .ok v' w') ∧ Owns w' base v' (xs ++ ys) ∧ Below base w w' := by
  obtain ⟨v', w', hrun, ho, hb'⟩ := run_append_bytes w 0 base v xs hown a 1 cap ys hb (fun e => by obtain ⟨_, _, h, _⟩ := hb.2.2 0 (by omega); rw [e] at h; cases h) hlen hbase
  exact ⟨v', w', fun ty => hrun, ho, hb'⟩

set_option maxHeartbeats 2000000 in
set_option maxRecDepth 100000 in
theorem turns7 (w0 w : World) (b0 o0 b1 o1 b2 o2 len c0 c1 c2 k : Nat) (ps qs rs : List Nat) (v : Value) (xs : List Nat) (hk : k < len)
    (h0 : Bs w0 (some ⟨b0, o0, none⟩) len ps) (h1 : Bs w0 (some ⟨b1, o1, none⟩) len qs) (h2 : Bs w0 (some ⟨b2, o2, none⟩) len rs) (hW : Below w0.heap.size w0 w) (hown : Owns w w0.heap.size v xs) (hlen : xs.length + 1 ≤ 1000000)
    {Q : Exit → Act → World → Prop} {A : Act} (hsz : A.tmps.size = 65) (hdf : A.defers = []) (s0 : A.tmps.getD 0 undef = .slice (some ⟨b0, o0, none⟩) len c0) (s1 : A.tmps.getD 1 undef = .slice (some ⟨b1, o1, none⟩) len c1) (s2 : A.tmps.getD 2 undef = .slice (some ⟨b2, o2, none⟩) len c2) (s7 : A.tmps.getD 7 undef = v) (s8 : A.tmps.getD 8 undef = .int .i64 (k : Nat))
    (hend : ∀ (u : Nat → Value) v' w', Owns w' w0.heap.size v' (xs ++ [ps.getD k 0 ^^^ qs.getD k 0 ^^^ rs.getD k 0]) → Below w0.heap.size w0 w' → Q .normal (((((((((((((((((((A).put (some 34) (u 34)).put (some 35) (u 35)).put (some 36) (u 36)).put (some 37) (u 37)).put (some 38) (u 38)).put (some 39) (u 39)).put (some 40) (u 40)).put (some 41) (u 41)).put (some 42) (u 42)).put (some 43) (u 43)).put (some 44) (u 44)).put (some 45) (u 45)).put (some 46) (u 46)).put (some 47) (u 47)).put (some 48) (u 48)).put (some 49) (u 49)).put (some 50) (u 50)).put (some 7) v') w') :
    (Code.region 7 (Pl.find 7 ((Try.f6.body).getD .skip)) true).wp Try.prog Q A w := by
  have hS0 : Below w0.heap.size w0 w.drew := hW.drew
  obtain ⟨x0, e0⟩ : ∃ x, x = ps.getD k 0 := ⟨_, rfl⟩
  obtain ⟨x1, e1⟩ : ∃ x, x = qs.getD k 0 := ⟨_, rfl⟩
  obtain ⟨x2, e2⟩ : ∃ x, x = rs.getD k 0 := ⟨_, rfl⟩
  have l0 : x0 < 256 := by rw [e0]; exact Ta.getD_lt h0.2.1 k
  have l1 : x1 < 256 := by rw [e1]; exact Ta.getD_lt h1.2.1 k
  have l2 : x2 < 256 := by rw [e2]; exact Ta.getD_lt h2.2.1 k
  have hA := Pl.At.same (v := .int .i64 (k : Nat)) (d := 8) (Pl.At.same (v := v) (d := 7) (Pl.At.same (v := .slice (some ⟨b2, o2, none⟩) len c2) (d := 2) (Pl.At.same (v := .slice (some ⟨b1, o1, none⟩) len c1) (d := 1) (Pl.At.same (v := .slice (some ⟨b0, o0, none⟩) len c0) (d := 0) (Pl.At.here hsz hdf) s0) s1) s2) s7) s8
  refine Pl.H.start (S := fun w' => Below w0.heap.size w0 w') (by kernel_rfl) hA hS0 ?_
  rw [show (Pl.find 7 ((Try.f6.body).getD .skip)).size = 18 by kernel_rfl]
  refine Pl.H.take 0 34 (v) (by kernel_rfl) (by kernel_rfl) (by kernel_rfl) (Pl.free 0 (by kernel_rfl)) (Pl.move 0 (.tmp 7) (by kernel_rfl) (by decide)) hS0 ?_
  refine Pl.H.take 1 35 (.slice (some ⟨b0, o0, none⟩) len c0) (by kernel_rfl) (by kernel_rfl) (by kernel_rfl) (Pl.free 1 (by kernel_rfl)) (Pl.move 1 (.tmp 0) (by kernel_rfl) (by decide)) hS0 ?_
  refine Pl.H.take 2 36 (.int .i64 (k : Nat)) (by kernel_rfl) (by kernel_rfl) (by kernel_rfl) (Pl.free 2 (by kernel_rfl)) (Pl.move 2 (.tmp 8) (by kernel_rfl) (by decide)) hS0 ?_
  refine Pl.H.take 3 37 (.pointer (some ⟨b0, o0 + k, none⟩)) (by kernel_rfl) (by kernel_rfl) (by kernel_rfl) (Pl.free 3 (by kernel_rfl)) (Pl.index 3 22 (.tmp 35) (.tmp 36) _ (by kernel_rfl) (by decide) (by decide) (index_byte b0 o0 len c0 k hk)) hS0 ?_
  refine Pl.H.take 4 38 (.int .u8 (x0 : Nat)) (by kernel_rfl) (by kernel_rfl) (by kernel_rfl) (Pl.free 4 (by kernel_rfl)) (Pl.load 4 5 (.tmp 37) _ (by kernel_rfl) (by decide) (fun w' hS => load_byte b0 (o0 + k) x0 w' ((h0.keep hS (Nat.le_refl _)).at k hk |>.trans (by rw [e0])))) hS0 ?_
  refine Pl.H.take 5 39 (.slice (some ⟨b1, o1, none⟩) len c1) (by kernel_rfl) (by kernel_rfl) (by kernel_rfl) (Pl.free 5 (by kernel_rfl)) (Pl.move 5 (.tmp 1) (by kernel_rfl) (by decide)) hS0 ?_
  refine Pl.H.take 6 40 (.int .i64 (k : Nat)) (by kernel_rfl) (by kernel_rfl) (by kernel_rfl) (Pl.free 6 (by kernel_rfl)) (Pl.move 6 (.tmp 8) (by kernel_rfl) (by decide)) hS0 ?_
  refine Pl.H.take 7 41 (.pointer (some ⟨b1, o1 + k, none⟩)) (by kernel_rfl) (by kernel_rfl) (by kernel_rfl) (Pl.free 7 (by kernel_rfl)) (Pl.index 7 22 (.tmp 39) (.tmp 40) _ (by kernel_rfl) (by decide) (by decide) (index_byte b1 o1 len c1 k hk)) hS0 ?_
  refine Pl.H.take 8 42 (.int .u8 (x1 : Nat)) (by kernel_rfl) (by kernel_rfl) (by kernel_rfl) (Pl.free 8 (by kernel_rfl)) (Pl.load 8 5 (.tmp 41) _ (by kernel_rfl) (by decide) (fun w' hS => load_byte b1 (o1 + k) x1 w' ((h1.keep hS (Nat.le_refl _)).at k hk |>.trans (by rw [e1])))) hS0 ?_
  refine Pl.H.take 9 43 (.int .u8 (x0 ^^^ x1 : Nat)) (by kernel_rfl) (by kernel_rfl) (by kernel_rfl) (Pl.free 9 (by kernel_rfl)) (Pl.bin 9 .xor 5 5 (.tmp 38) (.tmp 42) _ (by kernel_rfl) (by decide) (by decide) (xor_byte x0 x1 l0 l1)) hS0 ?_
  refine Pl.H.take 10 44 (.slice (some ⟨b2, o2, none⟩) len c2) (by kernel_rfl) (by kernel_rfl) (by kernel_rfl) (Pl.free 10 (by kernel_rfl)) (Pl.move 10 (.tmp 2) (by kernel_rfl) (by decide)) hS0 ?_
  refine Pl.H.take 11 45 (.int .i64 (k : Nat)) (by kernel_rfl) (by kernel_rfl) (by kernel_rfl) (Pl.free 11 (by kernel_rfl)) (Pl.move 11 (.tmp 8) (by kernel_rfl) (by decide)) hS0 ?_
  refine Pl.H.take 12 46 (.pointer (some ⟨b2, o2 + k, none⟩)) (by kernel_rfl) (by kernel_rfl) (by kernel_rfl) (Pl.free 12 (by kernel_rfl)) (Pl.index 12 22 (.tmp 44) (.tmp 45) _ (by kernel_rfl) (by decide) (by decide) (index_byte b2 o2 len c2 k hk)) hS0 ?_
  refine Pl.H.take 13 47 (.int .u8 (x2 : Nat)) (by kernel_rfl) (by kernel_rfl) (by kernel_rfl) (Pl.free 13 (by kernel_rfl)) (Pl.load 13 5 (.tmp 46) _ (by kernel_rfl) (by decide) (fun w' hS => load_byte b2 (o2 + k) x2 w' ((h2.keep hS (Nat.le_refl _)).at k hk |>.trans (by rw [e2])))) hS0 ?_
  refine Pl.H.take 14 48 (.int .u8 (x0 ^^^ x1 ^^^ x2 : Nat)) (by kernel_rfl) (by kernel_rfl) (by kernel_rfl) (Pl.free 14 (by kernel_rfl)) (Pl.bin 14 .xor 5 5 (.tmp 43) (.tmp 47) _ (by kernel_rfl) (by decide) (by decide) (xor_byte (x0 ^^^ x1) x2 (Ta.byte_xor l0 l1) l2)) hS0 ?_
  have hS1 : Below w0.heap.size w0 (w.drew.alloc (.cells (vals [x0 ^^^ x1 ^^^ x2]).toArray 5)) := hS0.alloc hS0.size _
  refine Pl.H.make 15 49 (.slice (some ⟨w.heap.size, 0, none⟩) 1 1) _ (by kernel_rfl) (by kernel_rfl) (by kernel_rfl) (Pl.free 15 (by kernel_rfl)) (Pl.one 15 22 (.tmp 48) _ _ (by kernel_rfl) (by decide) (build_one _ w.drew)) hS1 ?_
  have hbs1 : Bs (w.drew.alloc (.cells (vals [x0 ^^^ x1 ^^^ x2]).toArray 5)) (some ⟨w.heap.size, 0, none⟩) 1 [x0 ^^^ x1 ^^^ x2] := bs_marked w.drew [x0 ^^^ x1 ^^^ x2] (0, 0) (by intro y hy; simp at hy; rw [hy]; exact Ta.byte_xor (Ta.byte_xor l0 l1) l2)
  have hown1 : Owns (w.drew.alloc (.cells (vals [x0 ^^^ x1 ^^^ x2]).toArray 5)) w0.heap.size v xs := hown.keep ((Below.refl w.heap.size w).drew.alloc (Nat.le_refl _) _) (Nat.le_refl _)
  obtain ⟨v', w', hrun, ho', hb'⟩ := app_one _ w0.heap.size v xs hown1 _ 1 _ hbs1 hlen hS1.size
  have hS2 : Below w0.heap.size w0 w' := hS1.trans hb'
  refine Pl.H.make 16 50 v' w' (by kernel_rfl) (by kernel_rfl) (by kernel_rfl) (Pl.free 16 (by kernel_rfl)) (Pl.app 16 22 (.tmp 34) (.tmp 49) _ _ (by kernel_rfl) (by decide) (by decide) hrun) hS2 ?_
  refine Pl.H.take 17 7 (v') (by kernel_rfl) (by kernel_rfl) (by kernel_rfl) (Pl.free 17 (by kernel_rfl)) (Pl.assign 17 (.tmp 50) (by kernel_rfl) (by decide)) hS2 ?_
  refine Pl.H.done (by kernel_rfl) (fun A' hA' => ?_)
  rw [Pl.At.ext hA' ((((((((((((((((((hA.put 34 _).put 35 _).put 36 _).put 37 _).put 38 _).put 39 _).put 40 _).put 41 _).put 42 _).put 43 _).put 44 _).put 45 _).put 46 _).put 47 _).put 48 _).put 49 _).put 50 _).put 7 _)]
  rw [← e0, ← e1, ← e2] at hend
  exact hend (fun d => if d = 34 then v else if d = 35 then .slice (some ⟨b0, o0, none⟩) len c0 else if d = 36 then .int .i64 (k : Nat) else if d = 37 then .pointer (some ⟨b0, o0 + k, none⟩) else if d = 38 then .int .u8 (x0 : Nat) else if d = 39 then .slice (some ⟨b1, o1, none⟩) len c1 else if d = 40 then .int .i64 (k : Nat) else if d = 41 then .pointer (some ⟨b1, o1 + k, none⟩) else if d = 42 then .int .u8 (x1 : Nat) else if d = 43 then .int .u8 (x0 ^^^ x1 : Nat) else if d = 44 then .slice (some ⟨b2, o2, none⟩) len c2 else if d = 45 then .int .i64 (k : Nat) else if d = 46 then .pointer (some ⟨b2, o2 + k, none⟩) else if d = 47 then .int .u8 (x2 : Nat) else if d = 48 then .int .u8 (x0 ^^^ x1 ^^^ x2 : Nat) else if d = 49 then .slice (some ⟨w.heap.size, 0, none⟩) 1 1 else if d = 50 then v' else undef) v' w' ho' hS2
end Go.Proofs.Ytjoapceffgibcaa
