/-
  The walk of the law of sectors.
-/
import Derived.Test.YtokdeilcfkobfaaLdS
namespace Go.Proofs.Ytokdeilcfkobfaa
open Go.RowKit

theorem idxArr0 (q : Nat) (w : World) : (Instr.indexAt 59 (.pointer (some ⟨q, 0, none⟩)) (.int .i64 0)).run Try.prog w = .ok (.pointer (some ⟨q, 0, none⟩)) w := by simp [go_sem, Instr.indexAt]
theorem idxArr1 (q : Nat) (w : World) : (Instr.indexAt 59 (.pointer (some ⟨q, 0, none⟩)) (.int .i64 1)).run Try.prog w = .ok (.pointer (some ⟨q, 1, none⟩)) w := by simp [go_sem, Instr.indexAt]
theorem conv_u8 (v : Nat) (hv : v < 256) (w : World) : (convert 5 3 (.int .u8 ((v : Nat) : Int))).run Try.prog w = .ok (.int .i64 ((v : Nat) : Int)) w := by
  have : IntKind.i64.wrap ((v : Nat) : Int) = ((v : Nat) : Int) := by rw [IntKind.wrap_i64]; omega
  simp [go_sem, this]

set_option maxHeartbeats 2000000 in
set_option maxRecDepth 100000 in
theorem keeps1 (w : World) (q x y : Nat) (h0 : w.cell? ⟨q, 0, none⟩ = some (.int .u8 ((x : Nat) : Int))) (h1 : w.cell? ⟨q, 1, none⟩ = some (.int .u8 ((y : Nat) : Int)))
    {Q : Exit → Act → World → Prop} {A : Act} (hsz : A.tmps.size = 121) (hdf : A.defers = []) (s3 : A.tmps.getD 3 undef = .pointer (some ⟨q, 0, none⟩))
    (hend : ∀ (u : Nat → Value) w', w' = w.drew → Q .normal (((((((A).put (some 17) (u 17)).put (some 18) (u 18)).put (some 19) (u 19)).put (some 20) (u 20)).put (some 7) (.int .u8 ((x : Nat) : Int))).put (some 8) (.int .u8 ((y : Nat) : Int))) w') :
    (Code.region 1 (Pl.find 1 ((Try.f5.body).getD .skip)) true).wp Try.prog Q A w := by
  have hA := Pl.At.same (v := .pointer (some ⟨q, 0, none⟩)) (d := 3) (Pl.At.here hsz hdf) s3
  refine Pl.H.start (S := fun w' => w'.cell? ⟨q, 0, none⟩ = some (.int .u8 ((x : Nat) : Int)) ∧ w'.cell? ⟨q, 1, none⟩ = some (.int .u8 ((y : Nat) : Int))) (by kernel_rfl) hA (show (fun (w' : World) => w'.cell? ⟨q, 0, none⟩ = some (.int .u8 ((x : Nat) : Int)) ∧ w'.cell? ⟨q, 1, none⟩ = some (.int .u8 ((y : Nat) : Int))) w.drew from ⟨h0, h1⟩) ?_
  rw [show (Pl.find 1 ((Try.f5.body).getD .skip)).size = 6 by kernel_rfl]
  refine Pl.H.take 0 17 (.pointer (some ⟨q, 0, none⟩)) (by kernel_rfl) (by kernel_rfl) (by kernel_rfl) (Pl.free 0 (by kernel_rfl)) (Pl.index 0 59 (.tmp 3) (.const (.int .i64 0)) _ (by kernel_rfl) (by decide) (by decide) (idxArr0 q)) (show (fun (w' : World) => w'.cell? ⟨q, 0, none⟩ = some (.int .u8 ((x : Nat) : Int)) ∧ w'.cell? ⟨q, 1, none⟩ = some (.int .u8 ((y : Nat) : Int))) w.drew from ⟨h0, h1⟩) ?_
  refine Pl.H.take 1 18 (.int .u8 ((x : Nat) : Int)) (by kernel_rfl) (by kernel_rfl) (by kernel_rfl) (Pl.free 1 (by kernel_rfl)) (Pl.load 1 5 (.tmp 17) _ (by kernel_rfl) (by decide) (fun w' hS => load_byte q 0 x w' hS.1)) (show (fun (w' : World) => w'.cell? ⟨q, 0, none⟩ = some (.int .u8 ((x : Nat) : Int)) ∧ w'.cell? ⟨q, 1, none⟩ = some (.int .u8 ((y : Nat) : Int))) w.drew from ⟨h0, h1⟩) ?_
  refine Pl.H.take 2 19 (.pointer (some ⟨q, 1, none⟩)) (by kernel_rfl) (by kernel_rfl) (by kernel_rfl) (Pl.free 2 (by kernel_rfl)) (Pl.index 2 59 (.tmp 3) (.const (.int .i64 1)) _ (by kernel_rfl) (by decide) (by decide) (idxArr1 q)) (show (fun (w' : World) => w'.cell? ⟨q, 0, none⟩ = some (.int .u8 ((x : Nat) : Int)) ∧ w'.cell? ⟨q, 1, none⟩ = some (.int .u8 ((y : Nat) : Int))) w.drew from ⟨h0, h1⟩) ?_
  refine Pl.H.take 3 20 (.int .u8 ((y : Nat) : Int)) (by kernel_rfl) (by kernel_rfl) (by kernel_rfl) (Pl.free 3 (by kernel_rfl)) (Pl.load 3 5 (.tmp 19) _ (by kernel_rfl) (by decide) (fun w' hS => load_byte q 1 y w' hS.2)) (show (fun (w' : World) => w'.cell? ⟨q, 0, none⟩ = some (.int .u8 ((x : Nat) : Int)) ∧ w'.cell? ⟨q, 1, none⟩ = some (.int .u8 ((y : Nat) : Int))) w.drew from ⟨h0, h1⟩) ?_
  refine Pl.H.take 4 7 (.int .u8 ((x : Nat) : Int)) (by kernel_rfl) (by kernel_rfl) (by kernel_rfl) (Pl.free 4 (by kernel_rfl)) (Pl.assign 4 (.tmp 18) (by kernel_rfl) (by decide)) (show (fun (w' : World) => w'.cell? ⟨q, 0, none⟩ = some (.int .u8 ((x : Nat) : Int)) ∧ w'.cell? ⟨q, 1, none⟩ = some (.int .u8 ((y : Nat) : Int))) w.drew from ⟨h0, h1⟩) ?_
  refine Pl.H.take 5 8 (.int .u8 ((y : Nat) : Int)) (by kernel_rfl) (by kernel_rfl) (by kernel_rfl) (Pl.free 5 (by kernel_rfl)) (Pl.assign 5 (.tmp 20) (by kernel_rfl) (by decide)) (show (fun (w' : World) => w'.cell? ⟨q, 0, none⟩ = some (.int .u8 ((x : Nat) : Int)) ∧ w'.cell? ⟨q, 1, none⟩ = some (.int .u8 ((y : Nat) : Int))) w.drew from ⟨h0, h1⟩) ?_
  refine Pl.H.done (by kernel_rfl) (fun A' hA' => ?_)
  rw [Pl.At.ext hA' ((((((hA.put 17 _).put 18 _).put 19 _).put 20 _).put 7 _).put 8 _)]
  exact hend (fun d => if d = 17 then .pointer (some ⟨q, 0, none⟩) else if d = 18 then .int .u8 ((x : Nat) : Int) else if d = 19 then .pointer (some ⟨q, 1, none⟩) else if d = 20 then .int .u8 ((y : Nat) : Int) else undef) _ rfl

set_option maxHeartbeats 2000000 in
set_option maxRecDepth 100000 in
theorem keeps21 (w : World) (g off cap o1 o2 i i2 v k m : Nat) (hi1 : ∀ w, (Instr.indexAt 30 (.slice (some ⟨g, off, none⟩) 512 cap) (.int .i64 ((i : Nat) : Int))).run Try.prog w = .ok (.pointer (some ⟨g, o1, none⟩)) w) (hi2 : ∀ w, (Instr.indexAt 30 (.slice (some ⟨g, off, none⟩) 512 cap) (.int .i64 ((i2 : Nat) : Int))).run Try.prog w = .ok (.pointer (some ⟨g, o2, none⟩)) w) (h1 : w.cell? ⟨g, o1, none⟩ = some (.int .u8 ((v : Nat) : Int))) (h2 : w.cell? ⟨g, o2, none⟩ = some (.int .u8 ((v : Nat) : Int))) (hq : IntKind.i64.wrap (((i : Nat) : Int) / 128) = ((i : Nat) : Int) / 128) (hmu : IntKind.i64.wrap (((i : Nat) : Int) / 128 * 128) = ((i2 : Nat) : Int)) (hv : v < 256) (hk : k ≤ v) (hm : v ≤ m)
    {Q : Exit → Act → World → Prop} {A : Act} (hsz : A.tmps.size = 121) (hdf : A.defers = []) (s14 : A.tmps.getD 14 undef = .slice (some ⟨g, off, none⟩) 512 cap) (s16 : A.tmps.getD 16 undef = .int .i64 ((i : Nat) : Int)) (s12 : A.tmps.getD 12 undef = .int .i64 ((k : Nat) : Int)) (s11 : A.tmps.getD 11 undef = .int .i64 ((m : Nat) : Int))
    (hend : ∀ (u : Nat → Value) w', w' = w.drew → Q .normal ((((((((((((((((((((((((((((((A).put (some 91) (u 91)).put (some 92) (u 92)).put (some 93) (u 93)).put (some 94) (u 94)).put (some 95) (u 95)).put (some 96) (u 96)).put (some 97) (u 97)).put (some 98) (u 98)).put (some 99) (u 99)).put (some 100) (u 100)).put (some 101) (u 101)).put (some 102) (u 102)).put (some 103) (u 103)).put (some 104) (u 104)).put (some 105) (u 105)).put (some 106) (u 106)).put (some 107) (u 107)).put (some 108) (u 108)).put (some 109) (u 109)).put (some 110) (u 110)).put (some 111) (u 111)).put (some 112) (u 112)).put (some 113) (u 113)).put (some 114) (u 114)).put (some 115) (u 115)).put (some 116) (u 116)).put (some 117) (u 117)).put (some 118) (u 118)).put (some 119) (.bool false)) w') :
    (Code.region 21 (Pl.find 21 ((Try.f5.body).getD .skip)) true).wp Try.prog Q A w := by
  have hA := Pl.At.same (v := .int .i64 ((m : Nat) : Int)) (d := 11) (Pl.At.same (v := .int .i64 ((k : Nat) : Int)) (d := 12) (Pl.At.same (v := .int .i64 ((i : Nat) : Int)) (d := 16) (Pl.At.same (v := .slice (some ⟨g, off, none⟩) 512 cap) (d := 14) (Pl.At.here hsz hdf) s14) s16) s12) s11
  refine Pl.H.start (S := fun w' => w'.cell? ⟨g, o1, none⟩ = some (.int .u8 ((v : Nat) : Int)) ∧ w'.cell? ⟨g, o2, none⟩ = some (.int .u8 ((v : Nat) : Int))) (by kernel_rfl) hA (show (fun (w' : World) => w'.cell? ⟨g, o1, none⟩ = some (.int .u8 ((v : Nat) : Int)) ∧ w'.cell? ⟨g, o2, none⟩ = some (.int .u8 ((v : Nat) : Int))) w.drew from ⟨h1, h2⟩) ?_
  rw [show (Pl.find 21 ((Try.f5.body).getD .skip)).size = 29 by kernel_rfl]
  refine Pl.H.take 0 91 (.slice (some ⟨g, off, none⟩) 512 cap) (by kernel_rfl) (by kernel_rfl) (by kernel_rfl) (Pl.free 0 (by kernel_rfl)) (Pl.move 0 (.tmp 14) (by kernel_rfl) (by decide)) (show (fun (w' : World) => w'.cell? ⟨g, o1, none⟩ = some (.int .u8 ((v : Nat) : Int)) ∧ w'.cell? ⟨g, o2, none⟩ = some (.int .u8 ((v : Nat) : Int))) w.drew from ⟨h1, h2⟩) ?_
  refine Pl.H.take 1 92 (.int .i64 ((i : Nat) : Int)) (by kernel_rfl) (by kernel_rfl) (by kernel_rfl) (Pl.free 1 (by kernel_rfl)) (Pl.move 1 (.tmp 16) (by kernel_rfl) (by decide)) (show (fun (w' : World) => w'.cell? ⟨g, o1, none⟩ = some (.int .u8 ((v : Nat) : Int)) ∧ w'.cell? ⟨g, o2, none⟩ = some (.int .u8 ((v : Nat) : Int))) w.drew from ⟨h1, h2⟩) ?_
  refine Pl.H.take 2 93 (.pointer (some ⟨g, o1, none⟩)) (by kernel_rfl) (by kernel_rfl) (by kernel_rfl) (Pl.free 2 (by kernel_rfl)) (Pl.index 2 30 (.tmp 91) (.tmp 92) _ (by kernel_rfl) (by decide) (by decide) (hi1)) (show (fun (w' : World) => w'.cell? ⟨g, o1, none⟩ = some (.int .u8 ((v : Nat) : Int)) ∧ w'.cell? ⟨g, o2, none⟩ = some (.int .u8 ((v : Nat) : Int))) w.drew from ⟨h1, h2⟩) ?_
  refine Pl.H.take 3 94 (.int .u8 ((v : Nat) : Int)) (by kernel_rfl) (by kernel_rfl) (by kernel_rfl) (Pl.free 3 (by kernel_rfl)) (Pl.load 3 5 (.tmp 93) _ (by kernel_rfl) (by decide) (fun w' hS => load_byte g o1 v w' hS.1)) (show (fun (w' : World) => w'.cell? ⟨g, o1, none⟩ = some (.int .u8 ((v : Nat) : Int)) ∧ w'.cell? ⟨g, o2, none⟩ = some (.int .u8 ((v : Nat) : Int))) w.drew from ⟨h1, h2⟩) ?_
  refine Pl.H.take 4 95 (.slice (some ⟨g, off, none⟩) 512 cap) (by kernel_rfl) (by kernel_rfl) (by kernel_rfl) (Pl.free 4 (by kernel_rfl)) (Pl.move 4 (.tmp 14) (by kernel_rfl) (by decide)) (show (fun (w' : World) => w'.cell? ⟨g, o1, none⟩ = some (.int .u8 ((v : Nat) : Int)) ∧ w'.cell? ⟨g, o2, none⟩ = some (.int .u8 ((v : Nat) : Int))) w.drew from ⟨h1, h2⟩) ?_
  refine Pl.H.take 5 96 (.int .i64 ((i : Nat) : Int)) (by kernel_rfl) (by kernel_rfl) (by kernel_rfl) (Pl.free 5 (by kernel_rfl)) (Pl.move 5 (.tmp 16) (by kernel_rfl) (by decide)) (show (fun (w' : World) => w'.cell? ⟨g, o1, none⟩ = some (.int .u8 ((v : Nat) : Int)) ∧ w'.cell? ⟨g, o2, none⟩ = some (.int .u8 ((v : Nat) : Int))) w.drew from ⟨h1, h2⟩) ?_
  refine Pl.H.take 6 97 (.int .i64 ((i / 128 : Nat) : Int)) (by kernel_rfl) (by kernel_rfl) (by kernel_rfl) (Pl.free 6 (by kernel_rfl)) (Pl.binV 6 .quo 3 3 (.tmp 96) (.const (.int .i64 128)) (.int .i64 ((i : Nat) : Int)) (.int .i64 128) _ (by kernel_rfl) (by decide) (by decide) rfl rfl (fun w => by simp [go_sem, eqGuard, hq])) (show (fun (w' : World) => w'.cell? ⟨g, o1, none⟩ = some (.int .u8 ((v : Nat) : Int)) ∧ w'.cell? ⟨g, o2, none⟩ = some (.int .u8 ((v : Nat) : Int))) w.drew from ⟨h1, h2⟩) ?_
  refine Pl.H.take 7 98 (.int .i64 ((i2 : Nat) : Int)) (by kernel_rfl) (by kernel_rfl) (by kernel_rfl) (Pl.free 7 (by kernel_rfl)) (Pl.binV 7 .mul 3 3 (.tmp 97) (.const (.int .i64 128)) (.int .i64 ((i / 128 : Nat) : Int)) (.int .i64 128) _ (by kernel_rfl) (by decide) (by decide) rfl rfl (fun w => by simp [go_sem, eqGuard, hmu])) (show (fun (w' : World) => w'.cell? ⟨g, o1, none⟩ = some (.int .u8 ((v : Nat) : Int)) ∧ w'.cell? ⟨g, o2, none⟩ = some (.int .u8 ((v : Nat) : Int))) w.drew from ⟨h1, h2⟩) ?_
  refine Pl.H.take 8 99 (.pointer (some ⟨g, o2, none⟩)) (by kernel_rfl) (by kernel_rfl) (by kernel_rfl) (Pl.free 8 (by kernel_rfl)) (Pl.index 8 30 (.tmp 95) (.tmp 98) _ (by kernel_rfl) (by decide) (by decide) (hi2)) (show (fun (w' : World) => w'.cell? ⟨g, o1, none⟩ = some (.int .u8 ((v : Nat) : Int)) ∧ w'.cell? ⟨g, o2, none⟩ = some (.int .u8 ((v : Nat) : Int))) w.drew from ⟨h1, h2⟩) ?_
  refine Pl.H.take 9 100 (.int .u8 ((v : Nat) : Int)) (by kernel_rfl) (by kernel_rfl) (by kernel_rfl) (Pl.free 9 (by kernel_rfl)) (Pl.load 9 5 (.tmp 99) _ (by kernel_rfl) (by decide) (fun w' hS => load_byte g o2 v w' hS.2)) (show (fun (w' : World) => w'.cell? ⟨g, o1, none⟩ = some (.int .u8 ((v : Nat) : Int)) ∧ w'.cell? ⟨g, o2, none⟩ = some (.int .u8 ((v : Nat) : Int))) w.drew from ⟨h1, h2⟩) ?_
  refine Pl.H.take 10 101 (.bool false) (by kernel_rfl) (by kernel_rfl) (by kernel_rfl) (Pl.free 10 (by kernel_rfl)) (Pl.binV 10 .neq 5 5 (.tmp 94) (.tmp 100) (.int .u8 ((v : Nat) : Int)) (.int .u8 ((v : Nat) : Int)) _ (by kernel_rfl) (by decide) (by decide) rfl rfl (fun w => by simp [go_sem, eqGuard])) (show (fun (w' : World) => w'.cell? ⟨g, o1, none⟩ = some (.int .u8 ((v : Nat) : Int)) ∧ w'.cell? ⟨g, o2, none⟩ = some (.int .u8 ((v : Nat) : Int))) w.drew from ⟨h1, h2⟩) ?_
  refine Pl.H.take 11 102 (.bool false) (by kernel_rfl) (by kernel_rfl) (by kernel_rfl) (Pl.free 11 (by kernel_rfl)) (Pl.move 11 (.tmp 101) (by kernel_rfl) (by decide)) (show (fun (w' : World) => w'.cell? ⟨g, o1, none⟩ = some (.int .u8 ((v : Nat) : Int)) ∧ w'.cell? ⟨g, o2, none⟩ = some (.int .u8 ((v : Nat) : Int))) w.drew from ⟨h1, h2⟩) ?_
  refine Pl.H.take 12 103 (.slice (some ⟨g, off, none⟩) 512 cap) (by kernel_rfl) (by kernel_rfl) (by kernel_rfl) (Pl.guarded 12 11 102 false (by kernel_rfl) (by kernel_rfl) (by decide) rfl) (Pl.move 12 (.tmp 14) (by kernel_rfl) (by decide)) (show (fun (w' : World) => w'.cell? ⟨g, o1, none⟩ = some (.int .u8 ((v : Nat) : Int)) ∧ w'.cell? ⟨g, o2, none⟩ = some (.int .u8 ((v : Nat) : Int))) w.drew from ⟨h1, h2⟩) ?_
  refine Pl.H.take 13 104 (.int .i64 ((i : Nat) : Int)) (by kernel_rfl) (by kernel_rfl) (by kernel_rfl) (Pl.guarded 13 11 102 false (by kernel_rfl) (by kernel_rfl) (by decide) rfl) (Pl.move 13 (.tmp 16) (by kernel_rfl) (by decide)) (show (fun (w' : World) => w'.cell? ⟨g, o1, none⟩ = some (.int .u8 ((v : Nat) : Int)) ∧ w'.cell? ⟨g, o2, none⟩ = some (.int .u8 ((v : Nat) : Int))) w.drew from ⟨h1, h2⟩) ?_
  refine Pl.H.take 14 105 (.pointer (some ⟨g, o1, none⟩)) (by kernel_rfl) (by kernel_rfl) (by kernel_rfl) (Pl.guarded 14 11 102 false (by kernel_rfl) (by kernel_rfl) (by decide) rfl) (Pl.index 14 30 (.tmp 103) (.tmp 104) _ (by kernel_rfl) (by decide) (by decide) (hi1)) (show (fun (w' : World) => w'.cell? ⟨g, o1, none⟩ = some (.int .u8 ((v : Nat) : Int)) ∧ w'.cell? ⟨g, o2, none⟩ = some (.int .u8 ((v : Nat) : Int))) w.drew from ⟨h1, h2⟩) ?_
  refine Pl.H.take 15 106 (.int .u8 ((v : Nat) : Int)) (by kernel_rfl) (by kernel_rfl) (by kernel_rfl) (Pl.guarded 15 11 102 false (by kernel_rfl) (by kernel_rfl) (by decide) rfl) (Pl.load 15 5 (.tmp 105) _ (by kernel_rfl) (by decide) (fun w' hS => load_byte g o1 v w' hS.1)) (show (fun (w' : World) => w'.cell? ⟨g, o1, none⟩ = some (.int .u8 ((v : Nat) : Int)) ∧ w'.cell? ⟨g, o2, none⟩ = some (.int .u8 ((v : Nat) : Int))) w.drew from ⟨h1, h2⟩) ?_
  refine Pl.H.take 16 107 (.int .i64 ((v : Nat) : Int)) (by kernel_rfl) (by kernel_rfl) (by kernel_rfl) (Pl.guarded 16 11 102 false (by kernel_rfl) (by kernel_rfl) (by decide) rfl) (Pl.convV 16 5 3 (.tmp 106) (.int .u8 ((v : Nat) : Int)) _ (by kernel_rfl) (by decide) rfl (fun w' _ => conv_u8 v hv w')) (show (fun (w' : World) => w'.cell? ⟨g, o1, none⟩ = some (.int .u8 ((v : Nat) : Int)) ∧ w'.cell? ⟨g, o2, none⟩ = some (.int .u8 ((v : Nat) : Int))) w.drew from ⟨h1, h2⟩) ?_
  refine Pl.H.take 17 108 (.int .i64 ((k : Nat) : Int)) (by kernel_rfl) (by kernel_rfl) (by kernel_rfl) (Pl.guarded 17 11 102 false (by kernel_rfl) (by kernel_rfl) (by decide) rfl) (Pl.move 17 (.tmp 12) (by kernel_rfl) (by decide)) (show (fun (w' : World) => w'.cell? ⟨g, o1, none⟩ = some (.int .u8 ((v : Nat) : Int)) ∧ w'.cell? ⟨g, o2, none⟩ = some (.int .u8 ((v : Nat) : Int))) w.drew from ⟨h1, h2⟩) ?_
  refine Pl.H.take 18 109 (.bool false) (by kernel_rfl) (by kernel_rfl) (by kernel_rfl) (Pl.guarded 18 11 102 false (by kernel_rfl) (by kernel_rfl) (by decide) rfl) (Pl.binV 18 .lss 3 3 (.tmp 107) (.tmp 108) (.int .i64 ((v : Nat) : Int)) (.int .i64 ((k : Nat) : Int)) _ (by kernel_rfl) (by decide) (by decide) rfl rfl (fun w => by simp [go_sem, eqGuard]; omega)) (show (fun (w' : World) => w'.cell? ⟨g, o1, none⟩ = some (.int .u8 ((v : Nat) : Int)) ∧ w'.cell? ⟨g, o2, none⟩ = some (.int .u8 ((v : Nat) : Int))) w.drew from ⟨h1, h2⟩) ?_
  refine Pl.H.take 19 110 (.bool false) (by kernel_rfl) (by kernel_rfl) (by kernel_rfl) (Pl.free 19 (by kernel_rfl)) (Pl.pickF 19 (.tmp 102) (.const (.bool true)) (.tmp 109) (by kernel_rfl) (by decide) (by decide) rfl) (show (fun (w' : World) => w'.cell? ⟨g, o1, none⟩ = some (.int .u8 ((v : Nat) : Int)) ∧ w'.cell? ⟨g, o2, none⟩ = some (.int .u8 ((v : Nat) : Int))) w.drew from ⟨h1, h2⟩) ?_
  refine Pl.H.take 20 111 (.bool false) (by kernel_rfl) (by kernel_rfl) (by kernel_rfl) (Pl.free 20 (by kernel_rfl)) (Pl.move 20 (.tmp 110) (by kernel_rfl) (by decide)) (show (fun (w' : World) => w'.cell? ⟨g, o1, none⟩ = some (.int .u8 ((v : Nat) : Int)) ∧ w'.cell? ⟨g, o2, none⟩ = some (.int .u8 ((v : Nat) : Int))) w.drew from ⟨h1, h2⟩) ?_
  refine Pl.H.take 21 112 (.slice (some ⟨g, off, none⟩) 512 cap) (by kernel_rfl) (by kernel_rfl) (by kernel_rfl) (Pl.guarded 21 20 111 false (by kernel_rfl) (by kernel_rfl) (by decide) rfl) (Pl.move 21 (.tmp 14) (by kernel_rfl) (by decide)) (show (fun (w' : World) => w'.cell? ⟨g, o1, none⟩ = some (.int .u8 ((v : Nat) : Int)) ∧ w'.cell? ⟨g, o2, none⟩ = some (.int .u8 ((v : Nat) : Int))) w.drew from ⟨h1, h2⟩) ?_
  refine Pl.H.take 22 113 (.int .i64 ((i : Nat) : Int)) (by kernel_rfl) (by kernel_rfl) (by kernel_rfl) (Pl.guarded 22 20 111 false (by kernel_rfl) (by kernel_rfl) (by decide) rfl) (Pl.move 22 (.tmp 16) (by kernel_rfl) (by decide)) (show (fun (w' : World) => w'.cell? ⟨g, o1, none⟩ = some (.int .u8 ((v : Nat) : Int)) ∧ w'.cell? ⟨g, o2, none⟩ = some (.int .u8 ((v : Nat) : Int))) w.drew from ⟨h1, h2⟩) ?_
  refine Pl.H.take 23 114 (.pointer (some ⟨g, o1, none⟩)) (by kernel_rfl) (by kernel_rfl) (by kernel_rfl) (Pl.guarded 23 20 111 false (by kernel_rfl) (by kernel_rfl) (by decide) rfl) (Pl.index 23 30 (.tmp 112) (.tmp 113) _ (by kernel_rfl) (by decide) (by decide) (hi1)) (show (fun (w' : World) => w'.cell? ⟨g, o1, none⟩ = some (.int .u8 ((v : Nat) : Int)) ∧ w'.cell? ⟨g, o2, none⟩ = some (.int .u8 ((v : Nat) : Int))) w.drew from ⟨h1, h2⟩) ?_
  refine Pl.H.take 24 115 (.int .u8 ((v : Nat) : Int)) (by kernel_rfl) (by kernel_rfl) (by kernel_rfl) (Pl.guarded 24 20 111 false (by kernel_rfl) (by kernel_rfl) (by decide) rfl) (Pl.load 24 5 (.tmp 114) _ (by kernel_rfl) (by decide) (fun w' hS => load_byte g o1 v w' hS.1)) (show (fun (w' : World) => w'.cell? ⟨g, o1, none⟩ = some (.int .u8 ((v : Nat) : Int)) ∧ w'.cell? ⟨g, o2, none⟩ = some (.int .u8 ((v : Nat) : Int))) w.drew from ⟨h1, h2⟩) ?_
  refine Pl.H.take 25 116 (.int .i64 ((v : Nat) : Int)) (by kernel_rfl) (by kernel_rfl) (by kernel_rfl) (Pl.guarded 25 20 111 false (by kernel_rfl) (by kernel_rfl) (by decide) rfl) (Pl.convV 25 5 3 (.tmp 115) (.int .u8 ((v : Nat) : Int)) _ (by kernel_rfl) (by decide) rfl (fun w' _ => conv_u8 v hv w')) (show (fun (w' : World) => w'.cell? ⟨g, o1, none⟩ = some (.int .u8 ((v : Nat) : Int)) ∧ w'.cell? ⟨g, o2, none⟩ = some (.int .u8 ((v : Nat) : Int))) w.drew from ⟨h1, h2⟩) ?_
  refine Pl.H.take 26 117 (.int .i64 ((m : Nat) : Int)) (by kernel_rfl) (by kernel_rfl) (by kernel_rfl) (Pl.guarded 26 20 111 false (by kernel_rfl) (by kernel_rfl) (by decide) rfl) (Pl.move 26 (.tmp 11) (by kernel_rfl) (by decide)) (show (fun (w' : World) => w'.cell? ⟨g, o1, none⟩ = some (.int .u8 ((v : Nat) : Int)) ∧ w'.cell? ⟨g, o2, none⟩ = some (.int .u8 ((v : Nat) : Int))) w.drew from ⟨h1, h2⟩) ?_
  refine Pl.H.take 27 118 (.bool false) (by kernel_rfl) (by kernel_rfl) (by kernel_rfl) (Pl.guarded 27 20 111 false (by kernel_rfl) (by kernel_rfl) (by decide) rfl) (Pl.binV 27 .gtr 3 3 (.tmp 116) (.tmp 117) (.int .i64 ((v : Nat) : Int)) (.int .i64 ((m : Nat) : Int)) _ (by kernel_rfl) (by decide) (by decide) rfl rfl (fun w => by simp [go_sem, eqGuard]; omega)) (show (fun (w' : World) => w'.cell? ⟨g, o1, none⟩ = some (.int .u8 ((v : Nat) : Int)) ∧ w'.cell? ⟨g, o2, none⟩ = some (.int .u8 ((v : Nat) : Int))) w.drew from ⟨h1, h2⟩) ?_
  refine Pl.H.take 28 119 (.bool false) (by kernel_rfl) (by kernel_rfl) (by kernel_rfl) (Pl.free 28 (by kernel_rfl)) (Pl.pickF 28 (.tmp 111) (.const (.bool true)) (.tmp 118) (by kernel_rfl) (by decide) (by decide) rfl) (show (fun (w' : World) => w'.cell? ⟨g, o1, none⟩ = some (.int .u8 ((v : Nat) : Int)) ∧ w'.cell? ⟨g, o2, none⟩ = some (.int .u8 ((v : Nat) : Int))) w.drew from ⟨h1, h2⟩) ?_
  refine Pl.H.done (by kernel_rfl) (fun A' hA' => ?_)
  rw [Pl.At.ext hA' (((((((((((((((((((((((((((((hA.put 91 _).put 92 _).put 93 _).put 94 _).put 95 _).put 96 _).put 97 _).put 98 _).put 99 _).put 100 _).put 101 _).put 102 _).put 103 _).put 104 _).put 105 _).put 106 _).put 107 _).put 108 _).put 109 _).put 110 _).put 111 _).put 112 _).put 113 _).put 114 _).put 115 _).put 116 _).put 117 _).put 118 _).put 119 _)]
  exact hend (fun d => if d = 91 then .slice (some ⟨g, off, none⟩) 512 cap else if d = 92 then .int .i64 ((i : Nat) : Int) else if d = 93 then .pointer (some ⟨g, o1, none⟩) else if d = 94 then .int .u8 ((v : Nat) : Int) else if d = 95 then .slice (some ⟨g, off, none⟩) 512 cap else if d = 96 then .int .i64 ((i : Nat) : Int) else if d = 97 then .int .i64 ((i / 128 : Nat) : Int) else if d = 98 then .int .i64 ((i2 : Nat) : Int) else if d = 99 then .pointer (some ⟨g, o2, none⟩) else if d = 100 then .int .u8 ((v : Nat) : Int) else if d = 101 then .bool false else if d = 102 then .bool false else if d = 103 then .slice (some ⟨g, off, none⟩) 512 cap else if d = 104 then .int .i64 ((i : Nat) : Int) else if d = 105 then .pointer (some ⟨g, o1, none⟩) else if d = 106 then .int .u8 ((v : Nat) : Int) else if d = 107 then .int .i64 ((v : Nat) : Int) else if d = 108 then .int .i64 ((k : Nat) : Int) else if d = 109 then .bool false else if d = 110 then .bool false else if d = 111 then .bool false else if d = 112 then .slice (some ⟨g, off, none⟩) 512 cap else if d = 113 then .int .i64 ((i : Nat) : Int) else if d = 114 then .pointer (some ⟨g, o1, none⟩) else if d = 115 then .int .u8 ((v : Nat) : Int) else if d = 116 then .int .i64 ((v : Nat) : Int) else if d = 117 then .int .i64 ((m : Nat) : Int) else if d = 118 then .bool false else undef) _ rfl

theorem alloc_cells (w : World) (C : Array Value) (t : TypeId) (i : Nat) : (w.alloc (.cells C t)).cell? ⟨w.heap.size, i, none⟩ = C[i]? := Addr.cell0 (heap_alloc_new w _)

set_option maxHeartbeats 8000000 in
set_option maxRecDepth 100000 in
theorem keeps_far (w : World) (x y : Nat) (arm : Int) (a : Option Addr) (len cap : Nat) (hl : 100 < len) :
    Calls Try.prog 5 #[.agg #[.int .u8 ((x : Nat) : Int), .int .u8 ((y : Nat) : Int)], .int .i64 arm, .slice a len cap] w fun e w' => e = .returned (.bool true) ∧ Below w.heap.size w w' := by
  have HN : Hid (∀ w', Calls Try.prog 8 #[.int .i64 1] w' fun e w2 => Below w'.heap.size w' w2 ∧ ∃ p L, e = .returned (.tuple #[at0 p, .int .i64 0]) ∧ DevM w2 p (Ds.new 1) L ∧ (∀ k, L.F p k → w'.heap.size ≤ k)) := fun w' => new_any w' 1 (by omega) (by omega)
  have HAW : Hid (∀ w', Calls Try.prog 9 #[] w' fun e w2 => e = .returned (.bool true) ∧ Below w'.heap.size w' w2) := awake_any
  have i0 : (100 : Int) < ((len : Nat) : Int) := by omega
  have HB0 := hide (below_alloc w (.cells #[.int .u8 ((x : Nat) : Int), .int .u8 ((y : Nat) : Int)] 59))
  have HC0 := hide (alloc_cells w #[.int .u8 ((x : Nat) : Int), .int .u8 ((y : Nat) : Int)] 59)
  unfold at0 at *
  go_enter Try.func5, Try.ntmps5
  go_wp2_with fail
  refine Pl.region_is (ops := Pl.find 1 ((Try.f5.body).getD .skip)) (by kernel_rfl) ?_
  refine keeps1 _ w.heap.size x y (HC0.out 0) (HC0.out 1) (by rfl) rfl (by rfl) ?_
  rintro u w1 hw1
  have HB1 : Hid (Below w.heap.size w w1) := by rw [hw1]; exact HB0.out.drew
  clear hw1
  simp only [Act.put, List.setIfInBounds_toArray, List.set_cons_zero, List.set_cons_succ]
  go_wp2_with fail
  refine (HN.out w1).mono ?_
  rintro e w2 ⟨hb2, p, L1, rfl, hd1, hf1⟩
  have HB2 := hide (HB1.out.trans (hb2.mono HB1.out.size))
  clear hb2 hd1 hf1
  have hnil : ∀ w : World, (binOp .eql 23 (.pointer (some ⟨p, 0, none⟩)) (.pointer none)).run Try.prog w = .ok (.bool false) w := fun _ => rfl
  have hnil2 : ∀ w : World, (binOp .neq 23 (.pointer (some ⟨p, 0, none⟩)) (.pointer none)).run Try.prog w = .ok (.bool true) w := fun _ => rfl
  go_wp2_with fail
  refine (HAW.out w2).mono ?_
  rintro e w3 ⟨rfl, hb3⟩
  have HB3 := hide (HB2.out.trans (hb3.mono HB2.out.size))
  clear hb3
  go_wp2_with fail
  go_ret
  exact ⟨rfl, HB3.out⟩

set_option maxHeartbeats 8000000 in
set_option maxRecDepth 100000 in
theorem keeps_near (w : World) (x y : Nat) (hx : x < 256) (hy : y < 256) (arm : Int) (harm : (Lit.int .i64 arm).wf = true) (a : Option Addr) (len cap : Nat) (bs : List Bool) (hpat : Pat w a len bs) (hl : len ≤ 100) :
    Calls Try.prog 5 #[.agg #[.int .u8 ((x : Nat) : Int), .int .u8 ((y : Nat) : Int)], .int .i64 arm, .slice a len cap] w fun e w' => e = .returned (.bool true) ∧ Below w.heap.size w w' := by
  have harm2 := (bounds_i64 harm).2
  have HN : Hid (∀ w', Calls Try.prog 8 #[.int .i64 1] w' fun e w2 => Below w'.heap.size w' w2 ∧ ∃ p L, e = .returned (.tuple #[at0 p, .int .i64 0]) ∧ DevM w2 p (Ds.new 1) L ∧ (∀ k, L.F p k → w'.heap.size ≤ k)) := fun w' => new_any w' 1 (by omega) (by omega)
  have HAW : Hid (∀ w', Calls Try.prog 9 #[] w' fun e w2 => e = .returned (.bool true) ∧ Below w'.heap.size w' w2) := awake_any
  obtain ⟨m, hm⟩ : ∃ m, m = 1 + x % 12 := ⟨_, rfl⟩
  have hm1 : 1 ≤ m ∧ m ≤ 12 := by omega
  obtain ⟨k, hk⟩ : ∃ k, k = y % (m + 1) := ⟨_, rfl⟩
  have hkm : k ≤ m := by have := Nat.mod_lt y (show m + 1 > 0 by omega); omega
  have HFU : Hid (∀ (w' : World) (i : Nat), 1 ≤ i → i ≤ m → Calls Try.prog 28 #[.int .u8 ((i : Nat) : Int)] w' fun e w2 => Below w'.heap.size w' w2 ∧ e = .returned (.slice (some ⟨w'.heap.size, 0, none⟩) 512 512) ∧ Came w2 (some ⟨w'.heap.size, 0, none⟩) 512 512 (List.replicate 512 i)) := fun w' i h1 h2 => full_any w' i (by omega)
  have HWR : Hid (∀ w' p L D j c, KInv k j D → j < m → DevM w' p D L → Came w' (some ⟨c, 0, none⟩) 512 512 (List.replicate 512 (j + 1)) → Off (L.F p) (some ⟨c, 0, none⟩) 512 → Calls Try.prog 13 #[at0 p, .int .i64 0, .slice (some ⟨c, 0, none⟩) 512 512] w' fun e w2 => e = .returned (.int .i64 0) ∧ ∃ L', Turned w' p L w2 (D.write 0 (List.replicate 512 (j + 1))) L') :=
    fun w' p L D j c hI hj hd hc ho => write_ok w' p D L hd 1 hI.sp (by omega) (fun x hx => ((hI.wr x hx).ok (by omega)).len) (by have := hI.wl; omega) hI.arm 0 (by omega) _ _ _ hc ho
  have HSY : Hid (∀ w' p L D j, KInv (j + 1) j D → j < m → DevM w' p (D.write 0 (List.replicate 512 (j + 1))) L → Calls Try.prog 20 #[at0 p] w' fun e w2 => e = .returned (.tuple #[]) ∧ ∃ L', Turned w' p L w2 (D.write 0 (List.replicate 512 (j + 1))).sync L') :=
    fun w' p L D j hI hj hd => by
      obtain ⟨s1, s2, s3, s4⟩ := hI.midSane (by omega)
      exact sync_any w' p _ L hd 1 s1 (fun _ => by
        rw [show (D.write 0 (List.replicate 512 (j + 1))).tr.length = 0 by rw [s3]; rfl]
        exact Ds.fit0 _ s3 _ (by unfold Ds.units; rw [s3]; exact Nat.le_refl _))
  have HAR : Hid (∀ w' p L D j, KInv (j + 1) j D → j < m → DevM w' p (D.write 0 (List.replicate 512 (j + 1))).sync L → Calls Try.prog 22 #[at0 p, .int .i64 arm] w' fun e w2 => e = .returned (.tuple #[]) ∧ DevM w2 p ((D.write 0 (List.replicate 512 (j + 1))).sync.arm arm) L ∧ Frm (fun k => k = p) w' w2 ∧ w2.heap.size = w'.heap.size) :=
    fun w' p L D j hI hj hd => arm_any w' p _ L hd 1 (by
      have h1 := (hI.syncArm (by omega) 0 (by omega)).sp
      have e : ∀ (E : Ds) (z : Int), (E.arm z).sp = E.sp := fun E z => by unfold Ds.arm; split <;> rfl
      rw [e] at h1
      exact h1) (by omega) (by omega) arm
  have HSA : Hid (∀ D j, KInv (j + 1) j D → j < m → KInv (j + 1) (j + 1) ((D.write 0 (List.replicate 512 (j + 1))).sync.arm arm)) := fun D j hI hj => hI.syncArm (by omega) arm harm2
  have HCR : Hid (∀ w' p L D, KInv k m D → DevM w' p D L → Pat w' a len bs → Off (L.F p) a len → Calls Try.prog 24 #[at0 p, .slice a len cap, .int .i64 0] w' fun e w2 => e = .returned (.tuple #[]) ∧ ∃ L', Turned w' p L w2 (D.crash bs 0 0) L') := fun w' p L D hI hd hp ho =>
    crash_any w' p D L hd 1 (hI.sane (by omega)) a len cap bs hp ho (by omega) 0 0 0 (by unfold Ds.count; rw [if_neg (by omega), if_pos (by omega)]; rfl) (D.fit0 hI.tr 0 (Nat.zero_le _))
  have HRD : Hid (∀ w' p L D, KInv k m D → DevM w' p (D.crash bs 0 0) L → Calls Try.prog 29 #[at0 p, .int .i64 0] w' fun e w2 => Below w'.heap.size w' w2 ∧ ∃ g off cp rd, e = .returned (.tuple #[.slice (some ⟨g, off, none⟩) 512 cp, .int .i64 0]) ∧ Pg k m rd ∧ (∀ j, j < 512 → w2.cell? ⟨g, off + j, none⟩ = some (.int .u8 ((rd.getD j 0 : Nat) : Int)))) := by
    intro w' p L D hI hd
    have hpg := hI.read hkm bs
    refine (read_any w' p _ L hd 1 hpg.len (by omega) 0 (by omega)).mono ?_
    rintro e w2 ⟨hb, s, rfl, ho, hl2, _⟩
    rw [show ((D.crash bs 0 0).sp.drop (512 * 0)).take 512 = (D.crash bs 0 0).sp by rw [show 512 * 0 = 0 from rfl, List.drop_zero, List.take_of_length_le (by rw [hpg.len]; exact Nat.le_refl _)]] at ho
    rcases ho.2 with ⟨h0, _⟩ | ⟨g, off, cur, ha, _⟩
    · rw [h0] at hl2; cases hl2
    · obtain ⟨sa, sl, sc⟩ := s
      simp only at ha hl2
      subst ha; subst hl2
      refine ⟨hb, g, off, sc, _, rfl, hpg, fun j hj => ?_⟩
      have := ho.cell rfl j _ (vals_get (by rw [hpg.len]; exact hj))
      rwa [Addr.add_lit] at this
  have HPAT := hide hpat
  have HAB : Hid (∀ ad, a = some ad → 0 < len → ad.block < w.heap.size) := by
    intro ad e hl0
    obtain ⟨b, off, e', hc⟩ := hpat.at_ 0 hl0
    rw [e] at e'
    obtain rfl := Option.some.inj e'
    exact World.block_lt_of_cell? w _ hc
  have i0 : ¬ (100 : Int) < ((len : Nat) : Int) := by omega
  have i0' : ¬ 100 < len := by omega
  have HB0 := hide (below_alloc w (.cells #[.int .u8 ((x : Nat) : Int), .int .u8 ((y : Nat) : Int)] 59))
  have HC0 := hide (alloc_cells w #[.int .u8 ((x : Nat) : Int), .int .u8 ((y : Nat) : Int)] 59)
  have HM := hide hm
  have HK := hide hk
  clear hpat hm hk harm
  unfold at0 at *
  go_enter Try.func5, Try.ntmps5
  go_wp2_with fail
  refine Pl.region_is (ops := Pl.find 1 ((Try.f5.body).getD .skip)) (by kernel_rfl) ?_
  refine keeps1 _ w.heap.size x y (HC0.out 0) (HC0.out 1) (by rfl) rfl (by rfl) ?_
  rintro u w1 hw1
  have HB1 : Hid (Below w.heap.size w w1) := by rw [hw1]; exact HB0.out.drew
  clear hw1
  simp only [Act.put, List.setIfInBounds_toArray, List.set_cons_zero, List.set_cons_succ]
  go_wp2_with fail
  refine (HN.out w1).mono ?_
  rintro e w2 ⟨hb2, p, L1, rfl, hd1, hf1⟩
  have M2 : Hid (Mine w.heap.size w w2 p (Ds.new 1) L1) := ⟨hd1, fun k hk => Nat.le_trans HB1.out.size (hf1 k hk), HB1.out.trans (hb2.mono HB1.out.size), Nat.le_trans HB1.out.size hb2.size⟩
  clear hb2 hd1 hf1
  have hnil : ∀ w : World, (binOp .eql 23 (.pointer (some ⟨p, 0, none⟩)) (.pointer none)).run Try.prog w = .ok (.bool false) w := fun _ => rfl
  go_wp2_with fail
  have e1 : 1 + ((x : Nat) : Int) % 12 = ((m : Nat) : Int) := by rw [HM.out]; omega
  have e2 : ((y : Nat) : Int) % (((m : Nat) : Int) + 1) = ((k : Nat) : Int) := by rw [HK.out]; simp
  rw [e1, e2]
  clear e1 e2
  go_loopw [13] (fun i wr => ∃ (j : Nat) (D : Ds) (L : Dl), j ≤ m ∧ i = .int .i64 ((j : Int) + 1) ∧ Hid (Mine w.heap.size w wr p D L) ∧ Hid (KInv k j D)) (fun i _ => m + 1 - (intOf i).toNat)
  case atStart => exact ⟨0, _, L1, by omega, rfl, M2, hide (KInv.new k)⟩
  case round =>
    obtain ⟨j, D, L, hj, rfl, hM, hI⟩ := hrel
    rcases Nat.lt_or_ge j m with hlt | hge
    · have i1 : ((j : Nat) : Int) + 1 ≤ ((m : Nat) : Int) := by omega
      have hcv : IntKind.u8.wrap (((j : Nat) : Int) + 1) = ((j : Nat) : Int) + 1 := by
        rw [IntKind.wrap_u8]
        omega
      have hFU := HFU.out wr (j + 1) (by omega) (by omega)
      rw [show (((j + 1 : Nat)) : Int) = ((j : Nat) : Int) + 1 by omega] at hFU
      have HF2 := hide hFU
      clear hFU
      by_cases hkj : k = j + 1
      · have hI1 : Hid (KInv (j + 1) j D) := by rw [← hkj]; exact hI
        have HKJ := hide hkj
        have i2 : ((((j : Nat) : Int) + 1) == ((k : Nat) : Int)) = true := by rw [beq_iff_eq]; omega
        clear hkj
        go_wp2_with fail
        refine HF2.out.mono ?_
        rintro e w3 ⟨hb3, rfl, hc3⟩
        have M3 := hide (hM.out.keep hb3)
        have HC3 := hide hc3
        have HO3 := hide (hM.out.dev.offNew (o := 0) (len := 512) (Nat.le_refl wr.heap.size))
        clear hb3 hc3
        go_wp2_with fail
        refine (HWR.out w3 p L D j wr.heap.size hI.out hlt M3.out.dev HC3.out HO3.out).mono ?_
        rintro e w4 ⟨rfl, L4, hT4⟩
        have M4 := hide (M3.out.turn hT4)
        clear hT4
        go_wp2_with fail
        refine (HSY.out w4 p L4 D j hI1.out hlt M4.out.dev).mono ?_
        rintro e w5 ⟨rfl, L5, hT5⟩
        have M5 := hide (M4.out.turn hT5)
        clear hT5
        go_wp2_with fail
        refine (HAR.out w5 p L5 D j hI1.out hlt M5.out.dev).mono ?_
        rintro e w6 ⟨rfl, hd6, hf6, _⟩
        have M6 := hide (M5.out.turn (Turned.cell hd6 hf6))
        clear hd6 hf6
        go_wp2_with fail
        go_roundw
        case rel => exact ⟨j + 1, _, L5, by omega, by go_num, M6, by rw [HKJ.out]; exact hide (HSA.out D j hI1.out hlt)⟩
        case measure => simp only [intOf]; omega
      · have i2 : ¬ ((j : Nat) : Int) + 1 = ((k : Nat) : Int) := by omega
        go_wp2_with fail
        refine HF2.out.mono ?_
        rintro e w3 ⟨hb3, rfl, hc3⟩
        have M3 := hide (hM.out.keep hb3)
        have HC3 := hide hc3
        have HO3 := hide (hM.out.dev.offNew (o := 0) (len := 512) (Nat.le_refl wr.heap.size))
        clear hb3 hc3
        go_wp2_with fail
        refine (HWR.out w3 p L D j wr.heap.size hI.out hlt M3.out.dev HC3.out HO3.out).mono ?_
        rintro e w4 ⟨rfl, L4, hT4⟩
        have M4 := hide (M3.out.turn hT4)
        clear hT4
        go_wp2_with fail
        go_roundw
        case rel => exact ⟨j + 1, _, L4, by omega, by go_num, M4, hide (hI.out.write hkj)⟩
        case measure => simp only [intOf]; omega
    · obtain rfl : j = m := by omega
      have i1 : ¬ ((j : Nat) : Int) + 1 ≤ ((j : Nat) : Int) := by omega
      have HP2 := hide (HPAT.out.frm (F := fun _ => False) ⟨hM.out.below.os, hM.out.below.tape, hM.out.below.output, hM.out.below.size, fun q hq _ => hM.out.below.block q hq⟩ (fun _ _ _ e => e))
      have HO2 := hide (hM.out.off HAB.out)
      go_wp2_with fail
      refine (HCR.out wr p L D hI.out hM.out.dev HP2.out HO2.out).mono ?_
      rintro e w3 ⟨rfl, L3, hT3⟩
      have M3 := hide (hM.out.turn hT3)
      clear hT3
      go_wp2_with fail
      refine (HRD.out w3 p L3 D hI.out M3.out.dev).mono ?_
      rintro e w4 ⟨hb4, g, off, cp, rd, rfl, hpg, hcell⟩
      have HB4 := hide (M3.out.keep hb4).below
      have HPG := hide hpg
      have HCE := hide hcell
      clear hb4 hpg hcell
      go_wp2_with fail
      go_loopw [16] (fun i w5 => ∃ q : Nat, q ≤ 512 ∧ i = .int .i64 q ∧ Hid (Below w.heap.size w w5) ∧ Hid (Below w4.heap.size w4 w5)) (fun i _ => 512 - (intOf i).toNat)
      case atStart => exact ⟨0, by omega, rfl, HB4, hide (Below.refl _ _)⟩
      case round =>
        obtain ⟨q, hq, rfl, hB5, hB45⟩ := hrel
        rcases Nat.lt_or_ge q 512 with hql | hqg
        · obtain ⟨z1, z2, z3⟩ := HPG.out.at_ q hql
          have hz : rd.getD q 0 < 256 := by omega
          have k1 := (hB45.out.cell (World.block_lt_of_cell? w4 _ (HCE.out q hql))).trans (HCE.out q hql)
          have k2 := (hB45.out.cell (World.block_lt_of_cell? w4 _ (HCE.out (q / 128 * 128) (by omega)))).trans (HCE.out (q / 128 * 128) (by omega))
          rw [← z1] at k2
          have HZ : Hid (∀ {Q : Exit → Act → World → Prop} {A : Act}, _) := fun {Q A} => (keeps21 wr g off cp (off + q) (off + q / 128 * 128) q (q / 128 * 128) (rd.getD q 0) k j (index_byte g off 512 cp q hql) (index_byte g off 512 cp (q / 128 * 128) (by omega)) k1 k2 (by rw [IntKind.wrap_i64]; omega) (by rw [IntKind.wrap_i64]; omega) hz z2 z3 (Q := Q) (A := A))
          clear z1 z2 z3 hz k1 k2
          have r1 : ((q : Nat) : Int) < 512 := by omega
          go_wp2_with fail
          refine Pl.region_is (ops := Pl.find 21 ((Try.f5.body).getD .skip)) (by kernel_rfl) ?_
          refine HZ.out (by rfl) rfl (by rfl) (by rfl) (by rfl) (by rfl) ?_
          intro uu w6 hw6
          have HB6 : Hid (Below w.heap.size w w6) := by rw [hw6]; exact hB5.out.drew
          have HB46 : Hid (Below w4.heap.size w4 w6) := by rw [hw6]; exact hB45.out.drew
          clear hw6
          simp only [Act.put, List.setIfInBounds_toArray, List.set_cons_zero, List.set_cons_succ]
          go_wp2_with fail
          go_roundw
          case rel => exact ⟨q + 1, by omega, by go_num, HB6, HB46⟩
          case measure => simp only [intOf]; omega
        · obtain rfl : q = 512 := by omega
          go_wp2_with fail
          refine (HAW.out _).mono ?_
          rintro e w7 ⟨rfl, hb7⟩
          have HB7 := hide (hB5.out.trans (hb7.mono hB5.out.size))
          clear hb7
          go_wp2_with fail
          go_ret
          exact ⟨rfl, HB7.out⟩

end Go.Proofs.Ytokdeilcfkobfaa
