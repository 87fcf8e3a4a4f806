/-
  A page is written, on both sides: two drawn regions.
-/
import Derived.Test.YtokdeilcfkobfaaActI
namespace Go.Proofs.Ytokdeilcfkobfaa
open Go.RowKit
variable {K : Home}

namespace Pl
section
variable {P : Program} {ops : Array Oper} {S : World → Prop} {n : Nat} {f : Nat → Value}

theorem extr (i : Nat) (x : Operand) (k : Nat) (v : Value) (h : (op ops i).op = .extract x k) (hx : inB n x = true) (hv : ∀ w, (Instr.extract (ev f x) k).run P w = .ok v w) :
    ∀ A, At n A f → ∀ w, S w → (execOp A.eval (op ops i)).run P w = .ok (.value v) w := by
  intro A hA w _
  have e : execOp A.eval (op ops i) = (do pure (.value (← Instr.extract (A.eval x) k))) := by
    unfold execOp
    rw [h]
  rw [e, hA.ev x hx]
  simp [hv w]

end
end Pl

theorem entPage : ∀ args w, (callFunc 14 args).run Try.prog w = .ok (.enter 14 args) w := Pl.enters Try.func14 (by kernel_rfl) (by kernel_rfl)
theorem entWriteL : ∀ args w, (callFunc 13 args).run Try.prog w = .ok (.enter 13 args) w := Pl.enters Try.func13 (by kernel_rfl) (by kernel_rfl)
theorem entWriteR : ∀ args w, (callFunc 15 args).run Try.prog w = .ok (.enter 15 args) w := Pl.enters Try.func15 (by kernel_rfl) (by kernel_rfl)
theorem fdAo1_0 (p : Nat) (w : World) : (Instr.fieldAt 39 (.pointer (some ⟨p, 0, none⟩)) 1).run Try.prog w = .ok (.pointer (some ⟨p, 1, none⟩)) w := by simp [go_sem, Instr.fieldAt]
theorem fdAo2_0 (p : Nat) (w : World) : (Instr.fieldAt 39 (.pointer (some ⟨p, 0, none⟩)) 2).run Try.prog w = .ok (.pointer (some ⟨p, 2, none⟩)) w := by simp [go_sem, Instr.fieldAt]
theorem extr2 (a b : Value) : (∀ w, (Instr.extract (.tuple #[a, b]) 0).run Try.prog w = .ok a w) ∧ (∀ w, (Instr.extract (.tuple #[a, b]) 1).run Try.prog w = .ok b w) := by
  refine ⟨fun w => ?_, fun w => ?_⟩ <;> simp [go_sem, Instr.extract]
/-- An act's page and bytes, in a box. -/
def BoxA (q : Nat) (pg : Int) (ba : Option Addr) (bl bc : Nat) (w : World) : Prop := w.cell? ⟨q, 1, none⟩ = some (.int .i64 pg) ∧ w.cell? ⟨q, 2, none⟩ = some (.slice ba bl bc)

set_option maxHeartbeats 2000000 in
set_option maxRecDepth 100000 in
theorem acts18 (w : World) (p q : Nat) (pg r0 : Int) (ba : Option Addr) (bl bc : Nat) (pa : Option Addr) (P2 P3 : World → Prop) (h0 : BoxA q pg ba bl bc w) (hp : Calls Try.prog 14 #[.slice ba bl bc] w.drew fun e w2 => e = .returned (.slice pa 512 512) ∧ P2 w2) (hPS : ∀ w2, P2 w2 → BoxA q pg ba bl bc w2) (hw : ∀ w2, P2 w2 → Calls Try.prog 13 #[.pointer (some ⟨p, 0, none⟩), .int .i64 pg, .slice pa 512 512] w2 fun e w3 => e = .returned (.int .i64 r0) ∧ P3 w3) (hQS : ∀ w3, P3 w3 → BoxA q pg ba bl bc w3)
    {Q : Exit → Act → World → Prop} {A : Act} (hsz : A.tmps.size = 171) (hdf : A.defers = []) (s5 : A.tmps.getD 5 undef = .pointer (some ⟨p, 0, none⟩)) (s11 : A.tmps.getD 11 undef = .pointer (some ⟨q, 0, none⟩))
    (hend : ∀ (u : Nat → Value) w', P3 w' → Q .normal (((((((((A).put (some 84) (u 84)).put (some 85) (u 85)).put (some 86) (u 86)).put (some 87) (u 87)).put (some 88) (u 88)).put (some 89) (u 89)).put (some 90) (u 90)).put (some 9) (.int .i64 r0)) w') :
    (Code.region 18 (Pl.find 18 ((Try.f3.body).getD .skip)) true).wp Try.prog Q A w := by
  have hA := Pl.At.same (v := .pointer (some ⟨q, 0, none⟩)) (d := 11) (Pl.At.same (v := .pointer (some ⟨p, 0, none⟩)) (d := 5) (Pl.At.here hsz hdf) s5) s11
  refine Pl.H.start (S := BoxA q pg ba bl bc) (by kernel_rfl) hA (show BoxA q pg ba bl bc w.drew from h0) ?_
  rw [show (Pl.find 18 ((Try.f3.body).getD .skip)).size = 8 by kernel_rfl]
  refine Pl.H.take 0 84 (.pointer (some ⟨p, 0, none⟩)) (by kernel_rfl) (by kernel_rfl) (by kernel_rfl) (Pl.free 0 (by kernel_rfl)) (Pl.move 0 (.tmp 5) (by kernel_rfl) (by decide)) (show BoxA q pg ba bl bc w.drew from h0) ?_
  refine Pl.H.take 1 85 (.pointer (some ⟨q, 1, none⟩)) (by kernel_rfl) (by kernel_rfl) (by kernel_rfl) (Pl.free 1 (by kernel_rfl)) (Pl.field 1 39 (.tmp 11) 1 _ (by kernel_rfl) (by decide) (fdAo1_0 q)) (show BoxA q pg ba bl bc w.drew from h0) ?_
  refine Pl.H.take 2 86 (.int .i64 pg) (by kernel_rfl) (by kernel_rfl) (by kernel_rfl) (Pl.free 2 (by kernel_rfl)) (Pl.load 2 3 (.tmp 85) _ (by kernel_rfl) (by decide) (fun w' hS => ldInt q 1 _ w' hS.1)) (show BoxA q pg ba bl bc w.drew from h0) ?_
  refine Pl.H.take 3 87 (.pointer (some ⟨q, 2, none⟩)) (by kernel_rfl) (by kernel_rfl) (by kernel_rfl) (Pl.free 3 (by kernel_rfl)) (Pl.field 3 39 (.tmp 11) 2 _ (by kernel_rfl) (by decide) (fdAo2_0 q)) (show BoxA q pg ba bl bc w.drew from h0) ?_
  refine Pl.H.take 4 88 (.slice ba bl bc) (by kernel_rfl) (by kernel_rfl) (by kernel_rfl) (Pl.free 4 (by kernel_rfl)) (Pl.load 4 30 (.tmp 87) _ (by kernel_rfl) (by decide) (fun w' hS => ldBs q 2 _ _ _ w' hS.2)) (show BoxA q pg ba bl bc w.drew from h0) ?_
  refine Pl.H.call 5 89 14 [(.tmp 88)] #[30] (by kernel_rfl) (by kernel_rfl) (by kernel_rfl) (Pl.free 5 (by kernel_rfl)) (by kernel_rfl) (by decide) entPage (Calls.mono (hp) ?_)
  rintro e w2 ⟨rfl, hp2⟩
  refine ⟨.slice pa 512 512, rfl, (hPS w2 hp2), ?_⟩
  refine Pl.H.call 6 90 13 [(.tmp 84), (.tmp 86), (.tmp 89)] #[23, 3, 30] (by kernel_rfl) (by kernel_rfl) (by kernel_rfl) (Pl.free 6 (by kernel_rfl)) (by kernel_rfl) (by decide) entWriteL (Calls.mono (hw w2 hp2) ?_)
  rintro e w3 ⟨rfl, hq3⟩
  refine ⟨.int .i64 r0, rfl, (hQS w3 hq3), ?_⟩
  refine Pl.H.take 7 9 (.int .i64 r0) (by kernel_rfl) (by kernel_rfl) (by kernel_rfl) (Pl.free 7 (by kernel_rfl)) (Pl.assign 7 (.tmp 90) (by kernel_rfl) (by decide)) (hQS w3 hq3) ?_
  refine Pl.H.done (by kernel_rfl) (fun A' hA' => ?_)
  rw [Pl.At.ext hA' ((((((((hA.put 84 _).put 85 _).put 86 _).put 87 _).put 88 _).put 89 _).put 90 _).put 9 _)]
  exact hend (fun d => if d = 84 then .pointer (some ⟨p, 0, none⟩) else if d = 85 then .pointer (some ⟨q, 1, none⟩) else if d = 86 then .int .i64 pg else if d = 87 then .pointer (some ⟨q, 2, none⟩) else if d = 88 then .slice ba bl bc else if d = 89 then .slice pa 512 512 else if d = 90 then .int .i64 r0 else undef) _ hq3

set_option maxHeartbeats 2000000 in
set_option maxRecDepth 100000 in
theorem acts19 (w : World) (g q : Nat) (pg r0 : Int) (ba : Option Addr) (bl bc : Nat) (pa : Option Addr) (e0 : Dv) (L0 : DvL) (P2 : World → Prop) (P3 : World → Dv → DvL → Prop) (h0 : BoxA q pg ba bl bc w) (hd0 : DvBlk w.drew g L0.kp.val e0.kept.base L0.ks.val L0.np.val e0.now.base L0.ns.val L0.ds.val e0.gone e0.armed) (hp : Calls Try.prog 14 #[.slice ba bl bc] w.drew fun e w2 => e = .returned (.slice pa 512 512) ∧ P2 w2) (hPS : ∀ w2, P2 w2 → BoxA q pg ba bl bc w2) (hPB : ∀ w2, P2 w2 → DvBlk w2 g L0.kp.val e0.kept.base L0.ks.val L0.np.val e0.now.base L0.ns.val L0.ds.val e0.gone e0.armed) (hw : ∀ w2, P2 w2 → Calls Try.prog 15 #[e0.val L0, .int .i64 pg, .slice pa 512 512] w2 fun e w3 => ∃ d2 L2, e = .returned (.tuple #[d2.val L2, .int .i64 r0]) ∧ P3 w3 d2 L2) (hQS : ∀ w3 d2 L2, P3 w3 d2 L2 → BoxA q pg ba bl bc w3 ∧ BoxA q pg ba bl bc (setDv w3 g L2.kp.val d2.kept.base L2.ks.val L2.np.val d2.now.base L2.ns.val L2.ds.val d2.gone d2.armed) ∧ DvBlk w3 g L0.kp.val e0.kept.base L0.ks.val L0.np.val e0.now.base L0.ns.val L0.ds.val e0.gone e0.armed)
    {Q : Exit → Act → World → Prop} {A : Act} (hsz : A.tmps.size = 171) (hdf : A.defers = []) (s7 : A.tmps.getD 7 undef = .pointer (some ⟨g, 0, none⟩)) (s11 : A.tmps.getD 11 undef = .pointer (some ⟨q, 0, none⟩))
    (hend : ∀ (u : Nat → Value) w' w3 d2 L2, w' = setDv w3 g L2.kp.val d2.kept.base L2.ks.val L2.np.val d2.now.base L2.ns.val L2.ds.val d2.gone d2.armed → P3 w3 d2 L2 → Q .normal ((((((((((((A).put (some 93) (u 93)).put (some 94) (u 94)).put (some 95) (u 95)).put (some 96) (u 96)).put (some 92) (u 92)).put (some 97) (u 97)).put (some 98) (u 98)).put (some 91) (u 91)).put (some 99) (u 99)).put (some 100) (u 100)).put (some 10) (.int .i64 r0)) w') :
    (Code.region 19 (Pl.find 19 ((Try.f3.body).getD .skip)) true).wp Try.prog Q A w := by
  have hA := Pl.At.same (v := .pointer (some ⟨q, 0, none⟩)) (d := 11) (Pl.At.same (v := .pointer (some ⟨g, 0, none⟩)) (d := 7) (Pl.At.here hsz hdf) s7) s11
  refine Pl.H.start (S := BoxA q pg ba bl bc) (by kernel_rfl) hA (show BoxA q pg ba bl bc w.drew from h0) ?_
  rw [show (Pl.find 19 ((Try.f3.body).getD .skip)).size = 12 by kernel_rfl]
  refine Pl.H.take 1 93 (.pointer (some ⟨q, 1, none⟩)) (by kernel_rfl) (by kernel_rfl) (by kernel_rfl) (Pl.free 1 (by kernel_rfl)) (Pl.field 1 39 (.tmp 11) 1 _ (by kernel_rfl) (by decide) (fdAo1_0 q)) (show BoxA q pg ba bl bc w.drew from h0) ?_
  refine Pl.H.take 2 94 (.int .i64 pg) (by kernel_rfl) (by kernel_rfl) (by kernel_rfl) (Pl.free 2 (by kernel_rfl)) (Pl.load 2 3 (.tmp 93) _ (by kernel_rfl) (by decide) (fun w' hS => ldInt q 1 _ w' hS.1)) (show BoxA q pg ba bl bc w.drew from h0) ?_
  refine Pl.H.take 3 95 (.pointer (some ⟨q, 2, none⟩)) (by kernel_rfl) (by kernel_rfl) (by kernel_rfl) (Pl.free 3 (by kernel_rfl)) (Pl.field 3 39 (.tmp 11) 2 _ (by kernel_rfl) (by decide) (fdAo2_0 q)) (show BoxA q pg ba bl bc w.drew from h0) ?_
  refine Pl.H.take 4 96 (.slice ba bl bc) (by kernel_rfl) (by kernel_rfl) (by kernel_rfl) (Pl.free 4 (by kernel_rfl)) (Pl.load 4 30 (.tmp 95) _ (by kernel_rfl) (by decide) (fun w' hS => ldBs q 2 _ _ _ w' hS.2)) (show BoxA q pg ba bl bc w.drew from h0) ?_
  refine Pl.H.two 0 5 (by kernel_rfl) ?_ ?_
  · refine Pl.HOp.value 0 92 (e0.val L0) w.drew (by kernel_rfl) (by kernel_rfl) (by kernel_rfl) (Pl.load1 0 35 (.tmp 7) _ (by kernel_rfl) (by decide) (load_dv g e0 L0 w.drew hd0)) (show BoxA q pg ba bl bc w.drew from h0) ?_
    refine Pl.H.call 5 97 14 [(.tmp 96)] #[30] (by kernel_rfl) (by kernel_rfl) (by kernel_rfl) (Pl.free 5 (by kernel_rfl)) (by kernel_rfl) (by decide) entPage (Calls.mono (hp) ?_)
    rintro e w2 ⟨rfl, hp2⟩
    refine ⟨.slice pa 512 512, rfl, (hPS w2 hp2), ?_⟩
    refine Pl.H.call 6 98 15 [(.tmp 92), (.tmp 94), (.tmp 97)] #[35, 3, 30] (by kernel_rfl) (by kernel_rfl) (by kernel_rfl) (Pl.free 6 (by kernel_rfl)) (by kernel_rfl) (by decide) entWriteR (Calls.mono (hw w2 hp2) ?_)
    rintro e w3 ⟨d2, L2, rfl, hq3⟩
    refine ⟨.tuple #[d2.val L2, .int .i64 r0], rfl, (hQS w3 d2 L2 hq3).1, ?_⟩
    refine Pl.H.take 7 91 (.tuple #[d2.val L2, .int .i64 r0]) (by kernel_rfl) (by kernel_rfl) (by kernel_rfl) (Pl.free 7 (by kernel_rfl)) (Pl.move 7 (.tmp 98) (by kernel_rfl) (by decide)) (hQS w3 d2 L2 hq3).1 ?_
    refine Pl.H.take 8 99 (d2.val L2) (by kernel_rfl) (by kernel_rfl) (by kernel_rfl) (Pl.free 8 (by kernel_rfl)) (Pl.extr 8 (.tmp 91) 0 _ (by kernel_rfl) (by decide) ((extr2 _ _).1)) (hQS w3 d2 L2 hq3).1 ?_
    refine Pl.H.take 9 100 (.int .i64 r0) (by kernel_rfl) (by kernel_rfl) (by kernel_rfl) (Pl.free 9 (by kernel_rfl)) (Pl.extr 9 (.tmp 91) 1 _ (by kernel_rfl) (by decide) ((extr2 _ _).2)) (hQS w3 d2 L2 hq3).1 ?_
    refine Pl.H.store 10 (setDv w3 g L2.kp.val d2.kept.base L2.ks.val L2.np.val d2.now.base L2.ns.val L2.ds.val d2.gone d2.armed) (by kernel_rfl) (by kernel_rfl) (by kernel_rfl) (Pl.free 10 (by kernel_rfl)) (Pl.storeV 10 35 (.tmp 7) (.tmp 99) _ (by kernel_rfl) (by decide) (by decide) (store_dv g d2 L2 w3 (hQS w3 d2 L2 hq3).2.2)) (hQS w3 d2 L2 hq3).2.1 ?_
    refine Pl.H.take 11 10 (.int .i64 r0) (by kernel_rfl) (by kernel_rfl) (by kernel_rfl) (Pl.free 11 (by kernel_rfl)) (Pl.assign 11 (.tmp 100) (by kernel_rfl) (by decide)) (hQS w3 d2 L2 hq3).2.1 ?_
    refine Pl.H.done (by kernel_rfl) (fun A' hA' => ?_)
    rw [Pl.At.ext hA' (((((((((((hA.put 93 _).put 94 _).put 95 _).put 96 _).put 92 _).put 97 _).put 98 _).put 91 _).put 99 _).put 100 _).put 10 _)]
    exact hend (fun d => if d = 93 then .pointer (some ⟨q, 1, none⟩) else if d = 94 then .int .i64 pg else if d = 95 then .pointer (some ⟨q, 2, none⟩) else if d = 96 then .slice ba bl bc else if d = 92 then e0.val L0 else if d = 97 then .slice pa 512 512 else if d = 98 then .tuple #[d2.val L2, .int .i64 r0] else if d = 91 then .tuple #[d2.val L2, .int .i64 r0] else if d = 99 then d2.val L2 else if d = 100 then .int .i64 r0 else undef) _ _ _ _ rfl hq3
  · refine Pl.HOp.call 5 97 14 [(.tmp 96)] #[30] (by kernel_rfl) (by kernel_rfl) (by kernel_rfl) (by kernel_rfl) (by decide) entPage (Calls.mono (hp) ?_)
    rintro e w2 ⟨rfl, hp2⟩
    refine ⟨.slice pa 512 512, rfl, (hPS w2 hp2), ?_⟩
    refine Pl.H.solo 0 92 (e0.val L0) (by kernel_rfl) (by kernel_rfl) (by kernel_rfl) (Pl.free 0 (by kernel_rfl)) (Pl.load1 0 35 (.tmp 7) _ (by kernel_rfl) (by decide) (load_dv g e0 L0 w2 (hPB w2 hp2))) (hPS w2 hp2) ?_
    rw [Pl.upd_comm _ 97 92 _ _ (by decide)]
    refine Pl.H.call 6 98 15 [(.tmp 92), (.tmp 94), (.tmp 97)] #[35, 3, 30] (by kernel_rfl) (by kernel_rfl) (by kernel_rfl) (Pl.free 6 (by kernel_rfl)) (by kernel_rfl) (by decide) entWriteR (Calls.mono (hw w2 hp2) ?_)
    rintro e w3 ⟨d2, L2, rfl, hq3⟩
    refine ⟨.tuple #[d2.val L2, .int .i64 r0], rfl, (hQS w3 d2 L2 hq3).1, ?_⟩
    refine Pl.H.take 7 91 (.tuple #[d2.val L2, .int .i64 r0]) (by kernel_rfl) (by kernel_rfl) (by kernel_rfl) (Pl.free 7 (by kernel_rfl)) (Pl.move 7 (.tmp 98) (by kernel_rfl) (by decide)) (hQS w3 d2 L2 hq3).1 ?_
    refine Pl.H.take 8 99 (d2.val L2) (by kernel_rfl) (by kernel_rfl) (by kernel_rfl) (Pl.free 8 (by kernel_rfl)) (Pl.extr 8 (.tmp 91) 0 _ (by kernel_rfl) (by decide) ((extr2 _ _).1)) (hQS w3 d2 L2 hq3).1 ?_
    refine Pl.H.take 9 100 (.int .i64 r0) (by kernel_rfl) (by kernel_rfl) (by kernel_rfl) (Pl.free 9 (by kernel_rfl)) (Pl.extr 9 (.tmp 91) 1 _ (by kernel_rfl) (by decide) ((extr2 _ _).2)) (hQS w3 d2 L2 hq3).1 ?_
    refine Pl.H.store 10 (setDv w3 g L2.kp.val d2.kept.base L2.ks.val L2.np.val d2.now.base L2.ns.val L2.ds.val d2.gone d2.armed) (by kernel_rfl) (by kernel_rfl) (by kernel_rfl) (Pl.free 10 (by kernel_rfl)) (Pl.storeV 10 35 (.tmp 7) (.tmp 99) _ (by kernel_rfl) (by decide) (by decide) (store_dv g d2 L2 w3 (hQS w3 d2 L2 hq3).2.2)) (hQS w3 d2 L2 hq3).2.1 ?_
    refine Pl.H.take 11 10 (.int .i64 r0) (by kernel_rfl) (by kernel_rfl) (by kernel_rfl) (Pl.free 11 (by kernel_rfl)) (Pl.assign 11 (.tmp 100) (by kernel_rfl) (by decide)) (hQS w3 d2 L2 hq3).2.1 ?_
    refine Pl.H.done (by kernel_rfl) (fun A' hA' => ?_)
    rw [Pl.At.ext hA' (((((((((((hA.put 93 _).put 94 _).put 95 _).put 96 _).put 92 _).put 97 _).put 98 _).put 91 _).put 99 _).put 100 _).put 10 _)]
    exact hend (fun d => if d = 93 then .pointer (some ⟨q, 1, none⟩) else if d = 94 then .int .i64 pg else if d = 95 then .pointer (some ⟨q, 2, none⟩) else if d = 96 then .slice ba bl bc else if d = 92 then e0.val L0 else if d = 97 then .slice pa 512 512 else if d = 98 then .tuple #[d2.val L2, .int .i64 r0] else if d = 91 then .tuple #[d2.val L2, .int .i64 r0] else if d = 99 then d2.val L2 else if d = 100 then .int .i64 r0 else undef) _ _ _ _ rfl hq3

end Go.Proofs.Ytokdeilcfkobfaa
