/-
  The landed device: fields, loads, and the drawn regions of its readers.
-/
import Derived.Test.YtokdeilcfkobfaaLdA
namespace Go.Proofs.Ytokdeilcfkobfaa
open Go.RowKit

theorem fdDev0_0 (p : Nat) (w : World) : (Instr.fieldAt 69 (.pointer (some ⟨p, 0, none⟩)) 0).run Try.prog w = .ok (.pointer (some ⟨p, 0, none⟩)) w := by simp [go_sem, Instr.fieldAt]
theorem fdDev1_0 (p : Nat) (w : World) : (Instr.fieldAt 69 (.pointer (some ⟨p, 0, none⟩)) 1).run Try.prog w = .ok (.pointer (some ⟨p, 3, none⟩)) w := by simp [go_sem, Instr.fieldAt]
theorem fdDev2_0 (p : Nat) (w : World) : (Instr.fieldAt 69 (.pointer (some ⟨p, 0, none⟩)) 2).run Try.prog w = .ok (.pointer (some ⟨p, 6, none⟩)) w := by simp [go_sem, Instr.fieldAt]
theorem fdDev3_0 (p : Nat) (w : World) : (Instr.fieldAt 69 (.pointer (some ⟨p, 0, none⟩)) 3).run Try.prog w = .ok (.pointer (some ⟨p, 7, none⟩)) w := by simp [go_sem, Instr.fieldAt]
theorem fdDev4_0 (p : Nat) (w : World) : (Instr.fieldAt 69 (.pointer (some ⟨p, 0, none⟩)) 4).run Try.prog w = .ok (.pointer (some ⟨p, 8, none⟩)) w := by simp [go_sem, Instr.fieldAt]
theorem fdDev5_0 (p : Nat) (w : World) : (Instr.fieldAt 69 (.pointer (some ⟨p, 0, none⟩)) 5).run Try.prog w = .ok (.pointer (some ⟨p, 9, none⟩)) w := by simp [go_sem, Instr.fieldAt]
theorem fdDev6_0 (p : Nat) (w : World) : (Instr.fieldAt 69 (.pointer (some ⟨p, 0, none⟩)) 6).run Try.prog w = .ok (.pointer (some ⟨p, 10, none⟩)) w := by simp [go_sem, Instr.fieldAt]
theorem fdDev7_0 (p : Nat) (w : World) : (Instr.fieldAt 69 (.pointer (some ⟨p, 0, none⟩)) 7).run Try.prog w = .ok (.pointer (some ⟨p, 11, none⟩)) w := by simp [go_sem, Instr.fieldAt]
theorem fdDk0_0 (p : Nat) (w : World) : (Instr.fieldAt 65 (.pointer (some ⟨p, 0, none⟩)) 0).run Try.prog w = .ok (.pointer (some ⟨p, 0, none⟩)) w := by simp [go_sem, Instr.fieldAt]
theorem fdDk1_0 (p : Nat) (w : World) : (Instr.fieldAt 65 (.pointer (some ⟨p, 0, none⟩)) 1).run Try.prog w = .ok (.pointer (some ⟨p, 1, none⟩)) w := by simp [go_sem, Instr.fieldAt]
theorem fdDk2_0 (p : Nat) (w : World) : (Instr.fieldAt 65 (.pointer (some ⟨p, 0, none⟩)) 2).run Try.prog w = .ok (.pointer (some ⟨p, 2, none⟩)) w := by simp [go_sem, Instr.fieldAt]
theorem fdDk0_3 (p : Nat) (w : World) : (Instr.fieldAt 65 (.pointer (some ⟨p, 3, none⟩)) 0).run Try.prog w = .ok (.pointer (some ⟨p, 3, none⟩)) w := by simp [go_sem, Instr.fieldAt]
theorem fdDk1_3 (p : Nat) (w : World) : (Instr.fieldAt 65 (.pointer (some ⟨p, 3, none⟩)) 1).run Try.prog w = .ok (.pointer (some ⟨p, 4, none⟩)) w := by simp [go_sem, Instr.fieldAt]
theorem fdDk2_3 (p : Nat) (w : World) : (Instr.fieldAt 65 (.pointer (some ⟨p, 3, none⟩)) 2).run Try.prog w = .ok (.pointer (some ⟨p, 5, none⟩)) w := by simp [go_sem, Instr.fieldAt]
theorem fdSw0_0 (p : Nat) (w : World) : (Instr.fieldAt 78 (.pointer (some ⟨p, 0, none⟩)) 0).run Try.prog w = .ok (.pointer (some ⟨p, 0, none⟩)) w := by simp [go_sem, Instr.fieldAt]
theorem fdSw1_0 (p : Nat) (w : World) : (Instr.fieldAt 78 (.pointer (some ⟨p, 0, none⟩)) 1).run Try.prog w = .ok (.pointer (some ⟨p, 1, none⟩)) w := by simp [go_sem, Instr.fieldAt]
theorem fdTm0_0 (p : Nat) (w : World) : (Instr.fieldAt 83 (.pointer (some ⟨p, 0, none⟩)) 0).run Try.prog w = .ok (.pointer (some ⟨p, 0, none⟩)) w := by simp [go_sem, Instr.fieldAt]
theorem fdTm1_0 (p : Nat) (w : World) : (Instr.fieldAt 83 (.pointer (some ⟨p, 0, none⟩)) 1).run Try.prog w = .ok (.pointer (some ⟨p, 1, none⟩)) w := by simp [go_sem, Instr.fieldAt]
theorem ldInt (b o : Nat) (x : Int) (w : World) (h : w.cell? ⟨b, o, none⟩ = some (.int .i64 x)) : (Instr.loadAt 3 (.pointer (some ⟨b, o, none⟩))).run Try.prog w = .ok (.int .i64 x) w := by simp [go_sem, h]
theorem ldBool (b o : Nat) (x : Bool) (w : World) (h : w.cell? ⟨b, o, none⟩ = some (.bool x)) : (Instr.loadAt 4 (.pointer (some ⟨b, o, none⟩))).run Try.prog w = .ok (.bool x) w := by simp [go_sem, h]
theorem ldBs (b o : Nat) (a : Option Addr) (l c : Nat) (w : World) (h : w.cell? ⟨b, o, none⟩ = some (.slice a l c)) : (Instr.loadAt 30 (.pointer (some ⟨b, o, none⟩))).run Try.prog w = .ok (.slice a l c) w := by simp [go_sem, h]
theorem ldWs (b o : Nat) (a : Option Addr) (l c : Nat) (w : World) (h : w.cell? ⟨b, o, none⟩ = some (.slice a l c)) : (Instr.loadAt 66 (.pointer (some ⟨b, o, none⟩))).run Try.prog w = .ok (.slice a l c) w := by simp [go_sem, h]
theorem ldTs (b o : Nat) (a : Option Addr) (l c : Nat) (w : World) (h : w.cell? ⟨b, o, none⟩ = some (.slice a l c)) : (Instr.loadAt 67 (.pointer (some ⟨b, o, none⟩))).run Try.prog w = .ok (.slice a l c) w := by simp [go_sem, h]
theorem stInt (b o : Nat) (v u : Value) (hv : ∃ x, v = .int .i64 x) (w : World) (h : w.cell? ⟨b, o, none⟩ = some u) (hf : w.frozen? ⟨b, o, none⟩ = false) : (Instr.storeAt 3 (.pointer (some ⟨b, o, none⟩)) v).run Try.prog w = .ok () (w.setCell ⟨b, o, none⟩ v) := by
  obtain ⟨x, rfl⟩ := hv
  simp [go_sem, Instr.storeAt, h, hf]
theorem stBs (b o : Nat) (s : Sl) (u : Value) (w : World) (h : w.cell? ⟨b, o, none⟩ = some u) (hf : w.frozen? ⟨b, o, none⟩ = false) : (Instr.storeAt 30 (.pointer (some ⟨b, o, none⟩)) s.val).run Try.prog w = .ok () (w.setCell ⟨b, o, none⟩ s.val) := by
  unfold Sl.val
  simp [go_sem, Instr.storeAt, h, hf]
theorem stWs (b o : Nat) (s : Sl) (u : Value) (w : World) (h : w.cell? ⟨b, o, none⟩ = some u) (hf : w.frozen? ⟨b, o, none⟩ = false) : (Instr.storeAt 66 (.pointer (some ⟨b, o, none⟩)) s.val).run Try.prog w = .ok () (w.setCell ⟨b, o, none⟩ s.val) := by
  unfold Sl.val
  simp [go_sem, Instr.storeAt, h, hf]
theorem stTs (b o : Nat) (s : Sl) (u : Value) (w : World) (h : w.cell? ⟨b, o, none⟩ = some u) (hf : w.frozen? ⟨b, o, none⟩ = false) : (Instr.storeAt 67 (.pointer (some ⟨b, o, none⟩)) s.val).run Try.prog w = .ok () (w.setCell ⟨b, o, none⟩ s.val) := by
  unfold Sl.val
  simp [go_sem, Instr.storeAt, h, hf]
theorem DevM.drew {w : World} {p : Nat} {D : Ds} {L : Dl} (h : DevM w p D L) : DevM w.drew p D L := h.frm (F := fun _ => False) (Frm.refl _ _).drew (fun _ _ e => e)

set_option maxHeartbeats 2000000 in
set_option maxRecDepth 100000 in
theorem units1 (w : World) (p : Nat) (D : Ds) (L : Dl) (h : DevM w p D L) (hu : IntKind.i64.wrap ((L.ap.len : Int) + (L.tr.len : Int)) = (L.ap.len : Int) + (L.tr.len : Int))
    {Q : Exit → Act → World → Prop} {A : Act} (hsz : A.tmps.size = 14) (hdf : A.defers = []) (s0 : A.tmps.getD 0 undef = .pointer (some ⟨p, 0, none⟩))
    (hend : ∀ (u : Nat → Value) w', w' = w.drew → Q .normal (((((((((((((A).put (some 3) (u 3)).put (some 4) (u 4)).put (some 5) (u 5)).put (some 6) (u 6)).put (some 7) (u 7)).put (some 8) (u 8)).put (some 9) (u 9)).put (some 10) (u 10)).put (some 11) (u 11)).put (some 12) (u 12)).put (some 13) (u 13)).put (some 2) (.int .i64 ((L.ap.len + L.tr.len : Nat) : Int))) w') :
    (Code.region 1 (Pl.find 1 ((Try.f38.body).getD .skip)) true).wp Try.prog Q A w := by
  have hA := Pl.At.same (v := .pointer (some ⟨p, 0, none⟩)) (d := 0) (Pl.At.here hsz hdf) s0
  refine Pl.H.start (S := fun w' => DevM w' p D L) (by kernel_rfl) hA h.drew ?_
  rw [show (Pl.find 1 ((Try.f38.body).getD .skip)).size = 12 by kernel_rfl]
  refine Pl.H.take 0 3 (.pointer (some ⟨p, 0, none⟩)) (by kernel_rfl) (by kernel_rfl) (by kernel_rfl) (Pl.free 0 (by kernel_rfl)) (Pl.move 0 (.tmp 0) (by kernel_rfl) (by decide)) h.drew ?_
  refine Pl.H.take 1 4 (.pointer (some ⟨p, 0, none⟩)) (by kernel_rfl) (by kernel_rfl) (by kernel_rfl) (Pl.free 1 (by kernel_rfl)) (Pl.nilc 1 (.tmp 3) _ (by kernel_rfl) (by decide) rfl) h.drew ?_
  refine Pl.H.take 2 5 (.pointer (some ⟨p, 7, none⟩)) (by kernel_rfl) (by kernel_rfl) (by kernel_rfl) (Pl.free 2 (by kernel_rfl)) (Pl.field 2 69 (.tmp 4) 3 _ (by kernel_rfl) (by decide) (fdDev3_0 p)) h.drew ?_
  refine Pl.H.take 3 6 (.slice L.ap.a L.ap.len L.ap.cap) (by kernel_rfl) (by kernel_rfl) (by kernel_rfl) (Pl.free 3 (by kernel_rfl)) (Pl.load 3 30 (.tmp 5) _ (by kernel_rfl) (by decide) (fun w' hS => ldBs p 7 _ _ _ w' hS.c7)) h.drew ?_
  refine Pl.H.take 4 7 (.int .i64 ((L.ap.len : Nat) : Int)) (by kernel_rfl) (by kernel_rfl) (by kernel_rfl) (Pl.free 4 (by kernel_rfl)) (Pl.lenOf 4 30 (.tmp 6) _ (by kernel_rfl) (by decide) (fun _ _ => rfl)) h.drew ?_
  refine Pl.H.take 5 8 (.pointer (some ⟨p, 0, none⟩)) (by kernel_rfl) (by kernel_rfl) (by kernel_rfl) (Pl.free 5 (by kernel_rfl)) (Pl.move 5 (.tmp 0) (by kernel_rfl) (by decide)) h.drew ?_
  refine Pl.H.take 6 9 (.pointer (some ⟨p, 0, none⟩)) (by kernel_rfl) (by kernel_rfl) (by kernel_rfl) (Pl.free 6 (by kernel_rfl)) (Pl.nilc 6 (.tmp 8) _ (by kernel_rfl) (by decide) rfl) h.drew ?_
  refine Pl.H.take 7 10 (.pointer (some ⟨p, 8, none⟩)) (by kernel_rfl) (by kernel_rfl) (by kernel_rfl) (Pl.free 7 (by kernel_rfl)) (Pl.field 7 69 (.tmp 9) 4 _ (by kernel_rfl) (by decide) (fdDev4_0 p)) h.drew ?_
  refine Pl.H.take 8 11 (.slice L.tr.a L.tr.len L.tr.cap) (by kernel_rfl) (by kernel_rfl) (by kernel_rfl) (Pl.free 8 (by kernel_rfl)) (Pl.load 8 67 (.tmp 10) _ (by kernel_rfl) (by decide) (fun w' hS => ldTs p 8 _ _ _ w' hS.c8)) h.drew ?_
  refine Pl.H.take 9 12 (.int .i64 ((L.tr.len : Nat) : Int)) (by kernel_rfl) (by kernel_rfl) (by kernel_rfl) (Pl.free 9 (by kernel_rfl)) (Pl.lenOf 9 67 (.tmp 11) _ (by kernel_rfl) (by decide) (fun _ _ => rfl)) h.drew ?_
  refine Pl.H.take 10 13 (.int .i64 ((L.ap.len + L.tr.len : Nat) : Int)) (by kernel_rfl) (by kernel_rfl) (by kernel_rfl) (Pl.free 10 (by kernel_rfl)) (Pl.binV 10 .add 3 3 (.tmp 7) (.tmp 12) (.int .i64 ((L.ap.len : Nat) : Int)) (.int .i64 ((L.tr.len : Nat) : Int)) _ (by kernel_rfl) (by decide) (by decide) rfl rfl (fun w => by simp [go_sem, eqGuard, hu])) h.drew ?_
  refine Pl.H.take 11 2 (.int .i64 ((L.ap.len + L.tr.len : Nat) : Int)) (by kernel_rfl) (by kernel_rfl) (by kernel_rfl) (Pl.free 11 (by kernel_rfl)) (Pl.assign 11 (.tmp 13) (by kernel_rfl) (by decide)) h.drew ?_
  refine Pl.H.done (by kernel_rfl) (fun A' hA' => ?_)
  rw [Pl.At.ext hA' ((((((((((((hA.put 3 _).put 4 _).put 5 _).put 6 _).put 7 _).put 8 _).put 9 _).put 10 _).put 11 _).put 12 _).put 13 _).put 2 _)]
  exact hend (fun d => if d = 3 then .pointer (some ⟨p, 0, none⟩) else if d = 4 then .pointer (some ⟨p, 0, none⟩) else if d = 5 then .pointer (some ⟨p, 7, none⟩) else if d = 6 then .slice L.ap.a L.ap.len L.ap.cap else if d = 7 then .int .i64 ((L.ap.len : Nat) : Int) else if d = 8 then .pointer (some ⟨p, 0, none⟩) else if d = 9 then .pointer (some ⟨p, 0, none⟩) else if d = 10 then .pointer (some ⟨p, 8, none⟩) else if d = 11 then .slice L.tr.a L.tr.len L.tr.cap else if d = 12 then .int .i64 ((L.tr.len : Nat) : Int) else if d = 13 then .int .i64 ((L.ap.len + L.tr.len : Nat) : Int) else undef) _ rfl

set_option maxHeartbeats 2000000 in
set_option maxRecDepth 100000 in
theorem end1 (w : World) (p : Nat) (D : Ds) (L : Dl) (h : DevM w p D L) (hu : IntKind.i64.wrap ((D.sb : Int) + (L.ss.len : Int)) = (D.sb : Int) + (L.ss.len : Int))
    {Q : Exit → Act → World → Prop} {A : Act} (hsz : A.tmps.size = 13) (hdf : A.defers = []) (s0 : A.tmps.getD 0 undef = .pointer (some ⟨p, 0, none⟩))
    (hend : ∀ (u : Nat → Value) w', w' = w.drew → Q .normal ((((((((((((A).put (some 3) (u 3)).put (some 4) (u 4)).put (some 5) (u 5)).put (some 6) (u 6)).put (some 7) (u 7)).put (some 8) (u 8)).put (some 9) (u 9)).put (some 10) (u 10)).put (some 11) (u 11)).put (some 12) (u 12)).put (some 2) (.int .i64 ((D.sb + L.ss.len : Nat) : Int))) w') :
    (Code.region 1 (Pl.find 1 ((Try.f36.body).getD .skip)) true).wp Try.prog Q A w := by
  have hA := Pl.At.same (v := .pointer (some ⟨p, 0, none⟩)) (d := 0) (Pl.At.here hsz hdf) s0
  refine Pl.H.start (S := fun w' => DevM w' p D L) (by kernel_rfl) hA h.drew ?_
  rw [show (Pl.find 1 ((Try.f36.body).getD .skip)).size = 11 by kernel_rfl]
  refine Pl.H.take 0 3 (.pointer (some ⟨p, 0, none⟩)) (by kernel_rfl) (by kernel_rfl) (by kernel_rfl) (Pl.free 0 (by kernel_rfl)) (Pl.move 0 (.tmp 0) (by kernel_rfl) (by decide)) h.drew ?_
  refine Pl.H.take 1 4 (.pointer (some ⟨p, 0, none⟩)) (by kernel_rfl) (by kernel_rfl) (by kernel_rfl) (Pl.free 1 (by kernel_rfl)) (Pl.nilc 1 (.tmp 3) _ (by kernel_rfl) (by decide) rfl) h.drew ?_
  refine Pl.H.take 2 5 (.pointer (some ⟨p, 1, none⟩)) (by kernel_rfl) (by kernel_rfl) (by kernel_rfl) (Pl.free 2 (by kernel_rfl)) (Pl.field 2 65 (.tmp 4) 1 _ (by kernel_rfl) (by decide) (fdDk1_0 p)) h.drew ?_
  refine Pl.H.take 3 6 (.int .i64 ((D.sb : Nat) : Int)) (by kernel_rfl) (by kernel_rfl) (by kernel_rfl) (Pl.free 3 (by kernel_rfl)) (Pl.load 3 3 (.tmp 5) _ (by kernel_rfl) (by decide) (fun w' hS => ldInt p 1 _ w' hS.c1)) h.drew ?_
  refine Pl.H.take 4 7 (.pointer (some ⟨p, 0, none⟩)) (by kernel_rfl) (by kernel_rfl) (by kernel_rfl) (Pl.free 4 (by kernel_rfl)) (Pl.move 4 (.tmp 0) (by kernel_rfl) (by decide)) h.drew ?_
  refine Pl.H.take 5 8 (.pointer (some ⟨p, 0, none⟩)) (by kernel_rfl) (by kernel_rfl) (by kernel_rfl) (Pl.free 5 (by kernel_rfl)) (Pl.nilc 5 (.tmp 7) _ (by kernel_rfl) (by decide) rfl) h.drew ?_
  refine Pl.H.take 6 9 (.pointer (some ⟨p, 2, none⟩)) (by kernel_rfl) (by kernel_rfl) (by kernel_rfl) (Pl.free 6 (by kernel_rfl)) (Pl.field 6 65 (.tmp 8) 2 _ (by kernel_rfl) (by decide) (fdDk2_0 p)) h.drew ?_
  refine Pl.H.take 7 10 (.slice L.ss.a L.ss.len L.ss.cap) (by kernel_rfl) (by kernel_rfl) (by kernel_rfl) (Pl.free 7 (by kernel_rfl)) (Pl.load 7 30 (.tmp 9) _ (by kernel_rfl) (by decide) (fun w' hS => ldBs p 2 _ _ _ w' hS.c2)) h.drew ?_
  refine Pl.H.take 8 11 (.int .i64 ((L.ss.len : Nat) : Int)) (by kernel_rfl) (by kernel_rfl) (by kernel_rfl) (Pl.free 8 (by kernel_rfl)) (Pl.lenOf 8 30 (.tmp 10) _ (by kernel_rfl) (by decide) (fun _ _ => rfl)) h.drew ?_
  refine Pl.H.take 9 12 (.int .i64 ((D.sb + L.ss.len : Nat) : Int)) (by kernel_rfl) (by kernel_rfl) (by kernel_rfl) (Pl.free 9 (by kernel_rfl)) (Pl.binV 9 .add 3 3 (.tmp 6) (.tmp 11) (.int .i64 ((D.sb : Nat) : Int)) (.int .i64 ((L.ss.len : Nat) : Int)) _ (by kernel_rfl) (by decide) (by decide) rfl rfl (fun w => by simp [go_sem, eqGuard, hu])) h.drew ?_
  refine Pl.H.take 10 2 (.int .i64 ((D.sb + L.ss.len : Nat) : Int)) (by kernel_rfl) (by kernel_rfl) (by kernel_rfl) (Pl.free 10 (by kernel_rfl)) (Pl.assign 10 (.tmp 12) (by kernel_rfl) (by decide)) h.drew ?_
  refine Pl.H.done (by kernel_rfl) (fun A' hA' => ?_)
  rw [Pl.At.ext hA' (((((((((((hA.put 3 _).put 4 _).put 5 _).put 6 _).put 7 _).put 8 _).put 9 _).put 10 _).put 11 _).put 12 _).put 2 _)]
  exact hend (fun d => if d = 3 then .pointer (some ⟨p, 0, none⟩) else if d = 4 then .pointer (some ⟨p, 0, none⟩) else if d = 5 then .pointer (some ⟨p, 1, none⟩) else if d = 6 then .int .i64 ((D.sb : Nat) : Int) else if d = 7 then .pointer (some ⟨p, 0, none⟩) else if d = 8 then .pointer (some ⟨p, 0, none⟩) else if d = 9 then .pointer (some ⟨p, 2, none⟩) else if d = 10 then .slice L.ss.a L.ss.len L.ss.cap else if d = 11 then .int .i64 ((L.ss.len : Nat) : Int) else if d = 12 then .int .i64 ((D.sb + L.ss.len : Nat) : Int) else undef) _ rfl

end Go.Proofs.Ytokdeilcfkobfaa
