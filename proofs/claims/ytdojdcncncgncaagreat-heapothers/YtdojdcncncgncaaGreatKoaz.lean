/-
  Lemmas.
-/
import Derived.Test.YtdojdcncncgncaaGreatKoay
namespace Go.Proofs.YtdojdcncncgncaaGreat
open Go.RowKit
set_option linter.unusedVariables false
set_option maxRecDepth 100000
set_option maxHeartbeats 4000000
variable {w:World}
theorem Gi.mono {D E : Nat → Prop} {v : Sl} {t : List Int} (h : Gi D w v t) (hE : ∀ k, D k → k < w.heap.size → E k) : Gi E w v t := by
 refine ⟨h.len, h.nil, h.le, h.big, fun ad ha hl => ?_, h.cell⟩
 obtain ⟨b, off, hb, hc⟩ := h.cell 0 hl
 rw [ha] at hb
 cases hb
 exact hE _ (h.home _ ha hl) (World.block_lt_of_cell? _ _ hc)
theorem Gb.mono {D E : Nat → Prop} {v : Sl} {l : List Sb} (h : Gb D w v l) (hE : ∀ k, D k → k < w.heap.size → E k) : Gb E w v l := by
 refine ⟨h.len, h.nil, h.le, h.big, fun ad ha hl => ?_, h.cell, fun x hx => ⟨(h.bs x hx).1.mono hE, (h.bs x hx).2⟩⟩
 obtain ⟨b, off, hb, hc⟩ := h.cell 0 hl
 rw [ha] at hb
 cases hb
 exact hE _ (h.home _ ha hl) (World.block_lt_of_cell? _ _ hc)
theorem Gl.mono {D E : Nat → Prop} {s : Sl} {L : List Lb} (h : Gl D w s L) (hE : ∀ k, D k → k < w.heap.size → E k) : Gl E w s L := by
 refine ⟨h.len, h.nil, h.le, h.big, fun ad ha hl => ?_, h.cell, fun x hx => ⟨(h.it x hx).1.mono hE, (h.it x hx).2.mono hE⟩⟩
 obtain ⟨b, off, hb, hc, _⟩ := h.cell 0 hl
 rw [ha] at hb
 cases hb
 exact hE _ (h.home _ ha hl) (World.block_lt_of_cell? _ _ hc)
def Ap (g : Nat) : Nat → Prop := fun k => k ≠ g
theorem ex3 (a b c : Value) (w : World) : (Instr.extract (.tuple #[a, b, c]) 0).run Tryz.prog w = .ok a w ∧ (Instr.extract (.tuple #[a, b, c]) 1).run Tryz.prog w = .ok b w ∧ (Instr.extract (.tuple #[a, b, c]) 2).run Tryz.prog w = .ok c w := Zhw a b c w
theorem ex2 (a b : Value) (w : World) : (Instr.extract (.tuple #[a, b]) 0).run Tryz.prog w = .ok a w ∧ (Instr.extract (.tuple #[a, b]) 1).run Tryz.prog w = .ok b w := ⟨rfl, rfl⟩
theorem Zo3 (p : Nat) (w : World) : (Instr.fieldAt 33 (.pointer (some ⟨p, 0, none⟩)) 3).run Tryz.prog w = .ok (.pointer (some ⟨p, 3, none⟩)) w := by simp [go_sem, Instr.fieldAt]
theorem Zo2 (p : Nat) (w : World) : (Instr.fieldAt 26 (.pointer (some ⟨p, 0, none⟩)) 0).run Tryz.prog w = .ok (.pointer (some ⟨p, 0, none⟩)) w := by simp [go_sem, Instr.fieldAt]
theorem ZnN (p : Nat) (w : World) : (Instr.fieldAt 26 (.pointer (some ⟨p, 0, none⟩)) 1).run Tryz.prog w = .ok (.pointer (some ⟨p, 1, none⟩)) w := by simp [go_sem, Instr.fieldAt]
theorem Zdn {b o : Nat} {v : Int} {w : World} (h : w.cell? ⟨b, o, none⟩ = some (.int .i64 v)) : (Instr.loadAt 3 (.pointer (some ⟨b, o, none⟩))).run Tryz.prog w = .ok (.int .i64 v) w := by simp [go_sem, h]
def Zbv (w : World) (a : Ah) (e : Ending) (w' : World) : Prop := Below w.heap.size w w' ∧ ∃ (s' : Sl) (L' : List Lb), e = .returned (.tuple #[.slice s'.a s'.len s'.cap, .int .i64 a.e]) ∧ Gl (fun _ => True) w' s' L' ∧ lfs L' = a.l
theorem ZiK {l : List Lf} {b : Bt} (h : getH l b = none) : dropH l b = ⟨l, 3⟩ := by unfold dropH; rw [h]
theorem ZiL {l : List Lf} {b : Bt} {r : Rw} (h : getH l b = some r) : dropH l b = ⟨l.set b.1.toNat ⟨(lf l b.1.toNat).itl, (dropA (lf l b.1.toNat).slots b.2).s⟩, 0⟩ := by unfold dropH; rw [h]
end Go.Proofs.YtdojdcncncgncaaGreat
