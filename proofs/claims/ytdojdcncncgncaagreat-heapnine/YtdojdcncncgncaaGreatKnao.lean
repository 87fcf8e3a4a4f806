/-
  Lemmas.
-/
import Derived.Test.YtdojdcncncgncaaGreatKnan
namespace Go.Proofs.YtdojdcncncgncaaGreat
open Go.RowKit
set_option linter.unusedVariables false
set_option maxRecDepth 100000
set_option maxHeartbeats 4000000
theorem Zaf (w : World) : Below w.heap.size w w.drew := (Below.refl _ _).drew
theorem ZlK (p : Nat) (w : World) : (Instr.fieldAt 67 (.pointer (some ⟨p, 0, none⟩)) 0).run Tryz.prog w = .ok (.pointer (some ⟨p, 0, none⟩)) w := by simp [go_sem, Instr.fieldAt]
theorem ZjH (p : Nat) (w : World) : (Instr.fieldAt 67 (.pointer (some ⟨p, 0, none⟩)) 1).run Tryz.prog w = .ok (.pointer (some ⟨p, 1, none⟩)) w := by simp [go_sem, Instr.fieldAt]
theorem ixB1 (b o len cap k : Nat) (hk : k < len) (w : World) : (Instr.indexAt 65 (.slice (some ⟨b, o, none⟩) len cap) (.int .i64 (k : Int))).run Tryz.prog w = .ok (.pointer (some ⟨b, o + k, none⟩)) w := by
 have h2 : (k : Int) < (len : Int) := by omega
 simp [go_sem, Instr.indexAt, hk, Addr.add_lit]
theorem ZlU (p : Nat) (u : Sl) (v : Value) (w : World) (k : LfBlk w p u.val v) : (Instr.loadAt 46 (.pointer (some ⟨p, 0, none⟩))).run Tryz.prog w = .ok u.val w := by
 have c0 := k.c0
 obtain ⟨a, len, cap⟩ := u
 unfold Sl.val at *
 simp [go_sem, Instr.loadAt, c0]
theorem ZjZ (p : Nat) (u : Value) (v : Sl) (w : World) (k : LfBlk w p u v.val) : (Instr.loadAt 65 (.pointer (some ⟨p, 1, none⟩))).run Tryz.prog w = .ok v.val w := by
 have c1 := k.c1
 obtain ⟨a, len, cap⟩ := v
 unfold Sl.val at *
 simp [go_sem, Instr.loadAt, c1]
theorem Zbh {w w' : World} {b o : Nat} {u : Value} (h : w.cell? ⟨b, o, none⟩ = some u) (hb : Below w.heap.size w w') : w'.cell? ⟨b, o, none⟩ = some u := (hb.cell (p := ⟨b, o, none⟩) (World.block_lt_of_cell? w _ h)).trans h
end Go.Proofs.YtdojdcncncgncaaGreat
