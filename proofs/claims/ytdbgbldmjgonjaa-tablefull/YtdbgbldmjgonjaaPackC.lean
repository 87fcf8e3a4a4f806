/-
  An item in a row of items: where it is found, read and kept.
-/
import Derived.Test.YtdbgbldmjgonjaaPackB
import Derived.Test.YtdbgbldmjgonjaaPlan
namespace Go.Proofs.Ytdbgbldmjgonjaa
open Go.RowKit

theorem index_item (b o len cap k : Nat) (hk : k < len) (w : World) : (Instr.indexAt 54 (.slice (some ⟨b, o, none⟩) len cap) (.int .i64 (k : Nat))).run Try.prog w = .ok (.pointer (some ⟨b, o + k * 4, none⟩)) w := by
  have h22 : Try.prog.underlying 54 = some (.slice (Try.prog.elem 54)) := by kernel_rfl
  have h1 : (0 : Int) ≤ (k : Int) := by omega
  simp [go_sem, Instr.indexAt, run_underlying h22, h1, Addr.add_lit]
  intro h
  omega

theorem load_item (b o : Nat) (i : It) (w : World) (h : ItAt w b o i) : (Instr.loadAt 67 (.pointer (some ⟨b, o, none⟩))).run Try.prog w = .ok i.val w := by
  obtain ⟨c0, c1, c2, c3⟩ := h
  simp [go_sem, c0, c1, c2, c3, It.val]

theorem keep_item {w w' : World} {b o : Nat} {i : It} (h : ItAt w b o i) (hb : Below w.heap.size w w') : ItAt w' b o i := by
  obtain ⟨c0, c1, c2, c3⟩ := h
  have hlt := World.block_lt_of_cell? w _ c0
  exact ⟨(hb.cell hlt).trans c0, (hb.cell (p := ⟨b, o + 1, none⟩) hlt).trans c1, (hb.cell (p := ⟨b, o + 2, none⟩) hlt).trans c2, (hb.cell (p := ⟨b, o + 3, none⟩) hlt).trans c3⟩

end Go.Proofs.Ytdbgbldmjgonjaa
