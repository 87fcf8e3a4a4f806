/-
  The landed device: Write where it may not be; a page of one byte; awake.
  A device of a call's own; awake.
  Nobody's device; the walk of the law on it.
-/
import Derived.Test.YtpggkfdnpdhkfaaGreatBc
namespace Go.Proofs.YtpggkfdnpdhkfaaGreat
open Go.RowKit
set_option maxRecDepth 100000

theorem wpList_make {ops : Array Oper} {rest : List Oper} {o : Oper} {a : Act} {Q : Exit → Act → World → Prop} (w : World) (hgd : o.guard = none) (t : TypeId) (x y : Operand) (ho : o.op = .makeSlice t x y) (u u' v : Value) (hu : a.eval x = u) (hu' : a.eval y = u') (w' : World) (hrun : (Instr.makeSlice t u u').run Tryz.prog w = .ok v w') (hK : wpList Tryz.prog ops Q rest (a.put o.dst v) w') : wpList Tryz.prog ops Q (o :: rest) a w := by
  refine wpList_val w hgd v w' ?_ hK
  have e : execOp a.eval o = (do pure (.value (← Instr.makeSlice t (a.eval x) (a.eval y)))) := by
    unfold execOp
    rw [ho]
  rw [e, hu, hu']
  simp [hrun]

end Go.Proofs.YtpggkfdnpdhkfaaGreat

namespace Go.Proofs.YtpggkfdnpdhkfaaGreat
open Go.RowKit
set_option maxRecDepth 100000

/-- A device that a call has made itself, since the world w0. -/
structure Mine (B : Nat) (w0 w : World) (p : Nat) (D : Ds) (L : Dl) : Prop where
  dev : DevM w p D L
  foot : ∀ k, L.F p k → B ≤ k
  below : Below B w0 w
  le : B ≤ w.heap.size
theorem Mine.turn {B : Nat} {w0 w w' : World} {p : Nat} {D D' : Ds} {L L' : Dl} (h : Mine B w0 w p D L) (t : Turned w p L w' D' L') : Mine B w0 w' p D' L' :=
  ⟨t.dev, fun k hk => (t.foot k hk).elim (h.foot k) (fun e => Nat.le_trans h.le e), h.below.trans (t.frm.below h.le h.foot), Nat.le_trans h.le t.frm.size⟩
theorem Mine.keep {B : Nat} {w0 w w' : World} {p : Nat} {D : Ds} {L : Dl} (h : Mine B w0 w p D L) (hb : Below w.heap.size w w') : Mine B w0 w' p D L := h.turn (Turned.same h.dev hb)
theorem Mine.off {B : Nat} {w0 w : World} {p : Nat} {D : Ds} {L : Dl} (h : Mine B w0 w p D L) {a : Option Addr} {len : Nat} (ha : ∀ ad, a = some ad → 0 < len → ad.block < B) : Off (L.F p) a len := fun ad e hl hk => by
  have h1 := h.foot _ hk
  have h2 := ha ad e hl
  omega
end Go.Proofs.YtpggkfdnpdhkfaaGreat

namespace Go.Proofs.YtpggkfdnpdhkfaaGreat
open Go.RowKit
set_option maxRecDepth 100000

/-- Nobody's device: no pointer, or one to a device that New did not give. -/
def Dead (w : World) (v : Value) : Prop := v = .pointer none ∨ ∃ p, v = .pointer (some ⟨p, 0, none⟩) ∧ w.cell? ⟨p, 0, none⟩ = some (.slice none 0 0)
theorem Dead.keep {w w' : World} {v : Value} (h : Dead w v) (hb : Below w.heap.size w w') : Dead w' v := by
  rcases h with h | ⟨p, h, hc⟩
  · exact .inl h
  · exact .inr ⟨p, h, (hb.cell (World.block_lt_of_cell? w _ hc)).trans hc⟩

set_option maxHeartbeats 1000000 in
theorem dead_pages (w : World) (v : Value) (h : Dead w v) : Calls Tryz.prog 77 #[v] w fun e w' => e = .returned (.int .i64 0) ∧ w' = w := by
  rcases h with rfl | ⟨p, rfl, c0⟩
  · have hnil : ∀ w : World, (binOp .eql 23 (.pointer none) (.pointer none)).run Tryz.prog w = .ok (.bool true) w := fun _ => rfl
    go_enter Tryz.func77, Tryz.ntmps77
    go_wp2_with fail
    go_ret
    exact ⟨rfl, rfl⟩
  · have hnil : ∀ w : World, (binOp .eql 23 (.pointer (some ⟨p, 0, none⟩)) (.pointer none)).run Tryz.prog w = .ok (.bool false) w := fun _ => rfl
    go_enter Tryz.func77, Tryz.ntmps77
    go_wp2_with fail
    go_ret
    exact ⟨rfl, rfl⟩

end Go.Proofs.YtpggkfdnpdhkfaaGreat
