/-
  No cell of these rows narrows 'for every input' (looked for: loops, veiled, ifaces, maps, wideKeys, modest, calm, conditions, laid).
  DERIVED. THE GIVEN ROWS OF THIS SEAT. 4 by the template 'for every input the law returns true; each argument reads behind the call as it read before'; 0 by the template 'total and deterministic' (their statements: YtpdkeghmpnanpaaTotals.lean).
  GIVEN WITH THE SEED: the statements are not yours to turn. If you find one false, say at which input.
  Laid BY PROGRAM, IN A SANDBOX (cutbox-rows.mjs): the forced cells as the released guide's own fill.sh prints them over the translation 1ca7f4da8c7cc3a0… (all of the seat's roots in one cut). By AI agents, Wed Nov 11 2026. No macro, syntax, notation, axiom, sorry.
-/
import Derived.Test.YtpdkeghmpnanpaaChecked
import GoSem.Claim
import GoSem.ClaimJoined
import GoSem.ClaimMapViews
import Derived.JoinedTies
import Derived.KernelRfl
namespace Go.Proofs.Ytpdkeghmpnanpaa
/- THE CELL 'sum', in the pinned program and in every row, IS THE sha256 OF THE DUMP (.gsa) THAT YtpdkeghmpnanpaaProg.lean LOADS. Nothing in Lean hashes anything: it is a label: what it is worth is what the hold of that sum in a sandbox is worth. -/
noncomputable def Try.pinned : Pinned := { name := "ytpdkeghmpnanpaa", sum := "1ca7f4da8c7cc3a0aa9bd55d48660d65852c70bdabc2e245ecf4fa3b76868d48", checked := Try.checked }
namespace Rows
def none {H : Type} : Left H := { results := [], args := [] }

/-- 'humuslaw14.UndoTurns': WHATEVER THE INPUT: true; the input reads as it did. -/
def undoTurnsSpec : ChangeSpec := { name := "undoTurns", fn := fun _ => fun
  | [d1, d2, d3] => { results := [.lit (.bool true)], args := [d1, d2, d3] }
  | _ => none }
def undoTurnsRow : OpenClaim := { program := "ytpdkeghmpnanpaa", sum := "1ca7f4da8c7cc3a0aa9bd55d48660d65852c70bdabc2e245ecf4fa3b76868d48", func := "humus/humuslaw14.UndoTurns", spec := "undoTurns", inPlace := ["math.Float64bits", "math.Float64frombits"], unfollowed := true, recurses := true, apart := false }
def UndoTurnsSaid : Prop := undoTurnsRow.holds Try.pinned (OpenSpec.ofChange undoTurnsSpec)

/-- ITS FALSE NEIGHBOUR: 'it returns false'. Refute it at one input. -/
def undoTurnsWrong : ChangeSpec := { name := "undoTurns", fn := fun _ => fun
  | [d1, d2, d3] => { results := [.lit (.bool false)], args := [d1, d2, d3] }
  | _ => none }
def UndoTurnsWrongFalsely : Prop := undoTurnsRow.holds Try.pinned (OpenSpec.ofChange undoTurnsWrong)

/-- 'humuslaw14.UndoGets': WHATEVER THE INPUT: true; the input reads as it did. -/
def undoGetsSpec : ChangeSpec := { name := "undoGets", fn := fun _ => fun
  | [d1, d2, d3] => { results := [.lit (.bool true)], args := [d1, d2, d3] }
  | _ => none }
def undoGetsRow : OpenClaim := { program := "ytpdkeghmpnanpaa", sum := "1ca7f4da8c7cc3a0aa9bd55d48660d65852c70bdabc2e245ecf4fa3b76868d48", func := "humus/humuslaw14.UndoGets", spec := "undoGets", inPlace := ["math.Float64bits", "math.Float64frombits"], unfollowed := true, recurses := true, apart := false }
def UndoGetsSaid : Prop := undoGetsRow.holds Try.pinned (OpenSpec.ofChange undoGetsSpec)

/-- ITS FALSE NEIGHBOUR: 'it returns false'. Refute it at one input. -/
def undoGetsWrong : ChangeSpec := { name := "undoGets", fn := fun _ => fun
  | [d1, d2, d3] => { results := [.lit (.bool false)], args := [d1, d2, d3] }
  | _ => none }
def UndoGetsWrongFalsely : Prop := undoGetsRow.holds Try.pinned (OpenSpec.ofChange undoGetsWrong)

/-- 'humuslaw14.UndoOnce': WHATEVER THE INPUT: true; the input reads as it did. -/
def undoOnceSpec : ChangeSpec := { name := "undoOnce", fn := fun _ => fun
  | [d1, d2] => { results := [.lit (.bool true)], args := [d1, d2] }
  | _ => none }
def undoOnceRow : OpenClaim := { program := "ytpdkeghmpnanpaa", sum := "1ca7f4da8c7cc3a0aa9bd55d48660d65852c70bdabc2e245ecf4fa3b76868d48", func := "humus/humuslaw14.UndoOnce", spec := "undoOnce", inPlace := ["math.Float64bits", "math.Float64frombits"], unfollowed := true, recurses := true, apart := false }
def UndoOnceSaid : Prop := undoOnceRow.holds Try.pinned (OpenSpec.ofChange undoOnceSpec)

/-- ITS FALSE NEIGHBOUR: 'it returns false'. Refute it at one input. -/
def undoOnceWrong : ChangeSpec := { name := "undoOnce", fn := fun _ => fun
  | [d1, d2] => { results := [.lit (.bool false)], args := [d1, d2] }
  | _ => none }
def UndoOnceWrongFalsely : Prop := undoOnceRow.holds Try.pinned (OpenSpec.ofChange undoOnceWrong)

/-- 'humuslaw14.UndoChains': WHATEVER THE INPUT: true; the input reads as it did. -/
def undoChainsSpec : ChangeSpec := { name := "undoChains", fn := fun _ => fun
  | [d1, d2] => { results := [.lit (.bool true)], args := [d1, d2] }
  | _ => none }
def undoChainsRow : OpenClaim := { program := "ytpdkeghmpnanpaa", sum := "1ca7f4da8c7cc3a0aa9bd55d48660d65852c70bdabc2e245ecf4fa3b76868d48", func := "humus/humuslaw14.UndoChains", spec := "undoChains", inPlace := ["math.Float64bits", "math.Float64frombits"], unfollowed := true, recurses := true, apart := false }
def UndoChainsSaid : Prop := undoChainsRow.holds Try.pinned (OpenSpec.ofChange undoChainsSpec)

/-- ITS FALSE NEIGHBOUR: 'it returns false'. Refute it at one input. -/
def undoChainsWrong : ChangeSpec := { name := "undoChains", fn := fun _ => fun
  | [d1, d2] => { results := [.lit (.bool false)], args := [d1, d2] }
  | _ => none }
def UndoChainsWrongFalsely : Prop := undoChainsRow.holds Try.pinned (OpenSpec.ofChange undoChainsWrong)

/- THE SECOND FORM. 'bulk': how many values and letters a reading holds, each counted each time it is reached (what is shared counts as often as it is met; a slice's spare places count too). A statement '..UptoSaid' is the law's where the arguments, and the package variables that the reading takes, are together of bulk at most 1048576: NARROWER than '..Said'. Prove '..Said' where nothing that the law and all that it calls make is longer than what came in: it says more and counts as full. Else prove '..UptoSaid'. A law counts once. -/
mutual
def uptoBulk {H : Type} : DataW H → Nat
  | .lit (.string bytes) => bytes.length + 1
  | .lit _ => 1
  | .nil => 1
  | .ptr d => uptoBulk d + 1
  | .slice elems spare => uptoBulkAll elems + uptoBulkAll spare + 1
  | .agg parts => uptoBulkAll parts + 1
  | .iface _ d => uptoBulk d + 1
  | .map entries => uptoBulkEntries entries + 1
  | .held _ => 1
def uptoBulkAll {H : Type} : List (DataW H) → Nat
  | [] => 0
  | d :: r => uptoBulk d + uptoBulkAll r
def uptoBulkEntries {H : Type} : List (Lit × DataW H) → Nat
  | [] => 0
  | x :: r => uptoBulkEntry x + uptoBulkEntries r
def uptoBulkEntry {H : Type} : Lit × DataW H → Nat
  | (.string bytes, d) => bytes.length + uptoBulk d + 1
  | (_, d) => uptoBulk d + 1
 end
def uptoSmall : (H : Type) → List (DataW H) → Bool := fun _ ds => decide (uptoBulkAll ds ≤ 1048576)
def OpenSpec.upto (s : _root_.Go.ChangeSpec) : _root_.Go.OpenSpec := { _root_.Go.OpenSpec.ofChange s with cond := some uptoSmall }

/-- 'humuslaw14.UndoTurns', WHERE WHAT IT READS IS OF BULK AT MOST 1048576: true; the input reads as it did. -/
def undoTurnsUptoRow : OpenClaim := { program := "ytpdkeghmpnanpaa", sum := "1ca7f4da8c7cc3a0aa9bd55d48660d65852c70bdabc2e245ecf4fa3b76868d48", func := "humus/humuslaw14.UndoTurns", spec := "undoTurns", inPlace := ["math.Float64bits", "math.Float64frombits"], unfollowed := true, recurses := true, apart := false, narrowed := true }
def UndoTurnsUptoSaid : Prop := undoTurnsUptoRow.holds Try.pinned (OpenSpec.upto undoTurnsSpec)

/-- 'humuslaw14.UndoGets', WHERE WHAT IT READS IS OF BULK AT MOST 1048576: true; the input reads as it did. -/
def undoGetsUptoRow : OpenClaim := { program := "ytpdkeghmpnanpaa", sum := "1ca7f4da8c7cc3a0aa9bd55d48660d65852c70bdabc2e245ecf4fa3b76868d48", func := "humus/humuslaw14.UndoGets", spec := "undoGets", inPlace := ["math.Float64bits", "math.Float64frombits"], unfollowed := true, recurses := true, apart := false, narrowed := true }
def UndoGetsUptoSaid : Prop := undoGetsUptoRow.holds Try.pinned (OpenSpec.upto undoGetsSpec)

/-- 'humuslaw14.UndoOnce', WHERE WHAT IT READS IS OF BULK AT MOST 1048576: true; the input reads as it did. -/
def undoOnceUptoRow : OpenClaim := { program := "ytpdkeghmpnanpaa", sum := "1ca7f4da8c7cc3a0aa9bd55d48660d65852c70bdabc2e245ecf4fa3b76868d48", func := "humus/humuslaw14.UndoOnce", spec := "undoOnce", inPlace := ["math.Float64bits", "math.Float64frombits"], unfollowed := true, recurses := true, apart := false, narrowed := true }
def UndoOnceUptoSaid : Prop := undoOnceUptoRow.holds Try.pinned (OpenSpec.upto undoOnceSpec)

/-- 'humuslaw14.UndoChains', WHERE WHAT IT READS IS OF BULK AT MOST 1048576: true; the input reads as it did. -/
def undoChainsUptoRow : OpenClaim := { program := "ytpdkeghmpnanpaa", sum := "1ca7f4da8c7cc3a0aa9bd55d48660d65852c70bdabc2e245ecf4fa3b76868d48", func := "humus/humuslaw14.UndoChains", spec := "undoChains", inPlace := ["math.Float64bits", "math.Float64frombits"], unfollowed := true, recurses := true, apart := false, narrowed := true }
def UndoChainsUptoSaid : Prop := undoChainsUptoRow.holds Try.pinned (OpenSpec.upto undoChainsSpec)

end Rows
end Go.Proofs.Ytpdkeghmpnanpaa
