/-
  No cell of these rows narrows 'for every input' (looked for: loops, veiled, ifaces, maps, wideKeys, modest, calm, conditions, laid).
  DERIVED. THE GIVEN ROWS OF THIS SEAT. 4 by the template 'for every input the law returns true; each argument reads behind the call as it read before'; 0 by the template 'total and deterministic' (their statements: YtgjpeeicgkkkbaaTotals.lean).
  GIVEN WITH THE SEED: the statements are not yours to turn. If you find one false, say at which input.
  Laid BY PROGRAM, IN A SANDBOX (cutbox-rows.mjs): the forced cells as the released guide's own fill.sh prints them over the translation 85bf6cc4495a5093… (all of the seat's roots in one cut). By AI agents, Wed Nov 11 2026. No macro, syntax, notation, axiom, sorry.
-/
import Derived.Test.YtgjpeeicgkkkbaaChecked
import GoSem.Claim
import GoSem.ClaimJoined
import GoSem.ClaimMapViews
import Derived.JoinedTies
import Derived.KernelRfl
namespace Go.Proofs.Ytgjpeeicgkkkbaa
/- THE CELL 'sum', in the pinned program and in every row, IS THE sha256 OF THE DUMP (.gsa) THAT YtgjpeeicgkkkbaaProg.lean LOADS. Nothing in Lean hashes anything: it is a label: what it is worth is what the hold of that sum in a sandbox is worth. -/
noncomputable def Try.pinned : Pinned := { name := "ytgjpeeicgkkkbaa", sum := "85bf6cc4495a509325b3dd943137a6a5f85c7f4cbf07e4684164e08ba67302fc", checked := Try.checked }
namespace Rows
def none {H : Type} : Left H := { results := [], args := [] }

/-- 'humuslaw09.UndorecCodes': WHATEVER THE INPUT: true; the input reads as it did. -/
def undorecCodesSpec : ChangeSpec := { name := "undorecCodes", fn := fun _ => fun
  | [d] => { results := [.lit (.bool true)], args := [d] }
  | _ => none }
def undorecCodesRow : OpenClaim := { program := "ytgjpeeicgkkkbaa", sum := "85bf6cc4495a509325b3dd943137a6a5f85c7f4cbf07e4684164e08ba67302fc", func := "humus/humuslaw09.UndorecCodes", spec := "undorecCodes", inPlace := ["math.Float64bits", "math.Float64frombits"], unfollowed := true, recurses := true, apart := false }
def UndorecCodesSaid : Prop := undorecCodesRow.holds Try.pinned (OpenSpec.ofChange undorecCodesSpec)

/-- ITS FALSE NEIGHBOUR: 'it returns false'. Refute it at one input. -/
def undorecCodesWrong : ChangeSpec := { name := "undorecCodes", fn := fun _ => fun
  | [d] => { results := [.lit (.bool false)], args := [d] }
  | _ => none }
def UndorecCodesWrongFalsely : Prop := undorecCodesRow.holds Try.pinned (OpenSpec.ofChange undorecCodesWrong)

/-- 'humuslaw09.UndorecDecodes': WHATEVER THE INPUT: true; the input reads as it did. -/
def undorecDecodesSpec : ChangeSpec := { name := "undorecDecodes", fn := fun _ => fun
  | [d] => { results := [.lit (.bool true)], args := [d] }
  | _ => none }
def undorecDecodesRow : OpenClaim := { program := "ytgjpeeicgkkkbaa", sum := "85bf6cc4495a509325b3dd943137a6a5f85c7f4cbf07e4684164e08ba67302fc", func := "humus/humuslaw09.UndorecDecodes", spec := "undorecDecodes", inPlace := ["math.Float64bits", "math.Float64frombits"], unfollowed := true, recurses := true, apart := false }
def UndorecDecodesSaid : Prop := undorecDecodesRow.holds Try.pinned (OpenSpec.ofChange undorecDecodesSpec)

/-- ITS FALSE NEIGHBOUR: 'it returns false'. Refute it at one input. -/
def undorecDecodesWrong : ChangeSpec := { name := "undorecDecodes", fn := fun _ => fun
  | [d] => { results := [.lit (.bool false)], args := [d] }
  | _ => none }
def UndorecDecodesWrongFalsely : Prop := undorecDecodesRow.holds Try.pinned (OpenSpec.ofChange undorecDecodesWrong)

/-- 'humuslaw09.UndorecSame': WHATEVER THE INPUT: true; the input reads as it did. -/
def undorecSameSpec : ChangeSpec := { name := "undorecSame", fn := fun _ => fun
  | [d1, d2] => { results := [.lit (.bool true)], args := [d1, d2] }
  | _ => none }
def undorecSameRow : OpenClaim := { program := "ytgjpeeicgkkkbaa", sum := "85bf6cc4495a509325b3dd943137a6a5f85c7f4cbf07e4684164e08ba67302fc", func := "humus/humuslaw09.UndorecSame", spec := "undorecSame", inPlace := ["math.Float64bits", "math.Float64frombits"], unfollowed := true, recurses := true, apart := false }
def UndorecSameSaid : Prop := undorecSameRow.holds Try.pinned (OpenSpec.ofChange undorecSameSpec)

/-- ITS FALSE NEIGHBOUR: 'it returns false'. Refute it at one input. -/
def undorecSameWrong : ChangeSpec := { name := "undorecSame", fn := fun _ => fun
  | [d1, d2] => { results := [.lit (.bool false)], args := [d1, d2] }
  | _ => none }
def UndorecSameWrongFalsely : Prop := undorecSameRow.holds Try.pinned (OpenSpec.ofChange undorecSameWrong)

/-- 'humuslaw09.UndorecKinds': WHATEVER THE INPUT: true; the input reads as it did. -/
def undorecKindsSpec : ChangeSpec := { name := "undorecKinds", fn := fun _ => fun
  | [d1, d2] => { results := [.lit (.bool true)], args := [d1, d2] }
  | _ => none }
def undorecKindsRow : OpenClaim := { program := "ytgjpeeicgkkkbaa", sum := "85bf6cc4495a509325b3dd943137a6a5f85c7f4cbf07e4684164e08ba67302fc", func := "humus/humuslaw09.UndorecKinds", spec := "undorecKinds", inPlace := ["math.Float64bits", "math.Float64frombits"], unfollowed := true, recurses := true, apart := false }
def UndorecKindsSaid : Prop := undorecKindsRow.holds Try.pinned (OpenSpec.ofChange undorecKindsSpec)

/-- ITS FALSE NEIGHBOUR: 'it returns false'. Refute it at one input. -/
def undorecKindsWrong : ChangeSpec := { name := "undorecKinds", fn := fun _ => fun
  | [d1, d2] => { results := [.lit (.bool false)], args := [d1, d2] }
  | _ => none }
def UndorecKindsWrongFalsely : Prop := undorecKindsRow.holds Try.pinned (OpenSpec.ofChange undorecKindsWrong)

/- THE SECOND FORM. 'bulk': how many values and letters a reading holds, each counted each time it is reached (what is shared counts as often as it is met; a slice's spare places count too). A statement '..UptoSaid' is the law's where the arguments, and the package variables that the reading takes, are together of bulk at most 1048576: NARROWER than '..Said'. Prove '..Said' where nothing that the law and all that it calls make is longer than what came in: it says more and counts as full. Else prove '..UptoSaid'. A law counts once. -/
mutual
def uptoBulk {H : Type} : DataW H → Nat
  | .lit (.string bytes) => bytes.length + 1
  | .lit _ => 1
  | .nil => 1
  | .ptr d => uptoBulk d + 1
  | .slice elems spare => uptoBulkAll elems + uptoBulkAll spare + 1
  | .agg parts => uptoBulkAll parts + 1
  | .iface _ d => uptoBulk d + 1
  | .map entries => uptoBulkEntries entries + 1
  | .held _ => 1
def uptoBulkAll {H : Type} : List (DataW H) → Nat
  | [] => 0
  | d :: r => uptoBulk d + uptoBulkAll r
def uptoBulkEntries {H : Type} : List (Lit × DataW H) → Nat
  | [] => 0
  | x :: r => uptoBulkEntry x + uptoBulkEntries r
def uptoBulkEntry {H : Type} : Lit × DataW H → Nat
  | (.string bytes, d) => bytes.length + uptoBulk d + 1
  | (_, d) => uptoBulk d + 1
 end
def uptoSmall : (H : Type) → List (DataW H) → Bool := fun _ ds => decide (uptoBulkAll ds ≤ 1048576)
def OpenSpec.upto (s : _root_.Go.ChangeSpec) : _root_.Go.OpenSpec := { _root_.Go.OpenSpec.ofChange s with cond := some uptoSmall }

/-- 'humuslaw09.UndorecCodes', WHERE WHAT IT READS IS OF BULK AT MOST 1048576: true; the input reads as it did. -/
def undorecCodesUptoRow : OpenClaim := { program := "ytgjpeeicgkkkbaa", sum := "85bf6cc4495a509325b3dd943137a6a5f85c7f4cbf07e4684164e08ba67302fc", func := "humus/humuslaw09.UndorecCodes", spec := "undorecCodes", inPlace := ["math.Float64bits", "math.Float64frombits"], unfollowed := true, recurses := true, apart := false, narrowed := true }
def UndorecCodesUptoSaid : Prop := undorecCodesUptoRow.holds Try.pinned (OpenSpec.upto undorecCodesSpec)

/-- 'humuslaw09.UndorecDecodes', WHERE WHAT IT READS IS OF BULK AT MOST 1048576: true; the input reads as it did. -/
def undorecDecodesUptoRow : OpenClaim := { program := "ytgjpeeicgkkkbaa", sum := "85bf6cc4495a509325b3dd943137a6a5f85c7f4cbf07e4684164e08ba67302fc", func := "humus/humuslaw09.UndorecDecodes", spec := "undorecDecodes", inPlace := ["math.Float64bits", "math.Float64frombits"], unfollowed := true, recurses := true, apart := false, narrowed := true }
def UndorecDecodesUptoSaid : Prop := undorecDecodesUptoRow.holds Try.pinned (OpenSpec.upto undorecDecodesSpec)

/-- 'humuslaw09.UndorecSame', WHERE WHAT IT READS IS OF BULK AT MOST 1048576: true; the input reads as it did. -/
def undorecSameUptoRow : OpenClaim := { program := "ytgjpeeicgkkkbaa", sum := "85bf6cc4495a509325b3dd943137a6a5f85c7f4cbf07e4684164e08ba67302fc", func := "humus/humuslaw09.UndorecSame", spec := "undorecSame", inPlace := ["math.Float64bits", "math.Float64frombits"], unfollowed := true, recurses := true, apart := false, narrowed := true }
def UndorecSameUptoSaid : Prop := undorecSameUptoRow.holds Try.pinned (OpenSpec.upto undorecSameSpec)

/-- 'humuslaw09.UndorecKinds', WHERE WHAT IT READS IS OF BULK AT MOST 1048576: true; the input reads as it did. -/
def undorecKindsUptoRow : OpenClaim := { program := "ytgjpeeicgkkkbaa", sum := "85bf6cc4495a509325b3dd943137a6a5f85c7f4cbf07e4684164e08ba67302fc", func := "humus/humuslaw09.UndorecKinds", spec := "undorecKinds", inPlace := ["math.Float64bits", "math.Float64frombits"], unfollowed := true, recurses := true, apart := false, narrowed := true }
def UndorecKindsUptoSaid : Prop := undorecKindsUptoRow.holds Try.pinned (OpenSpec.upto undorecKindsSpec)

end Rows
end Go.Proofs.Ytgjpeeicgkkkbaa
