/-
  No cell of these rows narrows 'for every input' (looked for: loops, veiled, ifaces, maps, wideKeys, modest, calm, conditions, laid).
  DERIVED. THE GIVEN ROWS OF THIS SEAT. 5 by the template 'for every input the law returns true; each argument reads behind the call as it read before'; 0 by the template 'total and deterministic' (their statements: YtgckcalkdojeeaaTotals.lean).
  GIVEN WITH THE SEED: the statements are not yours to turn. If you find one false, say at which input.
  Laid BY PROGRAM, IN A SANDBOX (cutbox-rows.mjs): the forced cells as the released guide's own fill.sh prints them over the translation d12126d55eba38e9… (all of the seat's roots in one cut). By AI agents, Wed Nov 11 2026. No macro, syntax, notation, axiom, sorry.
-/
import Derived.Test.YtgckcalkdojeeaaChecked
import GoSem.Claim
import GoSem.ClaimJoined
import GoSem.ClaimMapViews
import Derived.JoinedTies
import Derived.KernelRfl
namespace Go.Proofs.Ytgckcalkdojeeaa
/- THE CELL 'sum', in the pinned program and in every row, IS THE sha256 OF THE DUMP (.gsa) THAT YtgckcalkdojeeaaProg.lean LOADS. Nothing in Lean hashes anything: it is a label: what it is worth is what the hold of that sum in a sandbox is worth. -/
noncomputable def Try.pinned : Pinned := { name := "ytgckcalkdojeeaa", sum := "d12126d55eba38e91a9359d7f7bb6b4765d4cd5801405937bccd5a17c80edc16", checked := Try.checked }
namespace Rows
def none {H : Type} : Left H := { results := [], args := [] }

/-- 'humuslaw04.RowCodes': WHATEVER THE INPUT: true; the input reads as it did. -/
def rowCodesSpec : ChangeSpec := { name := "rowCodes", fn := fun _ => fun
  | [d] => { results := [.lit (.bool true)], args := [d] }
  | _ => none }
def rowCodesRow : OpenClaim := { program := "ytgckcalkdojeeaa", sum := "d12126d55eba38e91a9359d7f7bb6b4765d4cd5801405937bccd5a17c80edc16", func := "humus/humuslaw04.RowCodes", spec := "rowCodes", inPlace := ["math.Float64frombits", "math.Float64bits"], unfollowed := true, recurses := true, apart := false }
def RowCodesSaid : Prop := rowCodesRow.holds Try.pinned (OpenSpec.ofChange rowCodesSpec)

/-- ITS FALSE NEIGHBOUR: 'it returns false'. Refute it at one input. -/
def rowCodesWrong : ChangeSpec := { name := "rowCodes", fn := fun _ => fun
  | [d] => { results := [.lit (.bool false)], args := [d] }
  | _ => none }
def RowCodesWrongFalsely : Prop := rowCodesRow.holds Try.pinned (OpenSpec.ofChange rowCodesWrong)

/-- 'humuslaw04.RowDecodes': WHATEVER THE INPUT: true; the input reads as it did. -/
def rowDecodesSpec : ChangeSpec := { name := "rowDecodes", fn := fun _ => fun
  | [d] => { results := [.lit (.bool true)], args := [d] }
  | _ => none }
def rowDecodesRow : OpenClaim := { program := "ytgckcalkdojeeaa", sum := "d12126d55eba38e91a9359d7f7bb6b4765d4cd5801405937bccd5a17c80edc16", func := "humus/humuslaw04.RowDecodes", spec := "rowDecodes", inPlace := ["math.Float64frombits", "math.Float64bits"], unfollowed := true, recurses := true, apart := false }
def RowDecodesSaid : Prop := rowDecodesRow.holds Try.pinned (OpenSpec.ofChange rowDecodesSpec)

/-- ITS FALSE NEIGHBOUR: 'it returns false'. Refute it at one input. -/
def rowDecodesWrong : ChangeSpec := { name := "rowDecodes", fn := fun _ => fun
  | [d] => { results := [.lit (.bool false)], args := [d] }
  | _ => none }
def RowDecodesWrongFalsely : Prop := rowDecodesRow.holds Try.pinned (OpenSpec.ofChange rowDecodesWrong)

/-- 'humuslaw04.RowMakes': WHATEVER THE INPUT: true; the input reads as it did. -/
def rowMakesSpec : ChangeSpec := { name := "rowMakes", fn := fun _ => fun
  | [d1, d2, d3] => { results := [.lit (.bool true)], args := [d1, d2, d3] }
  | _ => none }
def rowMakesRow : OpenClaim := { program := "ytgckcalkdojeeaa", sum := "d12126d55eba38e91a9359d7f7bb6b4765d4cd5801405937bccd5a17c80edc16", func := "humus/humuslaw04.RowMakes", spec := "rowMakes", inPlace := ["math.Float64frombits", "math.Float64bits"], unfollowed := true, recurses := true, apart := false }
def RowMakesSaid : Prop := rowMakesRow.holds Try.pinned (OpenSpec.ofChange rowMakesSpec)

/-- ITS FALSE NEIGHBOUR: 'it returns false'. Refute it at one input. -/
def rowMakesWrong : ChangeSpec := { name := "rowMakes", fn := fun _ => fun
  | [d1, d2, d3] => { results := [.lit (.bool false)], args := [d1, d2, d3] }
  | _ => none }
def RowMakesWrongFalsely : Prop := rowMakesRow.holds Try.pinned (OpenSpec.ofChange rowMakesWrong)

/-- 'humuslaw04.RowSame': WHATEVER THE INPUT: true; the input reads as it did. -/
def rowSameSpec : ChangeSpec := { name := "rowSame", fn := fun _ => fun
  | [d1, d2, d3] => { results := [.lit (.bool true)], args := [d1, d2, d3] }
  | _ => none }
def rowSameRow : OpenClaim := { program := "ytgckcalkdojeeaa", sum := "d12126d55eba38e91a9359d7f7bb6b4765d4cd5801405937bccd5a17c80edc16", func := "humus/humuslaw04.RowSame", spec := "rowSame", inPlace := ["math.Float64frombits", "math.Float64bits"], unfollowed := true, recurses := true, apart := false }
def RowSameSaid : Prop := rowSameRow.holds Try.pinned (OpenSpec.ofChange rowSameSpec)

/-- ITS FALSE NEIGHBOUR: 'it returns false'. Refute it at one input. -/
def rowSameWrong : ChangeSpec := { name := "rowSame", fn := fun _ => fun
  | [d1, d2, d3] => { results := [.lit (.bool false)], args := [d1, d2, d3] }
  | _ => none }
def RowSameWrongFalsely : Prop := rowSameRow.holds Try.pinned (OpenSpec.ofChange rowSameWrong)

/-- 'humuslaw04.RowSums': WHATEVER THE INPUT: true; the input reads as it did. -/
def rowSumsSpec : ChangeSpec := { name := "rowSums", fn := fun _ => fun
  | [d1, d2, d3] => { results := [.lit (.bool true)], args := [d1, d2, d3] }
  | _ => none }
def rowSumsRow : OpenClaim := { program := "ytgckcalkdojeeaa", sum := "d12126d55eba38e91a9359d7f7bb6b4765d4cd5801405937bccd5a17c80edc16", func := "humus/humuslaw04.RowSums", spec := "rowSums", inPlace := ["math.Float64bits", "math.Float64frombits"], unfollowed := true, recurses := true, apart := false }
def RowSumsSaid : Prop := rowSumsRow.holds Try.pinned (OpenSpec.ofChange rowSumsSpec)

/-- ITS FALSE NEIGHBOUR: 'it returns false'. Refute it at one input. -/
def rowSumsWrong : ChangeSpec := { name := "rowSums", fn := fun _ => fun
  | [d1, d2, d3] => { results := [.lit (.bool false)], args := [d1, d2, d3] }
  | _ => none }
def RowSumsWrongFalsely : Prop := rowSumsRow.holds Try.pinned (OpenSpec.ofChange rowSumsWrong)

/- THE SECOND FORM. 'bulk': how many values and letters a reading holds, each counted each time it is reached (what is shared counts as often as it is met; a slice's spare places count too). A statement '..UptoSaid' is the law's where the arguments, and the package variables that the reading takes, are together of bulk at most 1048576: NARROWER than '..Said'. Prove '..Said' where nothing that the law and all that it calls make is longer than what came in: it says more and counts as full. Else prove '..UptoSaid'. A law counts once. -/
mutual
def uptoBulk {H : Type} : DataW H → Nat
  | .lit (.string bytes) => bytes.length + 1
  | .lit _ => 1
  | .nil => 1
  | .ptr d => uptoBulk d + 1
  | .slice elems spare => uptoBulkAll elems + uptoBulkAll spare + 1
  | .agg parts => uptoBulkAll parts + 1
  | .iface _ d => uptoBulk d + 1
  | .map entries => uptoBulkEntries entries + 1
  | .held _ => 1
def uptoBulkAll {H : Type} : List (DataW H) → Nat
  | [] => 0
  | d :: r => uptoBulk d + uptoBulkAll r
def uptoBulkEntries {H : Type} : List (Lit × DataW H) → Nat
  | [] => 0
  | x :: r => uptoBulkEntry x + uptoBulkEntries r
def uptoBulkEntry {H : Type} : Lit × DataW H → Nat
  | (.string bytes, d) => bytes.length + uptoBulk d + 1
  | (_, d) => uptoBulk d + 1
 end
def uptoSmall : (H : Type) → List (DataW H) → Bool := fun _ ds => decide (uptoBulkAll ds ≤ 1048576)
def OpenSpec.upto (s : _root_.Go.ChangeSpec) : _root_.Go.OpenSpec := { _root_.Go.OpenSpec.ofChange s with cond := some uptoSmall }

/-- 'humuslaw04.RowCodes', WHERE WHAT IT READS IS OF BULK AT MOST 1048576: true; the input reads as it did. -/
def rowCodesUptoRow : OpenClaim := { program := "ytgckcalkdojeeaa", sum := "d12126d55eba38e91a9359d7f7bb6b4765d4cd5801405937bccd5a17c80edc16", func := "humus/humuslaw04.RowCodes", spec := "rowCodes", inPlace := ["math.Float64frombits", "math.Float64bits"], unfollowed := true, recurses := true, apart := false, narrowed := true }
def RowCodesUptoSaid : Prop := rowCodesUptoRow.holds Try.pinned (OpenSpec.upto rowCodesSpec)

/-- 'humuslaw04.RowDecodes', WHERE WHAT IT READS IS OF BULK AT MOST 1048576: true; the input reads as it did. -/
def rowDecodesUptoRow : OpenClaim := { program := "ytgckcalkdojeeaa", sum := "d12126d55eba38e91a9359d7f7bb6b4765d4cd5801405937bccd5a17c80edc16", func := "humus/humuslaw04.RowDecodes", spec := "rowDecodes", inPlace := ["math.Float64frombits", "math.Float64bits"], unfollowed := true, recurses := true, apart := false, narrowed := true }
def RowDecodesUptoSaid : Prop := rowDecodesUptoRow.holds Try.pinned (OpenSpec.upto rowDecodesSpec)

/-- 'humuslaw04.RowMakes', WHERE WHAT IT READS IS OF BULK AT MOST 1048576: true; the input reads as it did. -/
def rowMakesUptoRow : OpenClaim := { program := "ytgckcalkdojeeaa", sum := "d12126d55eba38e91a9359d7f7bb6b4765d4cd5801405937bccd5a17c80edc16", func := "humus/humuslaw04.RowMakes", spec := "rowMakes", inPlace := ["math.Float64frombits", "math.Float64bits"], unfollowed := true, recurses := true, apart := false, narrowed := true }
def RowMakesUptoSaid : Prop := rowMakesUptoRow.holds Try.pinned (OpenSpec.upto rowMakesSpec)

/-- 'humuslaw04.RowSame', WHERE WHAT IT READS IS OF BULK AT MOST 1048576: true; the input reads as it did. -/
def rowSameUptoRow : OpenClaim := { program := "ytgckcalkdojeeaa", sum := "d12126d55eba38e91a9359d7f7bb6b4765d4cd5801405937bccd5a17c80edc16", func := "humus/humuslaw04.RowSame", spec := "rowSame", inPlace := ["math.Float64frombits", "math.Float64bits"], unfollowed := true, recurses := true, apart := false, narrowed := true }
def RowSameUptoSaid : Prop := rowSameUptoRow.holds Try.pinned (OpenSpec.upto rowSameSpec)

/-- 'humuslaw04.RowSums', WHERE WHAT IT READS IS OF BULK AT MOST 1048576: true; the input reads as it did. -/
def rowSumsUptoRow : OpenClaim := { program := "ytgckcalkdojeeaa", sum := "d12126d55eba38e91a9359d7f7bb6b4765d4cd5801405937bccd5a17c80edc16", func := "humus/humuslaw04.RowSums", spec := "rowSums", inPlace := ["math.Float64bits", "math.Float64frombits"], unfollowed := true, recurses := true, apart := false, narrowed := true }
def RowSumsUptoSaid : Prop := rowSumsUptoRow.holds Try.pinned (OpenSpec.upto rowSumsSpec)

end Rows
end Go.Proofs.Ytgckcalkdojeeaa
