/-
  No cell of these rows narrows 'for every input' (looked for: loops, veiled, ifaces, maps, wideKeys, modest, calm, conditions, laid).
  DERIVED. THE GIVEN ROWS OF THIS SEAT. 4 by the template 'for every input the law returns true; each argument reads behind the call as it read before'; 0 by the template 'total and deterministic' (their statements: YtjoapceffgibcaaTotals.lean).
  GIVEN WITH THE SEED: the statements are not yours to turn. If you find one false, say at which input.
  Laid BY PROGRAM, IN A SANDBOX (cutbox-rows.mjs): the forced cells as the released guide's own fill.sh prints them over the translation 7fbe38c92fcc5aa5… (all of the seat's roots in one cut). By AI agents, Wed Nov 11 2026. No macro, syntax, notation, axiom, sorry.
-/
import Derived.Test.YtjoapceffgibcaaChecked
import GoSem.Claim
import GoSem.ClaimJoined
import GoSem.ClaimMapViews
import Derived.JoinedTies
import Derived.KernelRfl
namespace Go.Proofs.Ytjoapceffgibcaa
/- THE CELL 'sum', in the pinned program and in every row, IS THE sha256 OF THE DUMP (.gsa) THAT YtjoapceffgibcaaProg.lean LOADS. Nothing in Lean hashes anything: it is a label: what it is worth is what the hold of that sum in a sandbox is worth. -/
noncomputable def Try.pinned : Pinned := { name := "ytjoapceffgibcaa", sum := "7fbe38c92fcc5aa5e8d89b0811e8a8862e224e9e433ec0717f01e85ef86b2053", checked := Try.checked }
namespace Rows
def none {H : Type} : Left H := { results := [], args := [] }

/-- 'humuslaw02.TallySums': WHATEVER THE INPUT: true; the input reads as it did. -/
def tallySumsSpec : ChangeSpec := { name := "tallySums", fn := fun _ => fun
  | [d1, d2] => { results := [.lit (.bool true)], args := [d1, d2] }
  | _ => none }
def tallySumsRow : OpenClaim := { program := "ytjoapceffgibcaa", sum := "7fbe38c92fcc5aa5e8d89b0811e8a8862e224e9e433ec0717f01e85ef86b2053", func := "humus/humuslaw02.TallySums", spec := "tallySums", apart := false }
def TallySumsSaid : Prop := tallySumsRow.holds Try.pinned (OpenSpec.ofChange tallySumsSpec)

/-- ITS FALSE NEIGHBOUR: 'it returns false'. Refute it at one input. -/
def tallySumsWrong : ChangeSpec := { name := "tallySums", fn := fun _ => fun
  | [d1, d2] => { results := [.lit (.bool false)], args := [d1, d2] }
  | _ => none }
def TallySumsWrongFalsely : Prop := tallySumsRow.holds Try.pinned (OpenSpec.ofChange tallySumsWrong)

/-- 'humuslaw02.TallyOpens': WHATEVER THE INPUT: true; the input reads as it did. -/
def tallyOpensSpec : ChangeSpec := { name := "tallyOpens", fn := fun _ => fun
  | [d] => { results := [.lit (.bool true)], args := [d] }
  | _ => none }
def tallyOpensRow : OpenClaim := { program := "ytjoapceffgibcaa", sum := "7fbe38c92fcc5aa5e8d89b0811e8a8862e224e9e433ec0717f01e85ef86b2053", func := "humus/humuslaw02.TallyOpens", spec := "tallyOpens", apart := false }
def TallyOpensSaid : Prop := tallyOpensRow.holds Try.pinned (OpenSpec.ofChange tallyOpensSpec)

/-- ITS FALSE NEIGHBOUR: 'it returns false'. Refute it at one input. -/
def tallyOpensWrong : ChangeSpec := { name := "tallyOpens", fn := fun _ => fun
  | [d] => { results := [.lit (.bool false)], args := [d] }
  | _ => none }
def TallyOpensWrongFalsely : Prop := tallyOpensRow.holds Try.pinned (OpenSpec.ofChange tallyOpensWrong)

/-- 'humuslaw02.TallyBursts': WHATEVER THE INPUT: true; the input reads as it did. -/
def tallyBurstsSpec : ChangeSpec := { name := "tallyBursts", fn := fun _ => fun
  | [d1, d2, d3] => { results := [.lit (.bool true)], args := [d1, d2, d3] }
  | _ => none }
def tallyBurstsRow : OpenClaim := { program := "ytjoapceffgibcaa", sum := "7fbe38c92fcc5aa5e8d89b0811e8a8862e224e9e433ec0717f01e85ef86b2053", func := "humus/humuslaw02.TallyBursts", spec := "tallyBursts", apart := false }
def TallyBurstsSaid : Prop := tallyBurstsRow.holds Try.pinned (OpenSpec.ofChange tallyBurstsSpec)

/-- ITS FALSE NEIGHBOUR: 'it returns false'. Refute it at one input. -/
def tallyBurstsWrong : ChangeSpec := { name := "tallyBursts", fn := fun _ => fun
  | [d1, d2, d3] => { results := [.lit (.bool false)], args := [d1, d2, d3] }
  | _ => none }
def TallyBurstsWrongFalsely : Prop := tallyBurstsRow.holds Try.pinned (OpenSpec.ofChange tallyBurstsWrong)

/-- 'humuslaw02.TallyTurns': WHATEVER THE INPUT: true; the input reads as it did. -/
def tallyTurnsSpec : ChangeSpec := { name := "tallyTurns", fn := fun _ => fun
  | [d1, d2, d3] => { results := [.lit (.bool true)], args := [d1, d2, d3] }
  | _ => none }
def tallyTurnsRow : OpenClaim := { program := "ytjoapceffgibcaa", sum := "7fbe38c92fcc5aa5e8d89b0811e8a8862e224e9e433ec0717f01e85ef86b2053", func := "humus/humuslaw02.TallyTurns", spec := "tallyTurns", apart := false }
def TallyTurnsSaid : Prop := tallyTurnsRow.holds Try.pinned (OpenSpec.ofChange tallyTurnsSpec)

/-- ITS FALSE NEIGHBOUR: 'it returns false'. Refute it at one input. -/
def tallyTurnsWrong : ChangeSpec := { name := "tallyTurns", fn := fun _ => fun
  | [d1, d2, d3] => { results := [.lit (.bool false)], args := [d1, d2, d3] }
  | _ => none }
def TallyTurnsWrongFalsely : Prop := tallyTurnsRow.holds Try.pinned (OpenSpec.ofChange tallyTurnsWrong)

/- THE SECOND FORM. 'bulk': how many values and letters a reading holds, each counted each time it is reached (what is shared counts as often as it is met; a slice's spare places count too). A statement '..UptoSaid' is the law's where the arguments, and the package variables that the reading takes, are together of bulk at most 1048576: NARROWER than '..Said'. Prove '..Said' where nothing that the law and all that it calls make is longer than what came in: it says more and counts as full. Else prove '..UptoSaid'. A law counts once. -/
mutual
def uptoBulk {H : Type} : DataW H → Nat
  | .lit (.string bytes) => bytes.length + 1
  | .lit _ => 1
  | .nil => 1
  | .ptr d => uptoBulk d + 1
  | .slice elems spare => uptoBulkAll elems + uptoBulkAll spare + 1
  | .agg parts => uptoBulkAll parts + 1
  | .iface _ d => uptoBulk d + 1
  | .map entries => uptoBulkEntries entries + 1
  | .held _ => 1
def uptoBulkAll {H : Type} : List (DataW H) → Nat
  | [] => 0
  | d :: r => uptoBulk d + uptoBulkAll r
def uptoBulkEntries {H : Type} : List (Lit × DataW H) → Nat
  | [] => 0
  | x :: r => uptoBulkEntry x + uptoBulkEntries r
def uptoBulkEntry {H : Type} : Lit × DataW H → Nat
  | (.string bytes, d) => bytes.length + uptoBulk d + 1
  | (_, d) => uptoBulk d + 1
 end
def uptoSmall : (H : Type) → List (DataW H) → Bool := fun _ ds => decide (uptoBulkAll ds ≤ 1048576)
def OpenSpec.upto (s : _root_.Go.ChangeSpec) : _root_.Go.OpenSpec := { _root_.Go.OpenSpec.ofChange s with cond := some uptoSmall }

/-- 'humuslaw02.TallySums', WHERE WHAT IT READS IS OF BULK AT MOST 1048576: true; the input reads as it did. -/
def tallySumsUptoRow : OpenClaim := { program := "ytjoapceffgibcaa", sum := "7fbe38c92fcc5aa5e8d89b0811e8a8862e224e9e433ec0717f01e85ef86b2053", func := "humus/humuslaw02.TallySums", spec := "tallySums", apart := false, narrowed := true }
def TallySumsUptoSaid : Prop := tallySumsUptoRow.holds Try.pinned (OpenSpec.upto tallySumsSpec)

/-- 'humuslaw02.TallyOpens', WHERE WHAT IT READS IS OF BULK AT MOST 1048576: true; the input reads as it did. -/
def tallyOpensUptoRow : OpenClaim := { program := "ytjoapceffgibcaa", sum := "7fbe38c92fcc5aa5e8d89b0811e8a8862e224e9e433ec0717f01e85ef86b2053", func := "humus/humuslaw02.TallyOpens", spec := "tallyOpens", apart := false, narrowed := true }
def TallyOpensUptoSaid : Prop := tallyOpensUptoRow.holds Try.pinned (OpenSpec.upto tallyOpensSpec)

/-- 'humuslaw02.TallyBursts', WHERE WHAT IT READS IS OF BULK AT MOST 1048576: true; the input reads as it did. -/
def tallyBurstsUptoRow : OpenClaim := { program := "ytjoapceffgibcaa", sum := "7fbe38c92fcc5aa5e8d89b0811e8a8862e224e9e433ec0717f01e85ef86b2053", func := "humus/humuslaw02.TallyBursts", spec := "tallyBursts", apart := false, narrowed := true }
def TallyBurstsUptoSaid : Prop := tallyBurstsUptoRow.holds Try.pinned (OpenSpec.upto tallyBurstsSpec)

/-- 'humuslaw02.TallyTurns', WHERE WHAT IT READS IS OF BULK AT MOST 1048576: true; the input reads as it did. -/
def tallyTurnsUptoRow : OpenClaim := { program := "ytjoapceffgibcaa", sum := "7fbe38c92fcc5aa5e8d89b0811e8a8862e224e9e433ec0717f01e85ef86b2053", func := "humus/humuslaw02.TallyTurns", spec := "tallyTurns", apart := false, narrowed := true }
def TallyTurnsUptoSaid : Prop := tallyTurnsUptoRow.holds Try.pinned (OpenSpec.upto tallyTurnsSpec)

end Rows
end Go.Proofs.Ytjoapceffgibcaa
