/-
  No cell of these rows narrows 'for every input' (looked for: loops, veiled, ifaces, maps, wideKeys, modest, calm, conditions, laid).
  DERIVED. THE GIVEN ROWS OF THIS SEAT. 4 by the template 'for every input the law returns true; each argument reads behind the call as it read before'; 0 by the template 'total and deterministic' (their statements: YtiecfcjlhldhdaaGreatTotals.lean).
  GIVEN WITH THE SEED: the statements are not yours to turn. If you find one false, say at which input.
  Laid BY PROGRAM, IN A SANDBOX (cutbox-rows.mjs): the forced cells as the released guide's own fill.sh prints them over the translation 73ef9fee46e3f6a5… (all of the seat's roots in one cut). By AI agents, Wed Nov 11 2026. No macro, syntax, notation, axiom, sorry.
-/
import Derived.Test.YtiecfcjlhldhdaaGreatChecked
import GoSem.Claim
import GoSem.ClaimJoined
import GoSem.ClaimMapViews
import Derived.JoinedTies
import Derived.KernelRfl
namespace Go.Proofs.YtiecfcjlhldhdaaGreat
/- THE CELL 'sum', in the pinned program and in every row, IS THE sha256 OF THE DUMP (.gsa) THAT YtiecfcjlhldhdaaGreatProg.lean LOADS. Nothing in Lean hashes anything: it is a label: what it is worth is what the hold of that sum in a sandbox is worth. -/
noncomputable def Tryz.pinned : Pinned := { name := "ytiecfcjlhldhdaagreat", sum := "73ef9fee46e3f6a5215b82a940c74883d3e0e8091df64d0283a8ed736bda9bfc", checked := Tryz.checked }
namespace Rows
def none {H : Type} : Left H := { results := [], args := [] }

/-- 'humuslaw17.VersionReads': WHATEVER THE INPUT: true; the input reads as it did. -/
def versionReadsSpec : ChangeSpec := { name := "versionReads", fn := fun _ => fun
  | [d1, d2, d3] => { results := [.lit (.bool true)], args := [d1, d2, d3] }
  | _ => none }
def versionReadsRow : OpenClaim := { program := "ytiecfcjlhldhdaagreat", sum := "73ef9fee46e3f6a5215b82a940c74883d3e0e8091df64d0283a8ed736bda9bfc", func := "humus/humuslaw17.VersionReads", spec := "versionReads", inPlace := ["math.Float64frombits", "math.Float64bits"], unfollowed := true, recurses := true, apart := false }
def VersionReadsSaid : Prop := versionReadsRow.holds Tryz.pinned (OpenSpec.ofChange versionReadsSpec)

/-- ITS FALSE NEIGHBOUR: 'it returns false'. Refute it at one input. -/
def versionReadsWrong : ChangeSpec := { name := "versionReads", fn := fun _ => fun
  | [d1, d2, d3] => { results := [.lit (.bool false)], args := [d1, d2, d3] }
  | _ => none }
def VersionReadsWrongFalsely : Prop := versionReadsRow.holds Tryz.pinned (OpenSpec.ofChange versionReadsWrong)

/-- 'humuslaw17.VersionScans': WHATEVER THE INPUT: true; the input reads as it did. -/
def versionScansSpec : ChangeSpec := { name := "versionScans", fn := fun _ => fun
  | [d1, d2, d3] => { results := [.lit (.bool true)], args := [d1, d2, d3] }
  | _ => none }
def versionScansRow : OpenClaim := { program := "ytiecfcjlhldhdaagreat", sum := "73ef9fee46e3f6a5215b82a940c74883d3e0e8091df64d0283a8ed736bda9bfc", func := "humus/humuslaw17.VersionScans", spec := "versionScans", inPlace := ["math.Float64frombits", "math.Float64bits"], unfollowed := true, recurses := true, apart := false }
def VersionScansSaid : Prop := versionScansRow.holds Tryz.pinned (OpenSpec.ofChange versionScansSpec)

/-- ITS FALSE NEIGHBOUR: 'it returns false'. Refute it at one input. -/
def versionScansWrong : ChangeSpec := { name := "versionScans", fn := fun _ => fun
  | [d1, d2, d3] => { results := [.lit (.bool false)], args := [d1, d2, d3] }
  | _ => none }
def VersionScansWrongFalsely : Prop := versionScansRow.holds Tryz.pinned (OpenSpec.ofChange versionScansWrong)

/-- 'humuslaw17.VersionEach': WHATEVER THE INPUT: true; the input reads as it did. -/
def versionEachSpec : ChangeSpec := { name := "versionEach", fn := fun _ => fun
  | [d1, d2, d3] => { results := [.lit (.bool true)], args := [d1, d2, d3] }
  | _ => none }
def versionEachRow : OpenClaim := { program := "ytiecfcjlhldhdaagreat", sum := "73ef9fee46e3f6a5215b82a940c74883d3e0e8091df64d0283a8ed736bda9bfc", func := "humus/humuslaw17.VersionEach", spec := "versionEach", inPlace := ["math.Float64bits", "math.Float64frombits"], unfollowed := true, recurses := true, apart := false }
def VersionEachSaid : Prop := versionEachRow.holds Tryz.pinned (OpenSpec.ofChange versionEachSpec)

/-- ITS FALSE NEIGHBOUR: 'it returns false'. Refute it at one input. -/
def versionEachWrong : ChangeSpec := { name := "versionEach", fn := fun _ => fun
  | [d1, d2, d3] => { results := [.lit (.bool false)], args := [d1, d2, d3] }
  | _ => none }
def VersionEachWrongFalsely : Prop := versionEachRow.holds Tryz.pinned (OpenSpec.ofChange versionEachWrong)

/-- 'humuslaw17.VersionOwn': WHATEVER THE INPUT: true; the input reads as it did. -/
def versionOwnSpec : ChangeSpec := { name := "versionOwn", fn := fun _ => fun
  | [d1, d2, d3] => { results := [.lit (.bool true)], args := [d1, d2, d3] }
  | _ => none }
def versionOwnRow : OpenClaim := { program := "ytiecfcjlhldhdaagreat", sum := "73ef9fee46e3f6a5215b82a940c74883d3e0e8091df64d0283a8ed736bda9bfc", func := "humus/humuslaw17.VersionOwn", spec := "versionOwn", inPlace := ["math.Float64bits", "math.Float64frombits"], unfollowed := true, recurses := true, apart := false }
def VersionOwnSaid : Prop := versionOwnRow.holds Tryz.pinned (OpenSpec.ofChange versionOwnSpec)

/-- ITS FALSE NEIGHBOUR: 'it returns false'. Refute it at one input. -/
def versionOwnWrong : ChangeSpec := { name := "versionOwn", fn := fun _ => fun
  | [d1, d2, d3] => { results := [.lit (.bool false)], args := [d1, d2, d3] }
  | _ => none }
def VersionOwnWrongFalsely : Prop := versionOwnRow.holds Tryz.pinned (OpenSpec.ofChange versionOwnWrong)

/- THE SECOND FORM. 'bulk': how many values and letters a reading holds, each counted each time it is reached (what is shared counts as often as it is met; a slice's spare places count too). A statement '..UptoSaid' is the law's where the arguments, and the package variables that the reading takes, are together of bulk at most 1048576: NARROWER than '..Said'. Prove '..Said' where nothing that the law and all that it calls make is longer than what came in: it says more and counts as full. Else prove '..UptoSaid'. A law counts once. -/
mutual
def uptoBulk {H : Type} : DataW H → Nat
  | .lit (.string bytes) => bytes.length + 1
  | .lit _ => 1
  | .nil => 1
  | .ptr d => uptoBulk d + 1
  | .slice elems spare => uptoBulkAll elems + uptoBulkAll spare + 1
  | .agg parts => uptoBulkAll parts + 1
  | .iface _ d => uptoBulk d + 1
  | .map entries => uptoBulkEntries entries + 1
  | .held _ => 1
def uptoBulkAll {H : Type} : List (DataW H) → Nat
  | [] => 0
  | d :: r => uptoBulk d + uptoBulkAll r
def uptoBulkEntries {H : Type} : List (Lit × DataW H) → Nat
  | [] => 0
  | x :: r => uptoBulkEntry x + uptoBulkEntries r
def uptoBulkEntry {H : Type} : Lit × DataW H → Nat
  | (.string bytes, d) => bytes.length + uptoBulk d + 1
  | (_, d) => uptoBulk d + 1
 end
def uptoSmall : (H : Type) → List (DataW H) → Bool := fun _ ds => decide (uptoBulkAll ds ≤ 1048576)
def OpenSpec.upto (s : _root_.Go.ChangeSpec) : _root_.Go.OpenSpec := { _root_.Go.OpenSpec.ofChange s with cond := some uptoSmall }

/-- 'humuslaw17.VersionReads', WHERE WHAT IT READS IS OF BULK AT MOST 1048576: true; the input reads as it did. -/
def versionReadsUptoRow : OpenClaim := { program := "ytiecfcjlhldhdaagreat", sum := "73ef9fee46e3f6a5215b82a940c74883d3e0e8091df64d0283a8ed736bda9bfc", func := "humus/humuslaw17.VersionReads", spec := "versionReads", inPlace := ["math.Float64frombits", "math.Float64bits"], unfollowed := true, recurses := true, apart := false, narrowed := true }
def VersionReadsUptoSaid : Prop := versionReadsUptoRow.holds Tryz.pinned (OpenSpec.upto versionReadsSpec)

/-- 'humuslaw17.VersionScans', WHERE WHAT IT READS IS OF BULK AT MOST 1048576: true; the input reads as it did. -/
def versionScansUptoRow : OpenClaim := { program := "ytiecfcjlhldhdaagreat", sum := "73ef9fee46e3f6a5215b82a940c74883d3e0e8091df64d0283a8ed736bda9bfc", func := "humus/humuslaw17.VersionScans", spec := "versionScans", inPlace := ["math.Float64frombits", "math.Float64bits"], unfollowed := true, recurses := true, apart := false, narrowed := true }
def VersionScansUptoSaid : Prop := versionScansUptoRow.holds Tryz.pinned (OpenSpec.upto versionScansSpec)

/-- 'humuslaw17.VersionEach', WHERE WHAT IT READS IS OF BULK AT MOST 1048576: true; the input reads as it did. -/
def versionEachUptoRow : OpenClaim := { program := "ytiecfcjlhldhdaagreat", sum := "73ef9fee46e3f6a5215b82a940c74883d3e0e8091df64d0283a8ed736bda9bfc", func := "humus/humuslaw17.VersionEach", spec := "versionEach", inPlace := ["math.Float64bits", "math.Float64frombits"], unfollowed := true, recurses := true, apart := false, narrowed := true }
def VersionEachUptoSaid : Prop := versionEachUptoRow.holds Tryz.pinned (OpenSpec.upto versionEachSpec)

/-- 'humuslaw17.VersionOwn', WHERE WHAT IT READS IS OF BULK AT MOST 1048576: true; the input reads as it did. -/
def versionOwnUptoRow : OpenClaim := { program := "ytiecfcjlhldhdaagreat", sum := "73ef9fee46e3f6a5215b82a940c74883d3e0e8091df64d0283a8ed736bda9bfc", func := "humus/humuslaw17.VersionOwn", spec := "versionOwn", inPlace := ["math.Float64bits", "math.Float64frombits"], unfollowed := true, recurses := true, apart := false, narrowed := true }
def VersionOwnUptoSaid : Prop := versionOwnUptoRow.holds Tryz.pinned (OpenSpec.upto versionOwnSpec)

end Rows
end Go.Proofs.YtiecfcjlhldhdaaGreat
