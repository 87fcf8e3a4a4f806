/-
  No cell of these rows narrows 'for every input' (looked for: loops, veiled, ifaces, maps, wideKeys, modest, calm, conditions, laid).
  DERIVED. THE GIVEN ROWS OF THIS SEAT. 4 by the template 'for every input the law returns true; each argument reads behind the call as it read before'; 0 by the template 'total and deterministic' (their statements: YtpnlebpnhmibfaaGreatTotals.lean).
  GIVEN WITH THE SEED: the statements are not yours to turn. If you find one false, say at which input.
  Laid BY PROGRAM, IN A SANDBOX (cutbox-rows.mjs): the forced cells as the released guide's own fill.sh prints them over the translation 0312035606e9c27d… (all of the seat's roots in one cut). By AI agents, Wed Nov 11 2026. No macro, syntax, notation, axiom, sorry.
-/
import Derived.Test.YtpnlebpnhmibfaaGreatChecked
import GoSem.Claim
import GoSem.ClaimJoined
import GoSem.ClaimMapViews
import Derived.JoinedTies
import Derived.KernelRfl
namespace Go.Proofs.YtpnlebpnhmibfaaGreat
/- THE CELL 'sum', in the pinned program and in every row, IS THE sha256 OF THE DUMP (.gsa) THAT YtpnlebpnhmibfaaGreatProg.lean LOADS. Nothing in Lean hashes anything: it is a label: what it is worth is what the hold of that sum in a sandbox is worth. -/
noncomputable def Tryz.pinned : Pinned := { name := "ytpnlebpnhmibfaagreat", sum := "0312035606e9c27da29feab28d7240d112557119dad14257f3ca5eecbff952cb", checked := Tryz.checked }
namespace Rows
def none {H : Type} : Left H := { results := [], args := [] }

/-- 'humuslaw13.MtrActs': WHATEVER THE INPUT: true; the input reads as it did. -/
def mtrActsSpec : ChangeSpec := { name := "mtrActs", fn := fun _ => fun
  | [d1, d2, d3] => { results := [.lit (.bool true)], args := [d1, d2, d3] }
  | _ => none }
def mtrActsRow : OpenClaim := { program := "ytpnlebpnhmibfaagreat", sum := "0312035606e9c27da29feab28d7240d112557119dad14257f3ca5eecbff952cb", func := "humus/humuslaw13.MtrActs", spec := "mtrActs", unfollowed := true, recurses := true, apart := false }
def MtrActsSaid : Prop := mtrActsRow.holds Tryz.pinned (OpenSpec.ofChange mtrActsSpec)

/-- ITS FALSE NEIGHBOUR: 'it returns false'. Refute it at one input. -/
def mtrActsWrong : ChangeSpec := { name := "mtrActs", fn := fun _ => fun
  | [d1, d2, d3] => { results := [.lit (.bool false)], args := [d1, d2, d3] }
  | _ => none }
def MtrActsWrongFalsely : Prop := mtrActsRow.holds Tryz.pinned (OpenSpec.ofChange mtrActsWrong)

/-- 'humuslaw13.MtrWhole': WHATEVER THE INPUT: true; the input reads as it did. -/
def mtrWholeSpec : ChangeSpec := { name := "mtrWhole", fn := fun _ => fun
  | [d1, d2, d3] => { results := [.lit (.bool true)], args := [d1, d2, d3] }
  | _ => none }
def mtrWholeRow : OpenClaim := { program := "ytpnlebpnhmibfaagreat", sum := "0312035606e9c27da29feab28d7240d112557119dad14257f3ca5eecbff952cb", func := "humus/humuslaw13.MtrWhole", spec := "mtrWhole", unfollowed := true, recurses := true, apart := false }
def MtrWholeSaid : Prop := mtrWholeRow.holds Tryz.pinned (OpenSpec.ofChange mtrWholeSpec)

/-- ITS FALSE NEIGHBOUR: 'it returns false'. Refute it at one input. -/
def mtrWholeWrong : ChangeSpec := { name := "mtrWhole", fn := fun _ => fun
  | [d1, d2, d3] => { results := [.lit (.bool false)], args := [d1, d2, d3] }
  | _ => none }
def MtrWholeWrongFalsely : Prop := mtrWholeRow.holds Tryz.pinned (OpenSpec.ofChange mtrWholeWrong)

/-- 'humuslaw13.MtrNobody': WHATEVER THE INPUT: true; the input reads as it did. -/
def mtrNobodySpec : ChangeSpec := { name := "mtrNobody", fn := fun _ => fun
  | [d] => { results := [.lit (.bool true)], args := [d] }
  | _ => none }
def mtrNobodyRow : OpenClaim := { program := "ytpnlebpnhmibfaagreat", sum := "0312035606e9c27da29feab28d7240d112557119dad14257f3ca5eecbff952cb", func := "humus/humuslaw13.MtrNobody", spec := "mtrNobody", unfollowed := true, recurses := true, apart := false }
def MtrNobodySaid : Prop := mtrNobodyRow.holds Tryz.pinned (OpenSpec.ofChange mtrNobodySpec)

/-- ITS FALSE NEIGHBOUR: 'it returns false'. Refute it at one input. -/
def mtrNobodyWrong : ChangeSpec := { name := "mtrNobody", fn := fun _ => fun
  | [d] => { results := [.lit (.bool false)], args := [d] }
  | _ => none }
def MtrNobodyWrongFalsely : Prop := mtrNobodyRow.holds Tryz.pinned (OpenSpec.ofChange mtrNobodyWrong)

/-- 'humuslaw13.MtrLast': WHATEVER THE INPUT: true; the input reads as it did. -/
def mtrLastSpec : ChangeSpec := { name := "mtrLast", fn := fun _ => fun
  | [d1, d2] => { results := [.lit (.bool true)], args := [d1, d2] }
  | _ => none }
def mtrLastRow : OpenClaim := { program := "ytpnlebpnhmibfaagreat", sum := "0312035606e9c27da29feab28d7240d112557119dad14257f3ca5eecbff952cb", func := "humus/humuslaw13.MtrLast", spec := "mtrLast", unfollowed := true, recurses := true, apart := false }
def MtrLastSaid : Prop := mtrLastRow.holds Tryz.pinned (OpenSpec.ofChange mtrLastSpec)

/-- ITS FALSE NEIGHBOUR: 'it returns false'. Refute it at one input. -/
def mtrLastWrong : ChangeSpec := { name := "mtrLast", fn := fun _ => fun
  | [d1, d2] => { results := [.lit (.bool false)], args := [d1, d2] }
  | _ => none }
def MtrLastWrongFalsely : Prop := mtrLastRow.holds Tryz.pinned (OpenSpec.ofChange mtrLastWrong)

/- THE SECOND FORM. 'bulk': how many values and letters a reading holds, each counted each time it is reached (what is shared counts as often as it is met; a slice's spare places count too). A statement '..UptoSaid' is the law's where the arguments, and the package variables that the reading takes, are together of bulk at most 1048576: NARROWER than '..Said'. Prove '..Said' where nothing that the law and all that it calls make is longer than what came in: it says more and counts as full. Else prove '..UptoSaid'. A law counts once. -/
mutual
def uptoBulk {H : Type} : DataW H → Nat
  | .lit (.string bytes) => bytes.length + 1
  | .lit _ => 1
  | .nil => 1
  | .ptr d => uptoBulk d + 1
  | .slice elems spare => uptoBulkAll elems + uptoBulkAll spare + 1
  | .agg parts => uptoBulkAll parts + 1
  | .iface _ d => uptoBulk d + 1
  | .map entries => uptoBulkEntries entries + 1
  | .held _ => 1
def uptoBulkAll {H : Type} : List (DataW H) → Nat
  | [] => 0
  | d :: r => uptoBulk d + uptoBulkAll r
def uptoBulkEntries {H : Type} : List (Lit × DataW H) → Nat
  | [] => 0
  | x :: r => uptoBulkEntry x + uptoBulkEntries r
def uptoBulkEntry {H : Type} : Lit × DataW H → Nat
  | (.string bytes, d) => bytes.length + uptoBulk d + 1
  | (_, d) => uptoBulk d + 1
 end
def uptoSmall : (H : Type) → List (DataW H) → Bool := fun _ ds => decide (uptoBulkAll ds ≤ 1048576)
def OpenSpec.upto (s : _root_.Go.ChangeSpec) : _root_.Go.OpenSpec := { _root_.Go.OpenSpec.ofChange s with cond := some uptoSmall }

/-- 'humuslaw13.MtrActs', WHERE WHAT IT READS IS OF BULK AT MOST 1048576: true; the input reads as it did. -/
def mtrActsUptoRow : OpenClaim := { program := "ytpnlebpnhmibfaagreat", sum := "0312035606e9c27da29feab28d7240d112557119dad14257f3ca5eecbff952cb", func := "humus/humuslaw13.MtrActs", spec := "mtrActs", unfollowed := true, recurses := true, apart := false, narrowed := true }
def MtrActsUptoSaid : Prop := mtrActsUptoRow.holds Tryz.pinned (OpenSpec.upto mtrActsSpec)

/-- 'humuslaw13.MtrWhole', WHERE WHAT IT READS IS OF BULK AT MOST 1048576: true; the input reads as it did. -/
def mtrWholeUptoRow : OpenClaim := { program := "ytpnlebpnhmibfaagreat", sum := "0312035606e9c27da29feab28d7240d112557119dad14257f3ca5eecbff952cb", func := "humus/humuslaw13.MtrWhole", spec := "mtrWhole", unfollowed := true, recurses := true, apart := false, narrowed := true }
def MtrWholeUptoSaid : Prop := mtrWholeUptoRow.holds Tryz.pinned (OpenSpec.upto mtrWholeSpec)

/-- 'humuslaw13.MtrNobody', WHERE WHAT IT READS IS OF BULK AT MOST 1048576: true; the input reads as it did. -/
def mtrNobodyUptoRow : OpenClaim := { program := "ytpnlebpnhmibfaagreat", sum := "0312035606e9c27da29feab28d7240d112557119dad14257f3ca5eecbff952cb", func := "humus/humuslaw13.MtrNobody", spec := "mtrNobody", unfollowed := true, recurses := true, apart := false, narrowed := true }
def MtrNobodyUptoSaid : Prop := mtrNobodyUptoRow.holds Tryz.pinned (OpenSpec.upto mtrNobodySpec)

/-- 'humuslaw13.MtrLast', WHERE WHAT IT READS IS OF BULK AT MOST 1048576: true; the input reads as it did. -/
def mtrLastUptoRow : OpenClaim := { program := "ytpnlebpnhmibfaagreat", sum := "0312035606e9c27da29feab28d7240d112557119dad14257f3ca5eecbff952cb", func := "humus/humuslaw13.MtrLast", spec := "mtrLast", unfollowed := true, recurses := true, apart := false, narrowed := true }
def MtrLastUptoSaid : Prop := mtrLastUptoRow.holds Tryz.pinned (OpenSpec.upto mtrLastSpec)

end Rows
end Go.Proofs.YtpnlebpnhmibfaaGreat
