/-
  Lemmas.
-/
import Derived.Test.YtpnlebpnhmibfaaGreatRd
namespace Go.Proofs.YtpnlebpnhmibfaaGreat
open Go.RowKit
set_option linter.unusedVariables false
set_option maxRecDepth 100000
set_option maxHeartbeats 4000000
namespace Ap
variable {α : Type} (p : α → Int)
end Ap
section
variable {ops : Array Oper} {rest : List Oper} {o : Oper} {a : Act} {Q : Exit → Act → World → Prop}
end
end Go.Proofs.YtpnlebpnhmibfaaGreat
