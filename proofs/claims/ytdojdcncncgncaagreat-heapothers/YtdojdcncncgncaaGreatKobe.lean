/-
  Lemmas.
-/
import Derived.Test.YtdojdcncncgncaaGreatKobd
namespace Go.Proofs.YtdojdcncncgncaaGreat
open Go.RowKit
set_option linter.unusedVariables false
set_option maxRecDepth 100000
set_option maxHeartbeats 4000000
end Go.Proofs.YtdojdcncncgncaaGreat
