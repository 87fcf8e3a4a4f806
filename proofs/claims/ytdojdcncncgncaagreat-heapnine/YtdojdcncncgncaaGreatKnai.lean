/-
  Lemmas.
-/
import Derived.Test.YtdojdcncncgncaaGreatKnah
import Derived.Test.YtdojdcncncgncaaGreatKnaa
namespace Go.Proofs.YtdojdcncncgncaaGreat
open Go.RowKit
set_option linter.unusedVariables false
set_option maxRecDepth 100000
set_option maxHeartbeats 4000000
theorem ZkF (a b : Nat) (x y : Operand) (h : a + b ≤ 9223372036854775807) (w : World) : (do eqGuard .add 3 x y (.int .i64 (a : Nat)) (.int .i64 (b : Nat)); binOp .add 3 (.int .i64 (a : Nat)) (.int .i64 (b : Nat)) : Sem Value).run Tryz.prog w = .ok (.int .i64 ((a + b : Nat) : Int)) w := by
 have e : IntKind.i64.wrap ((a : Int) + (b : Int)) = ((a + b : Nat) : Int) := by rw [IntKind.wrap_i64]; omega
 simp [go_sem, eqGuard, e]
theorem ZgF : noS.toList = [] := by unfold noS; rw [ByteArray.toList_eq]
theorem OwnsI.lower {w:World}{b b':Nat}{v:Value}{l:List It}(h:OwnsI w b v l)(hb:b'≤b):OwnsI w b' v l:=by
 refine⟨h.1,?_⟩
 rcases h.2 with hn | ⟨g,cap,cur,hv,hbg,rest⟩
 · exact .inl hn
 · exact .inr ⟨g,cap,cur,hv,Nat.le_trans hb hbg,rest⟩
end Go.Proofs.YtdojdcncncgncaaGreat
