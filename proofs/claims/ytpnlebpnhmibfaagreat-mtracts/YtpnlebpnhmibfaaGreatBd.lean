/-
  Lemmas.
-/
import Derived.Test.YtpnlebpnhmibfaaGreatBc
namespace Go.Proofs.YtpnlebpnhmibfaaGreat
open Go.RowKit
set_option linter.unusedVariables false
set_option maxRecDepth 100000
set_option maxHeartbeats 4000000
theorem ZeI {ops:Array Oper}{rest:List Oper}{o:Oper}{a:Act}{Q:Exit→Act→World→Prop}(w:World)(ab:o.guard=none)(t:TypeId)(x y:Operand)(ho:o.op=.makeSlice t x y)(u u' v:Value)(hu:a.eval x=u)(hu':a.eval y=u')(w':World)(aa:(Instr.makeSlice t u u').run Tryz.prog w=.ok v w')(hK:wpList Tryz.prog ops Q rest (a.put o.dst v) w'):wpList Tryz.prog ops Q (o :: rest) a w:=by
 refine Zb3 w ab v w' ?_ hK;have e:execOp a.eval o=(do pure (.value (← Instr.makeSlice t (a.eval x) (a.eval y)))):=by
  unfold execOp;rw [ho]
 rw [e,hu,hu'];simp [aa]
def Dead (w:World) (v:Value):Prop:=v=.pointer none∨∃p,v=.pointer (some ⟨p,0,none⟩)∧w.cell? ⟨p,0,none⟩=some (.slice none 0 0)
theorem Zir (w:World)(v:Value)(h:Dead w v):Calls Tryz.prog 77 #[v] w fun e w'=>e=.returned (.int .i64 0)∧w'=w:=by
 rcases h with rfl | ⟨p,rfl,c0⟩
 · have aa:∀w:World,(binOp .eql 23 (.pointer none) (.pointer none)).run Tryz.prog w=.ok (.bool true) w:=fun _=>rfl;go_enter Tryz.func77,Tryz.ntmps77;go_wp2_with fail;go_ret;exact⟨rfl,rfl⟩
 · have aa:∀w:World,(binOp .eql 23 (.pointer (some ⟨p,0,none⟩)) (.pointer none)).run Tryz.prog w=.ok (.bool false) w:=fun _=>rfl;go_enter Tryz.func77,Tryz.ntmps77;go_wp2_with fail;go_ret;exact⟨rfl,rfl⟩
end Go.Proofs.YtpnlebpnhmibfaaGreat
