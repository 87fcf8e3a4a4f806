/-
  Lemmas.
-/
import Derived.Test.YtiecfcjlhldhdaaGreatKebg
import Derived.Test.YtiecfcjlhldhdaaGreatKeay
import Derived.Test.YtiecfcjlhldhdaaGreatKean
import Derived.Test.YtiecfcjlhldhdaaGreatKebb
namespace Go.Proofs.YtiecfcjlhldhdaaGreat
open Go.RowKit
set_option linter.unusedVariables false
set_option linter.unusedSimpArgs false
set_option maxRecDepth 100000
set_option maxHeartbeats 4000000
theorem Zpj {w:World}{p:Nat}{v:Vw}{s:Sl}(k:ZaR w p v s):(Instr.loadAt 31 (.pointer (some ⟨p,0,none⟩))).run Tryz.prog w=.ok (vwV v s) w:=by
 have c0:=k.c0;have c1:=k.c1;have c2:=k.c2;obtain⟨a,n,c⟩:=s;unfold vwV Sl.val at *;simp [go_sem,c0,c1,c2]
theorem ex4 (a b c d:Value)(w:World):(Instr.extract (.tuple #[a,b,c,d]) 0).run Tryz.prog w=.ok a w∧(Instr.extract (.tuple #[a,b,c,d]) 1).run Tryz.prog w=.ok b w∧(Instr.extract (.tuple #[a,b,c,d]) 2).run Tryz.prog w=.ok c w∧(Instr.extract (.tuple #[a,b,c,d]) 3).run Tryz.prog w=.ok d w:=⟨rfl,rfl,rfl,rfl⟩
theorem ZiS (w:World):(Instr.alloc 39 true (.tuple #[])).run Tryz.prog w=.ok (.pointer (some ⟨w.heap.size,0,none⟩)) (w.alloc (.cells #[.float .f64 0,.bool false,.slice none 0 0,.int .i64 0,.int .i64 0,.int .i64 0] 39)):=by simp [go_sem,Instr.alloc]
theorem Gl.good {D:Nat→Prop}{w:World}{s:Sl}{L:List Lb}(h:Gl D w s L):∀g∈allH (lfs L),Zeh g.r:=by
 intro g hg;obtain⟨h1,h2,h3⟩:=Zgq.1 hg;refine⟨(Zlu ?_ h3).key,(Zcp hg).1⟩;have hm:lf (lfs L) g.i∈lfs L:=Zc6 h1;obtain⟨x,hx,aa⟩:=List.mem_map.1 hm;rw [← aa] at h2 ⊢;have hk:g.k<x.v.len:=by
  (have e:(bss x.l).length=x.v.len:=by rw [Zaj,(h.it x hx).2.len]);rw [← e];exact h2
 exact((h.it x hx).2.at hk).1.came.bs.2.1
end Go.Proofs.YtiecfcjlhldhdaaGreat
