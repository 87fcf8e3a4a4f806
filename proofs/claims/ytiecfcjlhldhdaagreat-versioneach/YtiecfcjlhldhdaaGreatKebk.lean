/-
  Lemmas.
-/
import Derived.Test.YtiecfcjlhldhdaaGreatKebj
import Derived.Test.YtiecfcjlhldhdaaGreatKeao
import Derived.Test.YtiecfcjlhldhdaaGreatKebb
namespace Go.Proofs.YtiecfcjlhldhdaaGreat
open Go.RowKit
set_option linter.unusedVariables false
set_option linter.unusedSimpArgs false
set_option maxRecDepth 100000
set_option maxHeartbeats 4000000
theorem Zq4 {b:Bse}(h:MayBs b){e:Ending}(k:Zbw b e):e=.returned (.bool true):=by obtain ⟨r,rfl,hr⟩:=k;rw [hr.2 h]
theorem Zpq {b:Bse}(h:¬MayBs b){e:Ending}(k:Zbw b e):e=.returned (.bool false):=by
 obtain⟨r,rfl,hr⟩:=k;cases r with
 | false=>rfl
 | true=>exact absurd (hr.1 rfl) h
theorem Zfc (w:World)(z:Bz)(v:Vw)(s:Sl):∃Wa W0,w.alloc (.cells #[.int .i64 z.t.nx,.int .i64 z.t.no,.int .i64 z.t.cm,.slice z.es.a z.es.len z.es.cap,.slice z.cs.a z.cs.len z.cs.cap,.slice z.ls.a z.ls.len z.ls.cap] 28)=Wa∧Wa.alloc (.cells #[.int .i64 v.self,.int .i64 v.next,s.val] 31)=W0∧BsBlk W0 w.heap.size z∧ZaR W0 (w.heap.size+1) v s∧Below w.heap.size w W0:=by
 have ab:=Zaa w (.cells #[.int .i64 z.t.nx,.int .i64 z.t.no,.int .i64 z.t.cm,.slice z.es.a z.es.len z.es.cap,.slice z.cs.a z.cs.len z.cs.cap,.slice z.ls.a z.ls.len z.ls.cap] 28);have b1:=Zbi w z;obtain⟨Wa,ha⟩:∃W,w.alloc (.cells #[.int .i64 z.t.nx,.int .i64 z.t.no,.int .i64 z.t.cm,.slice z.es.a z.es.len z.es.cap,.slice z.cs.a z.cs.len z.cs.cap,.slice z.ls.a z.ls.len z.ls.cap] 28)=W:=⟨_,rfl⟩;(have sa:Wa.heap.size=w.heap.size+1:=by rw [← ha];exact Zae _ _);rw [ha] at ab b1;have aa:=Zaa Wa (.cells #[.int .i64 v.self,.int .i64 v.next,s.val] 31);have b2:=Zdt Wa v s;obtain⟨Wb,hb⟩:∃W,Wa.alloc (.cells #[.int .i64 v.self,.int .i64 v.next,s.val] 31)=W:=⟨_,rfl⟩;rw [hb] at aa b2;rw [sa] at b2;exact⟨Wa,Wb,ha,hb,b1.keep aa,b2,Zac ab aa⟩
structure Lw17 (w0 w:World) (z:Bz) (v:Vw) (s:Sl):Prop where
  bs:BsBlk w w0.heap.size z
  vw:ZaR w (w0.heap.size+1) v s
  bin:Bin w z
  gi:Gi (fun _=>True) w s v.act
  below:Below w0.heap.size w0 w
theorem Lw17.keep {w0 w w':World}{z:Bz}{v:Vw}{s:Sl}(h:Lw17 w0 w z v s)(hb:Below w.heap.size w w'):Lw17 w0 w' z v s:=
 ⟨h.bs.keep hb,h.vw.keep hb,h.bin.keep hb,h.gi.below hb (Nat.le_refl _),Zac h.below hb⟩
theorem Zmt {l:List Lf}(h:MayH l)(lo hi:Nat):(Zay lo hi (allH l)).length≤62000:=Nat.le_trans (Zf5 _ _ _) (Zna h)
theorem ZiG (w:World)(z:Bz)(v:Vw)(s:Sl)(x y:Nat):∃Wa Wb W0,w.alloc (.cells #[.int .i64 z.t.nx,.int .i64 z.t.no,.int .i64 z.t.cm,.slice z.es.a z.es.len z.es.cap,.slice z.cs.a z.cs.len z.cs.cap,.slice z.ls.a z.ls.len z.ls.cap] 28)=Wa∧Wa.alloc (.cells #[.int .i64 v.self,.int .i64 v.next,s.val] 31)=Wb∧Wb.alloc (.cells #[.float .f64 x,.float .f64 y] 48)=W0∧BsBlk W0 w.heap.size z∧ZaR W0 (w.heap.size+1) v s∧Zeg W0 (w.heap.size+1+1) x y∧Below w.heap.size w W0:=by
 obtain⟨Wa,Wb,ha,hb,b1,b2,hA⟩:=Zfc w z v s;have aa:=Zaa Wb (.cells #[.float .f64 x,.float .f64 y] 48);have b3:=Zlf Wb x y;(have sb:Wb.heap.size=w.heap.size+1+1:=by rw [← hb,Zae,← ha,Zae]);rw [sb] at b3;exact⟨Wa,Wb,_,ha,hb,rfl,b1.keep aa,b2.keep aa,b3,Zac hA aa⟩
structure Lx17 (w0 w:World) (z:Bz) (v:Vw) (s:Sl) (x y:Nat):Prop where
  l:Lw17 w0 w z v s
  a2:Zeg w (w0.heap.size+1+1) x y
theorem Lx17.keep {w0 w w':World}{z:Bz}{v:Vw}{s:Sl}{x y:Nat}(h:Lx17 w0 w z v s x y)(hb:Below w.heap.size w w'):Lx17 w0 w' z v s x y:=⟨h.l.keep hb,h.a2.keep hb⟩
end Go.Proofs.YtiecfcjlhldhdaaGreat
