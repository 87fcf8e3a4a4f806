/-
  Lemmas.
-/
import Derived.Test.YtiecfcjlhldhdaaGreatKebf
import Derived.Test.YtiecfcjlhldhdaaGreatKeax
import Derived.Test.YtiecfcjlhldhdaaGreatKeav
import Derived.Test.YtiecfcjlhldhdaaGreatKebb
namespace Go.Proofs.YtiecfcjlhldhdaaGreat
open Go.RowKit
set_option linter.unusedVariables false
set_option linter.unusedSimpArgs false
set_option maxRecDepth 100000
set_option maxHeartbeats 4000000
variable {w:World}{g:Nat}
theorem ColR.frm {w0 W:World}{F:Nat→Prop}{x:Rx}(h:ColR w0 w x)(hf:Frm F w W)(hF:∀k,F k→w0.heap.size≤k∧∃cs t,w.heap[k]? = some (Obj.cells cs t (0,0))∧t≠32):ColR w0 W x:=by
 have hn:∀b off,x.a=some ⟨b,off,none⟩→0<x.n→¬F b:=by
  intro b off ha h0 e;obtain⟨h1,cs,t,h2,h3⟩:=hF b e;rcases h.home b off ha h0 with e2 | ⟨C,fr,e2⟩
  · omega
  · rw [h2] at e2;simp only [Option.some.injEq,Obj.cells.injEq] at e2;exact h3 e2.2.1
 have hs:∀b off,x.a=some ⟨b,off,none⟩→0<x.n→W.heap[b]? = w.heap[b]?:=by
  intro b off ha h0;obtain⟨b',off',ha',hc,_,_⟩:=h.fs.at 0 h0;rw [ha'] at ha;cases ha;exact hf.block _ (World.block_lt_of_cell? _ _ hc) (hn _ _ ha' h0)
 refine⟨h.fs.same hs,fun b off ha h0=>?_⟩;rcases h.home b off ha h0 with e2 | ⟨C,fr,e2⟩
 · exact .inl e2
 · exact .inr ⟨C,fr,by rw [hs b off ha h0];exact e2⟩
theorem ColR.zero (w0 w:World):ColR w0 w Rx.zero:=⟨ZcX w,fun _ _ _ hn=>absurd hn (Nat.lt_irrefl 0)⟩
theorem Col.colR {w0:World}{x:Ux}(h:Col w0 w x):ColR w0 w ⟨x.u.row,x.a,x.n,x.c⟩:=⟨h.fs,h.home⟩
theorem Own.frmT {e t:TypeId}{z:Nat}{w':World}{s:Sl}{vs:List Value}{cs:Array Value}(h:Own e z w s vs)(hg:w.heap[g]? = some (Obj.cells cs t (0,0)))(he:e≠t)(hf:Frm (fun k=>k=g) w w'):Own e z w' s vs:=by
 refine Own.frame h (fun k hk=>hf.block k (Own.lt h hk) (fun e2=>?_));obtain⟨c,hc⟩:=Own.kind h hk;rw [e2,hg] at hc;simp only [Option.some.injEq,Obj.cells.injEq] at hc;exact he hc.2.1.symm
theorem ZdN {fn:Func}{x a b c:Nat}(hr:fn.results=#[.cell x 39,.tmp a,.tmp b,.tmp c]){W:World}{r:Rw}{ra:Option Addr}{rn rc:Nat}(h:RwBlk W g r (.slice ra rn rc))(tmps:Array Value)(u v t:Value)(tx:tmps.getD x undef=.pointer (some ⟨g,0,none⟩))(ta:tmps.getD a undef=u)(tb:tmps.getD b undef=v)(tc:tmps.getD c undef=t) :
    (results fn tmps).run Tryz.prog W=.ok (.tuple #[r.val (.slice ra rn rc),u,v,t]) W:=by
  have c0:=h.c0;have c1:=h.c1;have c2:=h.c2;have c3:=h.c3;have c4:=h.c4;have c5:=h.c5;(have tx2:tmps[x]?.getD undef=.pointer (some ⟨g,0,none⟩):=by simpa using tx);(have ta2:tmps[a]?.getD undef=u:=by simpa using ta);(have tb2:tmps[b]?.getD undef=v:=by simpa using tb);(have tc2:tmps[c]?.getD undef=t:=by simpa using tc);simp [results,hr,tx2,ta2,tb2,tc2,go_sem,c0,c1,c2,c3,c4,c5,Rw.val]
theorem Nq.not {wr:World}{q:Sl}{t:List Int}(h:Nq w wr q t){cs:Array Value}{ty:TypeId}(hg:wr.heap[g]? = some (Obj.cells cs ty (0,0)))(ht:ty≠3):¬q.blk=some g:=by
 intro e;obtain⟨c,hc⟩:=Own.kind h.own e;rw [hg] at hc;simp only [Option.some.injEq,Obj.cells.injEq] at hc;exact ht hc.2.1
theorem Zl6 {l:List Ux}(h:∀x∈l,x.u.fits)(c n:Int):(getU (uns l) c n).1.fits:=by
 have h0:∀u∈uns l,u.fits:=by
  intro u hu;obtain⟨x,hx,rfl⟩:=List.mem_map.1 hu;exact h x hx
 unfold getU;split
 · exact ZdP
 · show (atU (uns l) c).fits;by_cases hc:1≤c∧c≤(uns l).length
   · rw [Zox hc];(have hi:(c-1).toNat<(uns l).length:=by omega);rw [unget hi];exact h0 _ (List.getElem_mem hi)
   · rw [ZfQ hc];exact ZdP
theorem Zkx (V:Vn Rw)(x:Rw):V.look 400 x=((V.look (400-0) x).1,[] ++ (V.look (400-0) x).2.1,(V.look (400-0) x).2.2):=rfl
theorem Zf7 (w:World)(z:Bz)(v:Vw)(s:Sl) :
    ∃Wa Wb W0,w.alloc (.cells #[.int .i64 z.t.nx,.int .i64 z.t.no,.int .i64 z.t.cm,.slice z.es.a z.es.len z.es.cap,.slice z.cs.a z.cs.len z.cs.cap,.slice z.ls.a z.ls.len z.ls.cap] 28)=Wa∧Wa.alloc (.cells #[.int .i64 v.self,.int .i64 v.next,s.val] 31)=Wb∧Wb.alloc (.cells #[.float .f64 0,.bool false,.slice none 0 0,.int .i64 0,.int .i64 0,.int .i64 0] 39)=W0∧BsBlk W0 w.heap.size z∧ZaR W0 (w.heap.size+1) v s∧RwBlk W0 (w.heap.size+1+1) zeroR (.slice none 0 0)∧Below w.heap.size w W0∧W0.heap.size=w.heap.size+1+1+1:=by
  have ac:=Zaa w (.cells #[.int .i64 z.t.nx,.int .i64 z.t.no,.int .i64 z.t.cm,.slice z.es.a z.es.len z.es.cap,.slice z.cs.a z.cs.len z.cs.cap,.slice z.ls.a z.ls.len z.ls.cap] 28);have b1:=Zbi w z;obtain⟨Wa,ha⟩:∃W,w.alloc (.cells #[.int .i64 z.t.nx,.int .i64 z.t.no,.int .i64 z.t.cm,.slice z.es.a z.es.len z.es.cap,.slice z.cs.a z.cs.len z.cs.cap,.slice z.ls.a z.ls.len z.ls.cap] 28)=W:=⟨_,rfl⟩;(have sa:Wa.heap.size=w.heap.size+1:=by rw [← ha];exact Zae _ _);rw [ha] at ac b1;have ab:=Zaa Wa (.cells #[.int .i64 v.self,.int .i64 v.next,s.val] 31);have b2:=Zdt Wa v s;obtain⟨Wb,hb⟩:∃W,Wa.alloc (.cells #[.int .i64 v.self,.int .i64 v.next,s.val] 31)=W:=⟨_,rfl⟩;(have sb:Wb.heap.size=w.heap.size+1+1:=by rw [← hb,Zae,sa]);rw [hb] at ab b2;rw [sa] at b2;have aa:=Zaa Wb (.cells #[.float .f64 0,.bool false,.slice none 0 0,.int .i64 0,.int .i64 0,.int .i64 0] 39);have b4:RwBlk (Wb.alloc (.cells #[.float .f64 0,.bool false,.slice none 0 0,.int .i64 0,.int .i64 0,.int .i64 0] 39)) Wb.heap.size zeroR (.slice none 0 0):=Zai Wb zeroR (.slice none 0 0);obtain⟨W0,hd⟩:∃W,Wb.alloc (.cells #[.float .f64 0,.bool false,.slice none 0 0,.int .i64 0,.int .i64 0,.int .i64 0] 39)=W:=⟨_,rfl⟩;(have sd:W0.heap.size=w.heap.size+1+1+1:=by rw [← hd,Zae,sb]);rw [hd] at aa b4;rw [sb] at b4;exact⟨Wa,Wb,W0,ha,hb,hd,b1.keep (Zac ab aa),b2.keep aa,b4,Zac ac (Zac ab aa),sd⟩
end Go.Proofs.YtiecfcjlhldhdaaGreat
