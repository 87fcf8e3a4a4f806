/-
  Lemmas.
-/
import Derived.Test.YtdojdcncncgncaaGreatKtaj
import Derived.Test.YtdojdcncncgncaaGreatKtal
namespace Go.Proofs.YtdojdcncncgncaaGreat
open Go.RowKit
set_option linter.unusedVariables false
set_option maxRecDepth 100000
set_option maxHeartbeats 4000000
variable {w:World}{xs:List Nat}{g cap base:Nat}{A:Act}{a:Option Addr}{r0:Rw}{c0:Value}
namespace Pl
section
variable {P : Program} {ops : Array Oper} {S : World → Prop} {Q : Exit → Act → World → Prop} {n fuel : Nat} {listed : Array Bool} {f : Nat → Value} {w : World}
theorem extr (i:Nat)(x:Operand)(k:Nat)(v:Value)(h:(op ops i).op=.extract x k)(hx:inB n x=true)(hv:∀w,(Instr.extract (ev f x) k).run P w=.ok v w) :
    ∀A,At n A f→∀w,S w→(execOp A.eval (op ops i)).run P w=.ok (.value v) w:=by
  intro A hA w _;have e:execOp A.eval (op ops i)=(do pure (.value (← Instr.extract (A.eval x) k))):=by
   unfold execOp;rw [h]
  rw [e,hA.ev x hx];simp [hv w]
theorem qc {i:Nat}{v:Value}(x:Operand)(k:Nat)(hv:∀w,(Instr.extract (ev f x) k).run P w=.ok v w)(h:(op ops i).op=.extract x k:=by kernel_rfl)(hx:inB n x=true:=by decide):∀A,At n A f→∀w,S w→(execOp A.eval (op ops i)).run P w=.ok (.value v) w:=extr i x k v h hx hv
theorem allocV (i:Nat)(t:TypeId)(v:Value)(w':World)(h:(op ops i).op=.alloc t)(hv:(Instr.alloc t true (.tuple #[])).run P w=.ok v w') :
    ∀A,At n A f→(execOp A.eval (op ops i)).run P w=.ok (.value v) w':=by
  intro A _;have e:execOp A.eval (op ops i)=(do pure (.value (← Instr.alloc t true (.tuple #[])))):=by
   unfold execOp;rw [h]
  rw [e];simp [hv]

theorem qq {i:Nat}{v:Value}{w':World}(t:TypeId)(hv:(Instr.alloc t true (.tuple #[])).run P w=.ok v w')(h:(op ops i).op=.alloc t:=by kernel_rfl):∀A,At n A f→(execOp A.eval (op ops i)).run P w=.ok (.value v) w':=allocV i t v w' h hv
theorem buildV (i:Nat)(t:TypeId)(parts:List (Nat × Operand))(v:Value)(h:(op ops i).op=.build t parts.toArray)(hx:parts.all (fun p=>inB n p.2)=true)(hv:∀w,(Instr.build t (parts.map fun p=>(p.1,ev f p.2)).toArray).run P w=.ok v w) :
    ∀A,At n A f→∀w,S w→(execOp A.eval (op ops i)).run P w=.ok (.value v) w:=by
  intro A hA w _;have e:execOp A.eval (op ops i)=(do pure (.value (← Instr.build t (parts.toArray.map fun p=>(p.1,A.eval p.2))))):=by
   unfold execOp;rw [h]
  have hm:(parts.toArray.map fun p=>(p.1,A.eval p.2))=(parts.map fun p=>(p.1,ev f p.2)).toArray:=by
   simp only [List.map_toArray];congr 1;apply List.map_congr_left;intro p hp;rw [hA.ev p.2 (List.all_eq_true.1 hx p hp)]
  rw [e,hm];simp [hv w]
theorem qy {i:Nat}{v:Value}(t:TypeId)(parts:List (Nat × Operand))(hv:∀w,(Instr.build t (parts.map fun p=>(p.1,ev f p.2)).toArray).run P w=.ok v w)(h:(op ops i).op=.build t parts.toArray:=by kernel_rfl)(hx:parts.all (fun p=>inB n p.2)=true:=by decide):∀A,At n A f→∀w,S w→(execOp A.eval (op ops i)).run P w=.ok (.value v) w:=buildV i t parts v h hx hv
end
end Pl
theorem ZhO (a b c:Value)(w:World):(Instr.extract (.tuple #[a,b,c]) 0).run Tryz.prog w=.ok a w∧(Instr.extract (.tuple #[a,b,c]) 1).run Tryz.prog w=.ok b w∧(Instr.extract (.tuple #[a,b,c]) 2).run Tryz.prog w=.ok c w:=by
 refine⟨?_,?_,?_⟩ <;> simp [go_sem,Instr.extract]
theorem Zfo (c n:Int)(w:World):(Instr.build 31 #[(0,.int .i64 c),(1,.int .i64 n)]).run Tryz.prog w=.ok (.agg #[.int .i64 c,.int .i64 n]) w:=by
 simp [go_sem,Instr.build]
theorem Zky (k:Nat)(d:Bool)(a:Option Addr)(len cap:Nat)(t c n:Int)(w:World):(Instr.build 33 #[(0,.float .f64 k),(1,.bool d),(2,.slice a len cap),(3,.int .i64 t),(4,.agg #[.int .i64 c,.int .i64 n])]).run Tryz.prog w=.ok (.agg #[.float .f64 k,.bool d,.slice a len cap,.int .i64 t,.int .i64 c,.int .i64 n]) w:=by
 simp [go_sem,Instr.build]
theorem ZgD (w:World):(Instr.alloc 33 true (.tuple #[])).run Tryz.prog w=.ok (.pointer (some ⟨w.heap.size,0,none⟩)) (w.alloc (.cells #[.float .f64 0,.bool false,.slice none 0 0,.int .i64 0,.int .i64 0,.int .i64 0] 33)):=by
 simp [go_sem,Instr.alloc]
theorem ZbR (k:Nat)(d:Bool)(a:Option Addr)(len cap:Nat)(t c n:Int)(w:World):(Instr.storeAt 33 (.pointer (some ⟨w.heap.size,0,none⟩)) (.agg #[.float .f64 k,.bool d,.slice a len cap,.int .i64 t,.int .i64 c,.int .i64 n])).run Tryz.prog (w.alloc (.cells #[.float .f64 0,.bool false,.slice none 0 0,.int .i64 0,.int .i64 0,.int .i64 0] 33))
    = .ok () (w.alloc (.cells #[.float .f64 k,.bool d,.slice a len cap,.int .i64 t,.int .i64 c,.int .i64 n] 33)):=by
  have aa:∀(w:World) (a:Addr) (m:Mode) (x:Nat),(store a (.float .f64 x) m).run Tryz.prog w=stored Tryz.prog w a (.float .f64 x) m:=fun w a m x=>run_store Tryz.prog w a _ m rfl;simp [go_sem,Instr.storeAt,aa]
theorem ZaG (b o k:Nat)(hk:k<4)(w:World):(Instr.fieldAt 158 (.pointer (some ⟨b,o,none⟩)) k).run Tryz.prog w=.ok (.pointer (some ⟨b,o+k,none⟩)) w:=by
 (have:k=0∨k=1∨k=2∨k=3:=by omega);rcases this with rfl | rfl | rfl | rfl <;> simp [go_sem]
theorem ZgS:∀args w,(callFunc 160 args).run Tryz.prog w=.ok (.enter 160 args) w:=Pl.qj Tryz.func160
theorem Came.keep {w':World}{B:Nat}{len:Nat}(h:Came w a len cap xs)(hb:Below B w w')(hB:w.heap.size≤B):Came w' a len cap xs:=⟨h.bs.keep hb hB,h.nil,h.le,h.big⟩
theorem Came.from {len q:Nat}(h:Came w a len cap xs)(hq:q≤len):Came w (fromA a cap q) (len-q) (cap-q) (xs.drop q):=by
 refine⟨h.bs.from hq h.le,?_,by have:=h.le;omega,by have:=h.big;omega⟩;intro e;unfold fromA at e;split at e
 · omega
 · cases a with
   | none=>have:=h.nil rfl;omega
   | some x=>simp at e
def rowOf (l m:List It):Rw:=⟨(l.getD 1 itD).x,(l.getD 0 itD).n != 0,m.map It.x,(l.getD 2 itD).n,(l.getD 3 itD).n,(l.getD 4 itD).n⟩
def decB (xs:List Nat):Option Rw:=match tks xs headK [] 0 with
  | none=>none
  | some (l,q)=>match tks (xs.drop q) (List.replicate (l.getD 5 itD).n.toNat 4) [] 0 with
    | none=>none
    | some (m,q2)=>if q+q2<xs.length∨1<(l.getD 0 itD).n∨(rowOf l m).may=false then none else some (rowOf l m)
theorem Zpp (w0 w:World)(a:Option Addr)(len cap q:Nat)(xs:List Nat)(b off c2 n:Nat)(y:It)(hc:Came w0 a len cap xs)(hl:len≤100000)(hq:q≤len)(hx:ItAt w0 b (off+5*4) y)(hy:y.n=(n:Nat))(hn:n≤255)(hT:tks (xs.drop q) (List.replicate n 4) [] 0=none)(hW:Below w0.heap.size w0 w)
    {Q:Exit→Act→World→Prop}(ae:A.tmps.size=78)(ad:A.defers=[])(s0:A.tmps.getD 0 undef=.slice a len cap)(s4:A.tmps.getD 4 undef=.slice (some ⟨b,off,none⟩) 6 c2)(s5:A.tmps.getD 5 undef=.int .i64 (q:Nat))
    (hend:∀(u:Nat→Value) w',Below w0.heap.size w0 w'→Q .normal ((((((((((((((((A).put (some 22) (u 22)).put (some 23) (u 23)).put (some 24) (u 24)).put (some 25) (u 25)).put (some 26) (u 26)).put (some 27) (u 27)).put (some 28) (u 28)).put (some 29) (u 29)).put (some 21) (u 21)).put (some 30) (u 30)).put (some 31) (u 31)).put (some 32) (u 32)).put (some 7) (.slice none 0 0)).put (some 8) (.slice none 0 0)).put (some 6) (.int .i64 4)) w') :
    (Code.region 4 (Pl.find 4 ((Tryz.f142.body).getD .skip)) true).wp Tryz.prog Q A w:=by
  have aa:Below w0.heap.size w0 w.drew:=hW.drew;have hA:=Pl.At.same (v:=.int .i64 (q:Nat)) (d:=5) (Pl.At.same (v:=.slice (some ⟨b,off,none⟩) 6 c2) (d:=4) (Pl.At.same (v:=.slice a len cap) (d:=0) (Pl.At.here ae ad) s0) s4) s5;refine Pl.qa (S:=fun w'=>Below w0.heap.size w0 w') hA aa ?_;rw [show (Pl.find 4 ((Tryz.f142.body).getD .skip)).size=15 by kernel_rfl];refine Pl.q0 0 22 (.slice a len cap) (Pl.q1) (Pl.q2 (.tmp 0)) aa ?_;refine Pl.q0 1 23 (.int .i64 (q:Nat)) (Pl.q1) (Pl.q2 (.tmp 5)) aa ?_;refine Pl.q0 2 24 (.slice (fromA a cap q) (len-q) (cap-q)) (Pl.q1) (Pl.q_36 56 (.tmp 22) (some (.tmp 23)) none (fun w=>ZcS a len cap q hq w)) aa ?_;refine Pl.q0 3 25 (.slice (some ⟨b,off,none⟩) 6 c2) (Pl.q1) (Pl.q2 (.tmp 4)) aa ?_;refine Pl.q0 4 26 (.pointer (some ⟨b,off+5*4,none⟩)) (Pl.q1) (Pl.qb 155 (.tmp 25) (.const (.int .i64 5)) (Za6 b off 6 c2 5 (by decide))) aa ?_;refine Pl.q0 5 27 (.pointer (some ⟨b,off+5*4+1,none⟩)) (Pl.q1) (Pl.q5 158 (.tmp 26) 1 (ZaG b (off+5*4) 1 (by decide))) aa ?_;refine Pl.q0 6 28 (.int .i64 (n:Nat)) (Pl.q1) (Pl.q3 3 (.tmp 27) (fun w' hS=>Zaq b (off+5*4+1) _ w' (by rw [← hy];exact (Zal hx hS).2.1))) aa ?_;refine Pl.qd 7 29 160 [(.tmp 24),(.tmp 28)] #[56,3] (Pl.q1) ZgS (Calls.mono (Zeq (fromA a cap q) (len-q) (cap-q) n (xs.drop q) w.drew ((hc.keep aa (Nat.le_refl _)).from hq) (by omega) hn) ?_);rintro e w1 ⟨ac,h1,_⟩;have he:=h1 hT;subst he;have ab:=aa.trans (ac.mono aa.size);refine⟨.tuple #[.slice none 0 0,.slice none 0 0,.int .i64 4],rfl,ab,?_⟩;refine Pl.q0 8 21 (.tuple #[.slice none 0 0,.slice none 0 0,.int .i64 4]) (Pl.q1) (Pl.q2 (.tmp 29)) ab ?_;refine Pl.q0 9 30 (.slice none 0 0) (Pl.q1) (Pl.qc (.tmp 21) 0 (fun w=>(ZhO _ _ _ w).1)) ab ?_;refine Pl.q0 10 31 (.slice none 0 0) (Pl.q1) (Pl.qc (.tmp 21) 1 (fun w=>(ZhO _ _ _ w).2.1)) ab ?_;refine Pl.q0 11 32 (.int .i64 4) (Pl.q1) (Pl.qc (.tmp 21) 2 (fun w=>(ZhO _ _ _ w).2.2)) ab ?_;refine Pl.q0 12 7 (.slice none 0 0) (Pl.q1) (Pl.qf (.tmp 30)) ab ?_;refine Pl.q0 13 8 (.slice none 0 0) (Pl.q1) (Pl.qf (.tmp 31)) ab ?_;refine Pl.q0 14 6 (.int .i64 4) (Pl.q1) (Pl.qf (.tmp 32)) ab ?_;refine Pl.q7 (fun A' hA'=>?_);rw [Pl.At.ext hA' (((((((((((((((hA.put 22 _).put 23 _).put 24 _).put 25 _).put 26 _).put 27 _).put 28 _).put 29 _).put 21 _).put 30 _).put 31 _).put 32 _).put 7 _).put 8 _).put 6 _)];exact hend hA'.fn _ ab
theorem Zpq (w0 w:World)(a:Option Addr)(len cap q:Nat)(xs:List Nat)(b off c2 n:Nat)(y:It)(hc:Came w0 a len cap xs)(hl:len≤100000)(hq:q≤len)(hx:ItAt w0 b (off+5*4) y)(hy:y.n=(n:Nat))(hn:n≤255)(l:List It)(q2:Nat)(hT:tks (xs.drop q) (List.replicate n 4) [] 0=some (l,q2))(hW:Below w0.heap.size w0 w)
    {Q:Exit→Act→World→Prop}(ag:A.tmps.size=78)(ad:A.defers=[])(s0:A.tmps.getD 0 undef=.slice a len cap)(s4:A.tmps.getD 4 undef=.slice (some ⟨b,off,none⟩) 6 c2)(s5:A.tmps.getD 5 undef=.int .i64 (q:Nat))
    (hend:∀(u:Nat→Value) w' v,(Below w0.heap.size w0 w'∧OwnsV 23 w' w0.heap.size v (fVals (l.map It.x)))→Q .normal ((((((((((((((((A).put (some 22) (u 22)).put (some 23) (u 23)).put (some 24) (u 24)).put (some 25) (u 25)).put (some 26) (u 26)).put (some 27) (u 27)).put (some 28) (u 28)).put (some 29) (u 29)).put (some 21) (u 21)).put (some 30) (u 30)).put (some 31) (u 31)).put (some 32) (u 32)).put (some 7) (v)).put (some 8) (.slice (fromA (fromA a cap q) (cap-q) q2) (len-q-q2) (cap-q-q2))).put (some 6) (.int .i64 0)) w') :
    (Code.region 4 (Pl.find 4 ((Tryz.f142.body).getD .skip)) true).wp Tryz.prog Q A w:=by
  have aa:Below w0.heap.size w0 w.drew:=hW.drew;have hA:=Pl.At.same (v:=.int .i64 (q:Nat)) (d:=5) (Pl.At.same (v:=.slice (some ⟨b,off,none⟩) 6 c2) (d:=4) (Pl.At.same (v:=.slice a len cap) (d:=0) (Pl.At.here ag ad) s0) s4) s5;refine Pl.qa (S:=fun w'=>Below w0.heap.size w0 w') hA aa ?_;rw [show (Pl.find 4 ((Tryz.f142.body).getD .skip)).size=15 by kernel_rfl];refine Pl.q0 0 22 (.slice a len cap) (Pl.q1) (Pl.q2 (.tmp 0)) aa ?_;refine Pl.q0 1 23 (.int .i64 (q:Nat)) (Pl.q1) (Pl.q2 (.tmp 5)) aa ?_;refine Pl.q0 2 24 (.slice (fromA a cap q) (len-q) (cap-q)) (Pl.q1) (Pl.q_36 56 (.tmp 22) (some (.tmp 23)) none (fun w=>ZcS a len cap q hq w)) aa ?_;refine Pl.q0 3 25 (.slice (some ⟨b,off,none⟩) 6 c2) (Pl.q1) (Pl.q2 (.tmp 4)) aa ?_;refine Pl.q0 4 26 (.pointer (some ⟨b,off+5*4,none⟩)) (Pl.q1) (Pl.qb 155 (.tmp 25) (.const (.int .i64 5)) (Za6 b off 6 c2 5 (by decide))) aa ?_;refine Pl.q0 5 27 (.pointer (some ⟨b,off+5*4+1,none⟩)) (Pl.q1) (Pl.q5 158 (.tmp 26) 1 (ZaG b (off+5*4) 1 (by decide))) aa ?_;refine Pl.q0 6 28 (.int .i64 (n:Nat)) (Pl.q1) (Pl.q3 3 (.tmp 27) (fun w' hS=>Zaq b (off+5*4+1) _ w' (by rw [← hy];exact (Zal hx hS).2.1))) aa ?_;refine Pl.qd 7 29 160 [(.tmp 24),(.tmp 28)] #[56,3] (Pl.q1) ZgS (Calls.mono (Zeq (fromA a cap q) (len-q) (cap-q) n (xs.drop q) w.drew ((hc.keep aa (Nat.le_refl _)).from hq) (by omega) hn) ?_);rintro e w1 ⟨ac,_,h1⟩;obtain⟨_,_,v,he,ae⟩:=h1 l q2 hT;subst he;have ab:=aa.trans (ac.mono aa.size);have af:=ae.lower aa.size;refine⟨.tuple #[v,.slice (fromA (fromA a cap q) (cap-q) q2) (len-q-q2) (cap-q-q2),.int .i64 0],rfl,ab,?_⟩;refine Pl.q0 8 21 (.tuple #[v,.slice (fromA (fromA a cap q) (cap-q) q2) (len-q-q2) (cap-q-q2),.int .i64 0]) (Pl.q1) (Pl.q2 (.tmp 29)) ab ?_;refine Pl.q0 9 30 (v) (Pl.q1) (Pl.qc (.tmp 21) 0 (fun w=>(ZhO _ _ _ w).1)) ab ?_;refine Pl.q0 10 31 (.slice (fromA (fromA a cap q) (cap-q) q2) (len-q-q2) (cap-q-q2)) (Pl.q1) (Pl.qc (.tmp 21) 1 (fun w=>(ZhO _ _ _ w).2.1)) ab ?_;refine Pl.q0 11 32 (.int .i64 0) (Pl.q1) (Pl.qc (.tmp 21) 2 (fun w=>(ZhO _ _ _ w).2.2)) ab ?_;refine Pl.q0 12 7 (v) (Pl.q1) (Pl.qf (.tmp 30)) ab ?_;refine Pl.q0 13 8 (.slice (fromA (fromA a cap q) (cap-q) q2) (len-q-q2) (cap-q-q2)) (Pl.q1) (Pl.qf (.tmp 31)) ab ?_;refine Pl.q0 14 6 (.int .i64 0) (Pl.q1) (Pl.qf (.tmp 32)) ab ?_;refine Pl.q7 (fun A' hA'=>?_);rw [Pl.At.ext hA' (((((((((((((((hA.put 22 _).put 23 _).put 24 _).put 25 _).put 26 _).put 27 _).put 28 _).put 29 _).put 21 _).put 30 _).put 31 _).put 32 _).put 7 _).put 8 _).put 6 _)];exact hend hA'.fn _ v ⟨ab,af⟩
theorem dec7 (w0 w:World)(b off c2:Nat)(ca:Option Addr)(cl cc:Nat)(y0 y1 y2 y3 y4:It)(af:ItAt w0 b (off+0*4) y0)(ag:ItAt w0 b (off+1*4) y1)(ah:ItAt w0 b (off+2*4) y2)(ai:ItAt w0 b (off+3*4) y3)(aj:ItAt w0 b (off+4*4) y4)(hW:Below w0.heap.size w0 w)
    {Q:Exit→Act→World→Prop}(ae:A.tmps.size=78)(ad:A.defers=[])(s4:A.tmps.getD 4 undef=.slice (some ⟨b,off,none⟩) 6 c2)(s7:A.tmps.getD 7 undef=.slice ca cl cc)
    (hend:∀(u:Nat→Value) w',w'=w.drew.alloc (.cells #[.float .f64 y1.x,.bool (y0.n != 0),.slice ca cl cc,.int .i64 y2.n,.int .i64 y3.n,.int .i64 y4.n] 33)→Q .normal ((((((((((((((((((((((((((A).put (some 37) (u 37)).put (some 38) (u 38)).put (some 39) (u 39)).put (some 40) (u 40)).put (some 41) (u 41)).put (some 42) (u 42)).put (some 43) (u 43)).put (some 44) (u 44)).put (some 45) (u 45)).put (some 46) (u 46)).put (some 47) (u 47)).put (some 48) (u 48)).put (some 49) (u 49)).put (some 50) (u 50)).put (some 51) (u 51)).put (some 52) (u 52)).put (some 53) (u 53)).put (some 54) (u 54)).put (some 55) (u 55)).put (some 56) (u 56)).put (some 57) (u 57)).put (some 58) (u 58)).put (some 59) (u 59)).put (some 60) (u 60)).put (some 9) (.pointer (some ⟨w.drew.heap.size,0,none⟩))) w') :
    (Code.region 7 (Pl.find 7 ((Tryz.f142.body).getD .skip)) true).wp Tryz.prog Q A w:=by
  have aa:Below w0.heap.size w0 w.drew:=hW.drew;have hA:=Pl.At.same (v:=.slice ca cl cc) (d:=7) (Pl.At.same (v:=.slice (some ⟨b,off,none⟩) 6 c2) (d:=4) (Pl.At.here ae ad) s4) s7;refine Pl.qa (S:=fun w'=>Below w0.heap.size w0 w') hA aa ?_;rw [show (Pl.find 7 ((Tryz.f142.body).getD .skip)).size=26 by kernel_rfl];refine Pl.q0 0 37 (.slice (some ⟨b,off,none⟩) 6 c2) (Pl.q1) (Pl.q2 (.tmp 4)) aa ?_;refine Pl.q0 1 38 (.pointer (some ⟨b,off+1*4,none⟩)) (Pl.q1) (Pl.qb 155 (.tmp 37) (.const (.int .i64 1)) (Za6 b off 6 c2 1 (by decide))) aa ?_;refine Pl.q0 2 39 (.pointer (some ⟨b,off+1*4+2,none⟩)) (Pl.q1) (Pl.q5 158 (.tmp 38) 2 (ZaG b (off+1*4) 2 (by decide))) aa ?_;refine Pl.q0 3 40 (.float .f64 y1.x) (Pl.q1) (Pl.q3 23 (.tmp 39) (fun w' hS=>ZcO b (off+1*4+2) _ w' (Zal ag hS).2.2.1)) aa ?_;refine Pl.q0 4 41 (.slice (some ⟨b,off,none⟩) 6 c2) (Pl.q1) (Pl.q2 (.tmp 4)) aa ?_;refine Pl.q0 5 42 (.pointer (some ⟨b,off+0*4,none⟩)) (Pl.q1) (Pl.qb 155 (.tmp 41) (.const (.int .i64 0)) (Za6 b off 6 c2 0 (by decide))) aa ?_;refine Pl.q0 6 43 (.pointer (some ⟨b,off+0*4+1,none⟩)) (Pl.q1) (Pl.q5 158 (.tmp 42) 1 (ZaG b (off+0*4) 1 (by decide))) aa ?_;refine Pl.q0 7 44 (.int .i64 y0.n) (Pl.q1) (Pl.q3 3 (.tmp 43) (fun w' hS=>Zaq b (off+0*4+1) _ w' (Zal af hS).2.1)) aa ?_;refine Pl.q0 8 45 (.bool (y0.n != 0)) (Pl.q1) (Pl.qe .neq 3 3 (.tmp 44) (.const (.int .i64 0)) (.int .i64 y0.n) (.int .i64 0) (fun w=>by simp [go_sem,eqGuard])) aa ?_;refine Pl.q0 9 46 (.slice ca cl cc) (Pl.q1) (Pl.q2 (.tmp 7)) aa ?_;refine Pl.q0 10 47 (.slice (some ⟨b,off,none⟩) 6 c2) (Pl.q1) (Pl.q2 (.tmp 4)) aa ?_;refine Pl.q0 11 48 (.pointer (some ⟨b,off+2*4,none⟩)) (Pl.q1) (Pl.qb 155 (.tmp 47) (.const (.int .i64 2)) (Za6 b off 6 c2 2 (by decide))) aa ?_;refine Pl.q0 12 49 (.pointer (some ⟨b,off+2*4+1,none⟩)) (Pl.q1) (Pl.q5 158 (.tmp 48) 1 (ZaG b (off+2*4) 1 (by decide))) aa ?_;refine Pl.q0 13 50 (.int .i64 y2.n) (Pl.q1) (Pl.q3 3 (.tmp 49) (fun w' hS=>Zaq b (off+2*4+1) _ w' (Zal ah hS).2.1)) aa ?_;refine Pl.q0 14 51 (.slice (some ⟨b,off,none⟩) 6 c2) (Pl.q1) (Pl.q2 (.tmp 4)) aa ?_;refine Pl.q0 15 52 (.pointer (some ⟨b,off+3*4,none⟩)) (Pl.q1) (Pl.qb 155 (.tmp 51) (.const (.int .i64 3)) (Za6 b off 6 c2 3 (by decide))) aa ?_;refine Pl.q0 16 53 (.pointer (some ⟨b,off+3*4+1,none⟩)) (Pl.q1) (Pl.q5 158 (.tmp 52) 1 (ZaG b (off+3*4) 1 (by decide))) aa ?_;refine Pl.q0 17 54 (.int .i64 y3.n) (Pl.q1) (Pl.q3 3 (.tmp 53) (fun w' hS=>Zaq b (off+3*4+1) _ w' (Zal ai hS).2.1)) aa ?_;refine Pl.q0 18 55 (.slice (some ⟨b,off,none⟩) 6 c2) (Pl.q1) (Pl.q2 (.tmp 4)) aa ?_;refine Pl.q0 19 56 (.pointer (some ⟨b,off+4*4,none⟩)) (Pl.q1) (Pl.qb 155 (.tmp 55) (.const (.int .i64 4)) (Za6 b off 6 c2 4 (by decide))) aa ?_;refine Pl.q0 20 57 (.pointer (some ⟨b,off+4*4+1,none⟩)) (Pl.q1) (Pl.q5 158 (.tmp 56) 1 (ZaG b (off+4*4) 1 (by decide))) aa ?_;refine Pl.q0 21 58 (.int .i64 y4.n) (Pl.q1) (Pl.q3 3 (.tmp 57) (fun w' hS=>Zaq b (off+4*4+1) _ w' (Zal aj hS).2.1)) aa ?_;refine Pl.q0 22 59 (.agg #[.int .i64 y3.n,.int .i64 y4.n]) (Pl.q1) (Pl.qy 31 [(0,(.tmp 54)),(1,(.tmp 58))] (fun w=>Zfo y3.n y4.n w)) aa ?_;refine Pl.q0 23 60 (.agg #[.float .f64 y1.x,.bool (y0.n != 0),.slice ca cl cc,.int .i64 y2.n,.int .i64 y3.n,.int .i64 y4.n]) (Pl.q1) (Pl.qy 33 [(0,(.tmp 40)),(1,(.tmp 45)),(2,(.tmp 46)),(3,(.tmp 50)),(4,(.tmp 59))] (fun w=>Zky y1.x (y0.n != 0) ca cl cc y2.n y3.n y4.n w)) aa ?_;have ab:Below w0.heap.size w0 (w.drew.alloc (.cells #[.float .f64 0,.bool false,.slice none 0 0,.int .i64 0,.int .i64 0,.int .i64 0] 33)):=aa.alloc aa.size _;refine Pl.qo 24 9 (.pointer (some ⟨w.drew.heap.size,0,none⟩)) (w.drew.alloc (.cells #[.float .f64 0,.bool false,.slice none 0 0,.int .i64 0,.int .i64 0,.int .i64 0] 33)) (Pl.q1) (Pl.qq 33 (ZgD w.drew)) ab ?_;have ac:Below w0.heap.size w0 (w.drew.alloc (.cells #[.float .f64 y1.x,.bool (y0.n != 0),.slice ca cl cc,.int .i64 y2.n,.int .i64 y3.n,.int .i64 y4.n] 33)):=aa.alloc aa.size _;refine Pl.qh 25 (w.drew.alloc (.cells #[.float .f64 y1.x,.bool (y0.n != 0),.slice ca cl cc,.int .i64 y2.n,.int .i64 y3.n,.int .i64 y4.n] 33)) (Pl.q1) (Pl.qi 33 (.tmp 9) (.tmp 60) (ZbR y1.x (y0.n != 0) ca cl cc y2.n y3.n y4.n w.drew)) ac ?_;refine Pl.q7 (fun A' hA'=>?_);rw [Pl.At.ext hA' (((((((((((((((((((((((((hA.put 37 _).put 38 _).put 39 _).put 40 _).put 41 _).put 42 _).put 43 _).put 44 _).put 45 _).put 46 _).put 47 _).put 48 _).put 49 _).put 50 _).put 51 _).put 52 _).put 53 _).put 54 _).put 55 _).put 56 _).put 57 _).put 58 _).put 59 _).put 60 _).put 9 _)];exact hend hA'.fn _ rfl
theorem ZcT (xs:List Nat):∀(ks js:List Int)(l:List It)(q:Nat),tks xs (ks ++ js) l q=match tks xs ks l q with
    | none=>none
    | some (m,p)=>tks xs js m p
  | [],js,l,q=>by simp [tks]
  | k :: ks,js,l,q=>by
   simp only [List.cons_append,tks]
   cases tk (xs.drop q) k with
   | none=>rfl
   | some r=>exact ZcT xs ks js _ _
theorem Zj5 {l:List It}{q:Nat}(h:tks xs headK [] 0=some (l,q)):∃n:Nat,(l.getD 5 itD).n=(n:Nat)∧n≤255:=by
 have e:headK=[1,4,3,2,3] ++ [1]:=rfl;rw [e,ZcT] at h;cases h5:tks xs [1,4,3,2,3] [] 0 with
 | none=>rw [h5] at h;cases h
 | some r =>
  obtain⟨m,p⟩:=r;rw [h5] at h;(have hm:m.length=5:=by have:=ZcB _ _ _ _ _ h5;simpa using this);simp only [tks] at h;cases h1:tk (xs.drop p) 1 with
  | none=>rw [h1] at h;cases h
  | some r =>
   obtain⟨i,n⟩:=r;rw [h1] at h;simp only [Option.some.injEq,Prod.mk.injEq] at h;obtain⟨rfl,_⟩:=h;have hi:(m ++ [i]).getD 5 itD=i:=by
    simp [List.getD,hm]
   rw [hi];simp only [tk,show ¬(1:Int)=4 by decide,show ¬(1:Int)=5 by decide,if_false] at h1;split at h1
   · split at h1
     · rename_i _ hle;simp only [Option.some.injEq,Prod.mk.injEq] at h1;obtain⟨rfl,_⟩:=h1;refine⟨_,rfl,?_⟩;have:maxN 1=255:=rfl;rw [this] at hle;omega
     · cases h1
   · cases h1
theorem Zj4:∀t,t<headK.length→1≤headK.getD t 0∧headK.getD t 0≤5:=by decide
theorem Zdu:∀k∈headK,1≤k∧k≤5:=by decide
def Zcr:Value:=.agg #[.float .f64 0,.bool false,.slice none 0 0,.int .i64 0,.int .i64 0,.int .i64 0]
def ZcZ (xs:List Nat) (w:World) (e:Ending) (w':World):Prop:=
  Below w.heap.size w w'∧(decB xs=none→e=.returned (.tuple #[Zcr,.int .i64 4])) ∧
    (∀r,decB xs=some r→r.fits∧∃a len cap,e=.returned (.tuple #[r.val (.slice a len cap),.int .i64 0])∧Fs w' a len cap r.xs∧OwnsV 23 w' w.heap.size (.slice a len cap) (fVals r.xs))
theorem ZhL {W:World}{r:Rw}{c:Value}(h:RwBlk W g r c)(tmps:Array Value)(x:Value)(ht:tmps.getD 2 undef=.pointer (some ⟨g,0,none⟩))(hx:tmps.getD 3 undef=x)(hc:∃a len cap,c=.slice a len cap):(results Tryz.f142 tmps).run Tryz.prog W=.ok (.tuple #[r.val c,x]) W:=by
 have c0:=h.c0;have c1:=h.c1;have c2:=h.c2;have c3:=h.c3;have c4:=h.c4;have c5:=h.c5;obtain⟨a,len,cap,rfl⟩:=hc;(have aa:tmps[2]?.getD undef=.pointer (some ⟨g,0,none⟩):=by simpa using ht);(have ab:tmps[3]?.getD undef=x:=by simpa using hx);simp [results,Tryz.results142,aa,ab,go_sem,c0,c1,c2,c3,c4,c5,Rw.val]
def setRw (w:World) (g:Nat) (r:Rw) (c:Value):World:=(((((w.setCell ⟨g,0,none⟩ (.float .f64 r.key)).setCell ⟨g,1,none⟩ (.bool r.dead)).setCell ⟨g,2,none⟩ c).setCell ⟨g,3,none⟩ (.int .i64 r.wr)).setCell ⟨g,4,none⟩ (.int .i64 r.cell)).setCell ⟨g,5,none⟩ (.int .i64 r.no)
theorem Zbp (h:RwBlk w g r0 c0)(r:Rw)(c:Value):RwBlk (setRw w g r c) g r c:=by
 have h1:=heap_setCell_same w g 0 _ 33 (.float .f64 r.key) h;have h2:=heap_setCell_same _ g 1 _ 33 (.bool r.dead) h1;have h3:=heap_setCell_same _ g 2 _ 33 c h2;have h4:=heap_setCell_same _ g 3 _ 33 (.int .i64 r.wr) h3;have h5:=heap_setCell_same _ g 4 _ 33 (.int .i64 r.cell) h4;have h6:=heap_setCell_same _ g 5 _ 33 (.int .i64 r.no) h5;unfold RwBlk setRw;rw [h6];simp
theorem Zao {B:Nat}{w0:World}(hb:Below B w0 w)(hg:B≤g)(r:Rw)(c:Value):Below B w0 (setRw w g r c):=
 (((((hb.setCell (p:=⟨g,0,none⟩) hg _).setCell (p:=⟨g,1,none⟩) hg _).setCell (p:=⟨g,2,none⟩) hg _).setCell (p:=⟨g,3,none⟩) hg _).setCell (p:=⟨g,4,none⟩) hg _).setCell (p:=⟨g,5,none⟩) hg _
theorem Zil (w:World)(g:Nat)(r:Rw)(c:Value)(k:Nat)(hk:k≠g):(setRw w g r c).heap[k]? = w.heap[k]?:=by
 unfold setRw;rw [Below.heap_setCell _ ⟨g,5,none⟩ _ k hk,Below.heap_setCell _ ⟨g,4,none⟩ _ k hk,Below.heap_setCell _ ⟨g,3,none⟩ _ k hk,Below.heap_setCell _ ⟨g,2,none⟩ _ k hk,Below.heap_setCell _ ⟨g,1,none⟩ _ k hk,Below.heap_setCell _ ⟨g,0,none⟩ _ k hk]
theorem ZdR {W:World}(h:RwBlk W g r0 c0)(r:Rw)(a:Option Addr)(len cap:Nat)(x:Value){R:Ending→World→Prop}(t2:A.tmps.getD 2 undef=.pointer (some ⟨g,0,none⟩))(t3:A.tmps.getD 3 undef=x)(hd:A.defers=[])
    (hR:R (.returned (.tuple #[r.val (.slice a len cap),x])) (setRw W g r (.slice a len cap))):bodyPost Tryz.prog Tryz.f142 R Exit.ret A (setRw W g r (.slice a len cap)):=by
  have hr:=Zbp h r (.slice a len cap);generalize setRw W g r (.slice a len cap)=W' at *;exact bodyPost_ret (ZhL hr _ _ t2 t3 ⟨_,_,_,rfl⟩) hd hR
def zeroR:Rw:=⟨0,false,[],0,0,0⟩
theorem ZlW:zeroR.val (.slice none 0 0)=Zcr:=rfl
theorem ZfN {l m:List It}(hl:∀i∈l,i.fits)(h6:l.length=6)(hm:∀i∈m,i.fits):(rowOf l m).fits:=by
 have g:∀j,j<6→(l.getD j itD).fits:=fun j hj=>by
  (have hj':j<l.length:=by omega);have:=hl _ (List.getElem_mem hj');simpa [List.getD,hj'] using this
 refine⟨(g 1 (by omega)).2.2.1,?_,(g 2 (by omega)).2.1,(g 3 (by omega)).2.1,(g 4 (by omega)).2.1⟩;intro x hx;obtain⟨i,hi,rfl⟩:=List.mem_map.1 hx;exact(hm i hi).2.2.1
theorem OwnsV.fs {v:Value}{n:Nat}(h:OwnsV 23 w base v (fVals xs))(hx:∀x∈xs,x<18446744073709551616)(hn:xs.length=n)(hb:n≤1000000):∃a cap,v=.slice a n cap∧Fs w a n cap xs:=by
 obtain⟨a,cap,hv,ac,aa,ab⟩:=h.vs (ZgT _);(have hl:(fVals xs).length=n:=by simp [fVals,hn]);rw [hl] at hv ac ab;exact⟨a,cap,hv,ac,hx,aa,ab,by omega⟩
theorem OwnsV.setRw {v:Value}{vs:List Value}(h:OwnsV 23 w base v vs)(hg:RwBlk w g r0 c0)(r:Rw)(c:Value):OwnsV 23 (setRw w g r c) base v vs:=by
 refine⟨h.1,?_⟩;rcases h.2 with hn | ⟨k,cap,cur,hv,hb,hk,rest⟩
 · exact .inl hn
 · refine .inr ⟨k,cap,cur,hv,hb,(Zil w g r c k ?_).trans hk,rest⟩;rintro rfl;unfold RwBlk at hg;rw [hk] at hg;simp only [Option.some.injEq,Obj.cells.injEq] at hg;exact absurd hg.2.1 (by decide)
theorem OwnsV.fsAt {n:Nat}(h:OwnsV 23 w base (.slice a n cap) (fVals xs))(hx:∀x∈xs,x<18446744073709551616)(hb:xs.length≤1000000):Fs w a n cap xs:=by
 obtain⟨a',cap',hv,hf⟩:=h.fs hx rfl hb;simp only [Value.slice.injEq] at hv;obtain⟨rfl,rfl,rfl⟩:=hv;exact hf
theorem Zjv (a:Option Addr)(len cap:Nat)(xs:List Nat)(w:World)(h:Came w a len cap xs)(hl:len≤100000) :
    Calls Tryz.prog 142 #[.slice a len cap] w (ZcZ xs w):=by
  have cp:∀(w:World) (a:Addr) (m:Mode) (x:Nat),(store a (.float .f64 x) m).run Tryz.prog w=stored Tryz.prog w a (.float .f64 x) m:=fun w a m x=>run_store Tryz.prog w a _ m rfl;have H:=hide h;have aj:=hide hl;have an:=hide h.bs.1;have br:=hide h.bs.2.1;have HZ:=hide (Zak w ⟨0,false,[],0,0,0⟩ (.slice none 0 0));have HW:=hide (Zaa w (.cells #[.float .f64 0,.bool false,.slice none 0 0,.int .i64 0,.int .i64 0,.int .i64 0] 33));have HH:=hide Zdv;clear h hl;simp only at HZ;go_enter Tryz.func142,Tryz.ntmps142;go_wp2_with fail;refine(HH.out _).mono ?_;rintro e w1 ⟨rfl,bd,ba⟩;have ax:=hide (Zad HW.out ba);have bt:=hide (HZ.out.keep ba);(have bw:(w.alloc (.cells #[.float .f64 0,.bool false,.slice none 0 0,.int .i64 0,.int .i64 0,.int .i64 0] 33)).heap.size=w.heap.size+1:=by simp);rw [bw] at bd ⊢;have bz:=Zno bd;have hT:=Zjh a len cap xs _ 6 6 headK w1 (H.out.keep ax.out (Nat.le_refl _)) bz aj.out (by decide);unfold ZaU at hT;rw [Zcf Zj4] at hT;have HT:=hide hT;clear bd ba bz hT HZ HH bw;cases hT1:tks xs headK [] 0 with
  | none =>
   rw [hT1] at HT;simp only at HT;(have HN:Hid (decB xs=none):=by show _=_;unfold decB;rw [hT1]);clear hT1;go_wp2_with fail;refine HT.out.mono ?_;rintro e w2 ⟨v2,rfl,ao,_,_⟩;have al:=hide (Zad ax.out ao);have ac:=hide (bt.out.keep ao);have z0:=ac.out.c0;have z1:=ac.out.c1;have z2:=ac.out.c2;have z3:=ac.out.c3;have z4:=ac.out.c4;have z5:=ac.out.c5;have f0:=ac.out.fz;clear ao;go_wp2_with fail;show bodyPost Tryz.prog Tryz.f142 (ZcZ xs w) Exit.ret _ (setRw w2 w.heap.size zeroR (.slice none 0 0));refine ZdR ac.out zeroR none 0 0 (.int .i64 4) (by rfl) (by rfl) (by rfl) ?_;exact⟨Zao al.out (Nat.le_refl _) _ _,fun _=>rfl,fun r h=>by rw [HN.out] at h;cases h⟩
  | some lq =>
   obtain⟨l,q⟩:=lq;rw [hT1] at HT;simp only at HT;(have h6:l.length=6:=by have:=ZcB _ _ _ _ _ hT1;simpa [headK] using this);have hq:q≤len:=by
    have:=Zjj br.out (by rw [an.out];have:=aj.out;omega) _ _ _ _ Zdu (Nat.zero_le _) hT1;rw [an.out] at this;exact this
   obtain⟨n,hn,ag⟩:=Zj5 hT1;have bq:=hide hT1;have H6:=hide h6;have HQ:=hide hq;have HN:=hide hn;clear hT1 h6 hq hn;go_wp2_with fail;refine HT.out.mono ?_;rintro e w2 ⟨v2,rfl,ao,cb,bc⟩;have al:=hide (Zad ax.out ao);have ac:=hide (bt.out.keep ao);obtain⟨p2,c2,ce,is2,_⟩:=cb.is bc;rw [H6.out] at ce is2;obtain⟨b,off,rfl,_⟩:=is2.2.2 0 (by omega);subst ce;have bk:=hide is2;have cg:=hide bc;have bu:∀j,j<6→ItAt w2 b (off+j*4) (l.getD j itD):=fun j hj=>by
    obtain⟨_,_,e,h⟩:=bk.out.2.2 j hj;simp only [Option.some.injEq,Addr.mk.injEq,and_true] at e;obtain⟨rfl,rfl⟩:=e;exact h
   have ar:=hide bu;clear ao cb bc is2 bu HT;go_wp2_with fail;refine Pl.q9 (ops:=Pl.find 4 ((Tryz.f142.body).getD .skip)) ?_;cases hT2:tks (xs.drop q) (List.replicate n 4) [] 0 with
   | none =>
    have ak:Hid (decB xs=none):=by
     show _=_;unfold decB;rw [bq.out];simp only;rw [HN.out,Int.toNat_natCast,hT2]
    refine Zpp w2 w2 a len cap q xs b off c2 n _ (H.out.keep al.out (Nat.le_refl _)) aj.out HQ.out (ar.out 5 (by omega)) HN.out ag hT2 (Below.refl _ _) (by rfl) (by rfl) (by rfl) (by rfl) (by rfl) ?_;intro u w3 af;simp only [Act.put,List.setIfInBounds_toArray,List.set_cons_zero,List.set_cons_succ];have ay:=hide (Zad al.out af);have ad:=hide (ac.out.keep af);have z0:=ad.out.c0;have z1:=ad.out.c1;have z2:=ad.out.c2;have z3:=ad.out.c3;have z4:=ad.out.c4;have z5:=ad.out.c5;have f0:=ad.out.fz;clear af hT2;go_wp2_with fail;show bodyPost Tryz.prog Tryz.f142 (ZcZ xs w) Exit.ret _ (setRw w3 w.heap.size zeroR (.slice none 0 0));refine ZdR ad.out zeroR none 0 0 (.int .i64 4) (by rfl) (by rfl) (by rfl) ?_;exact⟨Zao ay.out (Nat.le_refl _) _ _,fun _=>rfl,fun r h=>by rw [ak.out] at h;cases h⟩
   | some mq =>
    obtain⟨m,q2⟩:=mq;(have bf:m.length=n:=by have:=ZcB _ _ _ _ _ hT2;simpa using this);have bb:Bytes (xs.drop q):=fun x hx=>br.out x (List.mem_of_mem_drop hx);have cd:q2≤len-q:=by
     have:=Zjj bb (by rw [List.length_drop,an.out];have:=aj.out;omega) _ _ _ _ (fun k hk=>by rw [(List.mem_replicate.1 hk).2];decide) (Nat.zero_le _) hT2;rw [List.length_drop,an.out] at this;exact this
    have av:∀i∈m,i.fits:=Ze2 bb (by rw [List.length_drop,an.out];have:=aj.out;omega) _ _ _ _ (fun k hk=>by rw [(List.mem_replicate.1 hk).2];decide) (Nat.zero_le _) (fun i hi=>by cases hi) hT2;have HD:Hid (decB xs=if q+q2<xs.length∨1<(l.getD 0 itD).n∨(rowOf l m).may=false then none else some (rowOf l m)):=by
     show _=_;unfold decB;rw [bq.out];simp only;rw [HN.out,Int.toNat_natCast,hT2]
    have bm:=hide (ZfN cg.out H6.out av);have ci:=hide bf;have cm:=hide cd;have co:=hide av;have bg:∀x∈m.map It.x,x<18446744073709551616:=fun x hx=>by
     obtain⟨i,hi,rfl⟩:=List.mem_map.1 hx;exact(av i hi).2.2.1
    have cj:=hide bg;refine Zpq w2 w2 a len cap q xs b off c2 n _ (H.out.keep al.out (Nat.le_refl _)) aj.out HQ.out (ar.out 5 (by omega)) HN.out ag m q2 hT2 (Below.refl _ _) (by rfl) (by rfl) (by rfl) (by rfl) (by rfl) ?_;intro u w3 v3 ⟨af,bh⟩;simp only [Act.put,List.setIfInBounds_toArray,List.set_cons_zero,List.set_cons_succ];obtain⟨ca,cc,rfl,bv⟩:=bh.fs bg (by rw [List.length_map,bf]) (by omega);have ck:=hide bh;have bo:Hid ((rowOf l m).xs=m.map It.x):=rfl;have ay:=hide (Zad al.out af);have ad:=hide (ac.out.keep af);have bj:=hide bv;have ah:=hide (fun j hj=>Zal (ar.out j hj) af);clear af hT2 bh bv bf bb cd av bg bk;go_wp2_with fail;refine Pl.q9 (ops:=Pl.find 7 ((Tryz.f142.body).getD .skip)) ?_;refine dec7 w3 w3 b off c2 ca n cc _ _ _ _ _ (ah.out 0 (by omega)) (ah.out 1 (by omega)) (ah.out 2 (by omega)) (ah.out 3 (by omega)) (ah.out 4 (by omega)) (Below.refl _ _) (by rfl) (by rfl) (by rfl) (by rfl) ?_;intro u' w4 bi;simp only [Act.put,List.setIfInBounds_toArray,List.set_cons_zero,List.set_cons_succ];(have aq:Below w3.heap.size w3 w4:=by rw [bi];exact ((Below.refl _ _).drew).alloc (Nat.le_refl _) _);(have cf:RwBlk w4 w3.heap.size (rowOf l m) (.slice ca n cc):=by rw [bi];exact Zak w3.drew (rowOf l m) (.slice ca n cc));have au:=hide (Zad ay.out aq);have ab:=hide (ad.out.keep aq);have ch:=hide (bj.out.keep aq (Nat.le_refl _));have am:=hide cf;have cl:=hide (ck.out.keep aq (Nat.le_refl _));have bx:w3.drew.heap.size=w3.heap.size:=rfl;rw [bx];have be:w.heap.size<w3.heap.size:=(Array.getElem?_eq_some_iff.1 ad.out).1;have i0:=(Zal (ah.out 0 (by omega)) aq).2.1;simp only [Nat.zero_mul,Nat.add_zero] at i0;have ai:=hide (Zbl (rowOf l m) ca n cc w4 ch.out bm.out);generalize (rowOf l m)=R at *;generalize (l.getD 0 itD).n=d0 at *;clear bi aq cf bx bj ah ar;have x0:=am.out.c0;have x1:=am.out.c1;have x2:=am.out.c2;have x3:=am.out.c3;have x4:=am.out.c4;have x5:=am.out.c5;unfold Rw.val at ai;obtain⟨rl,aw⟩:∃rl,rl=len-q-q2:=⟨_,rfl⟩;rw [← aw];have bn:=hide aw;(have cn:rl≤100000:=by rw [aw];have:=aj.out;omega);clear aw be;by_cases h1:0<rl
    · (have i1:(0:Int)<(rl:Int):=by omega);have ak:Hid (decB xs=none):=by
       show _=_;rw [HD.out,if_pos (.inl (by rw [an.out];have:=bn.out;omega))]
      have z0:=ab.out.c0;have z1:=ab.out.c1;have z2:=ab.out.c2;have z3:=ab.out.c3;have z4:=ab.out.c4;have z5:=ab.out.c5;have f0:=ab.out.fz;go_wp2_with fail;show bodyPost Tryz.prog Tryz.f142 (ZcZ xs w) Exit.ret _ (setRw w4 w.heap.size zeroR (.slice none 0 0));refine ZdR ab.out zeroR none 0 0 (.int .i64 4) (by rfl) (by rfl) (by rfl) ?_;exact⟨Zao au.out (Nat.le_refl _) _ _,fun _=>rfl,fun r h=>by rw [ak.out] at h;cases h⟩
    · (have i1:¬(0:Int)<(rl:Int):=by omega);by_cases h2:1<d0
      · have ak:Hid (decB xs=none):=by
         show _=_;rw [HD.out,if_pos (.inr (.inl h2))]
        have z0:=ab.out.c0;have z1:=ab.out.c1;have z2:=ab.out.c2;have z3:=ab.out.c3;have z4:=ab.out.c4;have z5:=ab.out.c5;have f0:=ab.out.fz;go_wp2_with fail;show bodyPost Tryz.prog Tryz.f142 (ZcZ xs w) Exit.ret _ (setRw w4 w.heap.size zeroR (.slice none 0 0));refine ZdR ab.out zeroR none 0 0 (.int .i64 4) (by rfl) (by rfl) (by rfl) ?_;exact⟨Zao au.out (Nat.le_refl _) _ _,fun _=>rfl,fun r h=>by rw [ak.out] at h;cases h⟩
      · cases hm:R.may
        · have ak:Hid (decB xs=none):=by
           show _=_;rw [HD.out,if_pos (.inr (.inr hm))]
          rw [hm] at ai;unfold chk at ai;go_wp2_with fail;refine ai.out.mono ?_;rintro e w5 ⟨rfl,ae⟩;have az:=hide (Zad au.out ae);have aa:=hide (ab.out.keep ae);clear ae x0 x1 x2 x3 x4 x5 i0;have z0:=aa.out.c0;have z1:=aa.out.c1;have z2:=aa.out.c2;have z3:=aa.out.c3;have z4:=aa.out.c4;have z5:=aa.out.c5;have f0:=aa.out.fz;go_wp2_with fail;show bodyPost Tryz.prog Tryz.f142 (ZcZ xs w) Exit.ret _ (setRw w5 w.heap.size zeroR (.slice none 0 0));refine ZdR aa.out zeroR none 0 0 (.int .i64 4) (by rfl) (by rfl) (by rfl) ?_;exact⟨Zao az.out (Nat.le_refl _) _ _,fun _=>rfl,fun r h=>by rw [ak.out] at h;cases h⟩
        · have bp:Hid (decB xs=some R):=by
           show _=_;rw [HD.out,if_neg];rintro (h | h | h)
           · rw [an.out] at h;have:=bn.out;have:=cm.out;have:=HQ.out;omega
           · exact h2 h
           · rw [hm] at h;cases h
          rw [hm] at ai;unfold chk at ai;go_wp2_with fail;refine ai.out.mono ?_;rintro e w5 ⟨rfl,ae⟩;have az:=hide (Zad au.out ae);have aa:=hide (ab.out.keep ae);have ap:=hide (am.out.keep ae);have bl:=hide (cl.out.keep ae (Nat.le_refl _));clear ae x0 x1 x2 x3 x4 x5 i0;have x0:=ap.out.c0;have x1:=ap.out.c1;have x2:=ap.out.c2;have x3:=ap.out.c3;have x4:=ap.out.c4;have x5:=ap.out.c5;have z0:=aa.out.c0;have z1:=aa.out.c1;have z2:=aa.out.c2;have z3:=aa.out.c3;have z4:=aa.out.c4;have z5:=aa.out.c5;have f0:=aa.out.fz;go_wp2_with fail;show bodyPost Tryz.prog Tryz.f142 (ZcZ xs w) Exit.ret _ (setRw w5 w.heap.size R (.slice ca n cc));refine ZdR aa.out R ca n cc (.int .i64 0) (by rfl) (by rfl) (by rfl) ?_;refine⟨Zao az.out (Nat.le_refl _) _ _,(fun h=>by rw [bp.out] at h;cases h),fun r h=>?_⟩;rw [bp.out] at h;simp only [Option.some.injEq] at h;subst h;refine⟨bm.out,ca,n,cc,rfl,?_,?_⟩
          · rw [bo.out];exact(bl.out.setRw aa.out _ _).fsAt cj.out (by rw [List.length_map,ci.out];omega)
          · rw [bo.out];exact(bl.out.setRw aa.out _ _).lower al.out.size
end Go.Proofs.YtdojdcncncgncaaGreat
