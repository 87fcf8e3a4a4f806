/-
  Lemmas.
-/
import Derived.Test.YtiecfcjlhldhdaaGreatKeap
import Derived.Test.YtiecfcjlhldhdaaGreatKean
namespace Go.Proofs.YtiecfcjlhldhdaaGreat
open Go.RowKit
set_option linter.unusedVariables false
set_option linter.unusedSimpArgs false
set_option maxRecDepth 100000
set_option maxHeartbeats 4000000
variable {w:World}{xs:List Nat}{A:Act}{g cap base:Nat}{a:Option Addr}{r0:Rw}{c0:Value}
theorem Zic (a b c:Value)(w:World):(Instr.extract (.tuple #[a,b,c]) 0).run Tryz.prog w=.ok a w∧(Instr.extract (.tuple #[a,b,c]) 1).run Tryz.prog w=.ok b w∧(Instr.extract (.tuple #[a,b,c]) 2).run Tryz.prog w=.ok c w:=by
 refine⟨?_,?_,?_⟩ <;> simp [go_sem,Instr.extract]
theorem Zfk (c n:Int)(w:World):(Instr.build 37 #[(0,.int .i64 c),(1,.int .i64 n)]).run Tryz.prog w=.ok (.agg #[.int .i64 c,.int .i64 n]) w:=by
 simp [go_sem,Instr.build]
theorem Zln (k:Nat)(d:Bool)(a:Option Addr)(len cap:Nat)(t c n:Int)(w:World):(Instr.build 39 #[(0,.float .f64 k),(1,.bool d),(2,.slice a len cap),(3,.int .i64 t),(4,.agg #[.int .i64 c,.int .i64 n])]).run Tryz.prog w=.ok (.agg #[.float .f64 k,.bool d,.slice a len cap,.int .i64 t,.int .i64 c,.int .i64 n]) w:=by
 simp [go_sem,Instr.build]
theorem Zg7 (w:World):(Instr.alloc 39 true (.tuple #[])).run Tryz.prog w=.ok (.pointer (some ⟨w.heap.size,0,none⟩)) (w.alloc (.cells #[.float .f64 0,.bool false,.slice none 0 0,.int .i64 0,.int .i64 0,.int .i64 0] 39)):=by
 simp [go_sem,Instr.alloc]
theorem Zcl (k:Nat)(d:Bool)(a:Option Addr)(len cap:Nat)(t c n:Int)(w:World):(Instr.storeAt 39 (.pointer (some ⟨w.heap.size,0,none⟩)) (.agg #[.float .f64 k,.bool d,.slice a len cap,.int .i64 t,.int .i64 c,.int .i64 n])).run Tryz.prog (w.alloc (.cells #[.float .f64 0,.bool false,.slice none 0 0,.int .i64 0,.int .i64 0,.int .i64 0] 39))
    = .ok () (w.alloc (.cells #[.float .f64 k,.bool d,.slice a len cap,.int .i64 t,.int .i64 c,.int .i64 n] 39)):=by
  have aa:∀(w:World) (a:Addr) (m:Mode) (x:Nat),(store a (.float .f64 x) m).run Tryz.prog w=stored Tryz.prog w a (.float .f64 x) m:=fun w a m x=>run_store Tryz.prog w a _ m rfl;simp [go_sem,Instr.storeAt,aa]
theorem Za2 (b o k:Nat)(hk:k<4)(w:World):(Instr.fieldAt 182 (.pointer (some ⟨b,o,none⟩)) k).run Tryz.prog w=.ok (.pointer (some ⟨b,o+k,none⟩)) w:=by
 (have:k=0∨k=1∨k=2∨k=3:=by omega);rcases this with rfl | rfl | rfl | rfl <;> simp [go_sem]
theorem ZgS:∀args w,(callFunc 187 args).run Tryz.prog w=.ok (.enter 187 args) w:=Pl.qi Tryz.func187
theorem Came.keep {w':World}{B:Nat}{len:Nat}(h:Came w a len cap xs)(hb:Below B w w')(hB:w.heap.size≤B):Came w' a len cap xs:=⟨h.bs.keep hb hB,h.nil,h.le,h.big⟩
theorem Came.from {len q:Nat}(h:Came w a len cap xs)(hq:q≤len):Came w (fromA a cap q) (len-q) (cap-q) (xs.drop q):=by
 refine⟨h.bs.from hq h.le,?_,by have:=h.le;omega,by have:=h.big;omega⟩;intro e;unfold fromA at e;split at e
 · omega
 · cases a with
   | none=>have:=h.nil rfl;omega
   | some x=>simp at e
def rowOf (l m:List It):Rw:=⟨(l.getD 1 itD).x,(l.getD 0 itD).n != 0,m.map It.x,(l.getD 2 itD).n,(l.getD 3 itD).n,(l.getD 4 itD).n⟩
def decB (xs:List Nat):Option Rw:=match tks xs headK [] 0 with
  | none=>none
  | some (l,q)=>match tks (xs.drop q) (List.replicate (l.getD 5 itD).n.toNat 4) [] 0 with
    | none=>none
    | some (m,q2)=>if q+q2<xs.length∨1<(l.getD 0 itD).n∨(rowOf l m).may=false then none else some (rowOf l m)
theorem Zrc (w0 w:World)(a:Option Addr)(len cap q:Nat)(xs:List Nat)(b off c2 n:Nat)(y:It)(hc:Came w0 a len cap xs)(hl:len≤100000)(hq:q≤len)(hx:ItAt w0 b (off+5*4) y)(hy:y.n=(n:Nat))(hn:n≤255)(hT:tks (xs.drop q) (List.replicate n 4) [] 0=none)(hW:Below w0.heap.size w0 w)
    {Q:Exit→Act→World→Prop}(ae:A.tmps.size=78)(ad:A.defers=[])(s0:A.tmps.getD 0 undef=.slice a len cap)(s4:A.tmps.getD 4 undef=.slice (some ⟨b,off,none⟩) 6 c2)(s5:A.tmps.getD 5 undef=.int .i64 (q:Nat))
    (hend:∀(u:Nat→Value) w',Below w0.heap.size w0 w'→Q .normal ((((Pl.pu A u [22,23,24,25,26,27,28,29,21,30,31,32]).put (some 7) (.slice none 0 0)).put (some 8) (.slice none 0 0)).put (some 6) (.int .i64 4)) w') :
    (Code.region 4 (Pl.find 4 ((Tryz.f170.body).getD .skip)) true).wp Tryz.prog Q A w:=by
  have aa:Below w0.heap.size w0 w.drew:=hW.drew;have hA:=Pl.At.same (v:=.int .i64 (q:Nat)) (d:=5) (Pl.At.same (v:=.slice (some ⟨b,off,none⟩) 6 c2) (d:=4) (Pl.At.same (v:=.slice a len cap) (d:=0) (Pl.At.here ae ad) s0) s4) s5;refine Pl.qa (S:=fun w'=>Below w0.heap.size w0 w') hA aa ?_;rw [show (Pl.find 4 ((Tryz.f170.body).getD .skip)).size=15 by kernel_rfl];refine Pl.q0 0 22 (.slice a len cap) (Pl.q1) (Pl.q2 (.tmp 0)) aa ?_;refine Pl.q0 1 23 (.int .i64 (q:Nat)) (Pl.q1) (Pl.q2 (.tmp 5)) aa ?_;refine Pl.q0 2 24 (.slice (fromA a cap q) (len-q) (cap-q)) (Pl.q1) (Pl.qu 107 (.tmp 22) (some (.tmp 23)) none (fun w=>Zc0 a len cap q hq w)) aa ?_;refine Pl.q0 3 25 (.slice (some ⟨b,off,none⟩) 6 c2) (Pl.q1) (Pl.q2 (.tmp 4)) aa ?_;refine Pl.q0 4 26 (.pointer (some ⟨b,off+5*4,none⟩)) (Pl.q1) (Pl.qb 183 (.tmp 25) (.const (.int .i64 5)) (Zat b off 6 c2 5 (by decide))) aa ?_;refine Pl.q0 5 27 (.pointer (some ⟨b,off+5*4+1,none⟩)) (Pl.q1) (Pl.q5 182 (.tmp 26) 1 (Za2 b (off+5*4) 1 (by decide))) aa ?_;refine Pl.q0 6 28 (.int .i64 (n:Nat)) (Pl.q1) (Pl.q4 3 (.tmp 27) (fun w' hS=>Za5 b (off+5*4+1) _ w' (by rw [← hy];exact (Zao hx hS).2.1))) aa ?_;refine Pl.qd 7 29 187 [(.tmp 24),(.tmp 28)] #[107,3] (Pl.q1) ZgS (Calls.mono (Zef (fromA a cap q) (len-q) (cap-q) n (xs.drop q) w.drew ((hc.keep aa (Nat.le_refl _)).from hq) (by omega) hn) ?_);rintro e w1 ⟨ac,h1,_⟩;have he:=h1 hT;subst he;have ab:=aa.trans (ac.mono aa.size);refine⟨.tuple #[.slice none 0 0,.slice none 0 0,.int .i64 4],rfl,ab,?_⟩;refine Pl.q0 8 21 (.tuple #[.slice none 0 0,.slice none 0 0,.int .i64 4]) (Pl.q1) (Pl.q2 (.tmp 29)) ab ?_;refine Pl.q0 9 30 (.slice none 0 0) (Pl.q1) (Pl.qf (.tmp 21) 0 (fun w=>(Zic _ _ _ w).1)) ab ?_;refine Pl.q0 10 31 (.slice none 0 0) (Pl.q1) (Pl.qf (.tmp 21) 1 (fun w=>(Zic _ _ _ w).2.1)) ab ?_;refine Pl.q0 11 32 (.int .i64 4) (Pl.q1) (Pl.qf (.tmp 21) 2 (fun w=>(Zic _ _ _ w).2.2)) ab ?_;refine Pl.q0 12 7 (.slice none 0 0) (Pl.q1) (Pl.qe (.tmp 30)) ab ?_;refine Pl.q0 13 8 (.slice none 0 0) (Pl.q1) (Pl.qe (.tmp 31)) ab ?_;refine Pl.q0 14 6 (.int .i64 4) (Pl.q1) (Pl.qe (.tmp 32)) ab ?_;refine Pl.q8 (fun A' hA'=>?_);rw [Pl.At.ext hA' (((((((((((((((hA.put 22 _).put 23 _).put 24 _).put 25 _).put 26 _).put 27 _).put 28 _).put 29 _).put 21 _).put 30 _).put 31 _).put 32 _).put 7 _).put 8 _).put 6 _)];exact hend hA'.fn _ ab
theorem Zrd (w0 w:World)(a:Option Addr)(len cap q:Nat)(xs:List Nat)(b off c2 n:Nat)(y:It)(hc:Came w0 a len cap xs)(hl:len≤100000)(hq:q≤len)(hx:ItAt w0 b (off+5*4) y)(hy:y.n=(n:Nat))(hn:n≤255)(l:List It)(q2:Nat)(hT:tks (xs.drop q) (List.replicate n 4) [] 0=some (l,q2))(hW:Below w0.heap.size w0 w)
    {Q:Exit→Act→World→Prop}(ag:A.tmps.size=78)(ad:A.defers=[])(s0:A.tmps.getD 0 undef=.slice a len cap)(s4:A.tmps.getD 4 undef=.slice (some ⟨b,off,none⟩) 6 c2)(s5:A.tmps.getD 5 undef=.int .i64 (q:Nat))
    (hend:∀(u:Nat→Value) w' v,(Below w0.heap.size w0 w'∧OwnsV 32 w' w0.heap.size v (fVals (l.map It.x)))→Q .normal ((((Pl.pu A u [22,23,24,25,26,27,28,29,21,30,31,32]).put (some 7) (v)).put (some 8) (.slice (fromA (fromA a cap q) (cap-q) q2) (len-q-q2) (cap-q-q2))).put (some 6) (.int .i64 0)) w') :
    (Code.region 4 (Pl.find 4 ((Tryz.f170.body).getD .skip)) true).wp Tryz.prog Q A w:=by
  have aa:Below w0.heap.size w0 w.drew:=hW.drew;have hA:=Pl.At.same (v:=.int .i64 (q:Nat)) (d:=5) (Pl.At.same (v:=.slice (some ⟨b,off,none⟩) 6 c2) (d:=4) (Pl.At.same (v:=.slice a len cap) (d:=0) (Pl.At.here ag ad) s0) s4) s5;refine Pl.qa (S:=fun w'=>Below w0.heap.size w0 w') hA aa ?_;rw [show (Pl.find 4 ((Tryz.f170.body).getD .skip)).size=15 by kernel_rfl];refine Pl.q0 0 22 (.slice a len cap) (Pl.q1) (Pl.q2 (.tmp 0)) aa ?_;refine Pl.q0 1 23 (.int .i64 (q:Nat)) (Pl.q1) (Pl.q2 (.tmp 5)) aa ?_;refine Pl.q0 2 24 (.slice (fromA a cap q) (len-q) (cap-q)) (Pl.q1) (Pl.qu 107 (.tmp 22) (some (.tmp 23)) none (fun w=>Zc0 a len cap q hq w)) aa ?_;refine Pl.q0 3 25 (.slice (some ⟨b,off,none⟩) 6 c2) (Pl.q1) (Pl.q2 (.tmp 4)) aa ?_;refine Pl.q0 4 26 (.pointer (some ⟨b,off+5*4,none⟩)) (Pl.q1) (Pl.qb 183 (.tmp 25) (.const (.int .i64 5)) (Zat b off 6 c2 5 (by decide))) aa ?_;refine Pl.q0 5 27 (.pointer (some ⟨b,off+5*4+1,none⟩)) (Pl.q1) (Pl.q5 182 (.tmp 26) 1 (Za2 b (off+5*4) 1 (by decide))) aa ?_;refine Pl.q0 6 28 (.int .i64 (n:Nat)) (Pl.q1) (Pl.q4 3 (.tmp 27) (fun w' hS=>Za5 b (off+5*4+1) _ w' (by rw [← hy];exact (Zao hx hS).2.1))) aa ?_;refine Pl.qd 7 29 187 [(.tmp 24),(.tmp 28)] #[107,3] (Pl.q1) ZgS (Calls.mono (Zef (fromA a cap q) (len-q) (cap-q) n (xs.drop q) w.drew ((hc.keep aa (Nat.le_refl _)).from hq) (by omega) hn) ?_);rintro e w1 ⟨ac,_,h1⟩;obtain⟨_,_,v,he,ae⟩:=h1 l q2 hT;subst he;have ab:=aa.trans (ac.mono aa.size);have af:=ae.lower aa.size;refine⟨.tuple #[v,.slice (fromA (fromA a cap q) (cap-q) q2) (len-q-q2) (cap-q-q2),.int .i64 0],rfl,ab,?_⟩;refine Pl.q0 8 21 (.tuple #[v,.slice (fromA (fromA a cap q) (cap-q) q2) (len-q-q2) (cap-q-q2),.int .i64 0]) (Pl.q1) (Pl.q2 (.tmp 29)) ab ?_;refine Pl.q0 9 30 (v) (Pl.q1) (Pl.qf (.tmp 21) 0 (fun w=>(Zic _ _ _ w).1)) ab ?_;refine Pl.q0 10 31 (.slice (fromA (fromA a cap q) (cap-q) q2) (len-q-q2) (cap-q-q2)) (Pl.q1) (Pl.qf (.tmp 21) 1 (fun w=>(Zic _ _ _ w).2.1)) ab ?_;refine Pl.q0 11 32 (.int .i64 0) (Pl.q1) (Pl.qf (.tmp 21) 2 (fun w=>(Zic _ _ _ w).2.2)) ab ?_;refine Pl.q0 12 7 (v) (Pl.q1) (Pl.qe (.tmp 30)) ab ?_;refine Pl.q0 13 8 (.slice (fromA (fromA a cap q) (cap-q) q2) (len-q-q2) (cap-q-q2)) (Pl.q1) (Pl.qe (.tmp 31)) ab ?_;refine Pl.q0 14 6 (.int .i64 0) (Pl.q1) (Pl.qe (.tmp 32)) ab ?_;refine Pl.q8 (fun A' hA'=>?_);rw [Pl.At.ext hA' (((((((((((((((hA.put 22 _).put 23 _).put 24 _).put 25 _).put 26 _).put 27 _).put 28 _).put 29 _).put 21 _).put 30 _).put 31 _).put 32 _).put 7 _).put 8 _).put 6 _)];exact hend hA'.fn _ v ⟨ab,af⟩
theorem dec7 (w0 w:World)(b off c2:Nat)(ca:Option Addr)(cl cc:Nat)(y0 y1 y2 y3 y4:It)(af:ItAt w0 b (off+0*4) y0)(ag:ItAt w0 b (off+1*4) y1)(ah:ItAt w0 b (off+2*4) y2)(ai:ItAt w0 b (off+3*4) y3)(aj:ItAt w0 b (off+4*4) y4)(hW:Below w0.heap.size w0 w)
    {Q:Exit→Act→World→Prop}(ae:A.tmps.size=78)(ad:A.defers=[])(s4:A.tmps.getD 4 undef=.slice (some ⟨b,off,none⟩) 6 c2)(s7:A.tmps.getD 7 undef=.slice ca cl cc)
    (hend:∀(u:Nat→Value) w',w'=w.drew.alloc (.cells #[.float .f64 y1.x,.bool (y0.n != 0),.slice ca cl cc,.int .i64 y2.n,.int .i64 y3.n,.int .i64 y4.n] 39)→Q .normal ((Pl.pu A u [37,38,39,40,41,42,43,44,45,46,47,48,49,50,51,52,53,54,55,56,57,58,59,60]).put (some 9) (.pointer (some ⟨w.drew.heap.size,0,none⟩))) w') :
    (Code.region 7 (Pl.find 7 ((Tryz.f170.body).getD .skip)) true).wp Tryz.prog Q A w:=by
  have aa:Below w0.heap.size w0 w.drew:=hW.drew;have hA:=Pl.At.same (v:=.slice ca cl cc) (d:=7) (Pl.At.same (v:=.slice (some ⟨b,off,none⟩) 6 c2) (d:=4) (Pl.At.here ae ad) s4) s7;refine Pl.qa (S:=fun w'=>Below w0.heap.size w0 w') hA aa ?_;rw [show (Pl.find 7 ((Tryz.f170.body).getD .skip)).size=26 by kernel_rfl];refine Pl.q0 0 37 (.slice (some ⟨b,off,none⟩) 6 c2) (Pl.q1) (Pl.q2 (.tmp 4)) aa ?_;refine Pl.q0 1 38 (.pointer (some ⟨b,off+1*4,none⟩)) (Pl.q1) (Pl.qb 183 (.tmp 37) (.const (.int .i64 1)) (Zat b off 6 c2 1 (by decide))) aa ?_;refine Pl.q0 2 39 (.pointer (some ⟨b,off+1*4+2,none⟩)) (Pl.q1) (Pl.q5 182 (.tmp 38) 2 (Za2 b (off+1*4) 2 (by decide))) aa ?_;refine Pl.q0 3 40 (.float .f64 y1.x) (Pl.q1) (Pl.q4 32 (.tmp 39) (fun w' hS=>ZdB b (off+1*4+2) _ w' (Zao ag hS).2.2.1)) aa ?_;refine Pl.q0 4 41 (.slice (some ⟨b,off,none⟩) 6 c2) (Pl.q1) (Pl.q2 (.tmp 4)) aa ?_;refine Pl.q0 5 42 (.pointer (some ⟨b,off+0*4,none⟩)) (Pl.q1) (Pl.qb 183 (.tmp 41) (.const (.int .i64 0)) (Zat b off 6 c2 0 (by decide))) aa ?_;refine Pl.q0 6 43 (.pointer (some ⟨b,off+0*4+1,none⟩)) (Pl.q1) (Pl.q5 182 (.tmp 42) 1 (Za2 b (off+0*4) 1 (by decide))) aa ?_;refine Pl.q0 7 44 (.int .i64 y0.n) (Pl.q1) (Pl.q4 3 (.tmp 43) (fun w' hS=>Za5 b (off+0*4+1) _ w' (Zao af hS).2.1)) aa ?_;refine Pl.q0 8 45 (.bool (y0.n != 0)) (Pl.q1) (Pl.qc .neq 3 3 (.tmp 44) (.const (.int .i64 0)) (.int .i64 y0.n) (.int .i64 0) (fun w=>by simp [go_sem,eqGuard])) aa ?_;refine Pl.q0 9 46 (.slice ca cl cc) (Pl.q1) (Pl.q2 (.tmp 7)) aa ?_;refine Pl.q0 10 47 (.slice (some ⟨b,off,none⟩) 6 c2) (Pl.q1) (Pl.q2 (.tmp 4)) aa ?_;refine Pl.q0 11 48 (.pointer (some ⟨b,off+2*4,none⟩)) (Pl.q1) (Pl.qb 183 (.tmp 47) (.const (.int .i64 2)) (Zat b off 6 c2 2 (by decide))) aa ?_;refine Pl.q0 12 49 (.pointer (some ⟨b,off+2*4+1,none⟩)) (Pl.q1) (Pl.q5 182 (.tmp 48) 1 (Za2 b (off+2*4) 1 (by decide))) aa ?_;refine Pl.q0 13 50 (.int .i64 y2.n) (Pl.q1) (Pl.q4 3 (.tmp 49) (fun w' hS=>Za5 b (off+2*4+1) _ w' (Zao ah hS).2.1)) aa ?_;refine Pl.q0 14 51 (.slice (some ⟨b,off,none⟩) 6 c2) (Pl.q1) (Pl.q2 (.tmp 4)) aa ?_;refine Pl.q0 15 52 (.pointer (some ⟨b,off+3*4,none⟩)) (Pl.q1) (Pl.qb 183 (.tmp 51) (.const (.int .i64 3)) (Zat b off 6 c2 3 (by decide))) aa ?_;refine Pl.q0 16 53 (.pointer (some ⟨b,off+3*4+1,none⟩)) (Pl.q1) (Pl.q5 182 (.tmp 52) 1 (Za2 b (off+3*4) 1 (by decide))) aa ?_;refine Pl.q0 17 54 (.int .i64 y3.n) (Pl.q1) (Pl.q4 3 (.tmp 53) (fun w' hS=>Za5 b (off+3*4+1) _ w' (Zao ai hS).2.1)) aa ?_;refine Pl.q0 18 55 (.slice (some ⟨b,off,none⟩) 6 c2) (Pl.q1) (Pl.q2 (.tmp 4)) aa ?_;refine Pl.q0 19 56 (.pointer (some ⟨b,off+4*4,none⟩)) (Pl.q1) (Pl.qb 183 (.tmp 55) (.const (.int .i64 4)) (Zat b off 6 c2 4 (by decide))) aa ?_;refine Pl.q0 20 57 (.pointer (some ⟨b,off+4*4+1,none⟩)) (Pl.q1) (Pl.q5 182 (.tmp 56) 1 (Za2 b (off+4*4) 1 (by decide))) aa ?_;refine Pl.q0 21 58 (.int .i64 y4.n) (Pl.q1) (Pl.q4 3 (.tmp 57) (fun w' hS=>Za5 b (off+4*4+1) _ w' (Zao aj hS).2.1)) aa ?_;refine Pl.q0 22 59 (.agg #[.int .i64 y3.n,.int .i64 y4.n]) (Pl.q1) (Pl.q_38 37 [(0,(.tmp 54)),(1,(.tmp 58))] (fun w=>Zfk y3.n y4.n w)) aa ?_;refine Pl.q0 23 60 (.agg #[.float .f64 y1.x,.bool (y0.n != 0),.slice ca cl cc,.int .i64 y2.n,.int .i64 y3.n,.int .i64 y4.n]) (Pl.q1) (Pl.q_38 39 [(0,(.tmp 40)),(1,(.tmp 45)),(2,(.tmp 46)),(3,(.tmp 50)),(4,(.tmp 59))] (fun w=>Zln y1.x (y0.n != 0) ca cl cc y2.n y3.n y4.n w)) aa ?_;have ab:Below w0.heap.size w0 (w.drew.alloc (.cells #[.float .f64 0,.bool false,.slice none 0 0,.int .i64 0,.int .i64 0,.int .i64 0] 39)):=aa.alloc aa.size _;refine Pl.qh 24 9 (.pointer (some ⟨w.drew.heap.size,0,none⟩)) (w.drew.alloc (.cells #[.float .f64 0,.bool false,.slice none 0 0,.int .i64 0,.int .i64 0,.int .i64 0] 39)) (Pl.q1) (Pl.qw 39 (Zg7 w.drew)) ab ?_;have ac:Below w0.heap.size w0 (w.drew.alloc (.cells #[.float .f64 y1.x,.bool (y0.n != 0),.slice ca cl cc,.int .i64 y2.n,.int .i64 y3.n,.int .i64 y4.n] 39)):=aa.alloc aa.size _;refine Pl.qj 25 (w.drew.alloc (.cells #[.float .f64 y1.x,.bool (y0.n != 0),.slice ca cl cc,.int .i64 y2.n,.int .i64 y3.n,.int .i64 y4.n] 39)) (Pl.q1) (Pl.qk 39 (.tmp 9) (.tmp 60) (Zcl y1.x (y0.n != 0) ca cl cc y2.n y3.n y4.n w.drew)) ac ?_;refine Pl.q8 (fun A' hA'=>?_);rw [Pl.At.ext hA' (((((((((((((((((((((((((hA.put 37 _).put 38 _).put 39 _).put 40 _).put 41 _).put 42 _).put 43 _).put 44 _).put 45 _).put 46 _).put 47 _).put 48 _).put 49 _).put 50 _).put 51 _).put 52 _).put 53 _).put 54 _).put 55 _).put 56 _).put 57 _).put 58 _).put 59 _).put 60 _).put 9 _)];exact hend hA'.fn _ rfl
theorem Zc1 (xs:List Nat):∀(ks js:List Int)(l:List It)(q:Nat),tks xs (ks ++ js) l q=match tks xs ks l q with
    | none=>none
    | some (m,p)=>tks xs js m p
  | [],js,l,q=>by simp [tks]
  | k :: ks,js,l,q=>by
   simp only [List.cons_append,tks]
   cases tk (xs.drop q) k with
   | none=>rfl
   | some r=>exact Zc1 xs ks js _ _
theorem Zke {l:List It}{q:Nat}(h:tks xs headK [] 0=some (l,q)):∃n:Nat,(l.getD 5 itD).n=(n:Nat)∧n≤255:=by
 have e:headK=[1,4,3,2,3] ++ [1]:=rfl;rw [e,Zc1] at h;cases h5:tks xs [1,4,3,2,3] [] 0 with
 | none=>rw [h5] at h;cases h
 | some r =>
  obtain⟨m,p⟩:=r;rw [h5] at h;(have hm:m.length=5:=by have:=Zcm _ _ _ _ _ h5;simpa using this);simp only [tks] at h;cases h1:tk (xs.drop p) 1 with
  | none=>rw [h1] at h;cases h
  | some r =>
   obtain⟨i,n⟩:=r;rw [h1] at h;simp only [Option.some.injEq,Prod.mk.injEq] at h;obtain⟨rfl,_⟩:=h;have hi:(m ++ [i]).getD 5 itD=i:=by
    simp [List.getD,hm]
   rw [hi];simp only [tk,show ¬(1:Int)=4 by decide,show ¬(1:Int)=5 by decide,if_false] at h1;split at h1
   · split at h1
     · rename_i _ hle;simp only [Option.some.injEq,Prod.mk.injEq] at h1;obtain⟨rfl,_⟩:=h1;refine⟨_,rfl,?_⟩;have:maxN 1=255:=rfl;rw [this] at hle;omega
     · cases h1
   · cases h1
theorem Zkd:∀t,t<headK.length→1≤headK.getD t 0∧headK.getD t 0≤5:=by decide
theorem ZcY:∀k∈headK,1≤k∧k≤5:=by decide
def Zdw:Value:=.agg #[.float .f64 0,.bool false,.slice none 0 0,.int .i64 0,.int .i64 0,.int .i64 0]
def Zc7 (xs:List Nat) (w:World) (e:Ending) (w':World):Prop:=
  Below w.heap.size w w'∧(decB xs=none→e=.returned (.tuple #[Zdw,.int .i64 4])) ∧
    (∀r,decB xs=some r→r.fits∧∃a len cap,e=.returned (.tuple #[r.val (.slice a len cap),.int .i64 0])∧Fs w' a len cap r.xs∧OwnsV 32 w' w.heap.size (.slice a len cap) (fVals r.xs))
theorem ZhZ {W:World}{r:Rw}{c:Value}(h:RwBlk W g r c)(tmps:Array Value)(x:Value)(ht:tmps.getD 2 undef=.pointer (some ⟨g,0,none⟩))(hx:tmps.getD 3 undef=x)(hc:∃a len cap,c=.slice a len cap):(results Tryz.f170 tmps).run Tryz.prog W=.ok (.tuple #[r.val c,x]) W:=by
 have c0:=h.c0;have c1:=h.c1;have c2:=h.c2;have c3:=h.c3;have c4:=h.c4;have c5:=h.c5;obtain⟨a,len,cap,rfl⟩:=hc;(have aa:tmps[2]?.getD undef=.pointer (some ⟨g,0,none⟩):=by simpa using ht);(have ab:tmps[3]?.getD undef=x:=by simpa using hx);simp [results,Tryz.results170,aa,ab,go_sem,c0,c1,c2,c3,c4,c5,Rw.val]
def setRw (w:World) (g:Nat) (r:Rw) (c:Value):World:=(((((w.setCell ⟨g,0,none⟩ (.float .f64 r.key)).setCell ⟨g,1,none⟩ (.bool r.dead)).setCell ⟨g,2,none⟩ c).setCell ⟨g,3,none⟩ (.int .i64 r.wr)).setCell ⟨g,4,none⟩ (.int .i64 r.cell)).setCell ⟨g,5,none⟩ (.int .i64 r.no)
theorem ZaI (h:RwBlk w g r0 c0)(r:Rw)(c:Value):RwBlk (setRw w g r c) g r c:=by
 have h1:=heap_setCell_same w g 0 _ 39 (.float .f64 r.key) h;have h2:=heap_setCell_same _ g 1 _ 39 (.bool r.dead) h1;have h3:=heap_setCell_same _ g 2 _ 39 c h2;have h4:=heap_setCell_same _ g 3 _ 39 (.int .i64 r.wr) h3;have h5:=heap_setCell_same _ g 4 _ 39 (.int .i64 r.cell) h4;have h6:=heap_setCell_same _ g 5 _ 39 (.int .i64 r.no) h5;unfold RwBlk setRw;rw [h6];simp
theorem Zal {B:Nat}{w0:World}(hb:Below B w0 w)(hg:B≤g)(r:Rw)(c:Value):Below B w0 (setRw w g r c):=
 (((((hb.setCell (p:=⟨g,0,none⟩) hg _).setCell (p:=⟨g,1,none⟩) hg _).setCell (p:=⟨g,2,none⟩) hg _).setCell (p:=⟨g,3,none⟩) hg _).setCell (p:=⟨g,4,none⟩) hg _).setCell (p:=⟨g,5,none⟩) hg _
theorem Zi2 (w:World)(g:Nat)(r:Rw)(c:Value)(k:Nat)(hk:k≠g):(setRw w g r c).heap[k]? = w.heap[k]?:=by
 unfold setRw;rw [Below.heap_setCell _ ⟨g,5,none⟩ _ k hk,Below.heap_setCell _ ⟨g,4,none⟩ _ k hk,Below.heap_setCell _ ⟨g,3,none⟩ _ k hk,Below.heap_setCell _ ⟨g,2,none⟩ _ k hk,Below.heap_setCell _ ⟨g,1,none⟩ _ k hk,Below.heap_setCell _ ⟨g,0,none⟩ _ k hk]
theorem Zd4 {W:World}(h:RwBlk W g r0 c0)(r:Rw)(a:Option Addr)(len cap:Nat)(x:Value){R:Ending→World→Prop}(t2:A.tmps.getD 2 undef=.pointer (some ⟨g,0,none⟩))(t3:A.tmps.getD 3 undef=x)(hd:A.defers=[])
    (hR:R (.returned (.tuple #[r.val (.slice a len cap),x])) (setRw W g r (.slice a len cap))):bodyPost Tryz.prog Tryz.f170 R Exit.ret A (setRw W g r (.slice a len cap)):=by
  have hr:=ZaI h r (.slice a len cap);generalize setRw W g r (.slice a len cap)=W' at *;exact bodyPost_ret (ZhZ hr _ _ t2 t3 ⟨_,_,_,rfl⟩) hd hR
def zeroR:Rw:=⟨0,false,[],0,0,0⟩
theorem ZmR:zeroR.val (.slice none 0 0)=Zdw:=rfl
theorem ZfC {l m:List It}(hl:∀i∈l,i.fits)(h6:l.length=6)(hm:∀i∈m,i.fits):(rowOf l m).fits:=by
 have g:∀j,j<6→(l.getD j itD).fits:=fun j hj=>by
  (have hj':j<l.length:=by omega);have:=hl _ (List.getElem_mem hj');simpa [List.getD,hj'] using this
 refine⟨(g 1 (by omega)).2.2.1,?_,(g 2 (by omega)).2.1,(g 3 (by omega)).2.1,(g 4 (by omega)).2.1⟩;intro x hx;obtain⟨i,hi,rfl⟩:=List.mem_map.1 hx;exact(hm i hi).2.2.1
theorem OwnsV.fs {v:Value}{n:Nat}(h:OwnsV 32 w base v (fVals xs))(hx:∀x∈xs,x<18446744073709551616)(hn:xs.length=n)(hb:n≤1000000):∃a cap,v=.slice a n cap∧Fs w a n cap xs:=by
 obtain⟨a,cap,hv,ac,aa,ab⟩:=h.vs (ZgT _);(have hl:(fVals xs).length=n:=by simp [fVals,hn]);rw [hl] at hv ac ab;exact⟨a,cap,hv,ac,hx,aa,ab,by omega⟩
theorem OwnsV.setRw {v:Value}{vs:List Value}(h:OwnsV 32 w base v vs)(hg:RwBlk w g r0 c0)(r:Rw)(c:Value):OwnsV 32 (setRw w g r c) base v vs:=by
 refine⟨h.1,?_⟩;rcases h.2 with hn | ⟨k,cap,cur,hv,hb,hk,rest⟩
 · exact .inl hn
 · refine .inr ⟨k,cap,cur,hv,hb,(Zi2 w g r c k ?_).trans hk,rest⟩;rintro rfl;unfold RwBlk at hg;rw [hk] at hg;simp only [Option.some.injEq,Obj.cells.injEq] at hg;exact absurd hg.2.1 (by decide)
theorem OwnsV.fsAt {n:Nat}(h:OwnsV 32 w base (.slice a n cap) (fVals xs))(hx:∀x∈xs,x<18446744073709551616)(hb:xs.length≤1000000):Fs w a n cap xs:=by
 obtain⟨a',cap',hv,hf⟩:=h.fs hx rfl hb;simp only [Value.slice.injEq] at hv;obtain⟨rfl,rfl,rfl⟩:=hv;exact hf
theorem ZjT (a:Option Addr)(len cap:Nat)(xs:List Nat)(w:World)(h:Came w a len cap xs)(hl:len≤100000) :
    Calls Tryz.prog 170 #[.slice a len cap] w (Zc7 xs w):=by
  have cp:∀(w:World) (a:Addr) (m:Mode) (x:Nat),(store a (.float .f64 x) m).run Tryz.prog w=stored Tryz.prog w a (.float .f64 x) m:=fun w a m x=>run_store Tryz.prog w a _ m rfl;have H:=hide h;have aj:=hide hl;have an:=hide h.bs.1;have br:=hide h.bs.2.1;have HZ:=hide (Zai w ⟨0,false,[],0,0,0⟩ (.slice none 0 0));have HW:=hide (Zaa w (.cells #[.float .f64 0,.bool false,.slice none 0 0,.int .i64 0,.int .i64 0,.int .i64 0] 39));have HH:=hide Zge;clear h hl;simp only at HZ;go_enter Tryz.func170,Tryz.ntmps170;go_wp2_with fail;refine(HH.out _).mono ?_;rintro e w1 ⟨rfl,bd,ba⟩;have ax:=hide (Zac HW.out ba);have bt:=hide (HZ.out.keep ba);(have bw:(w.alloc (.cells #[.float .f64 0,.bool false,.slice none 0 0,.int .i64 0,.int .i64 0,.int .i64 0] 39)).heap.size=w.heap.size+1:=by simp);rw [bw] at bd ⊢;have bz:=Zqp bd;have hT:=Zj6 a len cap xs _ 6 6 headK w1 (H.out.keep ax.out (Nat.le_refl _)) bz aj.out (by decide);unfold ZaM at hT;rw [ZbT Zkd] at hT;have HT:=hide hT;clear bd ba bz hT HZ HH bw;cases hT1:tks xs headK [] 0 with
  | none =>
   rw [hT1] at HT;simp only at HT;(have HN:Hid (decB xs=none):=by show _=_;unfold decB;rw [hT1]);clear hT1;go_wp2_with fail;refine HT.out.mono ?_;rintro e w2 ⟨v2,rfl,ao,_,_⟩;have al:=hide (Zac ax.out ao);have ac:=hide (bt.out.keep ao);have z0:=ac.out.c0;have z1:=ac.out.c1;have z2:=ac.out.c2;have z3:=ac.out.c3;have z4:=ac.out.c4;have z5:=ac.out.c5;have f0:=ac.out.fz;clear ao;go_wp2_with fail;show bodyPost Tryz.prog Tryz.f170 (Zc7 xs w) Exit.ret _ (setRw w2 w.heap.size zeroR (.slice none 0 0));refine Zd4 ac.out zeroR none 0 0 (.int .i64 4) (by rfl) (by rfl) (by rfl) ?_;exact⟨Zal al.out (Nat.le_refl _) _ _,fun _=>rfl,fun r h=>by rw [HN.out] at h;cases h⟩
  | some lq =>
   obtain⟨l,q⟩:=lq;rw [hT1] at HT;simp only at HT;(have h6:l.length=6:=by have:=Zcm _ _ _ _ _ hT1;simpa [headK] using this);have hq:q≤len:=by
    have:=Zj8 br.out (by rw [an.out];have:=aj.out;omega) _ _ _ _ ZcY (Nat.zero_le _) hT1;rw [an.out] at this;exact this
   obtain⟨n,hn,ag⟩:=Zke hT1;have bq:=hide hT1;have H6:=hide h6;have HQ:=hide hq;have HN:=hide hn;clear hT1 h6 hq hn;go_wp2_with fail;refine HT.out.mono ?_;rintro e w2 ⟨v2,rfl,ao,cb,bc⟩;have al:=hide (Zac ax.out ao);have ac:=hide (bt.out.keep ao);obtain⟨p2,c2,ce,is2,_⟩:=cb.is bc;rw [H6.out] at ce is2;obtain⟨b,off,rfl,_⟩:=is2.2.2 0 (by omega);subst ce;have bk:=hide is2;have cg:=hide bc;have bu:∀j,j<6→ItAt w2 b (off+j*4) (l.getD j itD):=fun j hj=>by
    obtain⟨_,_,e,h⟩:=bk.out.2.2 j hj;simp only [Option.some.injEq,Addr.mk.injEq,and_true] at e;obtain⟨rfl,rfl⟩:=e;exact h
   have ar:=hide bu;clear ao cb bc is2 bu HT;go_wp2_with fail;refine Pl.q9 (ops:=Pl.find 4 ((Tryz.f170.body).getD .skip)) ?_;cases hT2:tks (xs.drop q) (List.replicate n 4) [] 0 with
   | none =>
    have ak:Hid (decB xs=none):=by
     show _=_;unfold decB;rw [bq.out];simp only;rw [HN.out,Int.toNat_natCast,hT2]
    refine Zrc w2 w2 a len cap q xs b off c2 n _ (H.out.keep al.out (Nat.le_refl _)) aj.out HQ.out (ar.out 5 (by omega)) HN.out ag hT2 (Below.refl _ _) (by rfl) (by rfl) (by rfl) (by rfl) (by rfl) ?_;intro u w3 af;simp only [Pl.pu,List.foldl,Act.put,List.setIfInBounds_toArray,List.set_cons_zero,List.set_cons_succ];have ay:=hide (Zac al.out af);have ad:=hide (ac.out.keep af);have z0:=ad.out.c0;have z1:=ad.out.c1;have z2:=ad.out.c2;have z3:=ad.out.c3;have z4:=ad.out.c4;have z5:=ad.out.c5;have f0:=ad.out.fz;clear af hT2;go_wp2_with fail;show bodyPost Tryz.prog Tryz.f170 (Zc7 xs w) Exit.ret _ (setRw w3 w.heap.size zeroR (.slice none 0 0));refine Zd4 ad.out zeroR none 0 0 (.int .i64 4) (by rfl) (by rfl) (by rfl) ?_;exact⟨Zal ay.out (Nat.le_refl _) _ _,fun _=>rfl,fun r h=>by rw [ak.out] at h;cases h⟩
   | some mq =>
    obtain⟨m,q2⟩:=mq;(have bf:m.length=n:=by have:=Zcm _ _ _ _ _ hT2;simpa using this);have bb:Bytes (xs.drop q):=fun x hx=>br.out x (List.mem_of_mem_drop hx);have cd:q2≤len-q:=by
     have:=Zj8 bb (by rw [List.length_drop,an.out];have:=aj.out;omega) _ _ _ _ (fun k hk=>by rw [(List.mem_replicate.1 hk).2];decide) (Nat.zero_le _) hT2;rw [List.length_drop,an.out] at this;exact this
    have av:∀i∈m,i.fits:=Zex bb (by rw [List.length_drop,an.out];have:=aj.out;omega) _ _ _ _ (fun k hk=>by rw [(List.mem_replicate.1 hk).2];decide) (Nat.zero_le _) (fun i hi=>by cases hi) hT2;have HD:Hid (decB xs=if q+q2<xs.length∨1<(l.getD 0 itD).n∨(rowOf l m).may=false then none else some (rowOf l m)):=by
     show _=_;unfold decB;rw [bq.out];simp only;rw [HN.out,Int.toNat_natCast,hT2]
    have bm:=hide (ZfC cg.out H6.out av);have ci:=hide bf;have cm:=hide cd;have co:=hide av;have bg:∀x∈m.map It.x,x<18446744073709551616:=fun x hx=>by
     obtain⟨i,hi,rfl⟩:=List.mem_map.1 hx;exact(av i hi).2.2.1
    have cj:=hide bg;refine Zrd w2 w2 a len cap q xs b off c2 n _ (H.out.keep al.out (Nat.le_refl _)) aj.out HQ.out (ar.out 5 (by omega)) HN.out ag m q2 hT2 (Below.refl _ _) (by rfl) (by rfl) (by rfl) (by rfl) (by rfl) ?_;intro u w3 v3 ⟨af,bh⟩;simp only [Pl.pu,List.foldl,Act.put,List.setIfInBounds_toArray,List.set_cons_zero,List.set_cons_succ];obtain⟨ca,cc,rfl,bv⟩:=bh.fs bg (by rw [List.length_map,bf]) (by omega);have ck:=hide bh;have bo:Hid ((rowOf l m).xs=m.map It.x):=rfl;have ay:=hide (Zac al.out af);have ad:=hide (ac.out.keep af);have bj:=hide bv;have ah:=hide (fun j hj=>Zao (ar.out j hj) af);clear af hT2 bh bv bf bb cd av bg bk;go_wp2_with fail;refine Pl.q9 (ops:=Pl.find 7 ((Tryz.f170.body).getD .skip)) ?_;refine dec7 w3 w3 b off c2 ca n cc _ _ _ _ _ (ah.out 0 (by omega)) (ah.out 1 (by omega)) (ah.out 2 (by omega)) (ah.out 3 (by omega)) (ah.out 4 (by omega)) (Below.refl _ _) (by rfl) (by rfl) (by rfl) (by rfl) ?_;intro u' w4 bi;simp only [Pl.pu,List.foldl,Act.put,List.setIfInBounds_toArray,List.set_cons_zero,List.set_cons_succ];(have aq:Below w3.heap.size w3 w4:=by rw [bi];exact ((Below.refl _ _).drew).alloc (Nat.le_refl _) _);(have cf:RwBlk w4 w3.heap.size (rowOf l m) (.slice ca n cc):=by rw [bi];exact Zai w3.drew (rowOf l m) (.slice ca n cc));have au:=hide (Zac ay.out aq);have ab:=hide (ad.out.keep aq);have ch:=hide (bj.out.keep aq (Nat.le_refl _));have am:=hide cf;have cl:=hide (ck.out.keep aq (Nat.le_refl _));have bx:w3.drew.heap.size=w3.heap.size:=rfl;rw [bx];have be:w.heap.size<w3.heap.size:=(Array.getElem?_eq_some_iff.1 ad.out).1;have i0:=(Zao (ah.out 0 (by omega)) aq).2.1;simp only [Nat.zero_mul,Nat.add_zero] at i0;have ai:=hide (ZdR (rowOf l m) ca n cc w4 ch.out bm.out);generalize (rowOf l m)=R at *;generalize (l.getD 0 itD).n=d0 at *;clear bi aq cf bx bj ah ar;have x0:=am.out.c0;have x1:=am.out.c1;have x2:=am.out.c2;have x3:=am.out.c3;have x4:=am.out.c4;have x5:=am.out.c5;unfold Rw.val at ai;obtain⟨rl,aw⟩:∃rl,rl=len-q-q2:=⟨_,rfl⟩;rw [← aw];have bn:=hide aw;(have cn:rl≤100000:=by rw [aw];have:=aj.out;omega);clear aw be;by_cases h1:0<rl
    · (have i1:(0:Int)<(rl:Int):=by omega);have ak:Hid (decB xs=none):=by
       show _=_;rw [HD.out,if_pos (.inl (by rw [an.out];have:=bn.out;omega))]
      have z0:=ab.out.c0;have z1:=ab.out.c1;have z2:=ab.out.c2;have z3:=ab.out.c3;have z4:=ab.out.c4;have z5:=ab.out.c5;have f0:=ab.out.fz;go_wp2_with fail;show bodyPost Tryz.prog Tryz.f170 (Zc7 xs w) Exit.ret _ (setRw w4 w.heap.size zeroR (.slice none 0 0));refine Zd4 ab.out zeroR none 0 0 (.int .i64 4) (by rfl) (by rfl) (by rfl) ?_;exact⟨Zal au.out (Nat.le_refl _) _ _,fun _=>rfl,fun r h=>by rw [ak.out] at h;cases h⟩
    · (have i1:¬(0:Int)<(rl:Int):=by omega);by_cases h2:1<d0
      · have ak:Hid (decB xs=none):=by
         show _=_;rw [HD.out,if_pos (.inr (.inl h2))]
        have z0:=ab.out.c0;have z1:=ab.out.c1;have z2:=ab.out.c2;have z3:=ab.out.c3;have z4:=ab.out.c4;have z5:=ab.out.c5;have f0:=ab.out.fz;go_wp2_with fail;show bodyPost Tryz.prog Tryz.f170 (Zc7 xs w) Exit.ret _ (setRw w4 w.heap.size zeroR (.slice none 0 0));refine Zd4 ab.out zeroR none 0 0 (.int .i64 4) (by rfl) (by rfl) (by rfl) ?_;exact⟨Zal au.out (Nat.le_refl _) _ _,fun _=>rfl,fun r h=>by rw [ak.out] at h;cases h⟩
      · cases hm:R.may
        · have ak:Hid (decB xs=none):=by
           show _=_;rw [HD.out,if_pos (.inr (.inr hm))]
          rw [hm] at ai;unfold chk at ai;go_wp2_with fail;refine ai.out.mono ?_;rintro e w5 ⟨rfl,ae⟩;have az:=hide (Zac au.out ae);have aa:=hide (ab.out.keep ae);clear ae x0 x1 x2 x3 x4 x5 i0;have z0:=aa.out.c0;have z1:=aa.out.c1;have z2:=aa.out.c2;have z3:=aa.out.c3;have z4:=aa.out.c4;have z5:=aa.out.c5;have f0:=aa.out.fz;go_wp2_with fail;show bodyPost Tryz.prog Tryz.f170 (Zc7 xs w) Exit.ret _ (setRw w5 w.heap.size zeroR (.slice none 0 0));refine Zd4 aa.out zeroR none 0 0 (.int .i64 4) (by rfl) (by rfl) (by rfl) ?_;exact⟨Zal az.out (Nat.le_refl _) _ _,fun _=>rfl,fun r h=>by rw [ak.out] at h;cases h⟩
        · have bp:Hid (decB xs=some R):=by
           show _=_;rw [HD.out,if_neg];rintro (h | h | h)
           · rw [an.out] at h;have:=bn.out;have:=cm.out;have:=HQ.out;omega
           · exact h2 h
           · rw [hm] at h;cases h
          rw [hm] at ai;unfold chk at ai;go_wp2_with fail;refine ai.out.mono ?_;rintro e w5 ⟨rfl,ae⟩;have az:=hide (Zac au.out ae);have aa:=hide (ab.out.keep ae);have ap:=hide (am.out.keep ae);have bl:=hide (cl.out.keep ae (Nat.le_refl _));clear ae x0 x1 x2 x3 x4 x5 i0;have x0:=ap.out.c0;have x1:=ap.out.c1;have x2:=ap.out.c2;have x3:=ap.out.c3;have x4:=ap.out.c4;have x5:=ap.out.c5;have z0:=aa.out.c0;have z1:=aa.out.c1;have z2:=aa.out.c2;have z3:=aa.out.c3;have z4:=aa.out.c4;have z5:=aa.out.c5;have f0:=aa.out.fz;go_wp2_with fail;show bodyPost Tryz.prog Tryz.f170 (Zc7 xs w) Exit.ret _ (setRw w5 w.heap.size R (.slice ca n cc));refine Zd4 aa.out R ca n cc (.int .i64 0) (by rfl) (by rfl) (by rfl) ?_;refine⟨Zal az.out (Nat.le_refl _) _ _,(fun h=>by rw [bp.out] at h;cases h),fun r h=>?_⟩;rw [bp.out] at h;simp only [Option.some.injEq] at h;subst h;refine⟨bm.out,ca,n,cc,rfl,?_,?_⟩
          · rw [bo.out];exact(bl.out.setRw aa.out _ _).fsAt cj.out (by rw [List.length_map,ci.out];omega)
          · rw [bo.out];exact(bl.out.setRw aa.out _ _).lower al.out.size
def Rw.same (r s:Rw):Bool:=r.key == s.key && r.dead == s.dead && r.xs == s.xs && r.wr == s.wr && r.cell == s.cell && r.no == s.no
theorem Rw.same_self (r:Rw):r.same r=true:=by simp [Rw.same]
theorem Zjs {ys:List Nat}{k:Nat}(h:¬xs.getD k 0=ys.getD k 0):(xs == ys)=false:=by
 apply beq_eq_false_iff_ne.2;rintro rfl;exact h rfl
theorem Zhj {ys:List Nat}(hl:xs.length=ys.length)(h:∀j,j<xs.length→xs.getD j 0=ys.getD j 0):(xs == ys)=true:=by
 apply beq_iff_eq.2;apply List.ext_getElem hl;intro j h1 h2;have:=h j h1;simpa [List.getD,h1,h2] using this
theorem ZjV (a:Option Addr)(len cap:Nat)(b:Option Addr)(len' cap':Nat)(xs ys:List Nat)(w:World)(h:Fs w a len cap xs)(h':Fs w b len' cap' ys) :
    Calls Tryz.prog 174 #[.slice a len cap,.slice b len' cap',.func (.func 173) #[] #[]] w fun e w'=>e=.returned (.bool (xs == ys))∧w'=w:=by
  have H:=hide h;have H':=hide h';have HL:=hide h.len;have HL':=hide h'.len;have ac:=h.big;clear h h';by_cases hl:len=len'
  · subst hl;go_enter Tryz.func174,Tryz.ntmps174;go_wp2_with fail;go_loop [17] (fun i=>∃k:Nat,k≤len∧i=.int .i64 k∧Hid (∀j,j<k→xs.getD j 0=ys.getD j 0)) (fun i=>len-(intOf i).toNat)
    case atStart=>exact ⟨0,by omega,rfl,fun j hj=>by omega⟩
    case round =>
     obtain⟨k,hk,rfl,aa⟩:=hrel;rcases Nat.lt_or_ge k len with ab | ad
     · obtain⟨b1,o1,rfl,c1,_,_⟩:=H.out.at k ab;obtain⟨b2,o2,rfl,c2,_,_⟩:=H'.out.at k ab;obtain⟨x,hx⟩:∃x,x=xs.getD k 0:=⟨_,rfl⟩;obtain⟨y,hy⟩:∃y,y=ys.getD k 0:=⟨_,rfl⟩;rw [← hx] at c1;rw [← hy] at c2;have HX:=hide hx;have HY:=hide hy;have HS:=hide (Zdp x y);clear hx hy;by_cases he:x=y
       · subst he;rw [beq_self_eq_true] at HS;go_wp2_with fail;refine(HS.out _).mono ?_;rintro e w' ⟨rfl,hw⟩;obtain rfl:=hw.symm;go_wp2_with fail;go_round
         case rel =>
          refine⟨k+1,by omega,by go_num,?_⟩;intro j hj;by_cases e:j=k
          · rw [e,← HX.out,← HY.out]
          · exact aa.out j (by omega)
         case measure=>simp only [intOf];omega
       · have HN:Hid ((xs == ys)=false):=Zjs (k:=k) (by rw [← HX.out,← HY.out];exact he);rw [beq_eq_false_iff_ne.2 he] at HS;go_wp2_with fail;refine(HS.out _).mono ?_;rintro e w' ⟨rfl,hw⟩;obtain rfl:=hw.symm;go_wp2_with fail;go_ret;exact⟨by rw [HN.out];rfl,rfl⟩
     · have HN:Hid ((xs == ys)=true):=Zhj (by rw [HL.out,HL'.out]) (fun j hj=>aa.out j (by rw [HL.out] at hj;omega));go_wp2_with fail;go_ret;exact⟨by rw [HN.out];rfl,rfl⟩
  · have HN:Hid ((xs == ys)=false):=by
     apply beq_eq_false_iff_ne.2;rintro rfl;exact hl (HL.out.symm.trans HL'.out)
    (have i1:((len:Int) != (len':Int))=true:=by rw [Zbx];simpa [bne] using hl);(have i2:¬(len:Int)=(len':Int):=by omega);go_enter Tryz.func174,Tryz.ntmps174;go_wp2_with fail;go_ret;exact⟨by rw [HN.out];rfl,rfl⟩
theorem ZeQ (r s:Rw)(a:Option Addr)(len cap:Nat)(b:Option Addr)(len' cap':Nat)(w:World)(h:Fs w a len cap r.xs)(h':Fs w b len' cap' s.xs) :
    Calls Tryz.prog 145 #[r.val (.slice a len cap),s.val (.slice b len' cap')] w fun e w'=>e=.returned (.bool (r.same s))∧Below w.heap.size w w':=by
  obtain⟨k,d,xs,t,c,n⟩:=r;obtain⟨k',d',xs',t',c',n'⟩:=s;have H1:=hide (Zdp k k');have HE:Hid (∀w',Below w.heap.size w w'→_):=fun w' hb=>ZjV a len cap b len' cap' xs xs' w' (h.keep hb (Nat.le_refl _)) (h'.keep hb (Nat.le_refl _));have HW:Hid (∀o o',Below w.heap.size w ((w.alloc o).alloc o')):=ZaE w;clear h h';unfold Rw.val Rw.same;simp only;by_cases hk:k=k'
  · subst hk;have e1:(k == k)=true:=beq_self_eq_true k;rw [e1] at H1;rw [e1];clear e1;by_cases hd:d=d'
    · subst hd;have e2:(d == d)=true:=beq_self_eq_true d;rw [e2];clear e2;generalize (xs == xs')=m at *;cases m
      · go_enter Tryz.func145,Tryz.ntmps145;go_wp2_with fail;refine(H1.out _).mono ?_;rintro e w' ⟨rfl,hw⟩;obtain rfl:=hw.symm;go_wp2_with fail;refine(HE.out _ (HW.out _ _)).mono ?_;rintro e w' ⟨rfl,hw⟩;obtain rfl:=hw.symm;go_wp2_with fail;go_ret;exact⟨rfl,HW.out _ _⟩
      · go_enter Tryz.func145,Tryz.ntmps145;go_wp2_with fail;refine(H1.out _).mono ?_;rintro e w' ⟨rfl,hw⟩;obtain rfl:=hw.symm;go_wp2_with fail;refine(HE.out _ (HW.out _ _)).mono ?_;rintro e w' ⟨rfl,hw⟩;obtain rfl:=hw.symm;go_wp2_with fail;all_goals (go_ret;refine ⟨?_,HW.out _ _⟩;simp [*])
    · have e2:(d == d')=false:=beq_eq_false_iff_ne.2 hd;rw [e2];go_enter Tryz.func145,Tryz.ntmps145;go_wp2_with fail;refine(H1.out _).mono ?_;rintro e w' ⟨rfl,hw⟩;obtain rfl:=hw.symm;go_wp2_with fail;go_ret;exact⟨rfl,HW.out _ _⟩
  · have e1:(k == k')=false:=beq_eq_false_iff_ne.2 hk;rw [e1] at H1;rw [e1];clear e1 hk;go_enter Tryz.func145,Tryz.ntmps145;go_wp2_with fail;refine(H1.out _).mono ?_;rintro e w' ⟨rfl,hw⟩;obtain rfl:=hw.symm;go_wp2_with fail;go_ret;exact⟨rfl,HW.out _ _⟩
theorem Znw:∀args w,(callFunc 40 args).run Tryz.prog w=.ok (.enter 40 args) w:=Pl.qi Tryz.func40
theorem fls6 (w0 w:World)(b1 o1 b2 o2 len c1 c2 k x1 x2:Nat)(m:Bool)(hk:k<len)(h1:w0.cell? ⟨b1,o1+k,none⟩=some (.float .f64 x1))(h2:w0.cell? ⟨b2,o2+k,none⟩=some (.float .f64 x2))(he:(x1 == x2)=m)(hW:Below w0.heap.size w0 w)
    {Q:Exit→Act→World→Prop}(ac:A.tmps.size=27)(ab:A.defers=[])(s0:A.tmps.getD 0 undef=.slice (some ⟨b1,o1,none⟩) len c1)(s1:A.tmps.getD 1 undef=.slice (some ⟨b2,o2,none⟩) len c2)(s5:A.tmps.getD 5 undef=.int .i64 (k:Nat))
    (hend:∀(u:Nat→Value) w',Below w0.heap.size w0 w'→Q .normal ((Pl.pu A u [17,18,19,20,21,22,23,24,25]).put (some 26) (.bool (!m))) w') :
    (Code.region 6 (Pl.find 6 ((Tryz.f24.body).getD .skip)) true).wp Tryz.prog Q A w:=by
  have aa:Below w0.heap.size w0 w.drew:=hW.drew;have hA:=Pl.At.same (v:=.int .i64 (k:Nat)) (d:=5) (Pl.At.same (v:=.slice (some ⟨b2,o2,none⟩) len c2) (d:=1) (Pl.At.same (v:=.slice (some ⟨b1,o1,none⟩) len c1) (d:=0) (Pl.At.here ac ab) s0) s1) s5;refine Pl.qa (S:=fun w'=>Below w0.heap.size w0 w') hA aa ?_;rw [show (Pl.find 6 ((Tryz.f24.body).getD .skip)).size=10 by kernel_rfl];refine Pl.q0 0 17 (.slice (some ⟨b1,o1,none⟩) len c1) (Pl.q1) (Pl.q2 (.tmp 0)) aa ?_;refine Pl.q0 1 18 (.int .i64 (k:Nat)) (Pl.q1) (Pl.q2 (.tmp 5)) aa ?_;refine Pl.q0 2 19 (.pointer (some ⟨b1,o1+k,none⟩)) (Pl.q1) (Pl.qb 35 (.tmp 17) (.tmp 18) (ZcZ b1 o1 len c1 k hk)) aa ?_;refine Pl.q0 3 20 (.float .f64 x1) (Pl.q1) (Pl.q4 32 (.tmp 19) (fun w' hS=>Za4 b1 (o1+k) x1 w' ((hS.cell (World.block_lt_of_cell? w0 _ h1)).trans h1))) aa ?_;refine Pl.q0 4 21 (.slice (some ⟨b2,o2,none⟩) len c2) (Pl.q1) (Pl.q2 (.tmp 1)) aa ?_;refine Pl.q0 5 22 (.int .i64 (k:Nat)) (Pl.q1) (Pl.q2 (.tmp 5)) aa ?_;refine Pl.q0 6 23 (.pointer (some ⟨b2,o2+k,none⟩)) (Pl.q1) (Pl.qb 35 (.tmp 21) (.tmp 22) (ZcZ b2 o2 len c2 k hk)) aa ?_;refine Pl.q0 7 24 (.float .f64 x2) (Pl.q1) (Pl.q4 32 (.tmp 23) (fun w' hS=>Za4 b2 (o2+k) x2 w' ((hS.cell (World.block_lt_of_cell? w0 _ h2)).trans h2))) aa ?_;refine Pl.qd 8 25 40 [(.tmp 20),(.tmp 24)] #[32,32] (Pl.q1) Znw (Calls.mono (ZcE x1 x2 w.drew) ?_);rintro e w' ⟨rfl,hw⟩;obtain rfl:=hw.symm;rw [he];refine⟨.bool m,rfl,aa,?_⟩;refine Pl.q0 9 26 (.bool (!m)) (Pl.q1) (Pl.qt 4 (.tmp 25) _) aa ?_;refine Pl.q8 (fun A' hA'=>?_);rw [Pl.At.ext hA' ((((((((((hA.put 17 _).put 18 _).put 19 _).put 20 _).put 21 _).put 22 _).put 23 _).put 24 _).put 25 _).put 26 _)];exact hend hA'.fn _ aa
theorem ZkH (a:Option Addr)(len cap:Nat)(b:Option Addr)(len' cap':Nat)(xs ys:List Nat)(w:World)(h:Fs w a len cap xs)(h':Fs w b len' cap' ys) :
    Calls Tryz.prog 24 #[.slice a len cap,.slice b len' cap'] w fun e w'=>e=.returned (.bool (xs == ys))∧Below w.heap.size w w':=by
  have H:=hide h;have H':=hide h';have HL:=hide h.len;have HL':=hide h'.len;have ad:=h.big;clear h h';by_cases hl:len=len'
  · subst hl;go_enter Tryz.func24,Tryz.ntmps24;go_wp2_with fail;go_loopw [5] (fun i wr=>∃k:Nat,k≤len∧i=.int .i64 k∧Hid (∀j,j<k→xs.getD j 0=ys.getD j 0)∧Hid (Below w.heap.size w wr)) (fun i _=>len-(intOf i).toNat)
    case atStart=>exact ⟨0,by omega,rfl,fun j hj=>by omega,Below.refl _ _⟩
    case round =>
     obtain⟨k,hk,rfl,ab,aa⟩:=hrel;rcases Nat.lt_or_ge k len with ac | ae
     · obtain⟨b1,o1,rfl,c1,_,_⟩:=(H.out.keep aa.out (Nat.le_refl _)).at k ac;obtain⟨b2,o2,rfl,c2,_,_⟩:=(H'.out.keep aa.out (Nat.le_refl _)).at k ac;have C1:=hide c1;have C2:=hide c2;clear c1 c2;by_cases he:xs.getD k 0=ys.getD k 0
       · have HE:=hide he;clear he;go_wp2_with fail;refine Pl.q9 (ops:=Pl.find 6 ((Tryz.f24.body).getD .skip)) ?_;refine fls6 wr wr b1 o1 b2 o2 len cap cap' k _ _ true ac C1.out C2.out (by rw [HE.out];exact beq_self_eq_true _) (Below.refl _ _) (by rfl) (by rfl) (by rfl) (by rfl) (by rfl) ?_;intro u w' hb;have HB:=hide (Zac aa.out hb);clear hb;simp only [Pl.pu,List.foldl,Act.put,List.setIfInBounds_toArray,List.set_cons_zero,List.set_cons_succ,Bool.not_true];go_wp2_with fail;go_roundw
         case rel =>
          refine⟨k+1,by omega,by go_num,?_,HB⟩;intro j hj;by_cases e:j=k
          · rw [e];exact HE.out
          · exact ab.out j (by omega)
         case measure=>simp only [intOf];omega
       · have HN:Hid ((xs == ys)=false):=Zjs (k:=k) he;have HE:=hide he;clear he;go_wp2_with fail;refine Pl.q9 (ops:=Pl.find 6 ((Tryz.f24.body).getD .skip)) ?_;refine fls6 wr wr b1 o1 b2 o2 len cap cap' k _ _ false ac C1.out C2.out (beq_eq_false_iff_ne.2 HE.out) (Below.refl _ _) (by rfl) (by rfl) (by rfl) (by rfl) (by rfl) ?_;intro u w' hb;have HB:=hide (Zac aa.out hb);clear hb;simp only [Pl.pu,List.foldl,Act.put,List.setIfInBounds_toArray,List.set_cons_zero,List.set_cons_succ,Bool.not_false];go_wp2_with fail;go_ret;exact⟨by rw [HN.out];rfl,HB.out⟩
     · have HN:Hid ((xs == ys)=true):=Zhj (by rw [HL.out,HL'.out]) (fun j hj=>ab.out j (by rw [HL.out] at hj;omega));go_wp2_with fail;go_ret;exact⟨by rw [HN.out];rfl,aa.out⟩
  · have HN:Hid ((xs == ys)=false):=by
     apply beq_eq_false_iff_ne.2;rintro rfl;exact hl (HL.out.symm.trans HL'.out)
    (have i1:((len:Int) != (len':Int))=true:=by rw [Zbx];simpa [bne] using hl);(have i2:¬(len:Int)=(len':Int):=by omega);go_enter Tryz.func24,Tryz.ntmps24;go_wp2_with fail;go_ret;exact⟨by rw [HN.out];rfl,Below.refl _ _⟩
theorem Zb4 (r s:Rw)(a:Option Addr)(len cap:Nat)(b:Option Addr)(len' cap':Nat)(w:World)(h:Fs w a len cap r.xs)(h':Fs w b len' cap' s.xs) :
    Calls Tryz.prog 13 #[r.val (.slice a len cap),s.val (.slice b len' cap')] w fun e w'=>e=.returned (.bool (r.same s))∧Below w.heap.size w w':=by
  obtain⟨k,d,xs,t,c,n⟩:=r;obtain⟨k',d',xs',t',c',n'⟩:=s;have H1:=hide (ZcE k k');have HE:Hid (∀w',Below w.heap.size w w'→_):=fun w' hb=>ZkH a len cap b len' cap' xs xs' w' (h.keep hb (Nat.le_refl _)) (h'.keep hb (Nat.le_refl _));have HW:Hid (∀o o',Below w.heap.size w ((w.alloc o).alloc o')):=ZaE w;clear h h';unfold Rw.val Rw.same;simp only;by_cases aa:k=k'∧d=d'∧t=t'∧c=c'∧n=n'
  · obtain⟨rfl,rfl,rfl,rfl,rfl⟩:=aa;rw [beq_self_eq_true] at H1;simp only [beq_self_eq_true,Bool.true_and,Bool.and_true];generalize (xs == xs')=m at *;go_enter Tryz.func13,Tryz.ntmps13;go_wp2_with fail;refine(H1.out _).mono ?_;rintro e w' ⟨rfl,hw⟩;obtain rfl:=hw.symm;go_wp2_with fail;refine(HE.out _ (HW.out _ _)).mono ?_;rintro e w' ⟨rfl,hb⟩;have HB:=hide (Zac (HW.out _ _) hb);clear hb;go_wp2_with fail;go_ret;exact⟨rfl,HB.out⟩
  · have HN:Hid ((k == k' && d == d' && xs == xs' && t == t' && c == c' && n == n')=false):=by
     show _=_;rw [Bool.eq_false_iff];intro h;simp only [Bool.and_eq_true,beq_iff_eq] at h;exact aa ⟨h.1.1.1.1.1,h.1.1.1.1.2,h.1.1.2,h.1.2,h.2⟩
    by_cases hk:k=k'
    · subst hk;rw [beq_self_eq_true] at H1;by_cases hd:d=d'
      · subst hd;by_cases ht:t=t'
        · subst ht;have ab:¬(c=c'∧n=n'):=fun h=>aa ⟨rfl,rfl,rfl,h.1,h.2⟩;clear aa;go_enter Tryz.func13,Tryz.ntmps13;go_wp2_with fail;refine(H1.out _).mono ?_;rintro e w' ⟨rfl,hw⟩;obtain rfl:=hw.symm;go_wp2_with fail;all_goals (go_ret;exact ⟨by rw [HN.out];simp [*],HW.out _ _⟩)
        · have e3:(t == t')=false:=beq_eq_false_iff_ne.2 ht;clear aa;go_enter Tryz.func13,Tryz.ntmps13;go_wp2_with fail;refine(H1.out _).mono ?_;rintro e w' ⟨rfl,hw⟩;obtain rfl:=hw.symm;go_wp2_with fail;go_ret;exact⟨by rw [HN.out];simp,HW.out _ _⟩
      · have e2:(d == d')=false:=beq_eq_false_iff_ne.2 hd;clear aa;go_enter Tryz.func13,Tryz.ntmps13;go_wp2_with fail;refine(H1.out _).mono ?_;rintro e w' ⟨rfl,hw⟩;obtain rfl:=hw.symm;go_wp2_with fail;go_ret;exact⟨by rw [HN.out];simp,HW.out _ _⟩
    · rw [beq_eq_false_iff_ne.2 hk] at H1;clear aa hk;go_enter Tryz.func13,Tryz.ntmps13;go_wp2_with fail;refine(H1.out _).mono ?_;rintro e w' ⟨rfl,hw⟩;obtain rfl:=hw.symm;go_wp2_with fail;go_ret;exact⟨by rw [HN.out];simp,HW.out _ _⟩
end Go.Proofs.YtiecfcjlhldhdaaGreat
