/-
  Lemmas.
-/
import Derived.Test.YtdojdcncncgncaaGreatKsaj
import Derived.Test.YtdojdcncncgncaaGreatKsal
namespace Go.Proofs.YtdojdcncncgncaaGreat
open Go.RowKit
set_option linter.unusedVariables false
set_option maxRecDepth 100000
set_option maxHeartbeats 4000000
variable {w:World}{xs:List Nat}{A:Act}{g cap base:Nat}{a:Option Addr}{r0:Rw}{c0:Value}
namespace Pl
section
variable {P : Program} {ops : Array Oper} {S : World → Prop} {Q : Exit → Act → World → Prop} {n fuel : Nat} {listed : Array Bool} {f : Nat → Value} {w : World}
theorem extr (i : Nat) (x : Operand) (k : Nat) (v : Value) (h : (op ops i).op = .extract x k) (hx : inB n x = true) (hv : ∀ w, (Instr.extract (ev f x) k).run P w = .ok v w) :
    ∀ A, At n A f → ∀ w, S w → (execOp A.eval (op ops i)).run P w = .ok (.value v) w := by
  intro A hA w _
  have e : execOp A.eval (op ops i) = (do pure (.value (← Instr.extract (A.eval x) k))) := by
   unfold execOp
   rw [h]
  rw [e, hA.ev x hx]
  simp [hv w]
theorem qg {i:Nat}{v:Value}(x:Operand)(k:Nat)(hv:∀w,(Instr.extract (ev f x) k).run P w=.ok v w)(h:(op ops i).op=.extract x k:=by kernel_rfl)(hx:inB n x=true:=by decide):∀A,At n A f→∀w,S w→(execOp A.eval (op ops i)).run P w=.ok (.value v) w:=extr i x k v h hx hv
theorem allocV (i : Nat) (t : TypeId) (v : Value) (w' : World) (h : (op ops i).op = .alloc t) (hv : (Instr.alloc t true (.tuple #[])).run P w = .ok v w') :
    ∀ A, At n A f → (execOp A.eval (op ops i)).run P w = .ok (.value v) w' := by
  intro A _
  have e : execOp A.eval (op ops i) = (do pure (.value (← Instr.alloc t true (.tuple #[])))) := by
   unfold execOp
   rw [h]
  rw [e]
  simp [hv]

theorem qt {i:Nat}{v:Value}{w':World}(t:TypeId)(hv:(Instr.alloc t true (.tuple #[])).run P w=.ok v w')(h:(op ops i).op=.alloc t:=by kernel_rfl):∀A,At n A f→(execOp A.eval (op ops i)).run P w=.ok (.value v) w':=allocV i t v w' h hv
theorem buildV (i : Nat) (t : TypeId) (parts : List (Nat × Operand)) (v : Value) (h : (op ops i).op = .build t parts.toArray) (hx : parts.all (fun p => inB n p.2) = true) (hv : ∀ w, (Instr.build t (parts.map fun p => (p.1, ev f p.2)).toArray).run P w = .ok v w) :
    ∀ A, At n A f → ∀ w, S w → (execOp A.eval (op ops i)).run P w = .ok (.value v) w := by
  intro A hA w _
  have e : execOp A.eval (op ops i) = (do pure (.value (← Instr.build t (parts.toArray.map fun p => (p.1, A.eval p.2))))) := by
   unfold execOp
   rw [h]
  have hm : (parts.toArray.map fun p => (p.1, A.eval p.2)) = (parts.map fun p => (p.1, ev f p.2)).toArray := by
   simp only [List.map_toArray]
   congr 1
   apply List.map_congr_left
   intro p hp
   rw [hA.ev p.2 (List.all_eq_true.1 hx p hp)]
  rw [e, hm]
  simp [hv w]
theorem qx {i:Nat}{v:Value}(t:TypeId)(parts:List (Nat × Operand))(hv:∀w,(Instr.build t (parts.map fun p=>(p.1,ev f p.2)).toArray).run P w=.ok v w)(h:(op ops i).op=.build t parts.toArray:=by kernel_rfl)(hx:parts.all (fun p=>inB n p.2)=true:=by decide):∀A,At n A f→∀w,S w→(execOp A.eval (op ops i)).run P w=.ok (.value v) w:=buildV i t parts v h hx hv
end
end Pl
theorem Zhb (a b c : Value) (w : World) : (Instr.extract (.tuple #[a, b, c]) 0).run Tryz.prog w = .ok a w ∧ (Instr.extract (.tuple #[a, b, c]) 1).run Tryz.prog w = .ok b w ∧ (Instr.extract (.tuple #[a, b, c]) 2).run Tryz.prog w = .ok c w := by
  refine ⟨?_, ?_, ?_⟩ <;> simp [go_sem, Instr.extract]
theorem ZeN (c n : Int) (w : World) : (Instr.build 31 #[(0, .int .i64 c), (1, .int .i64 n)]).run Tryz.prog w = .ok (.agg #[.int .i64 c, .int .i64 n]) w := by
  simp [go_sem, Instr.build]
theorem ZjD (k : Nat) (d : Bool) (a : Option Addr) (len cap : Nat) (t c n : Int) (w : World) : (Instr.build 33 #[(0, .float .f64 k), (1, .bool d), (2, .slice a len cap), (3, .int .i64 t), (4, .agg #[.int .i64 c, .int .i64 n])]).run Tryz.prog w = .ok (.agg #[.float .f64 k, .bool d, .slice a len cap, .int .i64 t, .int .i64 c, .int .i64 n]) w := by
  simp [go_sem, Instr.build]
theorem Zgb (w : World) : (Instr.alloc 33 true (.tuple #[])).run Tryz.prog w = .ok (.pointer (some ⟨w.heap.size, 0, none⟩)) (w.alloc (.cells #[.float .f64 0, .bool false, .slice none 0 0, .int .i64 0, .int .i64 0, .int .i64 0] 33)) := by
  simp [go_sem, Instr.alloc]
theorem Zdx (k:Nat)(d:Bool)(a:Option Addr)(len cap:Nat)(t c n:Int)(w:World):(Instr.storeAt 33 (.pointer (some ⟨w.heap.size,0,none⟩)) (.agg #[.float .f64 k,.bool d,.slice a len cap,.int .i64 t,.int .i64 c,.int .i64 n])).run Tryz.prog (w.alloc (.cells #[.float .f64 0,.bool false,.slice none 0 0,.int .i64 0,.int .i64 0,.int .i64 0] 33))
    = .ok () (w.alloc (.cells #[.float .f64 k,.bool d,.slice a len cap,.int .i64 t,.int .i64 c,.int .i64 n] 33)):=by
  have hsf:∀(w:World) (a:Addr) (m:Mode) (x:Nat),(store a (.float .f64 x) m).run Tryz.prog w=stored Tryz.prog w a (.float .f64 x) m:=fun w a m x=>run_store Tryz.prog w a _ m rfl
  simp [go_sem,Instr.storeAt,hsf]
theorem Za7 (b o k : Nat) (hk : k < 4) (w : World) : (Instr.fieldAt 158 (.pointer (some ⟨b, o, none⟩)) k).run Tryz.prog w = .ok (.pointer (some ⟨b, o + k, none⟩)) w := by
 have : k = 0 ∨ k = 1 ∨ k = 2 ∨ k = 3 := by omega
 rcases this with rfl | rfl | rfl | rfl <;> simp [go_sem]
theorem Zgp : ∀ args w, (callFunc 160 args).run Tryz.prog w = .ok (.enter 160 args) w := Pl.enters Tryz.func160 (by kernel_rfl) (by kernel_rfl)
theorem Came.keep {w w' : World} {B : Nat} {a : Option Addr} {len cap : Nat} {xs : List Nat} (h : Came w a len cap xs) (hb : Below B w w') (hB : w.heap.size ≤ B) : Came w' a len cap xs := ⟨h.bs.keep hb hB, h.nil, h.le, h.big⟩
theorem Came.from {len q:Nat}(h : Came w a len cap xs) (hq : q ≤ len) : Came w (fromA a cap q) (len - q) (cap - q) (xs.drop q) := by
 refine ⟨h.bs.from hq h.le, ?_, by have := h.le; omega, by have := h.big; omega⟩
 intro e
 unfold fromA at e
 split at e
 · omega
 · cases a with
   | none => have := h.nil rfl; omega
   | some x => simp at e
def rowOf (l m : List It) : Rw := ⟨(l.getD 1 itD).x, (l.getD 0 itD).n != 0, m.map It.x, (l.getD 2 itD).n, (l.getD 3 itD).n, (l.getD 4 itD).n⟩
def decB (xs : List Nat) : Option Rw := match tks xs headK [] 0 with
  | none => none
  | some (l, q) => match tks (xs.drop q) (List.replicate (l.getD 5 itD).n.toNat 4) [] 0 with
    | none => none
    | some (m, q2) => if q + q2 < xs.length ∨ 1 < (l.getD 0 itD).n ∨ (rowOf l m).may = false then none else some (rowOf l m)
theorem Zou (w0 w:World)(a:Option Addr)(len cap q:Nat)(xs:List Nat)(b off c2 n:Nat)(y:It)(hc:Came w0 a len cap xs)(hl:len≤100000)(hq:q≤len)(hx:ItAt w0 b (off+5*4) y)(hy:y.n=(n:Nat))(hn:n≤255)(hT:tks (xs.drop q) (List.replicate n 4) [] 0=none)(hW:Below w0.heap.size w0 w)
    {Q:Exit→Act→World→Prop}(hsz:A.tmps.size=78)(hdf:A.defers=[])(s0:A.tmps.getD 0 undef=.slice a len cap)(s4:A.tmps.getD 4 undef=.slice (some ⟨b,off,none⟩) 6 c2)(s5:A.tmps.getD 5 undef=.int .i64 (q:Nat))
    (hend:∀(u:Nat→Value) w',Below w0.heap.size w0 w'→Q .normal ((((((((((((((((A).put (some 22) (u 22)).put (some 23) (u 23)).put (some 24) (u 24)).put (some 25) (u 25)).put (some 26) (u 26)).put (some 27) (u 27)).put (some 28) (u 28)).put (some 29) (u 29)).put (some 21) (u 21)).put (some 30) (u 30)).put (some 31) (u 31)).put (some 32) (u 32)).put (some 7) (.slice none 0 0)).put (some 8) (.slice none 0 0)).put (some 6) (.int .i64 4)) w') :
    (Code.region 4 (Pl.find 4 ((Tryz.f142.body).getD .skip)) true).wp Tryz.prog Q A w:=by
  have hS0:Below w0.heap.size w0 w.drew:=hW.drew
  have hA:=Pl.At.same (v:=.int .i64 (q:Nat)) (d:=5) (Pl.At.same (v:=.slice (some ⟨b,off,none⟩) 6 c2) (d:=4) (Pl.At.same (v:=.slice a len cap) (d:=0) (Pl.At.here hsz hdf) s0) s4) s5
  refine Pl.qa (S:=fun w'=>Below w0.heap.size w0 w') hA hS0 ?_
  rw [show (Pl.find 4 ((Tryz.f142.body).getD .skip)).size=15 by kernel_rfl]
  refine Pl.q0 0 22 (.slice a len cap) (Pl.q1) (Pl.q2 (.tmp 0)) hS0 ?_
  refine Pl.q0 1 23 (.int .i64 (q:Nat)) (Pl.q1) (Pl.q2 (.tmp 5)) hS0 ?_
  refine Pl.q0 2 24 (.slice (fromA a cap q) (len-q) (cap-q)) (Pl.q1) (Pl.q_36 56 (.tmp 22) (some (.tmp 23)) none (fun w=>Zc9 a len cap q hq w)) hS0 ?_
  refine Pl.q0 3 25 (.slice (some ⟨b,off,none⟩) 6 c2) (Pl.q1) (Pl.q2 (.tmp 4)) hS0 ?_
  refine Pl.q0 4 26 (.pointer (some ⟨b,off+5*4,none⟩)) (Pl.q1) (Pl.qb 155 (.tmp 25) (.const (.int .i64 5)) (Zax b off 6 c2 5 (by decide))) hS0 ?_
  refine Pl.q0 5 27 (.pointer (some ⟨b,off+5*4+1,none⟩)) (Pl.q1) (Pl.q5 158 (.tmp 26) 1 (Za7 b (off+5*4) 1 (by decide))) hS0 ?_
  refine Pl.q0 6 28 (.int .i64 (n:Nat)) (Pl.q1) (Pl.q4 3 (.tmp 27) (fun w' hS=>Zam b (off+5*4+1) _ w' (by rw [← hy];exact (Zag hx hS).2.1))) hS0 ?_
  refine Pl.qd 7 29 160 [(.tmp 24),(.tmp 28)] #[56,3] (Pl.q1) Zgp (Calls.mono (ZdT (fromA a cap q) (len-q) (cap-q) n (xs.drop q) w.drew ((hc.keep hS0 (Nat.le_refl _)).from hq) (by omega) hn) ?_)
  rintro e w1 ⟨hb1,h1,_⟩
  have he:=h1 hT
  subst he
  have hS1:=hS0.trans (hb1.mono hS0.size)
  refine⟨.tuple #[.slice none 0 0,.slice none 0 0,.int .i64 4],rfl,hS1,?_⟩
  refine Pl.q0 8 21 (.tuple #[.slice none 0 0,.slice none 0 0,.int .i64 4]) (Pl.q1) (Pl.q2 (.tmp 29)) hS1 ?_
  refine Pl.q0 9 30 (.slice none 0 0) (Pl.q1) (Pl.qg (.tmp 21) 0 (fun w=>(Zhb _ _ _ w).1)) hS1 ?_
  refine Pl.q0 10 31 (.slice none 0 0) (Pl.q1) (Pl.qg (.tmp 21) 1 (fun w=>(Zhb _ _ _ w).2.1)) hS1 ?_
  refine Pl.q0 11 32 (.int .i64 4) (Pl.q1) (Pl.qg (.tmp 21) 2 (fun w=>(Zhb _ _ _ w).2.2)) hS1 ?_
  refine Pl.q0 12 7 (.slice none 0 0) (Pl.q1) (Pl.qf (.tmp 30)) hS1 ?_
  refine Pl.q0 13 8 (.slice none 0 0) (Pl.q1) (Pl.qf (.tmp 31)) hS1 ?_
  refine Pl.q0 14 6 (.int .i64 4) (Pl.q1) (Pl.qf (.tmp 32)) hS1 ?_
  refine Pl.q7 (fun A' hA'=>?_)
  rw [Pl.At.ext hA' (((((((((((((((hA.put 22 _).put 23 _).put 24 _).put 25 _).put 26 _).put 27 _).put 28 _).put 29 _).put 21 _).put 30 _).put 31 _).put 32 _).put 7 _).put 8 _).put 6 _)]
  exact hend hA'.fn _ hS1
theorem Zov (w0 w:World)(a:Option Addr)(len cap q:Nat)(xs:List Nat)(b off c2 n:Nat)(y:It)(hc:Came w0 a len cap xs)(hl:len≤100000)(hq:q≤len)(hx:ItAt w0 b (off+5*4) y)(hy:y.n=(n:Nat))(hn:n≤255)(l:List It)(q2:Nat)(hT:tks (xs.drop q) (List.replicate n 4) [] 0=some (l,q2))(hW:Below w0.heap.size w0 w)
    {Q:Exit→Act→World→Prop}(hsz:A.tmps.size=78)(hdf:A.defers=[])(s0:A.tmps.getD 0 undef=.slice a len cap)(s4:A.tmps.getD 4 undef=.slice (some ⟨b,off,none⟩) 6 c2)(s5:A.tmps.getD 5 undef=.int .i64 (q:Nat))
    (hend:∀(u:Nat→Value) w' v,(Below w0.heap.size w0 w'∧OwnsV 23 w' w0.heap.size v (fVals (l.map It.x)))→Q .normal ((((((((((((((((A).put (some 22) (u 22)).put (some 23) (u 23)).put (some 24) (u 24)).put (some 25) (u 25)).put (some 26) (u 26)).put (some 27) (u 27)).put (some 28) (u 28)).put (some 29) (u 29)).put (some 21) (u 21)).put (some 30) (u 30)).put (some 31) (u 31)).put (some 32) (u 32)).put (some 7) (v)).put (some 8) (.slice (fromA (fromA a cap q) (cap-q) q2) (len-q-q2) (cap-q-q2))).put (some 6) (.int .i64 0)) w') :
    (Code.region 4 (Pl.find 4 ((Tryz.f142.body).getD .skip)) true).wp Tryz.prog Q A w:=by
  have hS0:Below w0.heap.size w0 w.drew:=hW.drew
  have hA:=Pl.At.same (v:=.int .i64 (q:Nat)) (d:=5) (Pl.At.same (v:=.slice (some ⟨b,off,none⟩) 6 c2) (d:=4) (Pl.At.same (v:=.slice a len cap) (d:=0) (Pl.At.here hsz hdf) s0) s4) s5
  refine Pl.qa (S:=fun w'=>Below w0.heap.size w0 w') hA hS0 ?_
  rw [show (Pl.find 4 ((Tryz.f142.body).getD .skip)).size=15 by kernel_rfl]
  refine Pl.q0 0 22 (.slice a len cap) (Pl.q1) (Pl.q2 (.tmp 0)) hS0 ?_
  refine Pl.q0 1 23 (.int .i64 (q:Nat)) (Pl.q1) (Pl.q2 (.tmp 5)) hS0 ?_
  refine Pl.q0 2 24 (.slice (fromA a cap q) (len-q) (cap-q)) (Pl.q1) (Pl.q_36 56 (.tmp 22) (some (.tmp 23)) none (fun w=>Zc9 a len cap q hq w)) hS0 ?_
  refine Pl.q0 3 25 (.slice (some ⟨b,off,none⟩) 6 c2) (Pl.q1) (Pl.q2 (.tmp 4)) hS0 ?_
  refine Pl.q0 4 26 (.pointer (some ⟨b,off+5*4,none⟩)) (Pl.q1) (Pl.qb 155 (.tmp 25) (.const (.int .i64 5)) (Zax b off 6 c2 5 (by decide))) hS0 ?_
  refine Pl.q0 5 27 (.pointer (some ⟨b,off+5*4+1,none⟩)) (Pl.q1) (Pl.q5 158 (.tmp 26) 1 (Za7 b (off+5*4) 1 (by decide))) hS0 ?_
  refine Pl.q0 6 28 (.int .i64 (n:Nat)) (Pl.q1) (Pl.q4 3 (.tmp 27) (fun w' hS=>Zam b (off+5*4+1) _ w' (by rw [← hy];exact (Zag hx hS).2.1))) hS0 ?_
  refine Pl.qd 7 29 160 [(.tmp 24),(.tmp 28)] #[56,3] (Pl.q1) Zgp (Calls.mono (ZdT (fromA a cap q) (len-q) (cap-q) n (xs.drop q) w.drew ((hc.keep hS0 (Nat.le_refl _)).from hq) (by omega) hn) ?_)
  rintro e w1 ⟨hb1,_,h1⟩
  obtain⟨_,_,v,he,ho1⟩:=h1 l q2 hT
  subst he
  have hS1:=hS0.trans (hb1.mono hS0.size)
  have ho2:=ho1.lower hS0.size
  refine⟨.tuple #[v,.slice (fromA (fromA a cap q) (cap-q) q2) (len-q-q2) (cap-q-q2),.int .i64 0],rfl,hS1,?_⟩
  refine Pl.q0 8 21 (.tuple #[v,.slice (fromA (fromA a cap q) (cap-q) q2) (len-q-q2) (cap-q-q2),.int .i64 0]) (Pl.q1) (Pl.q2 (.tmp 29)) hS1 ?_
  refine Pl.q0 9 30 (v) (Pl.q1) (Pl.qg (.tmp 21) 0 (fun w=>(Zhb _ _ _ w).1)) hS1 ?_
  refine Pl.q0 10 31 (.slice (fromA (fromA a cap q) (cap-q) q2) (len-q-q2) (cap-q-q2)) (Pl.q1) (Pl.qg (.tmp 21) 1 (fun w=>(Zhb _ _ _ w).2.1)) hS1 ?_
  refine Pl.q0 11 32 (.int .i64 0) (Pl.q1) (Pl.qg (.tmp 21) 2 (fun w=>(Zhb _ _ _ w).2.2)) hS1 ?_
  refine Pl.q0 12 7 (v) (Pl.q1) (Pl.qf (.tmp 30)) hS1 ?_
  refine Pl.q0 13 8 (.slice (fromA (fromA a cap q) (cap-q) q2) (len-q-q2) (cap-q-q2)) (Pl.q1) (Pl.qf (.tmp 31)) hS1 ?_
  refine Pl.q0 14 6 (.int .i64 0) (Pl.q1) (Pl.qf (.tmp 32)) hS1 ?_
  refine Pl.q7 (fun A' hA'=>?_)
  rw [Pl.At.ext hA' (((((((((((((((hA.put 22 _).put 23 _).put 24 _).put 25 _).put 26 _).put 27 _).put 28 _).put 29 _).put 21 _).put 30 _).put 31 _).put 32 _).put 7 _).put 8 _).put 6 _)]
  exact hend hA'.fn _ v ⟨hS1,ho2⟩
theorem dec7 (w0 w:World)(b off c2:Nat)(ca:Option Addr)(cl cc:Nat)(y0 y1 y2 y3 y4:It)(hx0:ItAt w0 b (off+0*4) y0)(hx1:ItAt w0 b (off+1*4) y1)(hx2:ItAt w0 b (off+2*4) y2)(hx3:ItAt w0 b (off+3*4) y3)(hx4:ItAt w0 b (off+4*4) y4)(hW:Below w0.heap.size w0 w)
    {Q:Exit→Act→World→Prop}(hsz:A.tmps.size=78)(hdf:A.defers=[])(s4:A.tmps.getD 4 undef=.slice (some ⟨b,off,none⟩) 6 c2)(s7:A.tmps.getD 7 undef=.slice ca cl cc)
    (hend:∀(u:Nat→Value) w',w'=w.drew.alloc (.cells #[.float .f64 y1.x,.bool (y0.n != 0),.slice ca cl cc,.int .i64 y2.n,.int .i64 y3.n,.int .i64 y4.n] 33)→Q .normal ((((((((((((((((((((((((((A).put (some 37) (u 37)).put (some 38) (u 38)).put (some 39) (u 39)).put (some 40) (u 40)).put (some 41) (u 41)).put (some 42) (u 42)).put (some 43) (u 43)).put (some 44) (u 44)).put (some 45) (u 45)).put (some 46) (u 46)).put (some 47) (u 47)).put (some 48) (u 48)).put (some 49) (u 49)).put (some 50) (u 50)).put (some 51) (u 51)).put (some 52) (u 52)).put (some 53) (u 53)).put (some 54) (u 54)).put (some 55) (u 55)).put (some 56) (u 56)).put (some 57) (u 57)).put (some 58) (u 58)).put (some 59) (u 59)).put (some 60) (u 60)).put (some 9) (.pointer (some ⟨w.drew.heap.size,0,none⟩))) w') :
    (Code.region 7 (Pl.find 7 ((Tryz.f142.body).getD .skip)) true).wp Tryz.prog Q A w:=by
  have hS0:Below w0.heap.size w0 w.drew:=hW.drew
  have hA:=Pl.At.same (v:=.slice ca cl cc) (d:=7) (Pl.At.same (v:=.slice (some ⟨b,off,none⟩) 6 c2) (d:=4) (Pl.At.here hsz hdf) s4) s7
  refine Pl.qa (S:=fun w'=>Below w0.heap.size w0 w') hA hS0 ?_
  rw [show (Pl.find 7 ((Tryz.f142.body).getD .skip)).size=26 by kernel_rfl]
  refine Pl.q0 0 37 (.slice (some ⟨b,off,none⟩) 6 c2) (Pl.q1) (Pl.q2 (.tmp 4)) hS0 ?_
  refine Pl.q0 1 38 (.pointer (some ⟨b,off+1*4,none⟩)) (Pl.q1) (Pl.qb 155 (.tmp 37) (.const (.int .i64 1)) (Zax b off 6 c2 1 (by decide))) hS0 ?_
  refine Pl.q0 2 39 (.pointer (some ⟨b,off+1*4+2,none⟩)) (Pl.q1) (Pl.q5 158 (.tmp 38) 2 (Za7 b (off+1*4) 2 (by decide))) hS0 ?_
  refine Pl.q0 3 40 (.float .f64 y1.x) (Pl.q1) (Pl.q4 23 (.tmp 39) (fun w' hS=>Zc5 b (off+1*4+2) _ w' (Zag hx1 hS).2.2.1)) hS0 ?_
  refine Pl.q0 4 41 (.slice (some ⟨b,off,none⟩) 6 c2) (Pl.q1) (Pl.q2 (.tmp 4)) hS0 ?_
  refine Pl.q0 5 42 (.pointer (some ⟨b,off+0*4,none⟩)) (Pl.q1) (Pl.qb 155 (.tmp 41) (.const (.int .i64 0)) (Zax b off 6 c2 0 (by decide))) hS0 ?_
  refine Pl.q0 6 43 (.pointer (some ⟨b,off+0*4+1,none⟩)) (Pl.q1) (Pl.q5 158 (.tmp 42) 1 (Za7 b (off+0*4) 1 (by decide))) hS0 ?_
  refine Pl.q0 7 44 (.int .i64 y0.n) (Pl.q1) (Pl.q4 3 (.tmp 43) (fun w' hS=>Zam b (off+0*4+1) _ w' (Zag hx0 hS).2.1)) hS0 ?_
  refine Pl.q0 8 45 (.bool (y0.n != 0)) (Pl.q1) (Pl.qc .neq 3 3 (.tmp 44) (.const (.int .i64 0)) (.int .i64 y0.n) (.int .i64 0) (fun w=>by simp [go_sem,eqGuard])) hS0 ?_
  refine Pl.q0 9 46 (.slice ca cl cc) (Pl.q1) (Pl.q2 (.tmp 7)) hS0 ?_
  refine Pl.q0 10 47 (.slice (some ⟨b,off,none⟩) 6 c2) (Pl.q1) (Pl.q2 (.tmp 4)) hS0 ?_
  refine Pl.q0 11 48 (.pointer (some ⟨b,off+2*4,none⟩)) (Pl.q1) (Pl.qb 155 (.tmp 47) (.const (.int .i64 2)) (Zax b off 6 c2 2 (by decide))) hS0 ?_
  refine Pl.q0 12 49 (.pointer (some ⟨b,off+2*4+1,none⟩)) (Pl.q1) (Pl.q5 158 (.tmp 48) 1 (Za7 b (off+2*4) 1 (by decide))) hS0 ?_
  refine Pl.q0 13 50 (.int .i64 y2.n) (Pl.q1) (Pl.q4 3 (.tmp 49) (fun w' hS=>Zam b (off+2*4+1) _ w' (Zag hx2 hS).2.1)) hS0 ?_
  refine Pl.q0 14 51 (.slice (some ⟨b,off,none⟩) 6 c2) (Pl.q1) (Pl.q2 (.tmp 4)) hS0 ?_
  refine Pl.q0 15 52 (.pointer (some ⟨b,off+3*4,none⟩)) (Pl.q1) (Pl.qb 155 (.tmp 51) (.const (.int .i64 3)) (Zax b off 6 c2 3 (by decide))) hS0 ?_
  refine Pl.q0 16 53 (.pointer (some ⟨b,off+3*4+1,none⟩)) (Pl.q1) (Pl.q5 158 (.tmp 52) 1 (Za7 b (off+3*4) 1 (by decide))) hS0 ?_
  refine Pl.q0 17 54 (.int .i64 y3.n) (Pl.q1) (Pl.q4 3 (.tmp 53) (fun w' hS=>Zam b (off+3*4+1) _ w' (Zag hx3 hS).2.1)) hS0 ?_
  refine Pl.q0 18 55 (.slice (some ⟨b,off,none⟩) 6 c2) (Pl.q1) (Pl.q2 (.tmp 4)) hS0 ?_
  refine Pl.q0 19 56 (.pointer (some ⟨b,off+4*4,none⟩)) (Pl.q1) (Pl.qb 155 (.tmp 55) (.const (.int .i64 4)) (Zax b off 6 c2 4 (by decide))) hS0 ?_
  refine Pl.q0 20 57 (.pointer (some ⟨b,off+4*4+1,none⟩)) (Pl.q1) (Pl.q5 158 (.tmp 56) 1 (Za7 b (off+4*4) 1 (by decide))) hS0 ?_
  refine Pl.q0 21 58 (.int .i64 y4.n) (Pl.q1) (Pl.q4 3 (.tmp 57) (fun w' hS=>Zam b (off+4*4+1) _ w' (Zag hx4 hS).2.1)) hS0 ?_
  refine Pl.q0 22 59 (.agg #[.int .i64 y3.n,.int .i64 y4.n]) (Pl.q1) (Pl.qx 31 [(0,(.tmp 54)),(1,(.tmp 58))] (fun w=>ZeN y3.n y4.n w)) hS0 ?_
  refine Pl.q0 23 60 (.agg #[.float .f64 y1.x,.bool (y0.n != 0),.slice ca cl cc,.int .i64 y2.n,.int .i64 y3.n,.int .i64 y4.n]) (Pl.q1) (Pl.qx 33 [(0,(.tmp 40)),(1,(.tmp 45)),(2,(.tmp 46)),(3,(.tmp 50)),(4,(.tmp 59))] (fun w=>ZjD y1.x (y0.n != 0) ca cl cc y2.n y3.n y4.n w)) hS0 ?_
  have hS1:Below w0.heap.size w0 (w.drew.alloc (.cells #[.float .f64 0,.bool false,.slice none 0 0,.int .i64 0,.int .i64 0,.int .i64 0] 33)):=hS0.alloc hS0.size _
  refine Pl.qp 24 9 (.pointer (some ⟨w.drew.heap.size,0,none⟩)) (w.drew.alloc (.cells #[.float .f64 0,.bool false,.slice none 0 0,.int .i64 0,.int .i64 0,.int .i64 0] 33)) (Pl.q1) (Pl.qt 33 (Zgb w.drew)) hS1 ?_
  have hS2:Below w0.heap.size w0 (w.drew.alloc (.cells #[.float .f64 y1.x,.bool (y0.n != 0),.slice ca cl cc,.int .i64 y2.n,.int .i64 y3.n,.int .i64 y4.n] 33)):=hS0.alloc hS0.size _
  refine Pl.qh 25 (w.drew.alloc (.cells #[.float .f64 y1.x,.bool (y0.n != 0),.slice ca cl cc,.int .i64 y2.n,.int .i64 y3.n,.int .i64 y4.n] 33)) (Pl.q1) (Pl.qi 33 (.tmp 9) (.tmp 60) (Zdx y1.x (y0.n != 0) ca cl cc y2.n y3.n y4.n w.drew)) hS2 ?_
  refine Pl.q7 (fun A' hA'=>?_)
  rw [Pl.At.ext hA' (((((((((((((((((((((((((hA.put 37 _).put 38 _).put 39 _).put 40 _).put 41 _).put 42 _).put 43 _).put 44 _).put 45 _).put 46 _).put 47 _).put 48 _).put 49 _).put 50 _).put 51 _).put 52 _).put 53 _).put 54 _).put 55 _).put 56 _).put 57 _).put 58 _).put 59 _).put 60 _).put 9 _)]
  exact hend hA'.fn _ rfl
theorem ZcA (xs : List Nat) : ∀ (ks js : List Int) (l : List It) (q : Nat), tks xs (ks ++ js) l q = match tks xs ks l q with
    | none => none
    | some (m, p) => tks xs js m p
  | [], js, l, q => by simp [tks]
  | k :: ks, js, l, q => by
    simp only [List.cons_append, tks]
    cases tk (xs.drop q) k with
    | none => rfl
    | some r => exact ZcA xs ks js _ _
theorem ZiI {l : List It} {q : Nat} (h : tks xs headK [] 0 = some (l, q)) : ∃ n : Nat, (l.getD 5 itD).n = (n : Nat) ∧ n ≤ 255 := by
 have e : headK = [1, 4, 3, 2, 3] ++ [1] := rfl
 rw [e, ZcA] at h
 cases h5 : tks xs [1, 4, 3, 2, 3] [] 0 with
 | none => rw [h5] at h; cases h
 | some r =>
  obtain ⟨m, p⟩ := r
  rw [h5] at h
  have hm : m.length = 5 := by have := Zct _ _ _ _ _ h5; simpa using this
  simp only [tks] at h
  cases h1 : tk (xs.drop p) 1 with
  | none => rw [h1] at h; cases h
  | some r =>
   obtain ⟨i, n⟩ := r
   rw [h1] at h
   simp only [Option.some.injEq, Prod.mk.injEq] at h
   obtain ⟨rfl, _⟩ := h
   have hi : (m ++ [i]).getD 5 itD = i := by
    simp [List.getD, hm]
   rw [hi]
   simp only [tk, show ¬ (1 : Int) = 4 by decide, show ¬ (1 : Int) = 5 by decide, if_false] at h1
   split at h1
   · split at h1
     · rename_i _ hle
       simp only [Option.some.injEq, Prod.mk.injEq] at h1
       obtain ⟨rfl, _⟩ := h1
       refine ⟨_, rfl, ?_⟩
       have : maxN 1 = 255 := rfl
       rw [this] at hle
       omega
     · cases h1
   · cases h1
theorem ZiH : ∀ t, t < headK.length → 1 ≤ headK.getD t 0 ∧ headK.getD t 0 ≤ 5 := by decide
theorem Zdc : ∀ k ∈ headK, 1 ≤ k ∧ k ≤ 5 := by decide
def ZcE : Value := .agg #[.float .f64 0, .bool false, .slice none 0 0, .int .i64 0, .int .i64 0, .int .i64 0]
def ZcI (xs : List Nat) (w : World) (e : Ending) (w' : World) : Prop :=
  Below w.heap.size w w' ∧ (decB xs = none → e = .returned (.tuple #[ZcE, .int .i64 4])) ∧
    (∀ r, decB xs = some r → r.fits ∧ ∃ a len cap, e = .returned (.tuple #[r.val (.slice a len cap), .int .i64 0]) ∧ Fs w' a len cap r.xs ∧ OwnsV 23 w' w.heap.size (.slice a len cap) (fVals r.xs))
theorem ZgY {W:World}{r:Rw}{c:Value}(h:RwBlk W g r c)(tmps:Array Value)(x:Value)(ht:tmps.getD 2 undef=.pointer (some ⟨g,0,none⟩))(hx:tmps.getD 3 undef=x)(hc:∃a len cap,c=.slice a len cap):(results Tryz.f142 tmps).run Tryz.prog W=.ok (.tuple #[r.val c,x]) W:=by
 have c0:=h.c0
 have c1:=h.c1
 have c2:=h.c2
 have c3:=h.c3
 have c4:=h.c4
 have c5:=h.c5
 obtain⟨a,len,cap,rfl⟩:=hc
 have ht2:tmps[2]?.getD undef=.pointer (some ⟨g,0,none⟩):=by simpa using ht
 have hx2:tmps[3]?.getD undef=x:=by simpa using hx
 simp [results,Tryz.results142,ht2,hx2,go_sem,c0,c1,c2,c3,c4,c5,Rw.val]
def setRw (w : World) (g : Nat) (r : Rw) (c : Value) : World := (((((w.setCell ⟨g, 0, none⟩ (.float .f64 r.key)).setCell ⟨g, 1, none⟩ (.bool r.dead)).setCell ⟨g, 2, none⟩ c).setCell ⟨g, 3, none⟩ (.int .i64 r.wr)).setCell ⟨g, 4, none⟩ (.int .i64 r.cell)).setCell ⟨g, 5, none⟩ (.int .i64 r.no)
theorem Zcr (h : RwBlk w g r0 c0) (r : Rw) (c : Value) : RwBlk (setRw w g r c) g r c := by
 have h1 := heap_setCell_same w g 0 _ 33 (.float .f64 r.key) h
 have h2 := heap_setCell_same _ g 1 _ 33 (.bool r.dead) h1
 have h3 := heap_setCell_same _ g 2 _ 33 c h2
 have h4 := heap_setCell_same _ g 3 _ 33 (.int .i64 r.wr) h3
 have h5 := heap_setCell_same _ g 4 _ 33 (.int .i64 r.cell) h4
 have h6 := heap_setCell_same _ g 5 _ 33 (.int .i64 r.no) h5
 unfold RwBlk setRw
 rw [h6]
 simp
theorem Zas {B g : Nat} {w0 w : World} (hb : Below B w0 w) (hg : B ≤ g) (r : Rw) (c : Value) : Below B w0 (setRw w g r c) :=
  (((((hb.setCell (p := ⟨g, 0, none⟩) hg _).setCell (p := ⟨g, 1, none⟩) hg _).setCell (p := ⟨g, 2, none⟩) hg _).setCell (p := ⟨g, 3, none⟩) hg _).setCell (p := ⟨g, 4, none⟩) hg _).setCell (p := ⟨g, 5, none⟩) hg _
theorem Zh0 (w : World) (g : Nat) (r : Rw) (c : Value) (k : Nat) (hk : k ≠ g) : (setRw w g r c).heap[k]? = w.heap[k]? := by
 unfold setRw
 rw [Below.heap_setCell _ ⟨g, 5, none⟩ _ k hk, Below.heap_setCell _ ⟨g, 4, none⟩ _ k hk, Below.heap_setCell _ ⟨g, 3, none⟩ _ k hk, Below.heap_setCell _ ⟨g, 2, none⟩ _ k hk, Below.heap_setCell _ ⟨g, 1, none⟩ _ k hk, Below.heap_setCell _ ⟨g, 0, none⟩ _ k hk]
theorem Zd8 {W : World} {g : Nat} {r0 : Rw} {c0 : Value} (h : RwBlk W g r0 c0) (r : Rw) (a : Option Addr) (len cap : Nat) (x : Value) {A : Act} {R : Ending → World → Prop} (t2 : A.tmps.getD 2 undef = .pointer (some ⟨g, 0, none⟩)) (t3 : A.tmps.getD 3 undef = x) (hd : A.defers = [])
    (hR : R (.returned (.tuple #[r.val (.slice a len cap), x])) (setRw W g r (.slice a len cap))) : bodyPost Tryz.prog Tryz.f142 R Exit.ret A (setRw W g r (.slice a len cap)) := by
  have hr := Zcr h r (.slice a len cap)
  generalize setRw W g r (.slice a len cap) = W' at *
  exact bodyPost_ret (ZgY hr _ _ t2 t3 ⟨_, _, _, rfl⟩) hd hR
def zeroR : Rw := ⟨0, false, [], 0, 0, 0⟩
theorem Zlh : zeroR.val (.slice none 0 0) = ZcE := rfl
theorem Zfp {l m : List It} (hl : ∀ i ∈ l, i.fits) (h6 : l.length = 6) (hm : ∀ i ∈ m, i.fits) : (rowOf l m).fits := by
 have g : ∀ j, j < 6 → (l.getD j itD).fits := fun j hj => by
  have hj' : j < l.length := by omega
  have := hl _ (List.getElem_mem hj')
  simpa [List.getD, hj'] using this
 refine ⟨(g 1 (by omega)).2.2.1, ?_, (g 2 (by omega)).2.1, (g 3 (by omega)).2.1, (g 4 (by omega)).2.1⟩
 intro x hx
 obtain ⟨i, hi, rfl⟩ := List.mem_map.1 hx
 exact (hm i hi).2.2.1
theorem OwnsV.fs {v:Value}{n:Nat}(h:OwnsV 23 w base v (fVals xs))(hx:∀x∈xs,x<18446744073709551616)(hn:xs.length=n)(hb:n≤1000000):∃a cap,v=.slice a n cap∧Fs w a n cap xs:=by
 obtain⟨a,cap,hv,hvs,hnil,hle⟩:=h.vs (ZjT _)
 have hl:(fVals xs).length=n:=by simp [fVals,hn]
 rw [hl] at hv hvs hle
 exact⟨a,cap,hv,hvs,hx,hnil,hle,by omega⟩
theorem OwnsV.setRw {v : Value} {vs : List Value} (h : OwnsV 23 w base v vs) (hg : RwBlk w g r0 c0) (r : Rw) (c : Value) : OwnsV 23 (setRw w g r c) base v vs := by
 refine ⟨h.1, ?_⟩
 rcases h.2 with hn | ⟨k, cap, cur, hv, hb, hk, rest⟩
 · exact .inl hn
 · refine .inr ⟨k, cap, cur, hv, hb, (Zh0 w g r c k ?_).trans hk, rest⟩
   rintro rfl
   unfold RwBlk at hg
   rw [hk] at hg
   simp only [Option.some.injEq, Obj.cells.injEq] at hg
   exact absurd hg.2.1 (by decide)
theorem OwnsV.fsAt {n:Nat}(h : OwnsV 23 w base (.slice a n cap) (fVals xs)) (hx : ∀ x ∈ xs, x < 18446744073709551616) (hb : xs.length ≤ 1000000) : Fs w a n cap xs := by
 obtain ⟨a', cap', hv, hf⟩ := h.fs hx rfl hb
 simp only [Value.slice.injEq] at hv
 obtain ⟨rfl, rfl, rfl⟩ := hv
 exact hf
theorem Zi6 (a:Option Addr)(len cap:Nat)(xs:List Nat)(w:World)(h:Came w a len cap xs)(hl:len≤100000) :
    Calls Tryz.prog 142 #[.slice a len cap] w (ZcI xs w):=by
  have hsf:∀(w:World) (a:Addr) (m:Mode) (x:Nat),(store a (.float .f64 x) m).run Tryz.prog w=stored Tryz.prog w a (.float .f64 x) m:=fun w a m x=>run_store Tryz.prog w a _ m rfl
  have H:=hide h
  have HLL:=hide hl
  have HXL:=hide h.bs.1
  have HXB:=hide h.bs.2.1
  have HZ:=hide (Zai w ⟨0,false,[],0,0,0⟩ (.slice none 0 0))
  have HW:=hide (Zaa w (.cells #[.float .f64 0,.bool false,.slice none 0 0,.int .i64 0,.int .i64 0,.int .i64 0] 33))
  have HH:=hide Zdd
  clear h hl
  simp only at HZ
  go_enter Tryz.func142,Tryz.ntmps142
  go_wp2_with fail
  refine(HH.out _).mono ?_
  rintro e w1 ⟨rfl,hk1,hb1⟩
  have HW1:=hide (Zab HW.out hb1)
  have HZ1:=hide (HZ.out.keep hb1)
  have hg1:(w.alloc (.cells #[.float .f64 0,.bool false,.slice none 0 0,.int .i64 0,.int .i64 0,.int .i64 0] 33)).heap.size=w.heap.size+1:=by simp
  rw [hg1] at hk1 ⊢
  have hks:=Zm2 hk1
  have hT:=Zis a len cap xs _ 6 6 headK w1 (H.out.keep HW1.out (Nat.le_refl _)) hks HLL.out (by decide)
  unfold ZaK at hT
  rw [ZbN ZiH] at hT
  have HT:=hide hT
  clear hk1 hb1 hks hT HZ HH hg1
  cases hT1:tks xs headK [] 0 with
  | none =>
   rw [hT1] at HT
   simp only at HT
   have HN:Hid (decB xs=none):=by show _=_;unfold decB;rw [hT1]
   clear hT1
   go_wp2_with fail
   refine HT.out.mono ?_
   rintro e w2 ⟨v2,rfl,hb2,_,_⟩
   have HW2:=hide (Zab HW1.out hb2)
   have HZ2:=hide (HZ1.out.keep hb2)
   have z0:=HZ2.out.c0
   have z1:=HZ2.out.c1
   have z2:=HZ2.out.c2
   have z3:=HZ2.out.c3
   have z4:=HZ2.out.c4
   have z5:=HZ2.out.c5
   have f0:=HZ2.out.fz
   clear hb2
   go_wp2_with fail
   show bodyPost Tryz.prog Tryz.f142 (ZcI xs w) Exit.ret _ (setRw w2 w.heap.size zeroR (.slice none 0 0))
   refine Zd8 HZ2.out zeroR none 0 0 (.int .i64 4) (by rfl) (by rfl) (by rfl) ?_
   exact⟨Zas HW2.out (Nat.le_refl _) _ _,fun _=>rfl,fun r h=>by rw [HN.out] at h;cases h⟩
  | some lq =>
   obtain⟨l,q⟩:=lq
   rw [hT1] at HT
   simp only at HT
   have h6:l.length=6:=by have:=Zct _ _ _ _ _ hT1;simpa [headK] using this
   have hq:q≤len:=by
    have:=Ziu HXB.out (by rw [HXL.out];have:=HLL.out;omega) _ _ _ _ Zdc (Nat.zero_le _) hT1
    rw [HXL.out] at this
    exact this
   obtain⟨n,hn,hn255⟩:=ZiI hT1
   have HT1:=hide hT1
   have H6:=hide h6
   have HQ:=hide hq
   have HN:=hide hn
   clear hT1 h6 hq hn
   go_wp2_with fail
   refine HT.out.mono ?_
   rintro e w2 ⟨v2,rfl,hb2,ho2,hf2⟩
   have HW2:=hide (Zab HW1.out hb2)
   have HZ2:=hide (HZ1.out.keep hb2)
   obtain⟨p2,c2,hv2,is2,_⟩:=ho2.is hf2
   rw [H6.out] at hv2 is2
   obtain⟨b,off,rfl,_⟩:=is2.2.2 0 (by omega)
   subst hv2
   have HIS:=hide is2
   have HF2:=hide hf2
   have hat:∀j,j<6→ItAt w2 b (off+j*4) (l.getD j itD):=fun j hj=>by
    obtain⟨_,_,e,h⟩:=HIS.out.2.2 j hj
    simp only [Option.some.injEq,Addr.mk.injEq,and_true] at e
    obtain⟨rfl,rfl⟩:=e
    exact h
   have HAT:=hide hat
   clear hb2 ho2 hf2 is2 hat HT
   go_wp2_with fail
   refine Pl.q9 (ops:=Pl.find 4 ((Tryz.f142.body).getD .skip)) ?_
   cases hT2:tks (xs.drop q) (List.replicate n 4) [] 0 with
   | none =>
    have HND:Hid (decB xs=none):=by
     show _=_
     unfold decB
     rw [HT1.out]
     simp only
     rw [HN.out,Int.toNat_natCast,hT2]
    refine Zou w2 w2 a len cap q xs b off c2 n _ (H.out.keep HW2.out (Nat.le_refl _)) HLL.out HQ.out (HAT.out 5 (by omega)) HN.out hn255 hT2 (Below.refl _ _) (by rfl) (by rfl) (by rfl) (by rfl) (by rfl) ?_
    intro u w3 hb3
    simp only [Act.put,List.setIfInBounds_toArray,List.set_cons_zero,List.set_cons_succ]
    have HW3:=hide (Zab HW2.out hb3)
    have HZ3:=hide (HZ2.out.keep hb3)
    have z0:=HZ3.out.c0
    have z1:=HZ3.out.c1
    have z2:=HZ3.out.c2
    have z3:=HZ3.out.c3
    have z4:=HZ3.out.c4
    have z5:=HZ3.out.c5
    have f0:=HZ3.out.fz
    clear hb3 hT2
    go_wp2_with fail
    show bodyPost Tryz.prog Tryz.f142 (ZcI xs w) Exit.ret _ (setRw w3 w.heap.size zeroR (.slice none 0 0))
    refine Zd8 HZ3.out zeroR none 0 0 (.int .i64 4) (by rfl) (by rfl) (by rfl) ?_
    exact⟨Zas HW3.out (Nat.le_refl _) _ _,fun _=>rfl,fun r h=>by rw [HND.out] at h;cases h⟩
   | some mq =>
    obtain⟨m,q2⟩:=mq
    have hml:m.length=n:=by have:=Zct _ _ _ _ _ hT2;simpa using this
    have hbd:Bytes (xs.drop q):=fun x hx=>HXB.out x (List.mem_of_mem_drop hx)
    have hq2:q2≤len-q:=by
     have:=Ziu hbd (by rw [List.length_drop,HXL.out];have:=HLL.out;omega) _ _ _ _ (fun k hk=>by rw [(List.mem_replicate.1 hk).2];decide) (Nat.zero_le _) hT2
     rw [List.length_drop,HXL.out] at this
     exact this
    have hmf:∀i∈m,i.fits:=Zee hbd (by rw [List.length_drop,HXL.out];have:=HLL.out;omega) _ _ _ _ (fun k hk=>by rw [(List.mem_replicate.1 hk).2];decide) (Nat.zero_le _) (fun i hi=>by cases hi) hT2
    have HD:Hid (decB xs=if q+q2<xs.length∨1<(l.getD 0 itD).n∨(rowOf l m).may=false then none else some (rowOf l m)):=by
     show _=_
     unfold decB
     rw [HT1.out]
     simp only
     rw [HN.out,Int.toNat_natCast,hT2]
    have HRF:=hide (Zfp HF2.out H6.out hmf)
    have HML:=hide hml
    have HQ2:=hide hq2
    have HMF:=hide hmf
    have hmx:∀x∈m.map It.x,x<18446744073709551616:=fun x hx=>by
     obtain⟨i,hi,rfl⟩:=List.mem_map.1 hx
     exact(hmf i hi).2.2.1
    have HMX:=hide hmx
    refine Zov w2 w2 a len cap q xs b off c2 n _ (H.out.keep HW2.out (Nat.le_refl _)) HLL.out HQ.out (HAT.out 5 (by omega)) HN.out hn255 m q2 hT2 (Below.refl _ _) (by rfl) (by rfl) (by rfl) (by rfl) (by rfl) ?_
    intro u w3 v3 ⟨hb3,ho3⟩
    simp only [Act.put,List.setIfInBounds_toArray,List.set_cons_zero,List.set_cons_succ]
    obtain⟨ca,cc,rfl,hfs⟩:=ho3.fs hmx (by rw [List.length_map,hml]) (by omega)
    have HO3:=hide ho3
    have HRX:Hid ((rowOf l m).xs=m.map It.x):=rfl
    have HW3:=hide (Zab HW2.out hb3)
    have HZ3:=hide (HZ2.out.keep hb3)
    have HFS:=hide hfs
    have HA3:=hide (fun j hj=>Zag (HAT.out j hj) hb3)
    clear hb3 hT2 ho3 hfs hml hbd hq2 hmf hmx HIS
    go_wp2_with fail
    refine Pl.q9 (ops:=Pl.find 7 ((Tryz.f142.body).getD .skip)) ?_
    refine dec7 w3 w3 b off c2 ca n cc _ _ _ _ _ (HA3.out 0 (by omega)) (HA3.out 1 (by omega)) (HA3.out 2 (by omega)) (HA3.out 3 (by omega)) (HA3.out 4 (by omega)) (Below.refl _ _) (by rfl) (by rfl) (by rfl) (by rfl) ?_
    intro u' w4 hw4
    simp only [Act.put,List.setIfInBounds_toArray,List.set_cons_zero,List.set_cons_succ]
    have hb4:Below w3.heap.size w3 w4:=by rw [hw4];exact ((Below.refl _ _).drew).alloc (Nat.le_refl _) _
    have hx4:RwBlk w4 w3.heap.size (rowOf l m) (.slice ca n cc):=by rw [hw4];exact Zai w3.drew (rowOf l m) (.slice ca n cc)
    have HW4:=hide (Zab HW3.out hb4)
    have HZ4:=hide (HZ3.out.keep hb4)
    have HF4:=hide (HFS.out.keep hb4 (Nat.le_refl _))
    have HX4:=hide hx4
    have HO4:=hide (HO3.out.keep hb4 (Nat.le_refl _))
    have hg4:w3.drew.heap.size=w3.heap.size:=rfl
    rw [hg4]
    have hlt3:w.heap.size<w3.heap.size:=(Array.getElem?_eq_some_iff.1 HZ3.out).1
    have i0:=(Zag (HA3.out 0 (by omega)) hb4).2.1
    simp only [Nat.zero_mul,Nat.add_zero] at i0
    have HCK:=hide (Zbb (rowOf l m) ca n cc w4 HF4.out HRF.out)
    generalize (rowOf l m)=R at *
    generalize (l.getD 0 itD).n=d0 at *
    clear hw4 hb4 hx4 hg4 HFS HA3 HAT
    have x0:=HX4.out.c0
    have x1:=HX4.out.c1
    have x2:=HX4.out.c2
    have x3:=HX4.out.c3
    have x4:=HX4.out.c4
    have x5:=HX4.out.c5
    unfold Rw.val at HCK
    obtain⟨rl,hrl⟩:∃rl,rl=len-q-q2:=⟨_,rfl⟩
    rw [← hrl]
    have HRL:=hide hrl
    have hbig:rl≤100000:=by rw [hrl];have:=HLL.out;omega
    clear hrl hlt3
    by_cases h1:0<rl
    · have i1:(0:Int)<(rl:Int):=by omega
      have HND:Hid (decB xs=none):=by
       show _=_
       rw [HD.out,if_pos (.inl (by rw [HXL.out];have:=HRL.out;omega))]
      have z0:=HZ4.out.c0
      have z1:=HZ4.out.c1
      have z2:=HZ4.out.c2
      have z3:=HZ4.out.c3
      have z4:=HZ4.out.c4
      have z5:=HZ4.out.c5
      have f0:=HZ4.out.fz
      go_wp2_with fail
      show bodyPost Tryz.prog Tryz.f142 (ZcI xs w) Exit.ret _ (setRw w4 w.heap.size zeroR (.slice none 0 0))
      refine Zd8 HZ4.out zeroR none 0 0 (.int .i64 4) (by rfl) (by rfl) (by rfl) ?_
      exact⟨Zas HW4.out (Nat.le_refl _) _ _,fun _=>rfl,fun r h=>by rw [HND.out] at h;cases h⟩
    · have i1:¬(0:Int)<(rl:Int):=by omega
      by_cases h2:1<d0
      · have HND:Hid (decB xs=none):=by
         show _=_
         rw [HD.out,if_pos (.inr (.inl h2))]
        have z0:=HZ4.out.c0
        have z1:=HZ4.out.c1
        have z2:=HZ4.out.c2
        have z3:=HZ4.out.c3
        have z4:=HZ4.out.c4
        have z5:=HZ4.out.c5
        have f0:=HZ4.out.fz
        go_wp2_with fail
        show bodyPost Tryz.prog Tryz.f142 (ZcI xs w) Exit.ret _ (setRw w4 w.heap.size zeroR (.slice none 0 0))
        refine Zd8 HZ4.out zeroR none 0 0 (.int .i64 4) (by rfl) (by rfl) (by rfl) ?_
        exact⟨Zas HW4.out (Nat.le_refl _) _ _,fun _=>rfl,fun r h=>by rw [HND.out] at h;cases h⟩
      · cases hm:R.may
        · have HND:Hid (decB xs=none):=by
           show _=_
           rw [HD.out,if_pos (.inr (.inr hm))]
          rw [hm] at HCK
          unfold chk at HCK
          go_wp2_with fail
          refine HCK.out.mono ?_
          rintro e w5 ⟨rfl,hb5⟩
          have HW5:=hide (Zab HW4.out hb5)
          have HZ5:=hide (HZ4.out.keep hb5)
          clear hb5 x0 x1 x2 x3 x4 x5 i0
          have z0:=HZ5.out.c0
          have z1:=HZ5.out.c1
          have z2:=HZ5.out.c2
          have z3:=HZ5.out.c3
          have z4:=HZ5.out.c4
          have z5:=HZ5.out.c5
          have f0:=HZ5.out.fz
          go_wp2_with fail
          show bodyPost Tryz.prog Tryz.f142 (ZcI xs w) Exit.ret _ (setRw w5 w.heap.size zeroR (.slice none 0 0))
          refine Zd8 HZ5.out zeroR none 0 0 (.int .i64 4) (by rfl) (by rfl) (by rfl) ?_
          exact⟨Zas HW5.out (Nat.le_refl _) _ _,fun _=>rfl,fun r h=>by rw [HND.out] at h;cases h⟩
        · have HSD:Hid (decB xs=some R):=by
           show _=_
           rw [HD.out,if_neg]
           rintro (h | h | h)
           · rw [HXL.out] at h
             have:=HRL.out
             have:=HQ2.out
             have:=HQ.out
             omega
           · exact h2 h
           · rw [hm] at h;cases h
          rw [hm] at HCK
          unfold chk at HCK
          go_wp2_with fail
          refine HCK.out.mono ?_
          rintro e w5 ⟨rfl,hb5⟩
          have HW5:=hide (Zab HW4.out hb5)
          have HZ5:=hide (HZ4.out.keep hb5)
          have HX5:=hide (HX4.out.keep hb5)
          have HO5:=hide (HO4.out.keep hb5 (Nat.le_refl _))
          clear hb5 x0 x1 x2 x3 x4 x5 i0
          have x0:=HX5.out.c0
          have x1:=HX5.out.c1
          have x2:=HX5.out.c2
          have x3:=HX5.out.c3
          have x4:=HX5.out.c4
          have x5:=HX5.out.c5
          have z0:=HZ5.out.c0
          have z1:=HZ5.out.c1
          have z2:=HZ5.out.c2
          have z3:=HZ5.out.c3
          have z4:=HZ5.out.c4
          have z5:=HZ5.out.c5
          have f0:=HZ5.out.fz
          go_wp2_with fail
          show bodyPost Tryz.prog Tryz.f142 (ZcI xs w) Exit.ret _ (setRw w5 w.heap.size R (.slice ca n cc))
          refine Zd8 HZ5.out R ca n cc (.int .i64 0) (by rfl) (by rfl) (by rfl) ?_
          refine⟨Zas HW5.out (Nat.le_refl _) _ _,(fun h=>by rw [HSD.out] at h;cases h),fun r h=>?_⟩
          rw [HSD.out] at h
          simp only [Option.some.injEq] at h
          subst h
          refine⟨HRF.out,ca,n,cc,rfl,?_,?_⟩
          · rw [HRX.out]
            exact(HO5.out.setRw HZ5.out _ _).fsAt HMX.out (by rw [List.length_map,HML.out];omega)
          · rw [HRX.out]
            exact(HO5.out.setRw HZ5.out _ _).lower HW2.out.size
def Rw.same (r s : Rw) : Bool := r.key == s.key && r.dead == s.dead && r.xs == s.xs && r.wr == s.wr && r.cell == s.cell && r.no == s.no
theorem Rw.same_self (r : Rw) : r.same r = true := by simp [Rw.same]
theorem ZlP {ys:List Nat}{k : Nat} (h : ¬ xs.getD k 0 = ys.getD k 0) : (xs == ys) = false := by
 apply beq_eq_false_iff_ne.2
 rintro rfl
 exact h rfl
theorem Zkz {ys:List Nat}(hl : xs.length = ys.length) (h : ∀ j, j < xs.length → xs.getD j 0 = ys.getD j 0) : (xs == ys) = true := by
 apply beq_iff_eq.2
 apply List.ext_getElem hl
 intro j h1 h2
 have := h j h1
 simpa [List.getD, h1, h2] using this
theorem Zlz : ∀ args w, (callFunc 43 args).run Tryz.prog w = .ok (.enter 43 args) w := Pl.enters Tryz.func43 (by kernel_rfl) (by kernel_rfl)
theorem fls6 (w0 w:World)(b1 o1 b2 o2 len c1 c2 k x1 x2:Nat)(m:Bool)(hk:k<len)(h1:w0.cell? ⟨b1,o1+k,none⟩=some (.float .f64 x1))(h2:w0.cell? ⟨b2,o2+k,none⟩=some (.float .f64 x2))(he:(x1 == x2)=m)(hW:Below w0.heap.size w0 w)
    {Q:Exit→Act→World→Prop}(hsz:A.tmps.size=27)(hdf:A.defers=[])(s0:A.tmps.getD 0 undef=.slice (some ⟨b1,o1,none⟩) len c1)(s1:A.tmps.getD 1 undef=.slice (some ⟨b2,o2,none⟩) len c2)(s5:A.tmps.getD 5 undef=.int .i64 (k:Nat))
    (hend:∀(u:Nat→Value) w',Below w0.heap.size w0 w'→Q .normal (((((((((((A).put (some 17) (u 17)).put (some 18) (u 18)).put (some 19) (u 19)).put (some 20) (u 20)).put (some 21) (u 21)).put (some 22) (u 22)).put (some 23) (u 23)).put (some 24) (u 24)).put (some 25) (u 25)).put (some 26) (.bool (!m))) w') :
    (Code.region 6 (Pl.find 6 ((Tryz.f44.body).getD .skip)) true).wp Tryz.prog Q A w:=by
  have hS0:Below w0.heap.size w0 w.drew:=hW.drew
  have hA:=Pl.At.same (v:=.int .i64 (k:Nat)) (d:=5) (Pl.At.same (v:=.slice (some ⟨b2,o2,none⟩) len c2) (d:=1) (Pl.At.same (v:=.slice (some ⟨b1,o1,none⟩) len c1) (d:=0) (Pl.At.here hsz hdf) s0) s1) s5
  refine Pl.qa (S:=fun w'=>Below w0.heap.size w0 w') hA hS0 ?_
  rw [show (Pl.find 6 ((Tryz.f44.body).getD .skip)).size=10 by kernel_rfl]
  refine Pl.q0 0 17 (.slice (some ⟨b1,o1,none⟩) len c1) (Pl.q1) (Pl.q2 (.tmp 0)) hS0 ?_
  refine Pl.q0 1 18 (.int .i64 (k:Nat)) (Pl.q1) (Pl.q2 (.tmp 5)) hS0 ?_
  refine Pl.q0 2 19 (.pointer (some ⟨b1,o1+k,none⟩)) (Pl.q1) (Pl.qb 29 (.tmp 17) (.tmp 18) (Zdf b1 o1 len c1 k hk)) hS0 ?_
  refine Pl.q0 3 20 (.float .f64 x1) (Pl.q1) (Pl.q4 23 (.tmp 19) (fun w' hS=>ZaA b1 (o1+k) x1 w' ((hS.cell (World.block_lt_of_cell? w0 _ h1)).trans h1))) hS0 ?_
  refine Pl.q0 4 21 (.slice (some ⟨b2,o2,none⟩) len c2) (Pl.q1) (Pl.q2 (.tmp 1)) hS0 ?_
  refine Pl.q0 5 22 (.int .i64 (k:Nat)) (Pl.q1) (Pl.q2 (.tmp 5)) hS0 ?_
  refine Pl.q0 6 23 (.pointer (some ⟨b2,o2+k,none⟩)) (Pl.q1) (Pl.qb 29 (.tmp 21) (.tmp 22) (Zdf b2 o2 len c2 k hk)) hS0 ?_
  refine Pl.q0 7 24 (.float .f64 x2) (Pl.q1) (Pl.q4 23 (.tmp 23) (fun w' hS=>ZaA b2 (o2+k) x2 w' ((hS.cell (World.block_lt_of_cell? w0 _ h2)).trans h2))) hS0 ?_
  refine Pl.qd 8 25 43 [(.tmp 20),(.tmp 24)] #[23,23] (Pl.q1) Zlz (Calls.mono (ZcJ x1 x2 w.drew) ?_)
  rintro e w' ⟨rfl,hw⟩
  obtain rfl:=hw.symm
  rw [he]
  refine⟨.bool m,rfl,hS0,?_⟩
  refine Pl.q0 9 26 (.bool (!m)) (Pl.q1) (Pl.qq 4 (.tmp 25) _) hS0 ?_
  refine Pl.q7 (fun A' hA'=>?_)
  rw [Pl.At.ext hA' ((((((((((hA.put 17 _).put 18 _).put 19 _).put 20 _).put 21 _).put 22 _).put 23 _).put 24 _).put 25 _).put 26 _)]
  exact hend hA'.fn _ hS0
theorem Zjj (a:Option Addr)(len cap:Nat)(b:Option Addr)(len' cap':Nat)(xs ys:List Nat)(w:World)(h:Fs w a len cap xs)(h':Fs w b len' cap' ys) :
    Calls Tryz.prog 44 #[.slice a len cap,.slice b len' cap'] w fun e w'=>e=.returned (.bool (xs == ys))∧Below w.heap.size w w':=by
  have H:=hide h
  have H':=hide h'
  have HL:=hide h.len
  have HL':=hide h'.len
  have hbig:=h.big
  clear h h'
  by_cases hl:len=len'
  · subst hl
    go_enter Tryz.func44,Tryz.ntmps44
    go_wp2_with fail
    go_loopw [5] (fun i wr=>∃k:Nat,k≤len∧i=.int .i64 k∧Hid (∀j,j<k→xs.getD j 0=ys.getD j 0)∧Hid (Below w.heap.size w wr)) (fun i _=>len-(intOf i).toNat)
    case atStart=>exact ⟨0,by omega,rfl,fun j hj=>by omega,Below.refl _ _⟩
    case round =>
     obtain⟨k,hk,rfl,hall,hWr⟩:=hrel
     rcases Nat.lt_or_ge k len with hlt | hge
     · obtain⟨b1,o1,rfl,c1,_,_⟩:=(H.out.keep hWr.out (Nat.le_refl _)).at k hlt
       obtain⟨b2,o2,rfl,c2,_,_⟩:=(H'.out.keep hWr.out (Nat.le_refl _)).at k hlt
       have C1:=hide c1
       have C2:=hide c2
       clear c1 c2
       by_cases he:xs.getD k 0=ys.getD k 0
       · have HE:=hide he
         clear he
         go_wp2_with fail
         refine Pl.q9 (ops:=Pl.find 6 ((Tryz.f44.body).getD .skip)) ?_
         refine fls6 wr wr b1 o1 b2 o2 len cap cap' k _ _ true hlt C1.out C2.out (by rw [HE.out];exact beq_self_eq_true _) (Below.refl _ _) (by rfl) (by rfl) (by rfl) (by rfl) (by rfl) ?_
         intro u w' hb
         have HB:=hide (Zab hWr.out hb)
         clear hb
         simp only [Act.put,List.setIfInBounds_toArray,List.set_cons_zero,List.set_cons_succ,Bool.not_true]
         go_wp2_with fail
         go_roundw
         case rel =>
          refine⟨k+1,by omega,by go_num,?_,HB⟩
          intro j hj
          by_cases e:j=k
          · rw [e];exact HE.out
          · exact hall.out j (by omega)
         case measure=>simp only [intOf];omega
       · have HN:Hid ((xs == ys)=false):=ZlP (k:=k) he
         have HE:=hide he
         clear he
         go_wp2_with fail
         refine Pl.q9 (ops:=Pl.find 6 ((Tryz.f44.body).getD .skip)) ?_
         refine fls6 wr wr b1 o1 b2 o2 len cap cap' k _ _ false hlt C1.out C2.out (beq_eq_false_iff_ne.2 HE.out) (Below.refl _ _) (by rfl) (by rfl) (by rfl) (by rfl) (by rfl) ?_
         intro u w' hb
         have HB:=hide (Zab hWr.out hb)
         clear hb
         simp only [Act.put,List.setIfInBounds_toArray,List.set_cons_zero,List.set_cons_succ,Bool.not_false]
         go_wp2_with fail
         go_ret
         exact⟨by rw [HN.out];rfl,HB.out⟩
     · have HN:Hid ((xs == ys)=true):=Zkz (by rw [HL.out,HL'.out]) (fun j hj=>hall.out j (by rw [HL.out] at hj;omega))
       go_wp2_with fail
       go_ret
       exact⟨by rw [HN.out];rfl,hWr.out⟩
  · have HN:Hid ((xs == ys)=false):=by
     apply beq_eq_false_iff_ne.2
     rintro rfl
     exact hl (HL.out.symm.trans HL'.out)
    have i1:((len:Int) != (len':Int))=true:=by rw [ZbD];simpa [bne] using hl
    have i2:¬(len:Int)=(len':Int):=by omega
    go_enter Tryz.func44,Tryz.ntmps44
    go_wp2_with fail
    go_ret
    exact⟨by rw [HN.out];rfl,Below.refl _ _⟩
theorem ZeI (r s:Rw)(a:Option Addr)(len cap:Nat)(b:Option Addr)(len' cap':Nat)(w:World)(h:Fs w a len cap r.xs)(h':Fs w b len' cap' s.xs) :
    Calls Tryz.prog 15 #[r.val (.slice a len cap),s.val (.slice b len' cap')] w fun e w'=>e=.returned (.bool (r.same s))∧Below w.heap.size w w':=by
  obtain⟨k,d,xs,t,c,n⟩:=r
  obtain⟨k',d',xs',t',c',n'⟩:=s
  have H1:=hide (ZcJ k k')
  have HE:Hid (∀w',Below w.heap.size w w'→_):=fun w' hb=>Zjj a len cap b len' cap' xs xs' w' (h.keep hb (Nat.le_refl _)) (h'.keep hb (Nat.le_refl _))
  have HW:Hid (∀o o',Below w.heap.size w ((w.alloc o).alloc o')):=Zbm w
  clear h h'
  unfold Rw.val Rw.same
  simp only
  by_cases hall:k=k'∧d=d'∧t=t'∧c=c'∧n=n'
  · obtain⟨rfl,rfl,rfl,rfl,rfl⟩:=hall
    rw [beq_self_eq_true] at H1
    simp only [beq_self_eq_true,Bool.true_and,Bool.and_true]
    generalize (xs == xs')=m at *
    go_enter Tryz.func15,Tryz.ntmps15
    go_wp2_with fail
    refine(H1.out _).mono ?_
    rintro e w' ⟨rfl,hw⟩
    obtain rfl:=hw.symm
    go_wp2_with fail
    refine(HE.out _ (HW.out _ _)).mono ?_
    rintro e w' ⟨rfl,hb⟩
    have HB:=hide (Zab (HW.out _ _) hb)
    clear hb
    go_wp2_with fail
    go_ret
    exact⟨rfl,HB.out⟩
  · have HN:Hid ((k == k' && d == d' && xs == xs' && t == t' && c == c' && n == n')=false):=by
     show _=_
     rw [Bool.eq_false_iff]
     intro h
     simp only [Bool.and_eq_true,beq_iff_eq] at h
     exact hall ⟨h.1.1.1.1.1,h.1.1.1.1.2,h.1.1.2,h.1.2,h.2⟩
    by_cases hk:k=k'
    · subst hk
      rw [beq_self_eq_true] at H1
      by_cases hd:d=d'
      · subst hd
        by_cases ht:t=t'
        · subst ht
          have hcn:¬(c=c'∧n=n'):=fun h=>hall ⟨rfl,rfl,rfl,h.1,h.2⟩
          clear hall
          go_enter Tryz.func15,Tryz.ntmps15
          go_wp2_with fail
          refine(H1.out _).mono ?_
          rintro e w' ⟨rfl,hw⟩
          obtain rfl:=hw.symm
          go_wp2_with fail
          all_goals (go_ret;exact ⟨by rw [HN.out];simp [*],HW.out _ _⟩)
        · have e3:(t == t')=false:=beq_eq_false_iff_ne.2 ht
          clear hall
          go_enter Tryz.func15,Tryz.ntmps15
          go_wp2_with fail
          refine(H1.out _).mono ?_
          rintro e w' ⟨rfl,hw⟩
          obtain rfl:=hw.symm
          go_wp2_with fail
          go_ret
          exact⟨by rw [HN.out];simp,HW.out _ _⟩
      · have e2:(d == d')=false:=beq_eq_false_iff_ne.2 hd
        clear hall
        go_enter Tryz.func15,Tryz.ntmps15
        go_wp2_with fail
        refine(H1.out _).mono ?_
        rintro e w' ⟨rfl,hw⟩
        obtain rfl:=hw.symm
        go_wp2_with fail
        go_ret
        exact⟨by rw [HN.out];simp,HW.out _ _⟩
    · rw [beq_eq_false_iff_ne.2 hk] at H1
      clear hall hk
      go_enter Tryz.func15,Tryz.ntmps15
      go_wp2_with fail
      refine(H1.out _).mono ?_
      rintro e w' ⟨rfl,hw⟩
      obtain rfl:=hw.symm
      go_wp2_with fail
      go_ret
      exact⟨by rw [HN.out];simp,HW.out _ _⟩
end Go.Proofs.YtdojdcncncgncaaGreat
