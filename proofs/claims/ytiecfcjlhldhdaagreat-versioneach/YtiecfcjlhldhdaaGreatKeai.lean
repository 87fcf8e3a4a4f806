/-
  Lemmas.
-/
import Derived.Deep.RegionHeld3
import Derived.BigCall
import Derived.KernelRfl
import Derived.WalkKit
namespace Go.Proofs.YtiecfcjlhldhdaaGreat
open Go.RowKit
set_option linter.unusedVariables false
set_option linter.unusedSimpArgs false
set_option maxRecDepth 100000
set_option maxHeartbeats 4000000
variable {A:Act}{ds:List Deferred}{n id:Nat}
namespace Pd
def At (ds:List Deferred) (n:Nat) (A:Act) (f:Nat→Value):Prop:=A.tmps.size=n∧A.defers=ds∧∀d,d<n→A.tmps.getD d undef=f d
def upd (f:Nat→Value) (d:Nat) (v:Value):Nat→Value:=fun e=>if e=d then v else f e
theorem At.here (hn:A.tmps.size=n)(h:A.defers=ds):At ds n A (fun d=>A.tmps.getD d undef):=⟨hn,h,fun _ _=>rfl⟩
theorem At.put {f:Nat→Value}(h:At ds n A f)(d:Nat)(v:Value):At ds n (A.put (some d) v) (upd f d v):=by
 refine⟨by simpa [Act.put] using h.1,by simpa [Act.put] using h.2.1,fun e he=>?_⟩;have hs:=h.1;simp only [Act.put,upd];by_cases aa:e=d
 · subst aa;rw [if_pos rfl];simp [Array.getD,hs,he]
 · rw [if_neg aa,← h.2.2 e he];have ab:d≠e:=fun x=>aa x.symm;simp [Array.getD,hs,he,ab]
theorem At.ext {B:Act}{f:Nat→Value}(h:At ds n A f)(k:At ds n B f):A=B:=by
 have e1:A.tmps=B.tmps:=by
  apply Array.ext
  · rw [h.1,k.1]
  · intro i h1 h2;have ha:=h.2.2 i (by have:=h.1;omega);have hb:=k.2.2 i (by have:=h.1;omega);simp only [Array.getD,h1,h2,dif_pos] at ha hb;exact ha.trans hb.symm
 (have e2:A.defers=B.defers:=by rw [h.2.1,k.2.1]);cases A;cases B;simp only at e1 e2;rw [e1,e2]
def ev (f:Nat→Value):Operand→Value
  | .tmp t=>f t
  | .const v=>v
  | .global g=>.pointer (some ⟨g,0,none⟩)
  | .func g=>.func (.func g) #[] #[]
def inB (n:Nat):Operand→Bool
  | .tmp t=>decide (t<n)
  | _=>true
theorem At.ev {f:Nat→Value}(h:At ds n A f)(x:Operand)(hx:inB n x=true):A.eval x=ev f x:=by
 cases x with
 | tmp t=>exact h.2.2 t (by simpa [inB] using hx)
 | const v=>rfl
 | global g=>rfl
 | func g=>rfl
section
variable {P : Program} {ops : Array Oper} {S : World → Prop} {Q : Exit → Act → World → Prop} {ds : List Deferred} {n fuel : Nat} {listed : Array Bool} {f : Nat → Value} {w : World}
def H (P:Program) (ops:Array Oper) (S:World→Prop) (Q:Exit→Act→World→Prop) (ds:List Deferred) (n fuel:Nat) (listed:Array Bool) (f:Nat→Value) (w:World):Prop:=
  ∀A,At ds n A f→wpAnyH P .any ops (NoPanic Q) S fuel listed A w
theorem H.start (hm:P.follows .mixedOrders=true)(hA:At ds n A f)(hS:S w.drew)(h:H P ops S Q ds n ops.size (Array.replicate ops.size false) f w.drew) :
    (Code.region id ops true).wp P Q A w:=
  wp_region_noPanic (wp_region_held_drew (S:=S) hm hS (fun _=>h A hA))
theorem H.done (hr:Region.ready .any ops listed=[])(h:∀A,At ds n A f→Q .normal A w):H P ops S Q ds n fuel listed f w:=
 fun A hA=>wpAnyH_done hr (NoPanic.normal (h A hA)) _
def first (ops:Array Oper) (listed:Array Bool) (i:Nat):Bool:=Region.noSelect ops && Region.free .any ops listed i && (Region.ready .any ops listed).contains i
def op (ops:Array Oper) (i:Nat):Oper:=ops.getD i default
theorem H.take (i d:Nat)(v:Value)(hi:ops[i]? = some (op ops i))(hd:(op ops i).dst=some d)(hc:first ops listed i=true)
    (hw:∀A,At ds n A f→Region.wanted (op ops i) (yielded ops A.tmps)=true)
    (hy:∀A,At ds n A f→∀w,S w→(execOp A.eval (op ops i)).run P w=.ok (.value v) w)(hS:S w)
    (h:H P ops S Q ds n fuel (listed.setIfInBounds i true) (upd f d v) w):H P ops S Q ds n (fuel+1) listed f w:=by
  intro A hA;simp only [first,Bool.and_eq_true] at hc;refine wpAnyH_take (i:=i) (oi:=op ops i) (v:=v) hi hc.1.1 hc.1.2 hc.2 (fun _ _ _ h=>h) (.inl ⟨hw A hA,hy A hA⟩) hS (h _ ?_);rw [hd];exact hA.put d v
theorem H.solo (i d:Nat)(v:Value)(hi:ops[i]? = some (op ops i))(hd:(op ops i).dst=some d)(hr:Region.ready .any ops listed=[i])
    (hw:∀A,At ds n A f→Region.wanted (op ops i) (yielded ops A.tmps)=true)
    (hy:∀A,At ds n A f→(execOp A.eval (op ops i)).run P w=.ok (.value v) w)(hS:S w)
    (h:H P ops S Q ds n fuel (listed.setIfInBounds i true) (upd f d v) w):H P ops S Q ds n (fuel+1) listed f w:=by
  intro A hA;refine wpAnyH_all hr (by simp) ?_;intro j hj;(obtain rfl:j=i:=by simpa using hj);unfold wpOp;rw [hi];simp only [hw A hA,if_true];refine .inl ?_;unfold Oper.wp;rw [hy A hA];refine⟨hS,h _ ?_⟩;rw [hd];exact hA.put d v
theorem H.make (i d:Nat)(v:Value)(w':World)(hi:ops[i]? = some (op ops i))(hd:(op ops i).dst=some d)(hr:Region.ready .any ops listed=[i])
    (hw:∀A,At ds n A f→Region.wanted (op ops i) (yielded ops A.tmps)=true)
    (hy:∀A,At ds n A f→(execOp A.eval (op ops i)).run P w=.ok (.value v) w')(hS:S w')
    (h:H P ops S Q ds n fuel (listed.setIfInBounds i true) (upd f d v) w'):H P ops S Q ds n (fuel+1) listed f w:=by
  intro A hA;refine wpAnyH_all hr (by simp) ?_;intro j hj;(obtain rfl:j=i:=by simpa using hj);unfold wpOp;rw [hi];simp only [hw A hA,if_true];refine .inl ?_;unfold Oper.wp;rw [hy A hA];refine⟨hS,h _ ?_⟩;rw [hd];exact hA.put d v
theorem H.call (i d g:Nat)(xs:List Operand)(ts:Array TypeId)(hi:ops[i]? = some (op ops i))(hd:(op ops i).dst=some d)(hr:Region.ready .any ops listed=[i])
    (hw:∀A,At ds n A f→Region.wanted (op ops i) (yielded ops A.tmps)=true)
    (ad:(op ops i).op=.call { callee:=.value (.func g),args:=xs.toArray,argTypes:=ts })(hx:xs.all (inB n)=true)
    (ac:∀args w,(callFunc g args).run P w=.ok (.enter g args) w)
    (h:Calls P g (xs.map (ev f)).toArray w fun e w'=>∃v,e=.returned v∧S w'∧H P ops S Q ds n fuel (listed.setIfInBounds i true) (upd f d v) w') :
    H P ops S Q ds n (fuel+1) listed f w:=by
  intro A hA;refine wpAnyH_all hr (by simp) ?_;intro j hj;(obtain rfl:j=i:=by simpa using hj);unfold wpOp;rw [hi];simp only [hw A hA,if_true];refine .inl ?_;have aa:#[] ++ xs.toArray.map A.eval ++ #[]=(xs.map (ev f)).toArray:=by
   simp only [Array.empty_append,Array.append_empty,List.map_toArray];congr 1;apply List.map_congr_left;intro x ae;exact hA.ev x (List.all_eq_true.1 hx x ae)
  have ab:(execOp A.eval (op ops j)).run P w=.ok (.enter g (xs.map (ev f)).toArray) w:=by
   have e:execOp A.eval (op ops j)=callFunc g (#[] ++ xs.toArray.map A.eval ++ #[]):=by
    unfold execOp;rw [ad];rfl
   rw [e,aa];exact ac _ _
  unfold Oper.wp;rw [ab];refine h.mono ?_;rintro e w' ⟨v,rfl,hS,hh⟩;refine⟨hS,hh _ ?_⟩;rw [hd];exact hA.put d v
theorem free (i:Nat)(h:(op ops i).guard=none):∀A,At ds n A f→Region.wanted (op ops i) (yielded ops A.tmps)=true:=by
 intro A _;simp [Region.wanted,h]

theorem q_42 {i:Nat}(h:(op ops i).guard=none:=by kernel_rfl):∀A,At ds n A f→Region.wanted (op ops i) (yielded ops A.tmps)=true:=free i h
theorem guarded (i j dj:Nat)(b:Bool)(h:(op ops i).guard=some (j,b))(hj:(ops[j]?).bind (·.dst)=some dj)(hn:dj<n)(hv:f dj=.bool b) :
    ∀A,At ds n A f→Region.wanted (op ops i) (yielded ops A.tmps)=true:=by
  intro A hA;have hs:=hA.1;have h1:=hA.2.2 dj hn;have h2:A.tmps[dj]? = some (.bool b):=by
   rw [hv] at h1;(have aa:dj<A.tmps.size:=by omega);simp only [Array.getD,aa,dif_pos] at h1;rw [Array.getElem?_eq_getElem aa];exact congrArg some h1
  simp [Region.wanted,h,yielded,hj,h2]
theorem move (i:Nat)(x:Operand)(h:(op ops i).op=.move x)(hx:inB n x=true):∀A,At ds n A f→∀w,S w→(execOp A.eval (op ops i)).run P w=.ok (.value (ev f x)) w:=by
 intro A hA w _;rw [BigFrame.run_move x h,hA.ev x hx]
theorem assign (i:Nat)(x:Operand)(h:(op ops i).op=.assign x)(hx:inB n x=true):∀A,At ds n A f→∀w,S w→(execOp A.eval (op ops i)).run P w=.ok (.value (ev f x)) w:=by
 intro A hA w _;rw [BigFrame.run_assign x h,hA.ev x hx]
theorem pick (i:Nat)(c x y:Operand)(h:(op ops i).op=.pick c x y)(hc:inB n c=true)(hx:inB n x=true)(hv:ev f c=.bool true) :
    ∀A,At ds n A f→∀w,S w→(execOp A.eval (op ops i)).run P w=.ok (.value (ev f x)) w:=by
  intro A hA w _;have e:execOp A.eval (op ops i)=(do pure (.value (if ← asBool (A.eval c) then A.eval x else A.eval y))):=by
   unfold execOp;rw [h]
  rw [e,hA.ev c hc,hv,hA.ev x hx];rfl
theorem conv (i:Nat)(src dst:TypeId)(x:Operand)(v:Value)(h:(op ops i).op=.convert src dst x)(hx:inB n x=true)(hv:∀w,S w→(convert src dst (ev f x)).run P w=.ok v w) :
    ∀A,At ds n A f→∀w,S w→(execOp A.eval (op ops i)).run P w=.ok (.value v) w:=by
  intro A hA w hS;have e:execOp A.eval (op ops i)=(do pure (.value (← convert src dst (A.eval x)))):=by
   unfold execOp;rw [h]
  rw [e,hA.ev x hx];simp [hv w hS]
theorem conv1 (i:Nat)(src dst:TypeId)(x:Operand)(v:Value)(h:(op ops i).op=.convert src dst x)(hx:inB n x=true)(hv:(convert src dst (ev f x)).run P w=.ok v w) :
    ∀A,At ds n A f→(execOp A.eval (op ops i)).run P w=.ok (.value v) w:=by
  intro A hA;have e:execOp A.eval (op ops i)=(do pure (.value (← convert src dst (A.eval x)))):=by
   unfold execOp;rw [h]
  rw [e,hA.ev x hx];simp [hv]
theorem slice (i:Nat)(t:TypeId)(x:Operand)(lo hi:Option Operand)(v:Value)(h:(op ops i).op=.slice t x lo hi none)(hx:inB n x=true)(hl:lo.all (inB n)=true)(hh:hi.all (inB n)=true)
    (hv:∀w,(Instr.sliceAt t (ev f x) (lo.map (ev f)) (hi.map (ev f)) none).run P w=.ok v w):∀A,At ds n A f→∀w,S w→(execOp A.eval (op ops i)).run P w=.ok (.value v) w:=by
  intro A hA w _;have e1:lo.map A.eval=lo.map (ev f):=by
   cases lo with
   | none=>rfl
   | some y=>exact congrArg some (hA.ev y (by simpa using hl))
  have e2:hi.map A.eval=hi.map (ev f):=by
   cases hi with
   | none=>rfl
   | some y=>exact congrArg some (hA.ev y (by simpa using hh))
  have e:execOp A.eval (op ops i)=(do pure (.value (← Instr.sliceAt t (A.eval x) (lo.map A.eval) (hi.map A.eval) none))):=by
   unfold execOp;rw [h];rfl
  rw [e,hA.ev x hx,e1,e2];simp [hv w]
theorem neg (i:Nat)(t:TypeId)(x:Operand)(b:Bool)(h:(op ops i).op=.unOp .not t x)(hx:inB n x=true)(hv:ev f x=.bool b) :
    ∀A,At ds n A f→∀w,S w→(execOp A.eval (op ops i)).run P w=.ok (.value (.bool (!b))) w:=by
  intro A hA w _;have e:execOp A.eval (op ops i)=(do pure (.value (← Op.unary .not (A.eval x)))):=by
   unfold execOp;rw [h]
  rw [e,hA.ev x hx,hv];rfl
theorem index (i:Nat)(t:TypeId)(x y:Operand)(v:Value)(h:(op ops i).op=.indexAddr t x y)(hx:inB n x=true)(hy:inB n y=true)(hv:∀w,(Instr.indexAt t (ev f x) (ev f y)).run P w=.ok v w) :
    ∀A,At ds n A f→∀w,S w→(execOp A.eval (op ops i)).run P w=.ok (.value v) w:=by
  intro A hA w _;have e:execOp A.eval (op ops i)=(do pure (.value (← Instr.indexAt t (A.eval x) (A.eval y)))):=by
   unfold execOp;rw [h]
  rw [e,hA.ev x hx,hA.ev y hy];simp [hv w]
theorem load (i:Nat)(t:TypeId)(x:Operand)(v:Value)(h:(op ops i).op=.load t x)(hx:inB n x=true)(hv:∀w,S w→(Instr.loadAt t (ev f x)).run P w=.ok v w) :
    ∀A,At ds n A f→∀w,S w→(execOp A.eval (op ops i)).run P w=.ok (.value v) w:=by
  intro A hA w hS;have e:execOp A.eval (op ops i)=(do pure (.value (← Instr.loadAt t (A.eval x)))):=by
   unfold execOp;rw [h]
  rw [e,hA.ev x hx];simp [hv w hS]
theorem bin (i:Nat)(b:BinOp)(t t':TypeId)(x y:Operand)(v:Value)(h:(op ops i).op=.binOp b t x y t')(hx:inB n x=true)(hy:inB n y=true)
    (hv:∀w,(do eqGuard b t x y (ev f x) (ev f y);binOp b t (ev f x) (ev f y):Sem Value).run P w=.ok v w) :
    ∀A,At ds n A f→∀w,S w→(execOp A.eval (op ops i)).run P w=.ok (.value v) w:=by
  intro A hA w _;have e:execOp A.eval (op ops i)=(do pure (.value (← (do eqGuard b t x y (A.eval x) (A.eval y);binOp b t (A.eval x) (A.eval y))))):=by
   unfold execOp;rw [h]
  rw [e,hA.ev x hx,hA.ev y hy];rw [Sem.run_bind,hv w];rfl
theorem one (i:Nat)(t:TypeId)(x:Operand)(v:Value)(w':World)(h:(op ops i).op=.buildSlice t 1 #[(0,x)])(hx:inB n x=true)(hv:(Instr.buildSlice t 1 #[(0,ev f x)]).run P w=.ok v w') :
    ∀A,At ds n A f→(execOp A.eval (op ops i)).run P w=.ok (.value v) w':=by
  intro A hA;have e:execOp A.eval (op ops i)=(do pure (.value (← Instr.buildSlice t 1 (Array.map (fun (p:Nat × Operand)=>(p.1,A.eval p.2)) #[(0,x)])))):=by
   unfold execOp;rw [h]
  rw [e];simp [hA.ev x hx,hv]
theorem app (i:Nat)(t:TypeId)(x y:Operand)(v:Value)(w':World)(h:(op ops i).op=.call { callee:=.builtin .append,args:=#[x,y],argTypes:=#[t,t] })(hx:inB n x=true)(hy:inB n y=true)
    (hv:∀ty,(Builtin.append_ #[t,t] ty #[ev f x,ev f y]).run P w=.ok v w') :
    ∀A,At ds n A f→(execOp A.eval (op ops i)).run P w=.ok (.value v) w':=by
  intro A hA;unfold execOp;rw [h];simp [resolve,invoke,builtin,hA.ev x hx,hA.ev y hy,hv]
theorem H.skip (i d:Nat)(hi:ops[i]? = some (op ops i))(hd:(op ops i).dst=some d)(hc:first ops listed i=true)
    (hw:∀A,At ds n A f→Region.wanted (op ops i) (yielded ops A.tmps)=false)(hS:S w)
    (h:H P ops S Q ds n fuel (listed.setIfInBounds i true) (upd f d undef) w):H P ops S Q ds n (fuel+1) listed f w:=by
  intro A hA;simp only [first,Bool.and_eq_true] at hc;refine wpAnyH_take (i:=i) (oi:=op ops i) (v:=undef) hi hc.1.1 hc.1.2 hc.2 (fun _ _ _ h=>h) (.inr ⟨hw A hA,rfl⟩) hS (h _ ?_);rw [hd];exact hA.put d undef
theorem unwanted (i j dj:Nat)(b:Bool)(h:(op ops i).guard=some (j,b))(hj:(ops[j]?).bind (·.dst)=some dj)(hn:dj<n)(hv:f dj=.bool (!b)) :
    ∀A,At ds n A f→Region.wanted (op ops i) (yielded ops A.tmps)=false:=by
  intro A hA;have hs:=hA.1;have h1:=hA.2.2 dj hn;have h2:A.tmps[dj]? = some (.bool (!b)):=by
   rw [hv] at h1;(have aa:dj<A.tmps.size:=by omega);simp only [Array.getD,aa,dif_pos] at h1;rw [Array.getElem?_eq_getElem aa];exact congrArg some h1
  cases b <;> simp [Region.wanted,h,yielded,hj,h2]
theorem pickF (i:Nat)(c x y:Operand)(h:(op ops i).op=.pick c x y)(hc:inB n c=true)(hy:inB n y=true)(hv:ev f c=.bool false) :
    ∀A,At ds n A f→∀w,S w→(execOp A.eval (op ops i)).run P w=.ok (.value (ev f y)) w:=by
  intro A hA w _;have e:execOp A.eval (op ops i)=(do pure (.value (if ← asBool (A.eval c) then A.eval x else A.eval y))):=by
   unfold execOp;rw [h]
  rw [e,hA.ev c hc,hv,hA.ev y hy];rfl
theorem field (i:Nat)(t:TypeId)(x:Operand)(k:Nat)(v:Value)(h:(op ops i).op=.fieldAddr t x k)(hx:inB n x=true)(hv:∀w,(Instr.fieldAt t (ev f x) k).run P w=.ok v w) :
    ∀A,At ds n A f→∀w,S w→(execOp A.eval (op ops i)).run P w=.ok (.value v) w:=by
  intro A hA w _;have e:execOp A.eval (op ops i)=(do pure (.value (← Instr.fieldAt t (A.eval x) k))):=by
   unfold execOp;rw [h]
  rw [e,hA.ev x hx];simp [hv w]
theorem nilc (i:Nat)(x:Operand)(a:Addr)(h:(op ops i).op=.nilCheck x)(hx:inB n x=true)(hv:ev f x=.pointer (some a)) :
    ∀A,At ds n A f→∀w,S w→(execOp A.eval (op ops i)).run P w=.ok (.value (.pointer (some a))) w:=by
  intro A hA w _;unfold execOp;rw [h];simp only [hA.ev x hx,hv];rfl
theorem lenOf (i:Nat)(t:TypeId)(x:Operand)(v:Value)(h:(op ops i).op=.call { callee:=.builtin .len,args:=#[x],argTypes:=#[t] })(hx:inB n x=true)
    (hv:∀ty w,(Builtin.len_ #[t] ty #[ev f x]).run P w=.ok v w):∀A,At ds n A f→∀w,S w→(execOp A.eval (op ops i)).run P w=.ok (.value v) w:=by
  intro A hA w _;unfold execOp;rw [h];simp [resolve,invoke,builtin,hA.ev x hx,hv]
theorem neqStrs (i:Nat)(t t':TypeId)(x y:Operand)(a b:ByteArray)(h:(op ops i).op=.binOp .neq t x y t')(hx:inB n x=true)(hy:inB n y=true)(h1:ev f x=.string a)(h2:ev f y=.string b) :
    ∀A,At ds n A f→∀w,S w→(execOp A.eval (op ops i)).run P w=.ok (.value (.bool (!(a.toList == b.toList)))) w:=by
  intro A hA w _;have e:execOp A.eval (op ops i)=(do pure (.value (← (do eqGuard .neq t x y (A.eval x) (A.eval y);binOp .neq t (A.eval x) (A.eval y))))):=by
   unfold execOp;rw [h]
  rw [e,hA.ev x hx,hA.ev y hy,h1,h2];simp [go_sem,eqGuard]
theorem binV (i:Nat)(b:BinOp)(t t':TypeId)(x y:Operand)(vx vy v:Value)(h:(op ops i).op=.binOp b t x y t')(hx:inB n x=true)(hy:inB n y=true)(h1:ev f x=vx)(h2:ev f y=vy)
    (hv:∀w,(do eqGuard b t x y vx vy;binOp b t vx vy:Sem Value).run P w=.ok v w) :
    ∀A,At ds n A f→∀w,S w→(execOp A.eval (op ops i)).run P w=.ok (.value v) w:=by
  subst h1;subst h2;exact bin i b t t' x y v h hx hy hv
theorem convV (i:Nat)(src dst:TypeId)(x:Operand)(vx v:Value)(h:(op ops i).op=.convert src dst x)(hx:inB n x=true)(h1:ev f x=vx)(hv:∀w,S w→(convert src dst vx).run P w=.ok v w) :
    ∀A,At ds n A f→∀w,S w→(execOp A.eval (op ops i)).run P w=.ok (.value v) w:=by
  subst h1;exact conv i src dst x v h hx hv
theorem H.store (i:Nat)(w':World)(hi:ops[i]? = some (op ops i))(hd:(op ops i).dst=none)(hr:Region.ready .any ops listed=[i])
    (hw:∀A,At ds n A f→Region.wanted (op ops i) (yielded ops A.tmps)=true)
    (hy:∀A,At ds n A f→(execOp A.eval (op ops i)).run P w=.ok .skip w')(hS:S w')
    (h:H P ops S Q ds n fuel (listed.setIfInBounds i true) f w'):H P ops S Q ds n (fuel+1) listed f w:=by
  intro A hA;refine wpAnyH_all hr (by simp) ?_;intro j hj;(obtain rfl:j=i:=by simpa using hj);unfold wpOp;rw [hi];simp only [hw A hA,if_true];refine .inl ?_;unfold Oper.wp;rw [hy A hA];refine⟨hS,?_⟩;rw [hd];exact h A hA
theorem storeV (i:Nat)(t:TypeId)(x y:Operand)(w':World)(h:(op ops i).op=.store t x y)(hx:inB n x=true)(hy:inB n y=true)(hv:(Instr.storeAt t (ev f x) (ev f y)).run P w=.ok () w') :
    ∀A,At ds n A f→(execOp A.eval (op ops i)).run P w=.ok .skip w':=by
  intro A hA;have e:execOp A.eval (op ops i)=(do Instr.storeAt t (A.eval x) (A.eval y);pure .skip):=by
   unfold execOp;rw [h]
  rw [e,hA.ev x hx,hA.ev y hy];simp [hv]

theorem q_37 {i:Nat}{w':World}(t:TypeId)(x:Operand)(y:Operand)(hv:(Instr.storeAt t (ev f x) (ev f y)).run P w=.ok () w')(h:(op ops i).op=.store t x y:=by kernel_rfl)(hx:inB n x=true:=by decide)(hy:inB n y=true:=by decide):∀A,At ds n A f→(execOp A.eval (op ops i)).run P w=.ok .skip w':=storeV i t x y w' h hx hy hv
def G (P:Program) (ops:Array Oper) (Q:Exit→Act→World→Prop) (ds:List Deferred) (n fuel:Nat) (listed:Array Bool) (f:Nat→Value) (w:World):Prop:=
  ∀A,At ds n A f→wpAnyH P .any ops Q (fun _=>True) fuel listed A w
def GOp (P:Program) (ops:Array Oper) (Q:Exit→Act→World→Prop) (ds:List Deferred) (n fuel:Nat) (listed:Array Bool) (f:Nat→Value) (w:World) (i:Nat):Prop:=
  ∀A,At ds n A f→wpOp P ops Q i (fun a' w'=>True∧wpAnyH P .any ops Q (fun _=>True) fuel (listed.setIfInBounds i true) a' w') A w
theorem G.start (hm:P.follows .mixedOrders=true)(hA:At ds n A f)(h:G P ops Q ds n ops.size (Array.replicate ops.size false) f w.drew) :
    (Code.region id ops true).wp P Q A w:=wp_region_held_drew (S:=fun _=>True) hm trivial (fun _=>h A hA)
theorem G.one (i:Nat)(hr:Region.ready .any ops listed=[i])(h:GOp P ops Q ds n fuel listed f w i):G P ops Q ds n (fuel+1) listed f w:=by
 intro A hA;refine wpAnyH_all hr (by simp) ?_;intro j hj;(obtain rfl:j=i:=by simpa using hj);exact h A hA

theorem qo (i:Nat)(h:GOp P ops Q ds n fuel listed f w i)(hr:Region.ready .any ops listed=[i]:=by kernel_rfl):G P ops Q ds n (fuel+1) listed f w:=G.one i hr h
theorem G.two (i k:Nat)(hr:Region.ready .any ops listed=[i,k])(h:GOp P ops Q ds n fuel listed f w i)(h2:GOp P ops Q ds n fuel listed f w k):G P ops Q ds n (fuel+1) listed f w:=by
 intro A hA;refine wpAnyH_all hr (by simp) ?_;intro j hj;(have:j=i∨j=k:=by simpa using hj);rcases this with rfl | rfl
 · exact h A hA
 · exact h2 A hA

theorem q_45 (i:Nat)(k:Nat)(h:GOp P ops Q ds n fuel listed f w i)(h2:GOp P ops Q ds n fuel listed f w k)(hr:Region.ready .any ops listed=[i,k]:=by kernel_rfl):G P ops Q ds n (fuel+1) listed f w:=G.two i k hr h h2
theorem G.done (hr:Region.ready .any ops listed=[])(h:∀A,At ds n A f→Q .normal A w):G P ops Q ds n fuel listed f w:=
 fun A hA=>wpAnyH_done hr (h A hA) _
theorem GOp.value (i d:Nat)(v:Value)(w':World)(hi:ops[i]? = some (op ops i))(hd:(op ops i).dst=some d)(hg:(op ops i).guard=none)
    (hy:∀A,At ds n A f→(execOp A.eval (op ops i)).run P w=.ok (.value v) w')
    (h:G P ops Q ds n fuel (listed.setIfInBounds i true) (upd f d v) w'):GOp P ops Q ds n fuel listed f w i:=by
  intro A hA;unfold wpOp;rw [hi];simp only [free (ds:=ds) (n:=n) (f:=f) i hg A hA,if_true];refine .inl ?_;unfold Oper.wp;rw [hy A hA];refine⟨trivial,h _ ?_⟩;rw [hd];exact hA.put d v

theorem qn (i:Nat)(d:Nat)(v:Value)(w':World)(hy:∀A,At ds n A f→(execOp A.eval (op ops i)).run P w=.ok (.value v) w')(h:G P ops Q ds n fuel (listed.setIfInBounds i true) (upd f d v) w')(hi:ops[i]? = some (op ops i):=by kernel_rfl)(hd:(op ops i).dst=some d:=by kernel_rfl)(hg:(op ops i).guard=none:=by kernel_rfl):GOp P ops Q ds n fuel listed f w i:=GOp.value i d v w' hi hd hg hy h
theorem GOp.store (i:Nat)(w':World)(hi:ops[i]? = some (op ops i))(hd:(op ops i).dst=none)(hg:(op ops i).guard=none)
    (hy:∀A,At ds n A f→(execOp A.eval (op ops i)).run P w=.ok .skip w')
    (h:G P ops Q ds n fuel (listed.setIfInBounds i true) f w'):GOp P ops Q ds n fuel listed f w i:=by
  intro A hA;unfold wpOp;rw [hi];simp only [free (ds:=ds) (n:=n) (f:=f) i hg A hA,if_true];refine .inl ?_;unfold Oper.wp;rw [hy A hA];refine⟨trivial,?_⟩;rw [hd];exact h A hA
theorem GOp.call (i d g:Nat)(xs:List Operand)(ts:Array TypeId)(hi:ops[i]? = some (op ops i))(hd:(op ops i).dst=some d)(hg:(op ops i).guard=none)
    (ad:(op ops i).op=.call { callee:=.value (.func g),args:=xs.toArray,argTypes:=ts })(hx:xs.all (inB n)=true)
    (ac:∀args w,(callFunc g args).run P w=.ok (.enter g args) w)
    (h:Calls P g (xs.map (ev f)).toArray w fun e w'=>(∃v,e=.returned v∧G P ops Q ds n fuel (listed.setIfInBounds i true) (upd f d v) w')∨(∃c,e=.panicked c∧∀A,At ds n A f→Q (.panic c) A w')) :
    GOp P ops Q ds n fuel listed f w i:=by
  intro A hA;unfold wpOp;rw [hi];simp only [free (ds:=ds) (n:=n) (f:=f) i hg A hA,if_true];refine .inl ?_;have aa:#[] ++ xs.toArray.map A.eval ++ #[]=(xs.map (ev f)).toArray:=by
   simp only [Array.empty_append,Array.append_empty,List.map_toArray];congr 1;apply List.map_congr_left;intro x ae;exact hA.ev x (List.all_eq_true.1 hx x ae)
  have ab:(execOp A.eval (op ops i)).run P w=.ok (.enter g (xs.map (ev f)).toArray) w:=by
   have e:execOp A.eval (op ops i)=callFunc g (#[] ++ xs.toArray.map A.eval ++ #[]):=by
    unfold execOp;rw [ad];rfl
   rw [e,aa];exact ac _ _
  unfold Oper.wp;rw [ab];refine h.mono ?_;rintro e w' (⟨v,rfl,hh⟩ | ⟨c,rfl,hh⟩)
  · refine⟨trivial,hh _ ?_⟩;rw [hd];exact hA.put d v
  · exact hh A hA
theorem q_40 (i:Nat)(d:Nat)(g:Nat)(xs:List Operand)(ts:Array TypeId)(hfn:∀args w,(callFunc g args).run P w=.ok (.enter g args) w)(h:Calls P g (xs.map (ev f)).toArray w fun e w'=>(∃v,e=.returned v∧G P ops Q ds n fuel (listed.setIfInBounds i true) (upd f d v) w')∨(∃c,e=.panicked c∧∀A,At ds n A f→Q (.panic c) A w'))(hi:ops[i]? = some (op ops i):=by kernel_rfl)(hd:(op ops i).dst=some d:=by kernel_rfl)(hg:(op ops i).guard=none:=by kernel_rfl)(hop:(op ops i).op=.call { callee:=.value (.func g),args:=xs.toArray,argTypes:=ts }:=by kernel_rfl)(hx:xs.all (inB n)=true:=by decide):GOp P ops Q ds n fuel listed f w i:=GOp.call i d g xs ts hi hd hg hop hx hfn h
end
theorem enters {P : Program} {g : Nat} {fn : Func} (hf : P.funcs[g]? = some fn) (aa : (fn.name == "runtime.NumGoroutine") = false) (hb : fn.body.isNone = false) : ∀ args w, (callFunc g args).run P w = .ok (.enter g args) w := by
 intro args w;unfold callFunc;rw [Sem.run_bind,run_program];simp only [Result.andThen,hf,aa,hb];rfl
theorem At.same {f:Nat→Value}(h:At ds n A f){d:Nat}{v:Value}(hv:f d=v):At ds n A (upd f d v):=by
 refine⟨h.1,h.2.1,fun e he=>?_⟩;rw [h.2.2 e he];unfold upd;split
 · rename_i hed;rw [hed,hv]
 · rfl
def find (id:Nat):Code→Array Oper
  | .region k ops _=>if k=id then ops else #[]
  | .seq a b=>find id a ++ find id b
  | .cond _ a b=>find id a ++ find id b
  | .block _ a=>find id a
  | .loop a=>find id a
  | .scope a=>find id a
  | _=>#[]
theorem region_is {P:Program}{Q:Exit→Act→World→Prop}{w:World}{l ops:Array Oper}{b:Bool}(h:l=ops)(hh:(Code.region id ops b).wp P Q A w):(Code.region id l b).wp P Q A w:=by
 subst h;exact hh
end Pd
end Go.Proofs.YtiecfcjlhldhdaaGreat
