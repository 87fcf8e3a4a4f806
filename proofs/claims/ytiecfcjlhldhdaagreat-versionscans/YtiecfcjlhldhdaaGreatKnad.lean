/-
  Lemmas.
-/
import Derived.Deep.RegionHeld3
import Derived.BigCall
import Derived.KernelRfl
import Derived.WalkKit
import Derived.Test.YtiecfcjlhldhdaaGreatKnac
import Derived.Defers
import Derived.Recover
import Derived.Test.YtiecfcjlhldhdaaGreatKnaa
namespace Go.Proofs.YtiecfcjlhldhdaaGreat
open Go.RowKit Go.Proofs.Tryz
set_option linter.unusedVariables false
set_option linter.unusedSimpArgs false
set_option maxRecDepth 100000
set_option maxHeartbeats 4000000
variable {w w':World}{A:Act}{v:Value}{xs:List Nat}{a:Option Addr}{cap base b n B d id g c p:Nat}{e t:TypeId}{ds:List Deferred}{ks:List Int}{l:List It}{k:Int}
namespace Pd
def At (ds:List Deferred) (n:Nat) (A:Act) (f:Nat→Value):Prop:=A.tmps.size=n∧A.defers=ds∧∀d,d<n→A.tmps.getD d undef=f d
def upd (f:Nat→Value) (d:Nat) (v:Value):Nat→Value:=fun e=>if e=d then v else f e
theorem At.here (hn:A.tmps.size=n)(h:A.defers=ds):At ds n A (fun d=>A.tmps.getD d undef):=⟨hn,h,fun _ _=>rfl⟩
theorem At.put {f:Nat→Value}(h:At ds n A f)(d:Nat)(v:Value):At ds n (A.put (some d) v) (upd f d v):=by
 refine⟨by simpa [Act.put] using h.1,by simpa [Act.put] using h.2.1,fun e he=>?_⟩;have hs:=h.1;simp only [Act.put,upd];by_cases aa:e=d
 · subst aa;rw [if_pos rfl];simp [Array.getD,hs,he]
 · rw [if_neg aa,← h.2.2 e he];have ab:d≠e:=fun x=>aa x.symm;simp [Array.getD,hs,he,ab]
theorem At.ext {B:Act}{f:Nat→Value}(h:At ds n A f)(k:At ds n B f):A=B:=by
 have e1:A.tmps=B.tmps:=by
  apply Array.ext
  · rw [h.1,k.1]
  · intro i h1 h2;have ha:=h.2.2 i (by have:=h.1;omega);have hb:=k.2.2 i (by have:=h.1;omega);simp only [Array.getD,h1,h2,dif_pos] at ha hb;exact ha.trans hb.symm
 (have e2:A.defers=B.defers:=by rw [h.2.1,k.2.1]);cases A;cases B;simp only at e1 e2;rw [e1,e2]
def ev (f:Nat→Value):Operand→Value
  | .tmp t=>f t
  | .const v=>v
  | .global g=>.pointer (some ⟨g,0,none⟩)
  | .func g=>.func (.func g) #[] #[]
def inB (n:Nat):Operand→Bool
  | .tmp t=>decide (t<n)
  | _=>true
theorem At.ev {f:Nat→Value}(h:At ds n A f)(x:Operand)(hx:inB n x=true):A.eval x=ev f x:=by
 cases x with
 | tmp t=>exact h.2.2 t (by simpa [inB] using hx)
 | const v=>rfl
 | global g=>rfl
 | func g=>rfl
section
variable {P : Program} {ops : Array Oper} {S : World → Prop} {Q : Exit → Act → World → Prop} {ds : List Deferred} {n fuel : Nat} {listed : Array Bool} {f : Nat → Value} {w : World}
def H (P:Program) (ops:Array Oper) (S:World→Prop) (Q:Exit→Act→World→Prop) (ds:List Deferred) (n fuel:Nat) (listed:Array Bool) (f:Nat→Value) (w:World):Prop:=
  ∀A,At ds n A f→wpAnyH P .any ops (NoPanic Q) S fuel listed A w
theorem H.start (hm:P.follows .mixedOrders=true)(hA:At ds n A f)(hS:S w.drew)(h:H P ops S Q ds n ops.size (Array.replicate ops.size false) f w.drew) :
    (Code.region id ops true).wp P Q A w:=
  wp_region_noPanic (wp_region_held_drew (S:=S) hm hS (fun _=>h A hA))
theorem H.done (hr:Region.ready .any ops listed=[])(h:∀A,At ds n A f→Q .normal A w):H P ops S Q ds n fuel listed f w:=
 fun A hA=>wpAnyH_done hr (NoPanic.normal (h A hA)) _
def first (ops:Array Oper) (listed:Array Bool) (i:Nat):Bool:=Region.noSelect ops && Region.free .any ops listed i && (Region.ready .any ops listed).contains i
def op (ops:Array Oper) (i:Nat):Oper:=ops.getD i default
theorem H.take (i d:Nat)(v:Value)(hi:ops[i]? = some (op ops i))(hd:(op ops i).dst=some d)(hc:first ops listed i=true)
    (hw:∀A,At ds n A f→Region.wanted (op ops i) (yielded ops A.tmps)=true)
    (hy:∀A,At ds n A f→∀w,S w→(execOp A.eval (op ops i)).run P w=.ok (.value v) w)(hS:S w)
    (h:H P ops S Q ds n fuel (listed.setIfInBounds i true) (upd f d v) w):H P ops S Q ds n (fuel+1) listed f w:=by
  intro A hA;simp only [first,Bool.and_eq_true] at hc;refine wpAnyH_take (i:=i) (oi:=op ops i) (v:=v) hi hc.1.1 hc.1.2 hc.2 (fun _ _ _ h=>h) (.inl ⟨hw A hA,hy A hA⟩) hS (h _ ?_);rw [hd];exact hA.put d v
theorem H.solo (i d:Nat)(v:Value)(hi:ops[i]? = some (op ops i))(hd:(op ops i).dst=some d)(hr:Region.ready .any ops listed=[i])
    (hw:∀A,At ds n A f→Region.wanted (op ops i) (yielded ops A.tmps)=true)
    (hy:∀A,At ds n A f→(execOp A.eval (op ops i)).run P w=.ok (.value v) w)(hS:S w)
    (h:H P ops S Q ds n fuel (listed.setIfInBounds i true) (upd f d v) w):H P ops S Q ds n (fuel+1) listed f w:=by
  intro A hA;refine wpAnyH_all hr (by simp) ?_;intro j hj;(obtain rfl:j=i:=by simpa using hj);unfold wpOp;rw [hi];simp only [hw A hA,if_true];refine .inl ?_;unfold Oper.wp;rw [hy A hA];refine⟨hS,h _ ?_⟩;rw [hd];exact hA.put d v
theorem H.make (i d:Nat)(v:Value)(w':World)(hi:ops[i]? = some (op ops i))(hd:(op ops i).dst=some d)(hr:Region.ready .any ops listed=[i])
    (hw:∀A,At ds n A f→Region.wanted (op ops i) (yielded ops A.tmps)=true)
    (hy:∀A,At ds n A f→(execOp A.eval (op ops i)).run P w=.ok (.value v) w')(hS:S w')
    (h:H P ops S Q ds n fuel (listed.setIfInBounds i true) (upd f d v) w'):H P ops S Q ds n (fuel+1) listed f w:=by
  intro A hA;refine wpAnyH_all hr (by simp) ?_;intro j hj;(obtain rfl:j=i:=by simpa using hj);unfold wpOp;rw [hi];simp only [hw A hA,if_true];refine .inl ?_;unfold Oper.wp;rw [hy A hA];refine⟨hS,h _ ?_⟩;rw [hd];exact hA.put d v
theorem H.call (i d g:Nat)(xs:List Operand)(ts:Array TypeId)(hi:ops[i]? = some (op ops i))(hd:(op ops i).dst=some d)(hr:Region.ready .any ops listed=[i])
    (hw:∀A,At ds n A f→Region.wanted (op ops i) (yielded ops A.tmps)=true)
    (ad:(op ops i).op=.call { callee:=.value (.func g),args:=xs.toArray,argTypes:=ts })(hx:xs.all (inB n)=true)
    (ac:∀args w,(callFunc g args).run P w=.ok (.enter g args) w)
    (h:Calls P g (xs.map (ev f)).toArray w fun e w'=>∃v,e=.returned v∧S w'∧H P ops S Q ds n fuel (listed.setIfInBounds i true) (upd f d v) w') :
    H P ops S Q ds n (fuel+1) listed f w:=by
  intro A hA;refine wpAnyH_all hr (by simp) ?_;intro j hj;(obtain rfl:j=i:=by simpa using hj);unfold wpOp;rw [hi];simp only [hw A hA,if_true];refine .inl ?_;have aa:#[] ++ xs.toArray.map A.eval ++ #[]=(xs.map (ev f)).toArray:=by
   simp only [Array.empty_append,Array.append_empty,List.map_toArray];congr 1;apply List.map_congr_left;intro x ae;exact hA.ev x (List.all_eq_true.1 hx x ae)
  have ab:(execOp A.eval (op ops j)).run P w=.ok (.enter g (xs.map (ev f)).toArray) w:=by
   have e:execOp A.eval (op ops j)=callFunc g (#[] ++ xs.toArray.map A.eval ++ #[]):=by
    unfold execOp;rw [ad];rfl
   rw [e,aa];exact ac _ _
  unfold Oper.wp;rw [ab];refine h.mono ?_;rintro e w' ⟨v,rfl,hS,hh⟩;refine⟨hS,hh _ ?_⟩;rw [hd];exact hA.put d v
theorem free (i:Nat)(h:(op ops i).guard=none):∀A,At ds n A f→Region.wanted (op ops i) (yielded ops A.tmps)=true:=by
 intro A _;simp [Region.wanted,h]

theorem q_43 {i:Nat}(h:(op ops i).guard=none:=by kernel_rfl):∀A,At ds n A f→Region.wanted (op ops i) (yielded ops A.tmps)=true:=free i h
theorem guarded (i j dj:Nat)(b:Bool)(h:(op ops i).guard=some (j,b))(hj:(ops[j]?).bind (·.dst)=some dj)(hn:dj<n)(hv:f dj=.bool b) :
    ∀A,At ds n A f→Region.wanted (op ops i) (yielded ops A.tmps)=true:=by
  intro A hA;have hs:=hA.1;have h1:=hA.2.2 dj hn;have h2:A.tmps[dj]? = some (.bool b):=by
   rw [hv] at h1;(have aa:dj<A.tmps.size:=by omega);simp only [Array.getD,aa,dif_pos] at h1;rw [Array.getElem?_eq_getElem aa];exact congrArg some h1
  simp [Region.wanted,h,yielded,hj,h2]
theorem move (i:Nat)(x:Operand)(h:(op ops i).op=.move x)(hx:inB n x=true):∀A,At ds n A f→∀w,S w→(execOp A.eval (op ops i)).run P w=.ok (.value (ev f x)) w:=by
 intro A hA w _;rw [BigFrame.run_move x h,hA.ev x hx]
theorem assign (i:Nat)(x:Operand)(h:(op ops i).op=.assign x)(hx:inB n x=true):∀A,At ds n A f→∀w,S w→(execOp A.eval (op ops i)).run P w=.ok (.value (ev f x)) w:=by
 intro A hA w _;rw [BigFrame.run_assign x h,hA.ev x hx]
theorem pick (i:Nat)(c x y:Operand)(h:(op ops i).op=.pick c x y)(hc:inB n c=true)(hx:inB n x=true)(hv:ev f c=.bool true) :
    ∀A,At ds n A f→∀w,S w→(execOp A.eval (op ops i)).run P w=.ok (.value (ev f x)) w:=by
  intro A hA w _;have e:execOp A.eval (op ops i)=(do pure (.value (if ← asBool (A.eval c) then A.eval x else A.eval y))):=by
   unfold execOp;rw [h]
  rw [e,hA.ev c hc,hv,hA.ev x hx];rfl
theorem conv (i:Nat)(src dst:TypeId)(x:Operand)(v:Value)(h:(op ops i).op=.convert src dst x)(hx:inB n x=true)(hv:∀w,S w→(convert src dst (ev f x)).run P w=.ok v w) :
    ∀A,At ds n A f→∀w,S w→(execOp A.eval (op ops i)).run P w=.ok (.value v) w:=by
  intro A hA w hS;have e:execOp A.eval (op ops i)=(do pure (.value (← convert src dst (A.eval x)))):=by
   unfold execOp;rw [h]
  rw [e,hA.ev x hx];simp [hv w hS]
theorem conv1 (i:Nat)(src dst:TypeId)(x:Operand)(v:Value)(h:(op ops i).op=.convert src dst x)(hx:inB n x=true)(hv:(convert src dst (ev f x)).run P w=.ok v w) :
    ∀A,At ds n A f→(execOp A.eval (op ops i)).run P w=.ok (.value v) w:=by
  intro A hA;have e:execOp A.eval (op ops i)=(do pure (.value (← convert src dst (A.eval x)))):=by
   unfold execOp;rw [h]
  rw [e,hA.ev x hx];simp [hv]
theorem slice (i:Nat)(t:TypeId)(x:Operand)(lo hi:Option Operand)(v:Value)(h:(op ops i).op=.slice t x lo hi none)(hx:inB n x=true)(hl:lo.all (inB n)=true)(hh:hi.all (inB n)=true)
    (hv:∀w,(Instr.sliceAt t (ev f x) (lo.map (ev f)) (hi.map (ev f)) none).run P w=.ok v w):∀A,At ds n A f→∀w,S w→(execOp A.eval (op ops i)).run P w=.ok (.value v) w:=by
  intro A hA w _;have e1:lo.map A.eval=lo.map (ev f):=by
   cases lo with
   | none=>rfl
   | some y=>exact congrArg some (hA.ev y (by simpa using hl))
  have e2:hi.map A.eval=hi.map (ev f):=by
   cases hi with
   | none=>rfl
   | some y=>exact congrArg some (hA.ev y (by simpa using hh))
  have e:execOp A.eval (op ops i)=(do pure (.value (← Instr.sliceAt t (A.eval x) (lo.map A.eval) (hi.map A.eval) none))):=by
   unfold execOp;rw [h];rfl
  rw [e,hA.ev x hx,e1,e2];simp [hv w]
theorem neg (i:Nat)(t:TypeId)(x:Operand)(b:Bool)(h:(op ops i).op=.unOp .not t x)(hx:inB n x=true)(hv:ev f x=.bool b) :
    ∀A,At ds n A f→∀w,S w→(execOp A.eval (op ops i)).run P w=.ok (.value (.bool (!b))) w:=by
  intro A hA w _;have e:execOp A.eval (op ops i)=(do pure (.value (← Op.unary .not (A.eval x)))):=by
   unfold execOp;rw [h]
  rw [e,hA.ev x hx,hv];rfl
theorem index (i:Nat)(t:TypeId)(x y:Operand)(v:Value)(h:(op ops i).op=.indexAddr t x y)(hx:inB n x=true)(hy:inB n y=true)(hv:∀w,(Instr.indexAt t (ev f x) (ev f y)).run P w=.ok v w) :
    ∀A,At ds n A f→∀w,S w→(execOp A.eval (op ops i)).run P w=.ok (.value v) w:=by
  intro A hA w _;have e:execOp A.eval (op ops i)=(do pure (.value (← Instr.indexAt t (A.eval x) (A.eval y)))):=by
   unfold execOp;rw [h]
  rw [e,hA.ev x hx,hA.ev y hy];simp [hv w]
theorem load (i:Nat)(t:TypeId)(x:Operand)(v:Value)(h:(op ops i).op=.load t x)(hx:inB n x=true)(hv:∀w,S w→(Instr.loadAt t (ev f x)).run P w=.ok v w) :
    ∀A,At ds n A f→∀w,S w→(execOp A.eval (op ops i)).run P w=.ok (.value v) w:=by
  intro A hA w hS;have e:execOp A.eval (op ops i)=(do pure (.value (← Instr.loadAt t (A.eval x)))):=by
   unfold execOp;rw [h]
  rw [e,hA.ev x hx];simp [hv w hS]
theorem bin (i:Nat)(b:BinOp)(t t':TypeId)(x y:Operand)(v:Value)(h:(op ops i).op=.binOp b t x y t')(hx:inB n x=true)(hy:inB n y=true)
    (hv:∀w,(do eqGuard b t x y (ev f x) (ev f y);binOp b t (ev f x) (ev f y):Sem Value).run P w=.ok v w) :
    ∀A,At ds n A f→∀w,S w→(execOp A.eval (op ops i)).run P w=.ok (.value v) w:=by
  intro A hA w _;have e:execOp A.eval (op ops i)=(do pure (.value (← (do eqGuard b t x y (A.eval x) (A.eval y);binOp b t (A.eval x) (A.eval y))))):=by
   unfold execOp;rw [h]
  rw [e,hA.ev x hx,hA.ev y hy];rw [Sem.run_bind,hv w];rfl
theorem one (i:Nat)(t:TypeId)(x:Operand)(v:Value)(w':World)(h:(op ops i).op=.buildSlice t 1 #[(0,x)])(hx:inB n x=true)(hv:(Instr.buildSlice t 1 #[(0,ev f x)]).run P w=.ok v w') :
    ∀A,At ds n A f→(execOp A.eval (op ops i)).run P w=.ok (.value v) w':=by
  intro A hA;have e:execOp A.eval (op ops i)=(do pure (.value (← Instr.buildSlice t 1 (Array.map (fun (p:Nat × Operand)=>(p.1,A.eval p.2)) #[(0,x)])))):=by
   unfold execOp;rw [h]
  rw [e];simp [hA.ev x hx,hv]
theorem app (i:Nat)(t:TypeId)(x y:Operand)(v:Value)(w':World)(h:(op ops i).op=.call { callee:=.builtin .append,args:=#[x,y],argTypes:=#[t,t] })(hx:inB n x=true)(hy:inB n y=true)
    (hv:∀ty,(Builtin.append_ #[t,t] ty #[ev f x,ev f y]).run P w=.ok v w') :
    ∀A,At ds n A f→(execOp A.eval (op ops i)).run P w=.ok (.value v) w':=by
  intro A hA;unfold execOp;rw [h];simp [resolve,invoke,builtin,hA.ev x hx,hA.ev y hy,hv]
theorem H.skip (i d:Nat)(hi:ops[i]? = some (op ops i))(hd:(op ops i).dst=some d)(hc:first ops listed i=true)
    (hw:∀A,At ds n A f→Region.wanted (op ops i) (yielded ops A.tmps)=false)(hS:S w)
    (h:H P ops S Q ds n fuel (listed.setIfInBounds i true) (upd f d undef) w):H P ops S Q ds n (fuel+1) listed f w:=by
  intro A hA;simp only [first,Bool.and_eq_true] at hc;refine wpAnyH_take (i:=i) (oi:=op ops i) (v:=undef) hi hc.1.1 hc.1.2 hc.2 (fun _ _ _ h=>h) (.inr ⟨hw A hA,rfl⟩) hS (h _ ?_);rw [hd];exact hA.put d undef
theorem unwanted (i j dj:Nat)(b:Bool)(h:(op ops i).guard=some (j,b))(hj:(ops[j]?).bind (·.dst)=some dj)(hn:dj<n)(hv:f dj=.bool (!b)) :
    ∀A,At ds n A f→Region.wanted (op ops i) (yielded ops A.tmps)=false:=by
  intro A hA;have hs:=hA.1;have h1:=hA.2.2 dj hn;have h2:A.tmps[dj]? = some (.bool (!b)):=by
   rw [hv] at h1;(have aa:dj<A.tmps.size:=by omega);simp only [Array.getD,aa,dif_pos] at h1;rw [Array.getElem?_eq_getElem aa];exact congrArg some h1
  cases b <;> simp [Region.wanted,h,yielded,hj,h2]
theorem pickF (i:Nat)(c x y:Operand)(h:(op ops i).op=.pick c x y)(hc:inB n c=true)(hy:inB n y=true)(hv:ev f c=.bool false) :
    ∀A,At ds n A f→∀w,S w→(execOp A.eval (op ops i)).run P w=.ok (.value (ev f y)) w:=by
  intro A hA w _;have e:execOp A.eval (op ops i)=(do pure (.value (if ← asBool (A.eval c) then A.eval x else A.eval y))):=by
   unfold execOp;rw [h]
  rw [e,hA.ev c hc,hv,hA.ev y hy];rfl
theorem field (i:Nat)(t:TypeId)(x:Operand)(k:Nat)(v:Value)(h:(op ops i).op=.fieldAddr t x k)(hx:inB n x=true)(hv:∀w,(Instr.fieldAt t (ev f x) k).run P w=.ok v w) :
    ∀A,At ds n A f→∀w,S w→(execOp A.eval (op ops i)).run P w=.ok (.value v) w:=by
  intro A hA w _;have e:execOp A.eval (op ops i)=(do pure (.value (← Instr.fieldAt t (A.eval x) k))):=by
   unfold execOp;rw [h]
  rw [e,hA.ev x hx];simp [hv w]
theorem nilc (i:Nat)(x:Operand)(a:Addr)(h:(op ops i).op=.nilCheck x)(hx:inB n x=true)(hv:ev f x=.pointer (some a)) :
    ∀A,At ds n A f→∀w,S w→(execOp A.eval (op ops i)).run P w=.ok (.value (.pointer (some a))) w:=by
  intro A hA w _;unfold execOp;rw [h];simp only [hA.ev x hx,hv];rfl
theorem lenOf (i:Nat)(t:TypeId)(x:Operand)(v:Value)(h:(op ops i).op=.call { callee:=.builtin .len,args:=#[x],argTypes:=#[t] })(hx:inB n x=true)
    (hv:∀ty w,(Builtin.len_ #[t] ty #[ev f x]).run P w=.ok v w):∀A,At ds n A f→∀w,S w→(execOp A.eval (op ops i)).run P w=.ok (.value v) w:=by
  intro A hA w _;unfold execOp;rw [h];simp [resolve,invoke,builtin,hA.ev x hx,hv]
theorem neqStrs (i:Nat)(t t':TypeId)(x y:Operand)(a b:ByteArray)(h:(op ops i).op=.binOp .neq t x y t')(hx:inB n x=true)(hy:inB n y=true)(h1:ev f x=.string a)(h2:ev f y=.string b) :
    ∀A,At ds n A f→∀w,S w→(execOp A.eval (op ops i)).run P w=.ok (.value (.bool (!(a.toList == b.toList)))) w:=by
  intro A hA w _;have e:execOp A.eval (op ops i)=(do pure (.value (← (do eqGuard .neq t x y (A.eval x) (A.eval y);binOp .neq t (A.eval x) (A.eval y))))):=by
   unfold execOp;rw [h]
  rw [e,hA.ev x hx,hA.ev y hy,h1,h2];simp [go_sem,eqGuard]
theorem binV (i:Nat)(b:BinOp)(t t':TypeId)(x y:Operand)(vx vy v:Value)(h:(op ops i).op=.binOp b t x y t')(hx:inB n x=true)(hy:inB n y=true)(h1:ev f x=vx)(h2:ev f y=vy)
    (hv:∀w,(do eqGuard b t x y vx vy;binOp b t vx vy:Sem Value).run P w=.ok v w) :
    ∀A,At ds n A f→∀w,S w→(execOp A.eval (op ops i)).run P w=.ok (.value v) w:=by
  subst h1;subst h2;exact bin i b t t' x y v h hx hy hv
theorem convV (i:Nat)(src dst:TypeId)(x:Operand)(vx v:Value)(h:(op ops i).op=.convert src dst x)(hx:inB n x=true)(h1:ev f x=vx)(hv:∀w,S w→(convert src dst vx).run P w=.ok v w) :
    ∀A,At ds n A f→∀w,S w→(execOp A.eval (op ops i)).run P w=.ok (.value v) w:=by
  subst h1;exact conv i src dst x v h hx hv
theorem H.store (i:Nat)(w':World)(hi:ops[i]? = some (op ops i))(hd:(op ops i).dst=none)(hr:Region.ready .any ops listed=[i])
    (hw:∀A,At ds n A f→Region.wanted (op ops i) (yielded ops A.tmps)=true)
    (hy:∀A,At ds n A f→(execOp A.eval (op ops i)).run P w=.ok .skip w')(hS:S w')
    (h:H P ops S Q ds n fuel (listed.setIfInBounds i true) f w'):H P ops S Q ds n (fuel+1) listed f w:=by
  intro A hA;refine wpAnyH_all hr (by simp) ?_;intro j hj;(obtain rfl:j=i:=by simpa using hj);unfold wpOp;rw [hi];simp only [hw A hA,if_true];refine .inl ?_;unfold Oper.wp;rw [hy A hA];refine⟨hS,?_⟩;rw [hd];exact h A hA
theorem storeV (i:Nat)(t:TypeId)(x y:Operand)(w':World)(h:(op ops i).op=.store t x y)(hx:inB n x=true)(hy:inB n y=true)(hv:(Instr.storeAt t (ev f x) (ev f y)).run P w=.ok () w') :
    ∀A,At ds n A f→(execOp A.eval (op ops i)).run P w=.ok .skip w':=by
  intro A hA;have e:execOp A.eval (op ops i)=(do Instr.storeAt t (A.eval x) (A.eval y);pure .skip):=by
   unfold execOp;rw [h]
  rw [e,hA.ev x hx,hA.ev y hy];simp [hv]

theorem q_38 {i:Nat}{w':World}(t:TypeId)(x:Operand)(y:Operand)(hv:(Instr.storeAt t (ev f x) (ev f y)).run P w=.ok () w')(h:(op ops i).op=.store t x y:=by kernel_rfl)(hx:inB n x=true:=by decide)(hy:inB n y=true:=by decide):∀A,At ds n A f→(execOp A.eval (op ops i)).run P w=.ok .skip w':=storeV i t x y w' h hx hy hv
def G (P:Program) (ops:Array Oper) (Q:Exit→Act→World→Prop) (ds:List Deferred) (n fuel:Nat) (listed:Array Bool) (f:Nat→Value) (w:World):Prop:=
  ∀A,At ds n A f→wpAnyH P .any ops Q (fun _=>True) fuel listed A w
def GOp (P:Program) (ops:Array Oper) (Q:Exit→Act→World→Prop) (ds:List Deferred) (n fuel:Nat) (listed:Array Bool) (f:Nat→Value) (w:World) (i:Nat):Prop:=
  ∀A,At ds n A f→wpOp P ops Q i (fun a' w'=>True∧wpAnyH P .any ops Q (fun _=>True) fuel (listed.setIfInBounds i true) a' w') A w
theorem G.start (hm:P.follows .mixedOrders=true)(hA:At ds n A f)(h:G P ops Q ds n ops.size (Array.replicate ops.size false) f w.drew) :
    (Code.region id ops true).wp P Q A w:=wp_region_held_drew (S:=fun _=>True) hm trivial (fun _=>h A hA)
theorem G.one (i:Nat)(hr:Region.ready .any ops listed=[i])(h:GOp P ops Q ds n fuel listed f w i):G P ops Q ds n (fuel+1) listed f w:=by
 intro A hA;refine wpAnyH_all hr (by simp) ?_;intro j hj;(obtain rfl:j=i:=by simpa using hj);exact h A hA

theorem qo (i:Nat)(h:GOp P ops Q ds n fuel listed f w i)(hr:Region.ready .any ops listed=[i]:=by kernel_rfl):G P ops Q ds n (fuel+1) listed f w:=G.one i hr h
theorem G.two (i k:Nat)(hr:Region.ready .any ops listed=[i,k])(h:GOp P ops Q ds n fuel listed f w i)(h2:GOp P ops Q ds n fuel listed f w k):G P ops Q ds n (fuel+1) listed f w:=by
 intro A hA;refine wpAnyH_all hr (by simp) ?_;intro j hj;(have:j=i∨j=k:=by simpa using hj);rcases this with rfl | rfl
 · exact h A hA
 · exact h2 A hA

theorem q_46 (i:Nat)(k:Nat)(h:GOp P ops Q ds n fuel listed f w i)(h2:GOp P ops Q ds n fuel listed f w k)(hr:Region.ready .any ops listed=[i,k]:=by kernel_rfl):G P ops Q ds n (fuel+1) listed f w:=G.two i k hr h h2
theorem G.done (hr:Region.ready .any ops listed=[])(h:∀A,At ds n A f→Q .normal A w):G P ops Q ds n fuel listed f w:=
 fun A hA=>wpAnyH_done hr (h A hA) _
theorem GOp.value (i d:Nat)(v:Value)(w':World)(hi:ops[i]? = some (op ops i))(hd:(op ops i).dst=some d)(hg:(op ops i).guard=none)
    (hy:∀A,At ds n A f→(execOp A.eval (op ops i)).run P w=.ok (.value v) w')
    (h:G P ops Q ds n fuel (listed.setIfInBounds i true) (upd f d v) w'):GOp P ops Q ds n fuel listed f w i:=by
  intro A hA;unfold wpOp;rw [hi];simp only [free (ds:=ds) (n:=n) (f:=f) i hg A hA,if_true];refine .inl ?_;unfold Oper.wp;rw [hy A hA];refine⟨trivial,h _ ?_⟩;rw [hd];exact hA.put d v

theorem qn (i:Nat)(d:Nat)(v:Value)(w':World)(hy:∀A,At ds n A f→(execOp A.eval (op ops i)).run P w=.ok (.value v) w')(h:G P ops Q ds n fuel (listed.setIfInBounds i true) (upd f d v) w')(hi:ops[i]? = some (op ops i):=by kernel_rfl)(hd:(op ops i).dst=some d:=by kernel_rfl)(hg:(op ops i).guard=none:=by kernel_rfl):GOp P ops Q ds n fuel listed f w i:=GOp.value i d v w' hi hd hg hy h
theorem GOp.store (i:Nat)(w':World)(hi:ops[i]? = some (op ops i))(hd:(op ops i).dst=none)(hg:(op ops i).guard=none)
    (hy:∀A,At ds n A f→(execOp A.eval (op ops i)).run P w=.ok .skip w')
    (h:G P ops Q ds n fuel (listed.setIfInBounds i true) f w'):GOp P ops Q ds n fuel listed f w i:=by
  intro A hA;unfold wpOp;rw [hi];simp only [free (ds:=ds) (n:=n) (f:=f) i hg A hA,if_true];refine .inl ?_;unfold Oper.wp;rw [hy A hA];refine⟨trivial,?_⟩;rw [hd];exact h A hA
theorem GOp.call (i d g:Nat)(xs:List Operand)(ts:Array TypeId)(hi:ops[i]? = some (op ops i))(hd:(op ops i).dst=some d)(hg:(op ops i).guard=none)
    (ad:(op ops i).op=.call { callee:=.value (.func g),args:=xs.toArray,argTypes:=ts })(hx:xs.all (inB n)=true)
    (ac:∀args w,(callFunc g args).run P w=.ok (.enter g args) w)
    (h:Calls P g (xs.map (ev f)).toArray w fun e w'=>(∃v,e=.returned v∧G P ops Q ds n fuel (listed.setIfInBounds i true) (upd f d v) w')∨(∃c,e=.panicked c∧∀A,At ds n A f→Q (.panic c) A w')) :
    GOp P ops Q ds n fuel listed f w i:=by
  intro A hA;unfold wpOp;rw [hi];simp only [free (ds:=ds) (n:=n) (f:=f) i hg A hA,if_true];refine .inl ?_;have aa:#[] ++ xs.toArray.map A.eval ++ #[]=(xs.map (ev f)).toArray:=by
   simp only [Array.empty_append,Array.append_empty,List.map_toArray];congr 1;apply List.map_congr_left;intro x ae;exact hA.ev x (List.all_eq_true.1 hx x ae)
  have ab:(execOp A.eval (op ops i)).run P w=.ok (.enter g (xs.map (ev f)).toArray) w:=by
   have e:execOp A.eval (op ops i)=callFunc g (#[] ++ xs.toArray.map A.eval ++ #[]):=by
    unfold execOp;rw [ad];rfl
   rw [e,aa];exact ac _ _
  unfold Oper.wp;rw [ab];refine h.mono ?_;rintro e w' (⟨v,rfl,hh⟩ | ⟨c,rfl,hh⟩)
  · refine⟨trivial,hh _ ?_⟩;rw [hd];exact hA.put d v
  · exact hh A hA
theorem q_41 (i:Nat)(d:Nat)(g:Nat)(xs:List Operand)(ts:Array TypeId)(hfn:∀args w,(callFunc g args).run P w=.ok (.enter g args) w)(h:Calls P g (xs.map (ev f)).toArray w fun e w'=>(∃v,e=.returned v∧G P ops Q ds n fuel (listed.setIfInBounds i true) (upd f d v) w')∨(∃c,e=.panicked c∧∀A,At ds n A f→Q (.panic c) A w'))(hi:ops[i]? = some (op ops i):=by kernel_rfl)(hd:(op ops i).dst=some d:=by kernel_rfl)(hg:(op ops i).guard=none:=by kernel_rfl)(hop:(op ops i).op=.call { callee:=.value (.func g),args:=xs.toArray,argTypes:=ts }:=by kernel_rfl)(hx:xs.all (inB n)=true:=by decide):GOp P ops Q ds n fuel listed f w i:=GOp.call i d g xs ts hi hd hg hop hx hfn h
end
theorem enters {P : Program} {fn : Func} (hf : P.funcs[g]? = some fn) (aa : (fn.name == "runtime.NumGoroutine") = false) (hb : fn.body.isNone = false) : ∀ args w, (callFunc g args).run P w = .ok (.enter g args) w := by
 intro args w;unfold callFunc;rw [Sem.run_bind,run_program];simp only [Result.andThen,hf,aa,hb];rfl
theorem At.same {f:Nat→Value}(h:At ds n A f)(hv:f d=v):At ds n A (upd f d v):=by
 refine⟨h.1,h.2.1,fun e he=>?_⟩;rw [h.2.2 e he];unfold upd;split
 · rename_i hed;rw [hed,hv]
 · rfl
def find (id:Nat):Code→Array Oper
  | .region k ops _=>if k=id then ops else #[]
  | .seq a b=>find id a ++ find id b
  | .cond _ a b=>find id a ++ find id b
  | .block _ a=>find id a
  | .loop a=>find id a
  | .scope a=>find id a
  | _=>#[]
theorem region_is {P:Program}{Q:Exit→Act→World→Prop}{l ops:Array Oper}{b:Bool}(h:l=ops)(hh:(Code.region id ops b).wp P Q A w):(Code.region id l b).wp P Q A w:=by
 subst h;exact hh
end Pd
def Zay (xs:List Nat) (ks:List Int):List It × Nat × Int:=
  if ks.all (fun k=>decide (1≤k) && decide (k≤5)) then
    match tks xs ks [] 0 with
    | none=>([],0,4)
    | some (l,q)=>(l,q,0)
  else ([],0,1)
def ZaS (xs:List Nat) (ks:List Int) (w:World) (e:Ending) (w':World):Prop:=
  ∃v,e=.returned (.tuple #[v,.int .i64 ((Zay xs ks).2.1:Nat),.int .i64 (Zay xs ks).2.2])∧Bl w w'∧OwnsI w' w.heap.size v (Zay xs ks).1∧∀i∈(Zay xs ks).1,i.fits
theorem Zm2 {j:Nat}(hj:j<ks.length)(h:¬(1≤ks.getD j 0∧ks.getD j 0≤5)):Zay xs ks=([],0,1):=by
 have:ks.all (fun k=>decide (1≤k) && decide (k≤5))=false:=by
  rw [List.all_eq_false];refine⟨ks[j],List.getElem_mem hj,?_⟩;simp [List.getD,hj] at h;simp;omega
 unfold Zay;rw [this];rfl
theorem ZbZ (h:∀t,t<ks.length→1≤ks.getD t 0∧ks.getD t 0≤5):Zay xs ks=match tks xs ks [] 0 with
    | none=>([],0,4)
    | some (l,q)=>(l,q,0):=by
  have:ks.all (fun k=>decide (1≤k) && decide (k≤5))=true:=by
   rw [List.all_eq_true];intro k hk;obtain⟨t,ht,rfl⟩:=List.getElem_of_mem hk;have:=h t ht;simp [List.getD,ht] at this;simp [this]
  unfold Zay;rw [this];rfl
theorem ZgT (b c d:Nat)(w:World)(v4 v5 v6:Value)(h4:w.cell? ⟨b,0,none⟩=some v4)(f4:w.frozen? ⟨b,0,none⟩=false)(h5:w.cell? ⟨c,0,none⟩=some v5)(f5:w.frozen? ⟨c,0,none⟩=false)(h6:w.cell? ⟨d,0,none⟩=some v6)(f6:w.frozen? ⟨d,0,none⟩=false)(aa:c≠b)(ab:d≠b)(ac:d≠c) :
    CallsD prog 200 #[.pointer (some ⟨b,0,none⟩),.pointer (some ⟨c,0,none⟩),.pointer (some ⟨d,0,none⟩)] (.panicking thrown) w fun e u' w' =>
     e=.returned (.tuple #[])∧u'=.panicking [{ v:=.iface 40 (.int .i64 4),recovered:=true }]∧w'=((w.setCell ⟨b,0,none⟩ (.slice none 0 0)).setCell ⟨c,0,none⟩ (.int .i64 0)).setCell ⟨d,0,none⟩ (.int .i64 4):=by
 refine callsD_of_wpS func200 rfl fun c₀ cs hu=>?_;apply wpS_seq;apply wpS_region;simp [wpOpsS,go_sem,recoverD,hu,thrown,ntmps200,Exit.thenS];refine wpS_cond (t:=true) (by simp [Act.eval,Array.replicate]) ?_;simp only [if_true];apply wpS_region;simp [wpOpsS,go_sem,h4,f4,h5,f5,h6,f6,bodyPostS,results,results200]
theorem ZjY (b c d:Nat)(w:World) :
    CallsD prog 200 #[.pointer (some ⟨b,0,none⟩),.pointer (some ⟨c,0,none⟩),.pointer (some ⟨d,0,none⟩)] .returning w fun e u' w'=>e=.returned (.tuple #[])∧u'=.returning∧w'=w:=by
  refine callsD_of_wpS func200 rfl fun c₀ cs hu=>?_;apply wpS_seq;apply wpS_region;simp [wpOpsS,go_sem,recoverD,hu,ntmps200,Exit.thenS];refine wpS_cond (t:=false) (by simp [Act.eval,Array.replicate]) ?_;simp only [Bool.false_eq_true,if_false];refine wpS_of_wp (wp_skip ?_);cases c₀;simp_all [bodyPostS,results,results200]
structure Res (w:World) (b c d:Nat) (v:Value) (n e:Int):Prop where
  h4:w.heap[b]? = some (Obj.cells #[v] 183 (0,0))
  h5:w.heap[c]? = some (Obj.cells #[.int .i64 n] 3 (0,0))
  h6:w.heap[d]? = some (Obj.cells #[.int .i64 e] 40 (0,0))
section
variable {w : World} {b c d : Nat} {v : Value} {n e : Int}
theorem Res.c4 (h:Res w b c d v n e):w.cell? ⟨b,0,none⟩=some v:=by have:=h.h4;simp [World.cell?,this]
theorem Res.c5 (h:Res w b c d v n e):w.cell? ⟨c,0,none⟩=some (.int .i64 n):=by have:=h.h5;simp [World.cell?,this]
theorem Res.c6 (h:Res w b c d v n e):w.cell? ⟨d,0,none⟩=some (.int .i64 e):=by have:=h.h6;simp [World.cell?,this]
theorem Res.f4 (h:Res w b c d v n e):w.frozen? ⟨b,0,none⟩=false:=frozen_of_row w b _ _ 183 h.h4
theorem Res.f5 (h:Res w b c d v n e):w.frozen? ⟨c,0,none⟩=false:=frozen_of_row w c _ _ 3 h.h5
theorem Res.f6 (h:Res w b c d v n e):w.frozen? ⟨d,0,none⟩=false:=frozen_of_row w d _ _ 40 h.h6
theorem Res.bc (h:Res w b c d v n e):b≠c:=by
 intro x;have h4:=h.h4;have h5:=h.h5;rw [x,h5] at h4;simp at h4
theorem Res.bd (h:Res w b c d v n e):b≠d:=by
 intro x;have h4:=h.h4;have h5:=h.h6;rw [x,h5] at h4;simp at h4
theorem Res.cd (h:Res w b c d v n e):c≠d:=by
 intro x;have h4:=h.h5;have h5:=h.h6;rw [x,h5] at h4;simp at h4
theorem Res.set4 (h:Res w b c d v n e)(v':Value):Res (w.setCell ⟨b,0,none⟩ v') b c d v' n e:=by
 refine⟨?_,(Below.heap_setCell w ⟨b,0,none⟩ v' c h.bc.symm).trans h.h5,(Below.heap_setCell w ⟨b,0,none⟩ v' d h.bd.symm).trans h.h6⟩;have:=heap_setCell_same w b 0 _ 183 v' h.h4;simpa using this
theorem Res.set5 (h:Res w b c d v n e)(n':Int):Res (w.setCell ⟨c,0,none⟩ (.int .i64 n')) b c d v n' e:=by
 refine⟨(Below.heap_setCell w ⟨c,0,none⟩ _ b h.bc).trans h.h4,?_,(Below.heap_setCell w ⟨c,0,none⟩ _ d h.cd.symm).trans h.h6⟩;have:=heap_setCell_same w c 0 _ 3 (.int .i64 n') h.h5;simpa using this
theorem Res.set6 (h:Res w b c d v n e)(e':Int):Res (w.setCell ⟨d,0,none⟩ (.int .i64 e')) b c d v n e':=by
 refine⟨(Below.heap_setCell w ⟨d,0,none⟩ _ b h.bd).trans h.h4,(Below.heap_setCell w ⟨d,0,none⟩ _ c h.cd).trans h.h5,?_⟩;have:=heap_setCell_same w d 0 _ 40 (.int .i64 e') h.h6;simpa using this
theorem Res.set (h:Res w b c d v n e)(v':Value)(n' e':Int):Res (((w.setCell ⟨b,0,none⟩ v').setCell ⟨c,0,none⟩ (.int .i64 n')).setCell ⟨d,0,none⟩ (.int .i64 e')) b c d v' n' e':=
 ((h.set4 v').set5 n').set6 e'
theorem Res.results (h:Res w b c d v n e)(tmps:Array Value)(t4:tmps.getD 4 undef=.pointer (some ⟨b,0,none⟩))(t5:tmps.getD 5 undef=.pointer (some ⟨c,0,none⟩))(t6:tmps.getD 6 undef=.pointer (some ⟨d,0,none⟩))
    {len:Nat}(hv:v=.slice a len cap):(Go.results f185 tmps).run prog w=.ok (.tuple #[v,.int .i64 n,.int .i64 e]) w:=by
  have c4:=h.c4;have c5:=h.c5;have c6:=h.c6;(have t4':tmps[4]?.getD undef=.pointer (some ⟨b,0,none⟩):=by simpa using t4);(have t5':tmps[5]?.getD undef=.pointer (some ⟨c,0,none⟩):=by simpa using t5);(have t6':tmps[6]?.getD undef=.pointer (some ⟨d,0,none⟩):=by simpa using t6);subst hv;simp [Go.results,results185,t4',t5',t6',go_sem,c4,c5,c6]
theorem Zej {w0:World}(hb:Below B w0 w)(hB:B≤b)(hc:B≤c)(hd:B≤d)(v':Value)(n' e':Int):Below B w0 (((w.setCell ⟨b,0,none⟩ v').setCell ⟨c,0,none⟩ (.int .i64 n')).setCell ⟨d,0,none⟩ (.int .i64 e')):=
 ((hb.setCell (p:=⟨b,0,none⟩) hB v').setCell (p:=⟨c,0,none⟩) hc _).setCell (p:=⟨d,0,none⟩) hd _
end
theorem Zqc (w : World) : Res (((w.alloc (.cells #[.slice none 0 0] 183)).alloc (.cells #[.int .i64 0] 3)).alloc (.cells #[.int .i64 0] 40)) w.heap.size (w.heap.size + 1) (w.heap.size + 1 + 1) (.slice none 0 0) 0 0 ∧
    Bl w (((w.alloc (.cells #[.slice none 0 0] 183)).alloc (.cells #[.int .i64 0] 3)).alloc (.cells #[.int .i64 0] 40)) := by
  have b1 := Zab w (.cells #[.slice none 0 0] 183)
  have b2 := Zab (w.alloc (.cells #[.slice none 0 0] 183)) (.cells #[.int .i64 0] 3)
  have b3 := Zab ((w.alloc (.cells #[.slice none 0 0] 183)).alloc (.cells #[.int .i64 0] 3)) (.cells #[.int .i64 0] 40)
  have n1 := heap_alloc_new w (.cells #[.slice none 0 0] 183)
  have n2 := heap_alloc_new (w.alloc (.cells #[.slice none 0 0] 183)) (.cells #[.int .i64 0] 3)
  have n3 := heap_alloc_new ((w.alloc (.cells #[.slice none 0 0] 183)).alloc (.cells #[.int .i64 0] 3)) (.cells #[.int .i64 0] 40)
  have s1 : (w.alloc (.cells #[.slice none 0 0] 183)).heap.size = w.heap.size + 1 := by simp
  have s2 : ((w.alloc (.cells #[.slice none 0 0] 183)).alloc (.cells #[.int .i64 0] 3)).heap.size = w.heap.size + 1 + 1 := by simp
  (try unfold Bl at n2);(try unfold Bl at b2);rw [s1] at n2 b2
  (try unfold Bl at n3);(try unfold Bl at b3);rw [s2] at n3 b3
  refine ⟨⟨?_, ?_, n3⟩, (b1.trans (b2.mono (by omega))).trans (b3.mono (by omega))⟩
  · (try unfold Bl);rw [b3.block _ (by omega), b2.block _ (by omega)]
    exact n1
  · (try unfold Bl);rw [b3.block _ (by omega)]
    exact n2
theorem Res.only {n e:Int}(h:Res w b c d v n e)(ho:Only p w w')(hb:b≠p)(hc:c≠p)(hd:d≠p):Res w' b c d v n e:=
 ⟨(ho.block b (Array.getElem?_eq_some_iff.1 h.h4).1 hb).trans h.h4,(ho.block c (Array.getElem?_eq_some_iff.1 h.h5).1 hc).trans h.h5,(ho.block d (Array.getElem?_eq_some_iff.1 h.h6).1 hd).trans h.h6⟩
theorem Res.stay {n e:Int}(h:Res w b c d v n e)(hs:Ze9 w w'):Res w' b c d v n e:=
 ⟨(hs b _ _ _ h.h4 (by decide)).trans h.h4,(hs c _ _ _ h.h5 (by decide)).trans h.h5,(hs d _ _ _ h.h6 (by decide)).trans h.h6⟩
theorem RdX.re {len q q':Nat}(h:RdX w p a len cap q xs)(aa:0<len→∀bb oo,a=some ⟨bb,oo,none⟩→bb<base)(hb:Below base w w')(hr:Rd w' p a len cap q')(hq:q'≤len):RdX w' p a len cap q' xs:=by
 refine⟨hr,⟨h.bs.1,h.bs.2.1,fun i hi=>?_⟩,h.ne,h.cap,hq,h.big⟩;obtain⟨bb,off,ha,hc⟩:=h.bs.2.2 i hi;refine⟨bb,off,ha,?_⟩;rw [hb.cell (p:=⟨bb,off+i,none⟩) (aa (by omega) bb off ha)];exact hc
theorem OwnsI.setOther (h:OwnsI w base v l){C:Array Value}{fr:Nat × Nat}(hp:w.heap[g]? = some (Obj.cells C t fr))(ht:t≠182)(o:Nat)(u:Value):OwnsI (w.setCell ⟨g,o,none⟩ u) base v l:=by
 refine⟨h.1,?_⟩;rcases h.2 with hn | ⟨g',cap,cur,hv,aa,hg,rest⟩
 · exact .inl hn
 · refine .inr ⟨g',cap,cur,hv,aa,?_,rest⟩;rw [Below.heap_setCell w ⟨g,o,none⟩ u g' ?_]
   · exact hg
   · intro e;have e':g'=g:=e;subst e';rw [hg] at hp;simp only [Option.some.injEq,Obj.cells.injEq] at hp;exact ht hp.2.1.symm
theorem Zct (i:It)(w:World):(Instr.buildSlice 183 1 #[(0,i.val)]).run prog w=.ok (.slice (some ⟨w.heap.size,0,none⟩) 1 1) (w.alloc (.cells #[.int .i64 i.kind,.int .i64 i.n,.float .f64 i.x,.string i.s] 182)):=by
 simp [go_sem,It.val]
theorem Zbi (b:Nat)(v:Value)(w:World){len:Nat}(hv:v=.slice a len cap)(h:w.cell? ⟨b,0,none⟩=some v):(Instr.loadAt 183 (.pointer (some ⟨b,0,none⟩))).run prog w=.ok v w:=by
 subst hv;simp [go_sem,h]
theorem Zby (b:Nat)(v u:Value)(w:World){len:Nat}(hv:v=.slice a len cap)(h:w.cell? ⟨b,0,none⟩=some u)(hf:w.frozen? ⟨b,0,none⟩=false):(Instr.storeAt 183 (.pointer (some ⟨b,0,none⟩)) v).run prog w=.ok () (w.setCell ⟨b,0,none⟩ v):=by
 subst hv;simp [go_sem,h,hf]
theorem Znf (b:Nat)(n:Int)(u:Value)(w:World)(h:w.cell? ⟨b,0,none⟩=some u)(hf:w.frozen? ⟨b,0,none⟩=false):(Instr.storeAt 3 (.pointer (some ⟨b,0,none⟩)) (.int .i64 n)).run prog w=.ok () (w.setCell ⟨b,0,none⟩ (.int .i64 n)):=by
 simp [go_sem,h,hf]
theorem ZiU (b:Nat)(n:Int)(u:Value)(w:World)(h:w.cell? ⟨b,0,none⟩=some u)(hf:w.frozen? ⟨b,0,none⟩=false):(Instr.storeAt 40 (.pointer (some ⟨b,0,none⟩)) (.int .i64 n)).run prog w=.ok () (w.setCell ⟨b,0,none⟩ (.int .i64 n)):=by
 simp [go_sem,h,hf]
theorem ZbB:∀args w,(callFunc 201 args).run prog w=.ok (.enter 201 args) w:=Pl.qi func201
namespace Pd
section
variable {P : Program} {ops : Array Oper} {ds : List Deferred} {n : Nat} {f : Nat → Value} {w : World}
theorem load1 (i:Nat)(t:TypeId)(x:Operand)(v:Value)(h:(op ops i).op=.load t x)(hx:inB n x=true)(hv:(Instr.loadAt t (ev f x)).run P w=.ok v w) :
    ∀A,At ds n A f→(execOp A.eval (op ops i)).run P w=.ok (.value v) w:=by
  intro A hA;exact load (S:=fun w'=>w'=w) i t x v h hx (fun w' e=>by rw [e];exact hv) A hA w rfl
theorem q_40 {i:Nat}{v:Value}(t:TypeId)(x:Operand)(hv:(Instr.loadAt t (ev f x)).run P w=.ok v w)(h:(op ops i).op=.load t x:=by kernel_rfl)(hx:inB n x=true:=by decide):∀A,At ds n A f→(execOp A.eval (op ops i)).run P w=.ok (.value v) w:=load1 i t x v h hx hv
theorem move1 (i:Nat)(x:Operand)(h:(op ops i).op=.move x)(hx:inB n x=true):∀A,At ds n A f→(execOp A.eval (op ops i)).run P w=.ok (.value (ev f x)) w:=
 fun A hA=>move (S:=fun _=>True) i x h hx A hA w trivial
end
end Pd
theorem Zn4 (h:w.heap[b]? = some (Obj.cells #[v] t (0,0))):w.cell? ⟨b,0,none⟩=some v:=by simp [World.cell?,h]
theorem Pd.upd_comm (f:Nat→Value)(d e:Nat)(v u:Value)(h:d≠e):Pd.upd (Pd.upd f d v) e u=Pd.upd (Pd.upd f e u) d v:=by
 funext x;simp only [Pd.upd];by_cases h1:x=e
 · have h2:¬x=d:=fun k=>h (k.symm.trans h1);simp [h1,h.symm]
 · simp [h1]

theorem Pd.q_42 {f:Nat→Value}{v:Value}{u:Value}(d:Nat)(e:Nat)(h:d≠e:=by decide):Pd.upd (Pd.upd f d v) e u=Pd.upd (Pd.upd f e u) d v:=Pd.upd_comm f d e v u h
theorem Zqv (w:World)(base b c d p:Nat)(v:Value)(l:List It)(a:Option Addr)(len cap q:Nat)(xs:List Nat)(k:Int)(hk:1≤k∧k≤5)(be:Res w b c d v 0 0)(ax:RdX w p a len cap q xs)(bg:OwnsI w base v l)(bf:∀i∈l,i.fits)(ab:base≤w.heap.size)(bi:base≤b)(br:base≤c)(bt:base≤d)(bj:base≤p)(bc:b≠p)(bk:c≠p)(bl:d≠p)(bh:0<len→∀bb oo,a=some ⟨bb,oo,none⟩→bb<base)(bu:l.length≤1000)(bp:len≤100000)(ds:List Deferred)(i:It)(m:Nat)(bn:tk (xs.drop q) k=some (i,m))(ay:i.fits)
    {Q:Exit→Act→World→Prop}(bq:A.tmps.size=43)(bo:A.defers=ds)(s4:A.tmps.getD 4 undef=.pointer (some ⟨b,0,none⟩))(s5:A.tmps.getD 5 undef=.pointer (some ⟨c,0,none⟩))(s6:A.tmps.getD 6 undef=.pointer (some ⟨d,0,none⟩))(s9:A.tmps.getD 9 undef=.pointer (some ⟨p,0,none⟩))(s11:A.tmps.getD 11 undef=.int .i64 k)
    (hend:∀(u:Nat→Value) v' w',Res w' b c d v' 0 0→RdX w' p a len cap (q+m) xs→OwnsI w' base v' (l ++ [i])→(∀x∈l ++ [i],x.fits)→Below base w w'→Q .normal ((Pl.pu A u [34,35,36,37]).put (some 38) v') w') :
    Pl.rg prog 12 f185 Q A w:=by
  have bm:=(show OwnsI w.drew base v l from bg);have hA:=Pd.At.same (v:=.int .i64 k) (d:=11) (Pd.At.same (v:=.pointer (some ⟨p,0,none⟩)) (d:=9) (Pd.At.same (v:=.pointer (some ⟨d,0,none⟩)) (d:=6) (Pd.At.same (v:=.pointer (some ⟨c,0,none⟩)) (d:=5) (Pd.At.same (v:=.pointer (some ⟨b,0,none⟩)) (d:=4) (Pd.At.here bq bo) s4) s5) s6) s9) s11;obtain⟨va,vl,vc,hv⟩:∃a len cap,v=.slice a len cap:=by
   obtain⟨a',c',e,_⟩:=bg.is bf;exact⟨a',_,c',e⟩
  have aj:Res w.drew b c d v 0 0:=⟨be.h4,be.h5,be.h6⟩;have ao:RdX w.drew p a len cap q xs:=⟨ax.rd,ax.bs,ax.ne,ax.cap,ax.le,ax.big⟩;refine Pd.G.start (by kernel_rfl) hA ?_;rw [show (Pl.fd 12 f185).size=6 by kernel_rfl];refine Pd.q_46 0 1 ?_ ?_
  · refine Pd.qn 0 34 v w.drew (Pd.q_40 183 (.tmp 4) (Zbi b v w.drew hv aj.c4)) ?_;refine Pd.qo 1 ?_;refine Pd.qn 1 35 (.int .i64 k) w.drew (Pd.move1 1 (.tmp 11) (by kernel_rfl) (by decide)) ?_;refine Pd.qo 2 ?_;refine Pd.q_41 2 36 201 [(.tmp 9),(.tmp 35)] #[239,3] ZbB (Calls.mono (Zc0 p a len cap q xs k hk w.drew ao) ?_);rintro e w1 ⟨ar,ak⟩;rw [bn] at ak;obtain⟨rfl,ah⟩:=ak;have ag:=aj.only ar bc bk bl;have ai:OwnsI w1 base v l:=bm.only ar ao.rd (by decide);have aw:Below base w w1:=((Below.refl base w).drew).trans (ar.below ab bj);refine .inl ⟨i.val,rfl,?_⟩;refine Pd.qo 3 ?_;refine Pd.qn 3 37 (.slice (some ⟨w1.heap.size,0,none⟩) 1 1) (w1.alloc (.cells #[.int .i64 i.kind,.int .i64 i.n,.float .f64 i.x,.string i.s] 182)) (Pd.one 3 183 (.tmp 36) _ _ (by kernel_rfl) (by decide) (Zct i w1)) ?_;have ac:Res (w1.alloc (.cells #[.int .i64 i.kind,.int .i64 i.n,.float .f64 i.x,.string i.s] 182)) b c d v 0 0:=ag.stay (Ze9.below (Zab w1 _));have ae:OwnsI (w1.alloc (.cells #[.int .i64 i.kind,.int .i64 i.n,.float .f64 i.x,.string i.s] 182)) base v l:=ai.keep (Zab w1 _) (Nat.le_refl _);have ap:Below base w (w1.alloc (.cells #[.int .i64 i.kind,.int .i64 i.n,.float .f64 i.x,.string i.s] 182)):=aw.alloc (Nat.le_trans ab aw.size) _;have af:Rd (w1.alloc (.cells #[.int .i64 i.kind,.int .i64 i.n,.float .f64 i.x,.string i.s] 182)) p a len cap (q+m):=ah.rd.keep (Zab w1 _) (Nat.le_refl _);obtain⟨v',w3,bd,au,ba,av⟩:=ZaC (w1.alloc (.cells #[.int .i64 i.kind,.int .i64 i.n,.float .f64 i.x,.string i.s] 182)) 0 base v l ae _ 1 1 [i] (Zdi w1 i ay) (fun e=>by cases e) (by omega) (Nat.le_trans ab ap.size);have ad:∀x∈l ++ [i],x.fits:=fun x hx=>by
        rcases List.mem_append.1 hx with h | h
        · exact bf x h
        · simp at h;rw [h];exact ay
    obtain⟨a3,c3,e3,_⟩:=au.is ad;have aa:=ac.stay av;have am:Rd w3 p a len cap (q+m):=(av p _ _ _ af (by decide)).trans af;have al:Below base w w3:=ap.trans ba;refine Pd.qo 4 ?_;refine Pd.qn 4 38 v' w3 (Pd.app 4 183 (.tmp 34) (.tmp 37) _ _ (by kernel_rfl) (by decide) (by decide) (fun ty=>bd)) ?_;refine Pd.qo 5 ?_;refine Pd.GOp.store 5 (w3.setCell ⟨b,0,none⟩ v') (by kernel_rfl) (by kernel_rfl) (by kernel_rfl) (Pd.q_38 183 (.tmp 4) (.tmp 38) (Zby b v' v w3 e3 aa.c4 aa.f4)) ?_;refine Pd.G.done (by kernel_rfl) (fun A' hA'=>?_);have aq:Below base w (w3.setCell ⟨b,0,none⟩ v'):=al.setCell (p:=⟨b,0,none⟩) bi v';have an:RdX (w3.setCell ⟨b,0,none⟩ v') p a len cap (q+m) xs:=ax.re bh aq ((Below.heap_setCell w3 ⟨b,0,none⟩ v' p bc.symm).trans am) ah.le;have az:=Pd.At.ext hA' (((((hA.put 34 _).put 35 _).put 36 _).put 37 _).put 38 _);rw [az];exact hend (fun d=>if d=34 then v else if d=35 then .int .i64 k else if d=36 then i.val else if d=37 then .slice (some ⟨w1.heap.size,0,none⟩) 1 1 else v') v' _ (aa.set4 v') an (au.setOther aa.h4 (by decide) 0 v') ad aq
  · refine Pd.qn 1 35 (.int .i64 k) w.drew (Pd.move1 1 (.tmp 11) (by kernel_rfl) (by decide)) ?_;refine Pd.q_46 0 2 ?_ ?_
    · refine Pd.qn 0 34 v w.drew (Pd.q_40 183 (.tmp 4) (Zbi b v w.drew hv aj.c4)) ?_;refine Pd.qo 2 ?_;refine Pd.q_41 2 36 201 [(.tmp 9),(.tmp 35)] #[239,3] ZbB (Calls.mono (Zc0 p a len cap q xs k hk w.drew ao) ?_);rintro e w1 ⟨ar,ak⟩;rw [bn] at ak;obtain⟨rfl,ah⟩:=ak;have ag:=aj.only ar bc bk bl;have ai:OwnsI w1 base v l:=bm.only ar ao.rd (by decide);have aw:Below base w w1:=((Below.refl base w).drew).trans (ar.below ab bj);refine .inl ⟨i.val,rfl,?_⟩;refine Pd.qo 3 ?_;refine Pd.qn 3 37 (.slice (some ⟨w1.heap.size,0,none⟩) 1 1) (w1.alloc (.cells #[.int .i64 i.kind,.int .i64 i.n,.float .f64 i.x,.string i.s] 182)) (Pd.one 3 183 (.tmp 36) _ _ (by kernel_rfl) (by decide) (Zct i w1)) ?_;have ac:Res (w1.alloc (.cells #[.int .i64 i.kind,.int .i64 i.n,.float .f64 i.x,.string i.s] 182)) b c d v 0 0:=ag.stay (Ze9.below (Zab w1 _));have ae:OwnsI (w1.alloc (.cells #[.int .i64 i.kind,.int .i64 i.n,.float .f64 i.x,.string i.s] 182)) base v l:=ai.keep (Zab w1 _) (Nat.le_refl _);have ap:Below base w (w1.alloc (.cells #[.int .i64 i.kind,.int .i64 i.n,.float .f64 i.x,.string i.s] 182)):=aw.alloc (Nat.le_trans ab aw.size) _;have af:Rd (w1.alloc (.cells #[.int .i64 i.kind,.int .i64 i.n,.float .f64 i.x,.string i.s] 182)) p a len cap (q+m):=ah.rd.keep (Zab w1 _) (Nat.le_refl _);obtain⟨v',w3,bd,au,ba,av⟩:=ZaC (w1.alloc (.cells #[.int .i64 i.kind,.int .i64 i.n,.float .f64 i.x,.string i.s] 182)) 0 base v l ae _ 1 1 [i] (Zdi w1 i ay) (fun e=>by cases e) (by omega) (Nat.le_trans ab ap.size);have ad:∀x∈l ++ [i],x.fits:=fun x hx=>by
          rcases List.mem_append.1 hx with h | h
          · exact bf x h
          · simp at h;rw [h];exact ay
      obtain⟨a3,c3,e3,_⟩:=au.is ad;have aa:=ac.stay av;have am:Rd w3 p a len cap (q+m):=(av p _ _ _ af (by decide)).trans af;have al:Below base w w3:=ap.trans ba;refine Pd.qo 4 ?_;refine Pd.qn 4 38 v' w3 (Pd.app 4 183 (.tmp 34) (.tmp 37) _ _ (by kernel_rfl) (by decide) (by decide) (fun ty=>bd)) ?_;refine Pd.qo 5 ?_;refine Pd.GOp.store 5 (w3.setCell ⟨b,0,none⟩ v') (by kernel_rfl) (by kernel_rfl) (by kernel_rfl) (Pd.q_38 183 (.tmp 4) (.tmp 38) (Zby b v' v w3 e3 aa.c4 aa.f4)) ?_;refine Pd.G.done (by kernel_rfl) (fun A' hA'=>?_);have aq:Below base w (w3.setCell ⟨b,0,none⟩ v'):=al.setCell (p:=⟨b,0,none⟩) bi v';have an:RdX (w3.setCell ⟨b,0,none⟩ v') p a len cap (q+m) xs:=ax.re bh aq ((Below.heap_setCell w3 ⟨b,0,none⟩ v' p bc.symm).trans am) ah.le;rw [Pd.q_42 35 34] at hA';have az:=Pd.At.ext hA' (((((hA.put 34 _).put 35 _).put 36 _).put 37 _).put 38 _);rw [az];exact hend (fun d=>if d=34 then v else if d=35 then .int .i64 k else if d=36 then i.val else if d=37 then .slice (some ⟨w1.heap.size,0,none⟩) 1 1 else v') v' _ (aa.set4 v') an (au.setOther aa.h4 (by decide) 0 v') ad aq
    · refine Pd.q_41 2 36 201 [(.tmp 9),(.tmp 35)] #[239,3] ZbB (Calls.mono (Zc0 p a len cap q xs k hk w.drew ao) ?_);rintro e w1 ⟨ar,ak⟩;rw [bn] at ak;obtain⟨rfl,ah⟩:=ak;have ag:=aj.only ar bc bk bl;have ai:OwnsI w1 base v l:=bm.only ar ao.rd (by decide);have aw:Below base w w1:=((Below.refl base w).drew).trans (ar.below ab bj);refine .inl ⟨i.val,rfl,?_⟩;refine Pd.q_46 0 3 ?_ ?_
      · refine Pd.qn 0 34 v w1 (Pd.q_40 183 (.tmp 4) (Zbi b v w1 hv ag.c4)) ?_;refine Pd.qo 3 ?_;refine Pd.qn 3 37 (.slice (some ⟨w1.heap.size,0,none⟩) 1 1) (w1.alloc (.cells #[.int .i64 i.kind,.int .i64 i.n,.float .f64 i.x,.string i.s] 182)) (Pd.one 3 183 (.tmp 36) _ _ (by kernel_rfl) (by decide) (Zct i w1)) ?_;have ac:Res (w1.alloc (.cells #[.int .i64 i.kind,.int .i64 i.n,.float .f64 i.x,.string i.s] 182)) b c d v 0 0:=ag.stay (Ze9.below (Zab w1 _));have ae:OwnsI (w1.alloc (.cells #[.int .i64 i.kind,.int .i64 i.n,.float .f64 i.x,.string i.s] 182)) base v l:=ai.keep (Zab w1 _) (Nat.le_refl _);have ap:Below base w (w1.alloc (.cells #[.int .i64 i.kind,.int .i64 i.n,.float .f64 i.x,.string i.s] 182)):=aw.alloc (Nat.le_trans ab aw.size) _;have af:Rd (w1.alloc (.cells #[.int .i64 i.kind,.int .i64 i.n,.float .f64 i.x,.string i.s] 182)) p a len cap (q+m):=ah.rd.keep (Zab w1 _) (Nat.le_refl _);obtain⟨v',w3,bd,au,ba,av⟩:=ZaC (w1.alloc (.cells #[.int .i64 i.kind,.int .i64 i.n,.float .f64 i.x,.string i.s] 182)) 0 base v l ae _ 1 1 [i] (Zdi w1 i ay) (fun e=>by cases e) (by omega) (Nat.le_trans ab ap.size);have ad:∀x∈l ++ [i],x.fits:=fun x hx=>by
            rcases List.mem_append.1 hx with h | h
            · exact bf x h
            · simp at h;rw [h];exact ay
        obtain⟨a3,c3,e3,_⟩:=au.is ad;have aa:=ac.stay av;have am:Rd w3 p a len cap (q+m):=(av p _ _ _ af (by decide)).trans af;have al:Below base w w3:=ap.trans ba;refine Pd.qo 4 ?_;refine Pd.qn 4 38 v' w3 (Pd.app 4 183 (.tmp 34) (.tmp 37) _ _ (by kernel_rfl) (by decide) (by decide) (fun ty=>bd)) ?_;refine Pd.qo 5 ?_;refine Pd.GOp.store 5 (w3.setCell ⟨b,0,none⟩ v') (by kernel_rfl) (by kernel_rfl) (by kernel_rfl) (Pd.q_38 183 (.tmp 4) (.tmp 38) (Zby b v' v w3 e3 aa.c4 aa.f4)) ?_;refine Pd.G.done (by kernel_rfl) (fun A' hA'=>?_);have aq:Below base w (w3.setCell ⟨b,0,none⟩ v'):=al.setCell (p:=⟨b,0,none⟩) bi v';have an:RdX (w3.setCell ⟨b,0,none⟩ v') p a len cap (q+m) xs:=ax.re bh aq ((Below.heap_setCell w3 ⟨b,0,none⟩ v' p bc.symm).trans am) ah.le;rw [Pd.q_42 36 34] at hA';rw [Pd.q_42 35 34] at hA';have az:=Pd.At.ext hA' (((((hA.put 34 _).put 35 _).put 36 _).put 37 _).put 38 _);rw [az];exact hend (fun d=>if d=34 then v else if d=35 then .int .i64 k else if d=36 then i.val else if d=37 then .slice (some ⟨w1.heap.size,0,none⟩) 1 1 else v') v' _ (aa.set4 v') an (au.setOther aa.h4 (by decide) 0 v') ad aq
      · refine Pd.qn 3 37 (.slice (some ⟨w1.heap.size,0,none⟩) 1 1) (w1.alloc (.cells #[.int .i64 i.kind,.int .i64 i.n,.float .f64 i.x,.string i.s] 182)) (Pd.one 3 183 (.tmp 36) _ _ (by kernel_rfl) (by decide) (Zct i w1)) ?_;have ac:Res (w1.alloc (.cells #[.int .i64 i.kind,.int .i64 i.n,.float .f64 i.x,.string i.s] 182)) b c d v 0 0:=ag.stay (Ze9.below (Zab w1 _));refine Pd.qo 0 ?_;refine Pd.qn 0 34 v (w1.alloc (.cells #[.int .i64 i.kind,.int .i64 i.n,.float .f64 i.x,.string i.s] 182)) (Pd.q_40 183 (.tmp 4) (Zbi b v (w1.alloc (.cells #[.int .i64 i.kind,.int .i64 i.n,.float .f64 i.x,.string i.s] 182)) hv ac.c4)) ?_;have ae:OwnsI (w1.alloc (.cells #[.int .i64 i.kind,.int .i64 i.n,.float .f64 i.x,.string i.s] 182)) base v l:=ai.keep (Zab w1 _) (Nat.le_refl _);have ap:Below base w (w1.alloc (.cells #[.int .i64 i.kind,.int .i64 i.n,.float .f64 i.x,.string i.s] 182)):=aw.alloc (Nat.le_trans ab aw.size) _;have af:Rd (w1.alloc (.cells #[.int .i64 i.kind,.int .i64 i.n,.float .f64 i.x,.string i.s] 182)) p a len cap (q+m):=ah.rd.keep (Zab w1 _) (Nat.le_refl _);obtain⟨v',w3,bd,au,ba,av⟩:=ZaC (w1.alloc (.cells #[.int .i64 i.kind,.int .i64 i.n,.float .f64 i.x,.string i.s] 182)) 0 base v l ae _ 1 1 [i] (Zdi w1 i ay) (fun e=>by cases e) (by omega) (Nat.le_trans ab ap.size);have ad:∀x∈l ++ [i],x.fits:=fun x hx=>by
            rcases List.mem_append.1 hx with h | h
            · exact bf x h
            · simp at h;rw [h];exact ay
        obtain⟨a3,c3,e3,_⟩:=au.is ad;have aa:=ac.stay av;have am:Rd w3 p a len cap (q+m):=(av p _ _ _ af (by decide)).trans af;have al:Below base w w3:=ap.trans ba;refine Pd.qo 4 ?_;refine Pd.qn 4 38 v' w3 (Pd.app 4 183 (.tmp 34) (.tmp 37) _ _ (by kernel_rfl) (by decide) (by decide) (fun ty=>bd)) ?_;refine Pd.qo 5 ?_;refine Pd.GOp.store 5 (w3.setCell ⟨b,0,none⟩ v') (by kernel_rfl) (by kernel_rfl) (by kernel_rfl) (Pd.q_38 183 (.tmp 4) (.tmp 38) (Zby b v' v w3 e3 aa.c4 aa.f4)) ?_;refine Pd.G.done (by kernel_rfl) (fun A' hA'=>?_);have aq:Below base w (w3.setCell ⟨b,0,none⟩ v'):=al.setCell (p:=⟨b,0,none⟩) bi v';have an:RdX (w3.setCell ⟨b,0,none⟩ v') p a len cap (q+m) xs:=ax.re bh aq ((Below.heap_setCell w3 ⟨b,0,none⟩ v' p bc.symm).trans am) ah.le;rw [Pd.q_42 37 34] at hA';rw [Pd.q_42 36 34] at hA';rw [Pd.q_42 35 34] at hA';have az:=Pd.At.ext hA' (((((hA.put 34 _).put 35 _).put 36 _).put 37 _).put 38 _);rw [az];exact hend (fun d=>if d=34 then v else if d=35 then .int .i64 k else if d=36 then i.val else if d=37 then .slice (some ⟨w1.heap.size,0,none⟩) 1 1 else v') v' _ (aa.set4 v') an (au.setOther aa.h4 (by decide) 0 v') ad aq
theorem Zqw (w:World)(base b c d p:Nat)(v:Value)(l:List It)(a:Option Addr)(len cap q:Nat)(xs:List Nat)(k:Int)(hk:1≤k∧k≤5)(ag:Res w b c d v 0 0)(ah:RdX w p a len cap q xs)(aj:OwnsI w base v l)(ap:∀i∈l,i.fits)(ac:base≤w.heap.size)(av:base≤b)(aw:base≤c)(ax:base≤d)(ai:base≤p)(ak:b≠p)(al:c≠p)(am:d≠p)(au:0<len→∀bb oo,a=some ⟨bb,oo,none⟩→bb<base)(ay:l.length≤1000)(aq:len≤100000)(ds:List Deferred)(an:tk (xs.drop q) k=none)
    {Q:Exit→Act→World→Prop}(ar:A.tmps.size=43)(ao:A.defers=ds)(s4:A.tmps.getD 4 undef=.pointer (some ⟨b,0,none⟩))(s5:A.tmps.getD 5 undef=.pointer (some ⟨c,0,none⟩))(s6:A.tmps.getD 6 undef=.pointer (some ⟨d,0,none⟩))(s9:A.tmps.getD 9 undef=.pointer (some ⟨p,0,none⟩))(s11:A.tmps.getD 11 undef=.int .i64 k)
    (ae:∀A' w',A'.defers=ds→A'.tmps.getD 4 undef=.pointer (some ⟨b,0,none⟩)→A'.tmps.getD 5 undef=.pointer (some ⟨c,0,none⟩)→A'.tmps.getD 6 undef=.pointer (some ⟨d,0,none⟩)→Res w' b c d v 0 0→Below base w w'→Q (.panic thrown) A' w') :
    Pl.rg prog 12 f185 Q A w:=by
  have hA:=Pd.At.same (v:=.int .i64 k) (d:=11) (Pd.At.same (v:=.pointer (some ⟨p,0,none⟩)) (d:=9) (Pd.At.same (v:=.pointer (some ⟨d,0,none⟩)) (d:=6) (Pd.At.same (v:=.pointer (some ⟨c,0,none⟩)) (d:=5) (Pd.At.same (v:=.pointer (some ⟨b,0,none⟩)) (d:=4) (Pd.At.here ar ao) s4) s5) s6) s9) s11;obtain⟨va,vl,vc,hv⟩:∃a len cap,v=.slice a len cap:=by
   obtain⟨a',c',e,_⟩:=aj.is ap;exact⟨a',_,c',e⟩
  have ab:Res w.drew b c d v 0 0:=⟨ag.h4,ag.h5,ag.h6⟩;have af:RdX w.drew p a len cap q xs:=⟨ah.rd,ah.bs,ah.ne,ah.cap,ah.le,ah.big⟩;refine Pd.G.start (by kernel_rfl) hA ?_;rw [show (Pl.fd 12 f185).size=6 by kernel_rfl];refine Pd.q_46 0 1 ?_ ?_
  · refine Pd.qn 0 34 v w.drew (Pd.q_40 183 (.tmp 4) (Zbi b v w.drew hv ab.c4)) ?_;refine Pd.qo 1 ?_;refine Pd.qn 1 35 (.int .i64 k) w.drew (Pd.move1 1 (.tmp 11) (by kernel_rfl) (by decide)) ?_;refine Pd.qo 2 ?_;refine Pd.q_41 2 36 201 [(.tmp 9),(.tmp 35)] #[239,3] ZbB (Calls.mono (Zc0 p a len cap q xs k hk w.drew af) ?_);rintro e w1 ⟨ad,aa⟩;rw [an] at aa;simp only at aa;subst aa;refine .inr ⟨thrown,rfl,fun A' hA'=>?_⟩;exact ae A' w1 hA'.2.1 (hA'.2.2 4 (by decide)) (hA'.2.2 5 (by decide)) (hA'.2.2 6 (by decide)) (ab.only ad ak al am) (((Below.refl base w).drew).trans (ad.below ac ai))
  · refine Pd.qn 1 35 (.int .i64 k) w.drew (Pd.move1 1 (.tmp 11) (by kernel_rfl) (by decide)) ?_;refine Pd.q_46 0 2 ?_ ?_
    · refine Pd.qn 0 34 v w.drew (Pd.q_40 183 (.tmp 4) (Zbi b v w.drew hv ab.c4)) ?_;refine Pd.qo 2 ?_;refine Pd.q_41 2 36 201 [(.tmp 9),(.tmp 35)] #[239,3] ZbB (Calls.mono (Zc0 p a len cap q xs k hk w.drew af) ?_);rintro e w1 ⟨ad,aa⟩;rw [an] at aa;simp only at aa;subst aa;refine .inr ⟨thrown,rfl,fun A' hA'=>?_⟩;exact ae A' w1 hA'.2.1 (hA'.2.2 4 (by decide)) (hA'.2.2 5 (by decide)) (hA'.2.2 6 (by decide)) (ab.only ad ak al am) (((Below.refl base w).drew).trans (ad.below ac ai))
    · refine Pd.q_41 2 36 201 [(.tmp 9),(.tmp 35)] #[239,3] ZbB (Calls.mono (Zc0 p a len cap q xs k hk w.drew af) ?_);rintro e w1 ⟨ad,aa⟩;rw [an] at aa;simp only at aa;subst aa;refine .inr ⟨thrown,rfl,fun A' hA'=>?_⟩;exact ae A' w1 hA'.2.1 (hA'.2.2 4 (by decide)) (hA'.2.2 5 (by decide)) (hA'.2.2 6 (by decide)) (ab.only ad ak al am) (((Below.refl base w).drew).trans (ad.below ac ai))
theorem OwnsI.setRes {v0:Value}{n e:Int}(h:OwnsI w base v l)(hr:Res w.drew b c d v0 n e)(u:Value){len:Nat}(_hu:u=.slice a len cap)(q:Nat) :
    OwnsI (((w.drew.setCell ⟨b,0,none⟩ u).setCell ⟨c,0,none⟩ (.int .i64 (q:Nat))).setCell ⟨d,0,none⟩ (.int .i64 0)) base v l:=by
  have h0:OwnsI w.drew base v l:=h;have r1:=hr.set4 u;have r2:=r1.set5 (q:Nat);exact((h0.setOther hr.h4 (by decide) 0 u).setOther r1.h5 (by decide) 0 _).setOther r2.h6 (by decide) 0 _
theorem Zr9 (w:World)(base b c d p:Nat)(v:Value)(l:List It)(a:Option Addr)(len cap q:Nat)(ab:Res w b c d v 0 0)(aq:Rd w p a len cap q)(ac:OwnsI w base v l)(am:∀i∈l,i.fits)(ai:base≤b)(aj:base≤c)(ak:base≤d)(an:b≠p)(ao:c≠p)(ap:d≠p)(ds:List Deferred)
    {Q:Exit→Act→World→Prop}(ar:A.tmps.size=43)(al:A.defers=ds)(s4:A.tmps.getD 4 undef=.pointer (some ⟨b,0,none⟩))(s5:A.tmps.getD 5 undef=.pointer (some ⟨c,0,none⟩))(s6:A.tmps.getD 6 undef=.pointer (some ⟨d,0,none⟩))(s9:A.tmps.getD 9 undef=.pointer (some ⟨p,0,none⟩))
    (hend:∀(u:Nat→Value) w',Res w' b c d v (q:Nat) 0→OwnsI w' base v l→Below base w w'→Q .normal (Pl.pu A u [40,41,42]) w') :
    Pl.rg prog 14 f185 Q A w:=by
  have hA:=Pd.At.same (v:=.pointer (some ⟨p,0,none⟩)) (d:=9) (Pd.At.same (v:=.pointer (some ⟨d,0,none⟩)) (d:=6) (Pd.At.same (v:=.pointer (some ⟨c,0,none⟩)) (d:=5) (Pd.At.same (v:=.pointer (some ⟨b,0,none⟩)) (d:=4) (Pd.At.here ar al) s4) s5) s6) s9;obtain⟨va,vl,vc,hv⟩:∃a len cap,v=.slice a len cap:=by
   obtain⟨a',c',e,_⟩:=ac.is am;exact⟨a',_,c',e⟩
  have aa:Res w.drew b c d v 0 0:=⟨ab.h4,ab.h5,ab.h6⟩;have ad:Rd w.drew p a len cap q:=aq;have r1:=aa.set4 v;have r2:=r1.set5 (q:Nat);have r3:=r2.set6 0;have q1:Rd (w.drew.setCell ⟨b,0,none⟩ v) p a len cap q:=(Below.heap_setCell _ ⟨b,0,none⟩ v p an.symm).trans ad;have q2:=(Below.heap_setCell (w.drew.setCell ⟨b,0,none⟩ v) ⟨c,0,none⟩ (.int .i64 (q:Nat)) p ao.symm).trans q1;have q3:=(Below.heap_setCell ((w.drew.setCell ⟨b,0,none⟩ v).setCell ⟨c,0,none⟩ (.int .i64 (q:Nat))) ⟨d,0,none⟩ (.int .i64 0) p ap.symm).trans q2;have ae:w.drew.heap[b]? = some (Obj.cells #[v] 183 (0,0))∧Rd w.drew p a len cap q:=⟨aa.h4,ad⟩;have af:(w.drew.setCell ⟨b,0,none⟩ v).heap[b]? = some (Obj.cells #[v] 183 (0,0))∧Rd (w.drew.setCell ⟨b,0,none⟩ v) p a len cap q:=⟨r1.h4,q1⟩;have ag:((w.drew.setCell ⟨b,0,none⟩ v).setCell ⟨c,0,none⟩ (.int .i64 (q:Nat))).heap[b]? = some (Obj.cells #[v] 183 (0,0))∧Rd ((w.drew.setCell ⟨b,0,none⟩ v).setCell ⟨c,0,none⟩ (.int .i64 (q:Nat))) p a len cap q:=⟨r2.h4,q2⟩;have ah:(((w.drew.setCell ⟨b,0,none⟩ v).setCell ⟨c,0,none⟩ (.int .i64 (q:Nat))).setCell ⟨d,0,none⟩ (.int .i64 0)).heap[b]? = some (Obj.cells #[v] 183 (0,0))∧Rd (((w.drew.setCell ⟨b,0,none⟩ v).setCell ⟨c,0,none⟩ (.int .i64 (q:Nat))).setCell ⟨d,0,none⟩ (.int .i64 0)) p a len cap q:=⟨r3.h4,q3⟩;refine Pd.H.start (S:=fun w'=>w'.heap[b]? = some (Obj.cells #[v] 183 (0,0))∧Rd w' p a len cap q) (by kernel_rfl) hA ae ?_;rw [show (Pl.fd 14 f185).size=6 by kernel_rfl];refine Pd.H.take 0 40 (v) (by kernel_rfl) (by kernel_rfl) (by kernel_rfl) (Pd.q_43) (Pd.load 0 183 (.tmp 4) _ (by kernel_rfl) (by decide) (fun w' hS=>Zbi b v w' hv (Zn4 hS.1))) ae ?_;refine Pd.H.take 1 41 (.pointer (some ⟨p,1,none⟩)) (by kernel_rfl) (by kernel_rfl) (by kernel_rfl) (Pd.q_43) (Pd.field 1 239 (.tmp 9) 1 _ (by kernel_rfl) (by decide) (Zci p)) ae ?_;refine Pd.H.take 2 42 (.int .i64 (q:Nat)) (by kernel_rfl) (by kernel_rfl) (by kernel_rfl) (Pd.q_43) (Pd.load 2 3 (.tmp 41) _ (by kernel_rfl) (by decide) (fun w' hS=>Za8 p 1 _ w' (Rd.c1 hS.2))) ae ?_;refine Pd.H.store 3 (w.drew.setCell ⟨b,0,none⟩ v) (by kernel_rfl) (by kernel_rfl) (by kernel_rfl) (Pd.q_43) (Pd.q_38 183 (.tmp 4) (.tmp 40) (Zby b v v w.drew hv aa.c4 aa.f4)) af ?_;refine Pd.H.store 4 ((w.drew.setCell ⟨b,0,none⟩ v).setCell ⟨c,0,none⟩ (.int .i64 (q:Nat))) (by kernel_rfl) (by kernel_rfl) (by kernel_rfl) (Pd.q_43) (Pd.q_38 3 (.tmp 5) (.tmp 42) (Znf c _ _ _ r1.c5 r1.f5)) ag ?_;refine Pd.H.store 5 (((w.drew.setCell ⟨b,0,none⟩ v).setCell ⟨c,0,none⟩ (.int .i64 (q:Nat))).setCell ⟨d,0,none⟩ (.int .i64 0)) (by kernel_rfl) (by kernel_rfl) (by kernel_rfl) (Pd.q_43) (Pd.q_38 40 (.tmp 6) (.const (.int .i64 0)) (ZiU d _ _ _ r2.c6 r2.f6)) ah ?_;refine Pd.H.done (by kernel_rfl) (fun A' hA'=>?_);rw [Pd.At.ext hA' (((hA.put 40 _).put 41 _).put 42 _)];exact hend (fun d=>if d=40 then v else if d=41 then .pointer (some ⟨p,1,none⟩) else .int .i64 (q:Nat)) _ r3 (ac.setRes aa v hv q) (((((Below.refl base w).drew).setCell (p:=⟨b,0,none⟩) ai v).setCell (p:=⟨c,0,none⟩) aj _).setCell (p:=⟨d,0,none⟩) ak _)
theorem Zrp (w3:World)(a:Option Addr)(len cap:Nat)(ab:Bs w a len xs)(hc:len≤cap)(hl:len≤9223372036854775807)(hb:Bl w w3):RdX (w3.alloc (.cells #[.slice a len cap,.int .i64 0] 239)) w3.heap.size a len cap 0 xs:=by
 refine⟨heap_alloc_new w3 _,(ab.keep hb (Nat.le_refl _)).keep (Zab w3 _) (Nat.le_refl _),?_,hc,Nat.zero_le _,hl⟩;intro h0 b o e;obtain⟨b',o',e',aa⟩:=ab.2.2 0 h0;rw [e] at e';simp only [Option.some.injEq,Addr.mk.injEq,and_true] at e';have:=World.block_lt_of_cell? w _ aa;have h2:=hb.size;simp only at this;omega
theorem ZjL (a:Option Addr)(len cap:Nat)(xs:List Nat)(ka:Option Addr)(klen kcap:Nat)(ks:List Int)(w:World)(hb:Came w a len cap xs)(hk:Ks w ka klen ks)(hl:len≤100000)(bh:klen≤1000) :
    Calls prog 185 #[.slice a len cap,.slice ka klen kcap] w (ZaS xs ks w):=by
  have bi:∀(fn:Fn) (first cap:Array Value) (w:World),(Instr.makeFunc fn first cap).run prog w=.ok (.func fn first cap) w:=fun _ _ _ _=>rfl;have HC:=Zh hb;have HK:=Zh hk;have aj:=Zh hk.1;clear hb hk;go_enter_defers func185,ntmps185;go_wp2_with fail;have aa:=Zqc w;generalize (((w.alloc (.cells #[.slice none 0 0] 183)).alloc (.cells #[.int .i64 0] 3)).alloc (.cells #[.int .i64 0] 40))=w3 at aa ⊢;have HR:=Zh aa.1;have ai:=Zh aa.2;clear aa;have aw:=Zh (HK.o.keep ai.o (Nat.le_refl _));go_loop [14] (fun i=>∃j:Nat,j≤klen∧i=.int .i64 j∧Hi (∀t,t<j→1≤ks.getD t 0∧ks.getD t 0≤5)) (fun i=>klen-(intOf i).toNat)
  case atStart=>exact ⟨0,by omega,rfl,fun t ht=>by omega⟩
  case round =>
   obtain⟨j,hj,rfl,ad⟩:=hrel;rcases Nat.lt_or_ge j klen with ah | be
   · obtain⟨b,off,rfl,ac⟩:=aw.o.2 j ah;obtain⟨k,af⟩:∃k,k=ks.getD j 0:=⟨_,rfl⟩;rw [← af] at ac;have ag:=Zh af;clear af;by_cases ak:1≤k∧k≤5
     · (have i1:¬k<1:=by omega);(have i2:¬5<k:=by omega);have ax:=Zh ak;clear ak;go_wp2;go_round
       case rel =>
        refine⟨j+1,by omega,by go_num,?_⟩;intro t ht;by_cases e:t=j
        · rw [e,← ag.o];exact ax.o
        · exact ad.o t (by omega)
       case measure=>simp only [intOf];omega
     · have HO:Hi (Zay xs ks=([],0,1)):=Zm2 (j:=j) (by rw [aj.o];exact ah) (by rw [← ag.o];exact ak);have c4:=HR.o.c4;have c5:=HR.o.c5;have c6:=HR.o.c6;have f4:=HR.o.f4;have f5:=HR.o.f5;have f6:=HR.o.f6;have HE:=Zh (HR.o.set (.slice none 0 0) 0 1);have ap:=Zh (Zej ai.o (b:=w.heap.size) (c:=w.heap.size+1) (d:=w.heap.size+1+1) (Nat.le_refl _) (by omega) (by omega) (.slice none 0 0) 0 1);(have bg:k<1∨(¬k<1∧5<k):=by omega);clear ak;rcases bg with h1 | ⟨h1,h2⟩
       · go_wp2_with fail;refine⟨_,HE.o.results _ (by rfl) (by rfl) (by rfl) rfl,?_⟩;unfold ZaS;rw [HO.o];exact⟨_,rfl,ap.o,OwnsI.nil _ _,fun i hi=>by cases hi⟩
       · go_wp2_with fail;refine⟨_,HE.o.results _ (by rfl) (by rfl) (by rfl) rfl,?_⟩;unfold ZaS;rw [HO.o];exact⟨_,rfl,ap.o,OwnsI.nil _ _,fun i hi=>by cases hi⟩
   · have HG:Hi (∀t,t<klen→1≤ks.getD t 0∧ks.getD t 0≤5):=fun t ht=>ad.o t (by omega);clear ad;go_wp2_with fail;have an:=Zrp w3 a len cap HC.o.bs HC.o.le HC.o.big ai.o;have ae:=HR.o.stay (Ze9.below (Zab w3 (.cells #[.slice a len cap,.int .i64 0] 239)));have am:=ai.o.trans ((Zab w3 (.cells #[.slice a len cap,.int .i64 0] 239)).mono ai.o.size);have ar:w.heap.size+1+1<w3.heap.size:=(Array.getElem?_eq_some_iff.1 HR.o.h6).1;generalize (w3.alloc (.cells #[.slice a len cap,.int .i64 0] 239))=w4 at an ae am ⊢;have ba:=Zh an;have ay:=Zh ae;have au:=Zh am;have ab:=Zh ar;have ao:Hi (0<len→∀bb oo,a=some ⟨bb,oo,none⟩→bb<w.heap.size):=by
      intro h0 bb oo e;obtain⟨b',o',e',hc⟩:=HC.o.bs.2.2 0 h0;rw [e] at e';simp only [Option.some.injEq,Addr.mk.injEq,and_true] at e';rw [e'.1];exact World.block_lt_of_cell? w _ hc
     have bd:Hi (Bytes xs):=HC.o.bs.2.1;have bc:Hi (xs.length=len):=HC.o.bs.1;clear an ae am ar;go_loopw [30] (fun i wr=>∃(j:Nat) (v:Value) (l:List It) (q:Nat),j≤klen∧i=.int .i64 j∧Hi (Res wr w.heap.size (w.heap.size+1) (w.heap.size+1+1) v 0 0)∧Hi (RdX wr w3.heap.size a len cap q xs)∧Hi (OwnsI wr w.heap.size v l)∧Hi (∀i∈l,i.fits)∧Hi (Bl w wr)∧Hi (tks xs ks [] 0=tks xs (ks.drop j) l q)∧Hi (l.length=j)) (fun i _=>klen-(intOf i).toNat)
     case atStart=>exact ⟨0,.slice none 0 0,[],0,by omega,rfl,ay,ba,Zh (OwnsI.nil _ _),Zh (fun i hi=>by cases hi),au,Zh (by simp),Zh rfl⟩
     case round =>
      obtain⟨j,v,l,q,hj,rfl,hR,hX,hO,hF,hB,hT,hL⟩:=hrel;rcases Nat.lt_or_ge j klen with ah | be
      · obtain⟨b,off,rfl,ac⟩:=(HK.o.keep hB.o (Nat.le_refl _)).2 j ah;obtain⟨k,af⟩:∃k,k=ks.getD j 0:=⟨_,rfl⟩;rw [← af] at ac;(have ag:Hi (1≤k∧k≤5):=by rw [af];exact HG.o j ah);have hd:ks.drop j=k :: ks.drop (j+1):=by
         (have hj':j<ks.length:=by rw [aj.o];exact ah);rw [List.drop_eq_getElem_cons hj',af];simp [List.getD,hj']
        have hT':=hT.o;rw [hd] at hT';simp only [tks] at hT';clear af hd;cases htk:tk (xs.drop q) k with
        | none =>
         rw [htk] at hT';have HO:Hi (Zay xs ks=([],0,4)):=by
          rw [ZbZ (fun t ht=>HG.o t (by rw [← aj.o];exact ht)),hT'];trivial
         have al:=Zh htk;clear hT' htk;go_wp2_with fail;refine Pl.q9 (ops:=Pl.fd 12 f185) ?_;refine Zqw wr w.heap.size w.heap.size (w.heap.size+1) (w.heap.size+1+1) w3.heap.size v l a len cap q xs k ag.o hR.o hX.o hO.o hF.o hB.o.size (Nat.le_refl _) (by omega) (by omega) (by have:=ab.o;omega) (by have:=ab.o;omega) (by have:=ab.o;omega) (by have:=ab.o;omega) ao.o (by rw [hL.o];omega) hl _ al.o (by rfl) (by rfl) (by rfl) (by rfl) (by rfl) (by rfl) (by rfl) ?_;intro A' w' hd h4 h5 h6 aa hb;show Leaves prog f185 A'.tmps (ZaS xs ks w) A'.defers (.panicking thrown) w';rw [hd];refine leaves_cons (f:=200) (args:=#[.pointer (some ⟨w.heap.size,0,none⟩),.pointer (some ⟨w.heap.size+1,0,none⟩),.pointer (some ⟨w.heap.size+1+1,0,none⟩)]) (by simp) (by simp [go_sem]) ?_;refine(ZgT w.heap.size (w.heap.size+1) (w.heap.size+1+1) w' _ _ _ aa.c4 aa.f4 aa.c5 aa.f5 aa.c6 aa.f6 (by omega) (by omega) (by omega)).mono ?_;rintro e u' w'' ⟨rfl,rfl,rfl⟩;refine⟨_,(aa.set (.slice none 0 0) 0 4).results _ h4 h5 h6 rfl,?_⟩;unfold ZaS;rw [HO.o];exact⟨_,rfl,Zej (hB.o.trans hb) (Nat.le_refl _) (by omega) (by omega) _ _ _,OwnsI.nil _ _,fun i hi=>by cases hi⟩
        | some im =>
         obtain⟨i,m⟩:=im;rw [htk] at hT';simp only at hT';have aq:=ZdR (xs:=xs.drop q) (fun x hx=>bd.o x (List.mem_of_mem_drop hx)) (by rw [List.length_drop,bc.o];omega) ag.o htk;have av:=Zh aq.1;have az:=Zh hT';have al:=Zh htk;clear hT' htk aq;go_wp2_with fail;refine Pl.q9 (ops:=Pl.fd 12 f185) ?_;refine Zqv wr w.heap.size w.heap.size (w.heap.size+1) (w.heap.size+1+1) w3.heap.size v l a len cap q xs k ag.o hR.o hX.o hO.o hF.o hB.o.size (Nat.le_refl _) (by omega) (by omega) (by have:=ab.o;omega) (by have:=ab.o;omega) (by have:=ab.o;omega) (by have:=ab.o;omega) ao.o (by rw [hL.o];omega) hl _ i m al.o av.o (by rfl) (by rfl) (by rfl) (by rfl) (by rfl) (by rfl) (by rfl) ?_;intro u v' w' r1 r2 r3 r4 r5;have R1:=Zh r1;have R2:=Zh r2;have R3:=Zh r3;have R4:=Zh r4;have R5:=Zh (hB.o.trans r5);clear r1 r2 r3 r4 r5;simp only [Pl.pu,List.foldl,Act.put,List.setIfInBounds_toArray,List.set];go_wp2;go_roundw;exact ⟨j+1,v',l ++ [i],q+m,by omega,by go_num,R1,R2,R3,R4,R5,az,Zh (by rw [List.length_append,hL.o];rfl)⟩;simp only [intOf];omega
      · (have bf:j=klen:=by omega);subst bf;have HO:Hi (Zay xs ks=(l,q,0)):=by
         have:=hT.o;rw [List.drop_of_length_le (by rw [aj.o];exact Nat.le_refl _)] at this;simp only [tks] at this;rw [ZbZ (fun t ht=>HG.o t (by rw [← aj.o];exact ht)),this];trivial
        clear hT;go_wp2_with fail;refine Pl.q9 (ops:=Pl.fd 14 f185) ?_;refine Zr9 wr w.heap.size w.heap.size (w.heap.size+1) (w.heap.size+1+1) w3.heap.size v l a len cap q hR.o hX.o.rd hO.o hF.o (Nat.le_refl _) (by omega) (by omega) (by have:=ab.o;omega) (by have:=ab.o;omega) (by have:=ab.o;omega) _ (by rfl) (by rfl) (by rfl) (by rfl) (by rfl) (by rfl) ?_;intro u w' r1 r2 r3;have R1:=Zh r1;have R2:=Zh r2;have R3:=Zh (hB.o.trans r3);clear r1 r2 r3;simp only [Pl.pu,List.foldl,Act.put,List.setIfInBounds_toArray,List.set];go_wp2_with fail;refine leaves_cons (f:=200) (args:=#[.pointer (some ⟨w.heap.size,0,none⟩),.pointer (some ⟨w.heap.size+1,0,none⟩),.pointer (some ⟨w.heap.size+1+1,0,none⟩)]) (by simp) (by simp [go_sem]) ?_;refine(ZjY w.heap.size (w.heap.size+1) (w.heap.size+1+1) w').mono ?_;rintro e u' w'' ⟨rfl,rfl,rfl⟩;obtain⟨va,vc,hv,_⟩:=R2.o.is hF.o;refine⟨_,R1.o.results _ (by rfl) (by rfl) (by rfl) hv,?_⟩;unfold ZaS;rw [HO.o];exact⟨_,rfl,R3.o,R2.o,hF.o⟩
theorem Zl0 (a b:Nat)(x y:Operand)(h:a+b≤9223372036854775807)(w:World):(do eqGuard .add 3 x y (.int .i64 (a:Nat)) (.int .i64 (b:Nat));binOp .add 3 (.int .i64 (a:Nat)) (.int .i64 (b:Nat)):Sem Value).run prog w=.ok (.int .i64 ((a+b:Nat):Int)) w:=by
 (have e:IntKind.i64.wrap ((a:Int)+(b:Int))=((a+b:Nat):Int):=by rw [IntKind.wrap_i64];omega);simp [go_sem,eqGuard,e]
theorem Zhg:∀args w,(callFunc 163 args).run prog w=.ok (.enter 163 args) w:=Pl.qi func163
theorem ZlL:∀args w,(callFunc 164 args).run prog w=.ok (.enter 164 args) w:=Pl.qi func164
theorem ZhG (x:It)(m:Bool)(hm:x.may=m)(w:World):Calls prog 163 #[x.val] w fun e w'=>e=.returned (.bool m)∧Bl w w':=by
 have:=ZfP x w;rw [hm] at this;exact this
def cand (xs:List Nat) (k:Int):It × Nat:=
  if k=4 then (⟨4,0,numB (xs.take 8),noS⟩,8)
  else if k=5 then (⟨5,0,0,bstr ((xs.drop 1).take (numB (xs.take 1)))⟩,1+numB (xs.take 1))
  else (⟨k,numB (xs.take (cntN k)),0,noS⟩,cntN k)
theorem ZgP (ys:List Nat):(bstr ys).size=ys.length:=by
 show (bstr ys).data.size=_;rw [← Array.length_toList];unfold bstr;rw [strOfNums_data];simp
theorem Zng {ys:List Nat}(h:Bytes ys):strB (bstr ys)=ys:=by
 apply Zjn (Zgc _) h;rw [ZgQ]
theorem Zez:noS.toList=[]:=by unfold noS;rw [ByteArray.toList_eq]
theorem Zin (hx:Bytes xs)(hk:1≤k∧k≤5)(h1:(if k=4 then 8 else if k=5 then 1 else cntN k)≤xs.length)(h2:(cand xs k).2≤xs.length) :
    ((cand xs k).1.may=false→tk xs k=none)∧((cand xs k).1.may=true→(cand xs k).1.bytes≠xs.take (cand xs k).2→tk xs k=none)∧((cand xs k).1.may=true→(cand xs k).1.bytes=xs.take (cand xs k).2→tk xs k=some (cand xs k)):=by
  have hb:∀m,Bytes (xs.take m):=fun m x hh=>hx x (List.mem_of_mem_take hh);by_cases h4:k=4
  · subst h4;simp only [if_true] at h1;(have e:cand xs 4=(⟨4,0,numB (xs.take 8),noS⟩,8):=by simp [cand]);(have aa:It.may ⟨4,0,numB (xs.take 8),noS⟩=true:=by simp [It.may,Zez]);(have ab:It.bytes ⟨4,0,numB (xs.take 8),noS⟩=bigB (Fl.val (numB (xs.take 8))) 8:=by simp [It.bytes]);(have ag:(xs.take 8).length=8:=by rw [List.length_take];omega);have ae:bigB (numB (xs.take 8)) 8=xs.take 8:=by
     have:=ZcV (hb 8);rw [ag] at this;exact this
    have aj:numB (xs.take 8)<256 ^ 8:=by
     have:=ZbY (hb 8);rw [ag] at this;exact this
    rw [e];simp only;rw [aa,ab];refine⟨fun h=>(by cases h),fun _ ad=>?_,fun _ ah=>?_⟩
    · have:¬Fl.val (numB (xs.take 8))=numB (xs.take 8):=fun h=>ad (by rw [h];exact ae);simp only [tk,if_true];rw [if_pos h1,if_neg this]
    · have:Fl.val (numB (xs.take 8))=numB (xs.take 8):=by
       have h3:=Zdr (Fl.val (numB (xs.take 8))) 8;rw [ah] at h3;have h5:Fl.val (numB (xs.take 8))<256 ^ 8:=by
        (have:numB (xs.take 8)<18446744073709551616:=by simpa using aj);have:=Fl.val_lt this;simpa using this
       rw [Nat.mod_eq_of_lt h5] at h3;exact h3.symm
      simp only [tk,if_true];rw [if_pos h1,if_pos this]
  by_cases h5:k=5
  · subst h5;simp only [show ¬(5:Int)=4 by decide,if_false,if_true] at h1;(have e:cand xs 5=(⟨5,0,0,bstr ((xs.drop 1).take (numB (xs.take 1)))⟩,1+numB (xs.take 1)):=by simp [cand]);rw [e] at h2 ⊢;simp only at h2 ⊢;have hU:numB (xs.take 1)<256:=by
     have h:=ZbY (hb 1);(have h3:(xs.take 1).length≤1:=by rw [List.length_take];omega);have h4:256 ^ (xs.take 1).length≤256 ^ 1:=Nat.pow_le_pow_right (by decide) h3;omega
    (have ac:((xs.drop 1).take (numB (xs.take 1))).length=numB (xs.take 1):=by rw [List.length_take,List.length_drop];omega);have hB:Bytes ((xs.drop 1).take (numB (xs.take 1))):=fun x hh=>hx x (List.mem_of_mem_drop (List.mem_of_mem_take hh));have aa:It.may ⟨5,0,0,bstr ((xs.drop 1).take (numB (xs.take 1)))⟩=true:=by
     (have hs:(bstr ((xs.drop 1).take (numB (xs.take 1)))).size<256:=by rw [ZgP,ac];exact hU);generalize bstr ((xs.drop 1).take (numB (xs.take 1)))=S at hs ⊢;simp [It.may,hs]
    have ab:It.bytes ⟨5,0,0,bstr ((xs.drop 1).take (numB (xs.take 1)))⟩=xs.take (1+numB (xs.take 1)):=by
     have h0:It.bytes ⟨5,0,0,bstr ((xs.drop 1).take (numB (xs.take 1)))⟩=numB (xs.take 1) :: (xs.drop 1).take (numB (xs.take 1)):=by
      (have hs:(bstr ((xs.drop 1).take (numB (xs.take 1)))).size=numB (xs.take 1):=by rw [ZgP,ac]);have h9:It.bytes ⟨5,0,0,bstr ((xs.drop 1).take (numB (xs.take 1)))⟩=(bstr ((xs.drop 1).take (numB (xs.take 1)))).size :: strB (bstr ((xs.drop 1).take (numB (xs.take 1)))):=by
       generalize bstr ((xs.drop 1).take (numB (xs.take 1)))=S;simp [It.bytes]
      rw [h9,hs,Zng hB]
     rw [h0];cases xs with
     | nil=>simp at h1
     | cons y r =>
      (have:numB ((y :: r).take 1)=y:=by simp [numB]);rw [this];simp [Nat.add_comm 1 y]
    rw [aa,ab];refine⟨fun h=>(by cases h),fun _ ad=>absurd rfl ad,fun _ _=>?_⟩;simp only [tk,show ¬(5:Int)=4 by decide,if_false,if_true];rw [if_pos h1,if_pos h2]
  (have af:k=1∨k=2∨k=3:=by omega);simp only [h4,h5,if_false] at h1;(have e:cand xs k=(⟨k,numB (xs.take (cntN k)),0,noS⟩,cntN k):=by simp [cand,h4,h5]);rw [e];simp only;(have ai:(xs.take (cntN k)).length=cntN k:=by rw [List.length_take];omega);have ab:It.bytes ⟨k,(numB (xs.take (cntN k)):Nat),0,noS⟩=xs.take (cntN k):=by
   rw [Zn2 af];have:=ZcV (hb (cntN k));rw [ai] at this;exact this
  have aa:It.may ⟨k,(numB (xs.take (cntN k)):Nat),0,noS⟩=decide ((numB (xs.take (cntN k)):Int)≤maxN k):=by
   rw [ZoW af];simp [Zez]
  rw [aa,ab,ZjM af,if_pos h1];refine⟨fun h=>?_,fun _ ad=>absurd rfl ad,fun h _=>?_⟩
  · rw [if_neg (of_decide_eq_false h)]
  · rw [if_pos (of_decide_eq_true h)]
theorem ZmD (w0 w:World)(a:Option Addr)(len cap q n g:Nat)(xs:List Nat)(x:It)(hx:ItAt w0 g 0 x)(hb:Bs w0 a len xs)(hc:len≤cap)(hq:q+n≤len)(hl:len≤9223372036854775807)(hW:Bl w0 w)(hm:x.may=false)
    {Q:Exit→Act→World→Prop}(ae:A.tmps.size=136)(ad:A.defers=[])(s0:A.tmps.getD 0 undef=.slice a len cap)(s10:A.tmps.getD 10 undef=.int .i64 (q:Nat))(s12:A.tmps.getD 12 undef=.int .i64 (n:Nat))(s15:A.tmps.getD 15 undef=.pointer (some ⟨g,0,none⟩))
    (hend:∀(u:Nat→Value) w',Bl w0 w'→Q .normal ((Pl.pu A u [111,112,113,114,115,116,117,118,119,120,121,122,123,124,125]).put (some 126) (.bool true)) w') :
    Pl.rg prog 30 f162 Q A w:=by
  have ab:Bl w0 w.drew:=hW.drew;have hA:=Pl.At.same (v:=.pointer (some ⟨g,0,none⟩)) (d:=15) (Pl.At.same (v:=.int .i64 (n:Nat)) (d:=12) (Pl.At.same (v:=.int .i64 (q:Nat)) (d:=10) (Pl.At.same (v:=.slice a len cap) (d:=0) (Pl.At.here ae ad) s0) s10) s12) s15;refine Pl.qb (S:=fun w'=>Bl w0 w') hA ab ?_;rw [show (Pl.fd 30 f162).size=16 by kernel_rfl];refine Pl.q0 0 111 (x.val) (Pl.q1) (Pl.q4 182 (.tmp 15) (fun w' hS=>ZeT g 0 x w' (Zao hx hS))) ab ?_;refine Pl.qe 1 112 163 [(.tmp 111)] #[182] (Pl.q1) Zhg (Calls.mono (ZhG x false hm w.drew) ?_);rintro e w1 ⟨rfl,ac⟩;have aa:=ab.trans (ac.mono ab.size);refine⟨.bool false,rfl,aa,?_⟩;refine Pl.q0 2 113 (.bool true) (Pl.q1) (Pl.qv 4 (.tmp 112) false) aa ?_;refine Pl.q0 3 114 (.bool true) (Pl.q1) (Pl.q2 (.tmp 113)) aa ?_;refine Pl.q5 4 115 (Pl.q7 3 114 false) aa ?_;refine Pl.q5 5 116 (Pl.q7 3 114 false) aa ?_;refine Pl.q5 6 117 (Pl.q7 3 114 false) aa ?_;refine Pl.q5 7 118 (Pl.q7 3 114 false) aa ?_;refine Pl.q5 8 119 (Pl.q7 3 114 false) aa ?_;refine Pl.q5 9 120 (Pl.q7 3 114 false) aa ?_;refine Pl.q5 10 121 (Pl.q7 3 114 false) aa ?_;refine Pl.q5 11 122 (Pl.q7 3 114 false) aa ?_;refine Pl.q5 12 123 (Pl.q7 3 114 false) aa ?_;refine Pl.q5 13 124 (Pl.q7 3 114 false) aa ?_;refine Pl.q5 14 125 (Pl.q7 3 114 false) aa ?_;refine Pl.q0 15 126 (.bool true) (Pl.q1) (Pl.qp (.tmp 114) (.const (.bool true)) (.tmp 125)) aa ?_;refine Pl.q8 (fun A' hA'=>?_);exact Pl.en hA' hA [111,112,113,114,115,116,117,118,119,120,121,122,123,124,125,126] (hend hA'.fn _ aa)
theorem ZfO (w0 w:World)(a:Option Addr)(len cap q n g:Nat)(xs:List Nat)(x:It)(hx:ItAt w0 g 0 x)(hb:Bs w0 a len xs)(hc:len≤cap)(hq:q+n≤len)(hl:len≤9223372036854775807)(hW:Bl w0 w)(hm:x.may=true)(aj:x.x<18446744073709551616)
    {Q:Exit→Act→World→Prop}(ai:A.tmps.size=136)(ag:A.defers=[])(s0:A.tmps.getD 0 undef=.slice a len cap)(s10:A.tmps.getD 10 undef=.int .i64 (q:Nat))(s12:A.tmps.getD 12 undef=.int .i64 (n:Nat))(s15:A.tmps.getD 15 undef=.pointer (some ⟨g,0,none⟩))
    (hend:∀(u:Nat→Value) w',Bl w0 w'→Q .normal ((Pl.pu A u [111,112,113,114,115,118,119,120,121,122,123,124,116,117,125]).put (some 126) (.bool (!((bstr x.bytes).toList == (bstr ((xs.drop q).take (q+n-q))).toList)))) w') :
    Pl.rg prog 30 f162 Q A w:=by
  have ac:Bl w0 w.drew:=hW.drew;have hA:=Pl.At.same (v:=.pointer (some ⟨g,0,none⟩)) (d:=15) (Pl.At.same (v:=.int .i64 (n:Nat)) (d:=12) (Pl.At.same (v:=.int .i64 (q:Nat)) (d:=10) (Pl.At.same (v:=.slice a len cap) (d:=0) (Pl.At.here ai ag) s0) s10) s12) s15;refine Pl.qb (S:=fun w'=>Bl w0 w') hA ac ?_;rw [show (Pl.fd 30 f162).size=16 by kernel_rfl];refine Pl.q0 0 111 (x.val) (Pl.q1) (Pl.q4 182 (.tmp 15) (fun w' hS=>ZeT g 0 x w' (Zao hx hS))) ac ?_;refine Pl.qe 1 112 163 [(.tmp 111)] #[182] (Pl.q1) Zhg (Calls.mono (ZhG x true hm w.drew) ?_);rintro e w1 ⟨rfl,ae⟩;have aa:=ac.trans (ae.mono ac.size);refine⟨.bool true,rfl,aa,?_⟩;refine Pl.q0 2 113 (.bool false) (Pl.q1) (Pl.qv 4 (.tmp 112) true) aa ?_;refine Pl.q0 3 114 (.bool false) (Pl.q1) (Pl.q2 (.tmp 113)) aa ?_;refine Pl.q0 4 115 (x.val) (Pl.q3 3 114 false) (Pl.q4 182 (.tmp 15) (fun w' hS=>ZeT g 0 x w' (Zao hx hS))) aa ?_;refine Pl.q0 7 118 (.slice a len cap) (Pl.q3 3 114 false) (Pl.q2 (.tmp 0)) aa ?_;refine Pl.q0 8 119 (.int .i64 (q:Nat)) (Pl.q3 3 114 false) (Pl.q2 (.tmp 10)) aa ?_;refine Pl.q0 9 120 (.int .i64 (q:Nat)) (Pl.q3 3 114 false) (Pl.q2 (.tmp 10)) aa ?_;refine Pl.q0 10 121 (.int .i64 (n:Nat)) (Pl.q3 3 114 false) (Pl.q2 (.tmp 12)) aa ?_;refine Pl.q0 11 122 (.int .i64 ((q+n:Nat):Int)) (Pl.q3 3 114 false) (Pl.qc .add 3 3 (.tmp 120) (.tmp 121) (.int .i64 (q:Nat)) (.int .i64 (n:Nat)) (Zl0 _ _ _ _ (by omega))) aa ?_;refine Pl.q0 12 123 (.slice (fromA a cap q) (q+n-q) (cap-q)) (Pl.q3 3 114 false) (Pl.qt 107 (.tmp 118) (some (.tmp 119)) (some (.tmp 122)) (Zfl a len cap q (q+n) (by omega) hq hc)) aa ?_;refine Pl.q0 13 124 (.string (bstr ((xs.drop q).take (q+n-q)))) (Pl.q3 3 114 false) (Pl.q_47 107 9 (.tmp 123) (.slice (fromA a cap q) (q+n-q) (cap-q)) (fun w' hS=>Zam (cap-q) ((hb.keep hS (Nat.le_refl _)).mid (cap:=cap) (k:=q) (j:=q+n) (by omega) hq hc))) aa ?_;refine Pl.qe 5 116 164 [(.tmp 115)] #[182] (Pl.q3 3 114 false) ZlL (Calls.mono (ZfQ x hm aj w1) ?_);rintro e w2 ⟨v2,rfl,ah,af⟩;obtain⟨a2,c2,rfl,ad,_⟩:=ah.bs (ZdJ hm).2;have ab:=aa.trans (af.mono aa.size);refine⟨.slice a2 x.bytes.length c2,rfl,ab,?_⟩;refine Pl.qw 6 117 (.string (bstr x.bytes)) (Pl.q3 3 114 false) (Pl.q_48 107 9 (.tmp 116) (Zam c2 ad)) ab ?_;refine Pl.q0 14 125 (.bool (!((bstr x.bytes).toList == (bstr ((xs.drop q).take (q+n-q))).toList))) (Pl.q3 3 114 false) (Pl.neqStrs 14 9 9 (.tmp 117) (.tmp 124) (bstr x.bytes) (bstr ((xs.drop q).take (q+n-q))) (by kernel_rfl) (by decide) (by decide) rfl rfl) ab ?_;refine Pl.q0 15 126 (.bool (!((bstr x.bytes).toList == (bstr ((xs.drop q).take (q+n-q))).toList))) (Pl.q1) (Pl.qk (.tmp 114) (.const (.bool true)) (.tmp 125)) ab ?_;refine Pl.q8 (fun A' hA'=>?_);exact Pl.en hA' hA [111,112,113,114,115,118,119,120,121,122,123,124,116,117,125,126] (hend hA'.fn _ ab)
def szN (k:Int):Nat:=if k=4 then 8 else if k=5 then 1 else cntN k
theorem Zr7 (k:Int):szN k≤8:=by
 unfold szN;split
 · omega
 · split
   · omega
   · exact Zio k
def Sz (w:World) (g:Nat):Prop:=∀k:Nat,1≤k→k≤5→w.cell? ⟨g,k,none⟩=some (.int .i64 (szN k:Nat))
theorem Zr8 (w:World):Sz (w.alloc (.cells #[.int .i64 0,.int .i64 1,.int .i64 2,.int .i64 4,.int .i64 8,.int .i64 1] 3)) w.heap.size:=by
 intro k h1 h5;(have:k=1∨k=2∨k=3∨k=4∨k=5:=by omega);rcases this with rfl | rfl | rfl | rfl | rfl <;> simp [go_sem,szN,cntN]
theorem Sz.keep (h:Sz w g)(hb:Below B w w')(hg:g<B):Sz w' g:=fun k h1 h5=>(hb.cell (p:=⟨g,k,none⟩) hg).trans (h k h1 h5)
theorem Zo8 (hk:1≤k∧k≤5)(h:xs.length<szN k):tk xs k=none:=by
 unfold szN at h;by_cases h4:k=4
 · subst h4;simp only [if_true] at h;simp only [tk,if_true];rw [if_neg (by omega)]
 · by_cases h5:k=5
   · subst h5;simp only [h4,if_false,if_true] at h;simp only [tk,h4,if_false,if_true];rw [if_neg (by omega)]
   · simp only [h4,h5,if_false] at h;simp only [tk,h4,h5,if_false];rw [if_neg (by omega)]
theorem OwnsI.lower {b':Nat}(h:OwnsI w b v l)(hb:b'≤b):OwnsI w b' v l:=by
 refine⟨h.1,?_⟩;rcases h.2 with hn | ⟨g,cap,cur,hv,aa,rest⟩
 · exact .inl hn
 · exact .inr ⟨g,cap,cur,hv,Nat.le_trans hb aa,rest⟩
theorem ZpU (w:World)(o:Obj):OwnsI ((w.alloc o).alloc (.cells #[] 182)) (w.heap.size+1) (.slice (some ⟨w.heap.size+1,0,none⟩) 0 0) []:=by
 have:=OwnsI.new (w.alloc o);simpa using this
theorem Zo9 {j q:Nat}(hj:j<ks.length)(hk:k=ks.getD j 0)(h:tks xs ks [] 0=tks xs (ks.drop j) l q) :
    (tk (xs.drop q) k=none→tks xs ks [] 0=none)∧(∀i m,tk (xs.drop q) k=some (i,m)→tks xs ks [] 0=tks xs (ks.drop (j+1)) (l ++ [i]) (q+m)):=by
  have hd:ks.drop j=k :: ks.drop (j+1):=by
   rw [List.drop_eq_getElem_cons hj,hk];simp [List.getD,hj]
  rw [hd] at h;simp only [tks] at h;refine⟨fun e=>?_,fun i m e=>?_⟩
  · rw [h,e]
  · rw [h,e]
theorem Zb4 {klen:Nat}(aa:ks.length=klen)(hg:∀t,t<klen→1≤ks.getD t 0∧ks.getD t 0≤5)(h:tks xs ks [] 0=none):Zay xs ks=([],0,4):=by
 rw [ZbZ (fun t ht=>hg t (by rw [← aa];exact ht)),h]
theorem ZiH (a:Option Addr)(len cap:Nat)(xs:List Nat)(ka:Option Addr)(klen kcap:Nat)(ks:List Int)(w:World)(hb:Came w a len cap xs)(hk:Ks w ka klen ks)(hl:len≤100000)(df:klen≤1000) :
    Calls prog 162 #[.slice a len cap,.slice ka klen kcap] w (ZaS xs ks w):=by
  have HC:=Zh hb;have HK:=Zh hk;have ao:=Zh hk.1;have ck:Hi (Bytes xs):=hb.bs.2.1;have ag:Hi (xs.length=len):=hb.bs.1;clear hb hk;go_enter func162,ntmps162;go_wp2_with fail;go_loop [7] (fun i=>∃j:Nat,j≤klen∧i=.int .i64 j∧Hi (∀t,t<j→1≤ks.getD t 0∧ks.getD t 0≤5)) (fun i=>klen-(intOf i).toNat)
  case atStart=>exact ⟨0,by omega,rfl,fun t ht=>by omega⟩
  case round =>
   obtain⟨j,hj,rfl,av⟩:=hrel;rcases Nat.lt_or_ge j klen with bq | cr
   · obtain⟨b,off,rfl,ae⟩:=HK.o.2 j bq;obtain⟨k,bg⟩:∃k,k=ks.getD j 0:=⟨_,rfl⟩;rw [← bg] at ae;have an:=Zh bg;clear bg;by_cases ce:1≤k∧k≤5
     · (have i1:¬k<1:=by omega);(have i2:¬5<k:=by omega);have cm:=Zh ce;clear ce;go_wp2;go_round
       case rel =>
        refine⟨j+1,by omega,by go_num,?_⟩;intro t ht;by_cases e:t=j
        · rw [e,← an.o];exact cm.o
        · exact av.o t (by omega)
       case measure=>simp only [intOf];omega
     · have HO:Hi (Zay xs ks=([],0,1)):=Zm2 (j:=j) (by rw [ao.o];exact bq) (by rw [← an.o];exact ce);(have ct:k<1∨(¬k<1∧5<k):=by omega);clear ce;rcases ct with h1 | ⟨h1,h2⟩
       · go_wp2;go_ret3;unfold ZaS;rw [HO.o];exact⟨_,rfl,Below.refl _ _,OwnsI.nil _ _,fun i hi=>by cases hi⟩
       · go_wp2;go_ret3;unfold ZaS;rw [HO.o];exact⟨_,rfl,Below.refl _ _,OwnsI.nil _ _,fun i hi=>by cases hi⟩
   · have HG:Hi (∀t,t<klen→1≤ks.getD t 0∧ks.getD t 0≤5):=fun t ht=>av.o t (by omega);clear av;go_wp2_with fail;have cd:=Zr8 w;have bm:=cd.keep (Zab _ (.cells #[] 182)) (by simp);have aw:=ZpU w (.cells #[.int .i64 0,.int .i64 1,.int .i64 2,.int .i64 4,.int .i64 8,.int .i64 1] 3);have ch:=ZaA w (.cells #[.int .i64 0,.int .i64 1,.int .i64 2,.int .i64 4,.int .i64 8,.int .i64 1] 3) (.cells #[] 182);(have cc:w.heap.size+1≤((w.alloc (.cells #[.int .i64 0,.int .i64 1,.int .i64 2,.int .i64 4,.int .i64 8,.int .i64 1] 3)).alloc (.cells #[] 182)).heap.size:=by simp);generalize ((w.alloc (.cells #[.int .i64 0,.int .i64 1,.int .i64 2,.int .i64 4,.int .i64 8,.int .i64 1] 3)).alloc (.cells #[] 182))=w2 at bm aw ch cc ⊢;have cp:=Zh bm;have cn:=Zh aw;have bj:=Zh ch;have ap:=Zh cc;have dh:∀(w:World) (a:Addr) (m:Mode) (x:Nat),(store a (.float .f64 x) m).run prog w=stored prog w a (.float .f64 x) m:=fun w a m x=>run_store prog w a _ m rfl;clear cd bm aw ch cc;go_loopw [9,10,11] (fun u9 u10 u11 wr=>∃(j q:Nat) (l:List It),j≤klen∧q≤len∧u10=.int .i64 q∧u11=.int .i64 j∧Hi (OwnsI wr (w.heap.size+1) u9 l)∧Hi (∀i∈l,i.fits)∧Hi (Below (w.heap.size+1) w2 wr)∧Hi (tks xs ks [] 0=tks xs (ks.drop j) l q)∧Hi (l.length=j)) (fun _ _ u11 _=>klen-(intOf u11).toNat)
     case atStart=>exact ⟨0,0,[],by omega,by omega,rfl,rfl,cn,Zh (fun i hi=>by cases hi),Zh (Below.refl _ _),Zh (by simp),Zh rfl⟩
     case round =>
      obtain⟨j,q,l,hj,hq,rfl,rfl,hO,hF,hB,hT,hL⟩:=hrel;have bn:Bl w wr:=bj.o.trans (hB.o.mono (by omega));rcases Nat.lt_or_ge j klen with bq | cr
      · obtain⟨b,off,rfl,ae⟩:=(HK.o.keep bn (Nat.le_refl _)).2 j bq;obtain⟨k,bg⟩:∃k,k=ks.getD j 0:=⟨_,rfl⟩;rw [← bg] at ae;(have an:Hi (1≤k∧k≤5):=by rw [bg];exact HG.o j bq);have ar:=Zh (Zo9 (by rw [ao.o];exact bq) bg hT.o);have ay:Hi (Bytes (xs.drop q)):=fun x hx=>ck.o x (List.mem_of_mem_drop hx);have br:=Zh (HC.o.bs.keep bn (Nat.le_refl _));clear bg hT;obtain⟨kn,rfl⟩:=Int.eq_ofNat_of_zero_le (Int.le_trans (by decide) an.o.1);(have cl:1≤kn∧kn≤5:=by have:=an.o;omega);have cv:=(cp.o.keep hB.o (Nat.lt_succ_self _)) kn cl.1 cl.2;(have de:kn<6:=by omega);obtain⟨n,hn⟩:∃n,n=szN (kn:Nat):=⟨_,rfl⟩;(have dg:n≤8:=by rw [hn];exact Zr7 _);rw [← hn] at cv;have HN:=Zh hn;clear hn;rcases Nat.lt_or_ge (len-q) n with hs | hs
        · have HO:Hi (Zay xs ks=([],0,4)):=Zb4 ao.o HG.o (ar.o.1 (Zo8 an.o (by rw [← HN.o,List.length_drop,ag.o];exact hs)));(have i1:(len:Int)-(q:Int)<(n:Int):=by omega);go_wp2;go_ret3;unfold ZaS;rw [HO.o];exact⟨_,rfl,bn,OwnsI.nil _ _,fun i hi=>by cases hi⟩
        · (have i1:¬(len:Int)-(q:Int)<(n:Int):=by omega);go_wp2_with fail;go_loop [13,14] (fun uu ii=>∃t:Nat,t≤n∧ii=.int .i64 t∧uu=.int .u64 (numB ((xs.drop q).take t):Nat)) (fun _ ii=>n-(intOf ii).toNat)
          case atStart=>exact ⟨0,by omega,rfl,by simp [numB]⟩
          case round =>
           obtain⟨t,ht,rfl,rfl⟩:=hrel;obtain⟨U,hU⟩:∃U,U=numB ((xs.drop q).take t):=⟨_,rfl⟩;have ci:Bytes ((xs.drop q).take t):=fun x hx=>ay.o x (List.mem_of_mem_take hx);have cf:numB ((xs.drop q).take t)<256 ^ t:=by
            have h2:=ZbY ci;rw [show ((xs.drop q).take t).length=t by rw [List.length_take,List.length_drop,ag.o];omega] at h2;exact h2
           rw [← hU] at cf ⊢;rcases Nat.lt_or_ge t n with cy | cy
           · obtain⟨bb,bo,ha,cq⟩:=br.o.2.2 (q+t) (by omega);obtain⟨y,hy⟩:∃y,y=xs.getD (q+t) 0:=⟨_,rfl⟩;(have dj:y<256:=by rw [hy];exact ZlO ck.o _);have db:U<72057594037927936:=by
              have h4:256 ^ t≤256 ^ 7:=Nat.pow_le_pow_right (by decide) (by omega);(have:(256:Nat) ^ 7=72057594037927936:=by decide);omega
             have co:Hi (numB ((xs.drop q).take (t+1))=U*256+y):=by
              (have hl':t<(xs.drop q).length:=by rw [List.length_drop,ag.o];omega);(have cu:q+t<xs.length:=by rw [ag.o];omega);rw [List.take_succ_eq_append_getElem hl',ZhC,← hU,hy];simp [List.getD,cu,Zh]
             rw [← hy] at cq;have ca:=Zh hU;have cz:=Zh hy;subst ha;clear hU hy ci cf;go_wp2;go_round
             case rel=>exact ⟨t+1,by omega,by go_num,by rw [co.o];simp⟩
             case measure=>simp only [intOf];omega
           · (have cj:t=n:=by omega);subst cj;have ca:=Zh hU;have bp:=Zh cf;clear hU ci cf;have ad:(wr.alloc (.cells #[.int .i64 (kn:Nat),.int .i64 0,.float .f64 0,.string ⟨#[]⟩] 182)).cell? ⟨b,off+j,none⟩=some (.int .i64 (kn:Nat)):=((Zab wr _).cell (p:=⟨b,off+j,none⟩) (World.block_lt_of_cell? wr _ ae)).trans ae;have am:Hi (U<18446744073709551616):=by
              have h6:256 ^ t≤256 ^ 8:=Nat.pow_le_pow_right (by decide) (by omega);(have h7:(256:Nat) ^ 8=18446744073709551616:=by decide);have h8:=bp.o;show U<18446744073709551616;omega
             by_cases h4:kn=4
             · subst h4;have cx:t=8:=HN.o;subst cx;have bl:(wr.alloc (.cells #[.int .i64 4,.int .i64 0,.float .f64 0,.string ⟨#[]⟩] 182)).cell? ⟨b,off+j,none⟩=some (.int .i64 4):=ad;clear ad;have dd:∀w,(callFunc 48 #[.int .u64 (U:Nat)]).run prog w=.ok (.value (.float .f64 U)) w:=Zdb (U:Nat);have be:cand (xs.drop q) ((4:Nat):Int)=(⟨4,0,U,noS⟩,8):=by
                                   show cand (xs.drop q) 4=_;simp only [cand,if_true];rw [← ca.o]
               have ak:=Zin ay.o an.o (by show (if (4:Int)=4 then 8 else _)≤_;rw [if_pos rfl,List.length_drop,ag.o];omega) (by rw [be];rw [List.length_drop,ag.o];simp only;omega);rw [be] at ak;simp only at ak;(have bi:q+(8)≤len:=by omega);have ai:=Zh bi;have ah:=Zh ak;have HI:Hi (ItAt (wr.alloc (.cells #[.int .i64 4,.int .i64 0,.float .f64 U,.string noS] 182)) wr.heap.size 0 ⟨4,0,U,noS⟩):=Zew wr ⟨4,0,U,noS⟩ _;have aq:=Zh (br.o.keep (Zab wr (.cells #[.int .i64 4,.int .i64 0,.float .f64 U,.string noS] 182)) (Nat.le_refl _));have bv:=Zh (hO.o.keep (Zab wr (.cells #[.int .i64 4,.int .i64 0,.float .f64 U,.string noS] 182)) (Nat.le_refl _));have aj:=Zh (hB.o.trans ((Zab wr (.cells #[.int .i64 4,.int .i64 0,.float .f64 U,.string noS] 182)).mono (Nat.le_trans ap.o hB.o.size)));have ab:Hi (w.heap.size+1≤(wr.alloc (.cells #[.int .i64 4,.int .i64 0,.float .f64 U,.string noS] 182)).heap.size):=Nat.le_trans ap.o aj.o.size;clear ak bi;go_wp2_with fail;cases hm:It.may ⟨4,0,U,noS⟩
               · have HO:Hi (Zay xs ks=([],0,4)):=Zb4 ao.o HG.o (ar.o.1 (ah.o.1 hm));refine Pl.q9 (ops:=Pl.fd 30 f162) ?_;refine ZmD (wr.alloc (.cells #[.int .i64 4,.int .i64 0,.float .f64 U,.string noS] 182)) _ a len cap q (8) wr.heap.size xs ⟨4,0,U,noS⟩ HI.o aq.o HC.o.le ai.o HC.o.big (Below.refl _ _) hm (by rfl) (by rfl) (by rfl) (by rfl) (by rfl) (by rfl) ?_;intro u w' hb';have al:=Zh (bj.o.trans ((aj.o.mono (Nat.le_succ _)).trans (hb'.mono (Nat.le_trans (Nat.le_succ _) ab.o))));clear hb' hm;simp only [Pl.pu,List.foldl,Act.put,List.setIfInBounds_toArray,List.set];go_wp2;go_ret3;unfold ZaS;rw [HO.o];exact⟨_,rfl,al.o,OwnsI.nil _ _,fun i hi=>by cases hi⟩
               · have au:Hi (It.x ⟨4,0,U,noS⟩<18446744073709551616):=by
                  show _<_;simp only;first | decide | exact am.o
                 by_cases ac:It.bytes ⟨4,0,U,noS⟩=(xs.drop q).take (8)
                 · have ax:=ah.o.2.2 hm ac;have bf:=ZdR ay.o (by rw [List.length_drop,ag.o];omega) an.o ax;have az:=Zh bf.1;have bz:=Zh (ar.o.2 _ _ ax);have aa:(!((bstr (It.bytes ⟨4,0,U,noS⟩)).toList == (bstr ((xs.drop q).take (q+(8)-q))).toList))=false:=by
                    rw [show q+(8)-q=8 by omega,ac];simp
                   refine Pl.q9 (ops:=Pl.fd 30 f162) ?_;refine ZfO (wr.alloc (.cells #[.int .i64 4,.int .i64 0,.float .f64 U,.string noS] 182)) _ a len cap q (8) wr.heap.size xs ⟨4,0,U,noS⟩ HI.o aq.o HC.o.le ai.o HC.o.big (Below.refl _ _) hm au.o (by rfl) (by rfl) (by rfl) (by rfl) (by rfl) (by rfl) ?_;intro u w' hb';rw [aa];have af:=Zao HI.o hb';have d0:=af.p0;have d1:=af.p1;have d2:=af.p2;have d3:=af.p3;simp only at d0 d1 d2 d3;have bc:=Zh (aj.o.trans (hb'.mono ab.o));have bw:Hi (OwnsI (w'.alloc (.cells #[.int .i64 4,.int .i64 0,.float .f64 U,.string noS] 182)) (w.heap.size+1) u9 l):=(bv.o.keep hb' (Nat.le_refl _)).keep (Zab w' _) (Nat.le_refl _);have bt:Hi (Is (w'.alloc (.cells #[.int .i64 4,.int .i64 0,.float .f64 U,.string noS] 182)) (some ⟨w'.heap.size,0,none⟩) 1 [⟨4,0,U,noS⟩]):=Zdi w' ⟨4,0,U,noS⟩ az.o;have ba:Hi (Below (w.heap.size+1) w2 (w'.alloc (.cells #[.int .i64 4,.int .i64 0,.float .f64 U,.string noS] 182))):=bc.o.alloc (Nat.le_trans ap.o bc.o.size) _;(have bu:Hi (l.length+1≤1000000):=by show _≤_;rw [hL.o];omega);clear hb' hm ac ax bf aa af;simp only [Pl.pu,List.foldl,Act.put,List.setIfInBounds_toArray,List.set];go_wp2_with (at_builtin;refine Zaw _ rfl (.tmp 127) (.tmp 129) rfl (w.heap.size+1) _ l rfl bw.o _ _ _ [⟨4,0,U,noS⟩] rfl bt.o (fun e=>by cases e) bu.o (Nat.le_trans ap.o ba.o.size) ?_);intro v3 w3 bh bd _;have bx:=Zh bh;have cb:=Zh (ba.o.trans bd);clear bh bd au am bp ah;(try clear bk);go_wp2;go_roundw
                   case rel=>exact ⟨j+1,q+(8),l ++ [⟨4,0,U,noS⟩],by omega,ai.o,by go_num,by go_num,bx,Zh (fun z hz=>by
                    rcases List.mem_append.1 hz with h | h
                    · exact hF.o z h
                    · simp at h;rw [h];exact az.o),cb,bz,Zh (by rw [List.length_append,hL.o];rfl)⟩
                   case measure=>simp only [intOf];omega
                 · have HO:Hi (Zay xs ks=([],0,4)):=Zb4 ao.o HG.o (ar.o.1 (ah.o.2.1 hm ac));have aa:(!((bstr (It.bytes ⟨4,0,U,noS⟩)).toList == (bstr ((xs.drop q).take (q+(8)-q))).toList))=true:=by
                    rw [show q+(8)-q=8 by omega,ZhY (ZdJ hm).2 (fun x hx=>ay.o x (List.mem_of_mem_take hx)) ac];rfl
                   refine Pl.q9 (ops:=Pl.fd 30 f162) ?_;refine ZfO (wr.alloc (.cells #[.int .i64 4,.int .i64 0,.float .f64 U,.string noS] 182)) _ a len cap q (8) wr.heap.size xs ⟨4,0,U,noS⟩ HI.o aq.o HC.o.le ai.o HC.o.big (Below.refl _ _) hm au.o (by rfl) (by rfl) (by rfl) (by rfl) (by rfl) (by rfl) ?_;intro u w' hb';rw [aa];have al:=Zh (bj.o.trans ((aj.o.mono (Nat.le_succ _)).trans (hb'.mono (Nat.le_trans (Nat.le_succ _) ab.o))));clear hb' hm ac aa;simp only [Pl.pu,List.foldl,Act.put,List.setIfInBounds_toArray,List.set];go_wp2;go_ret3;unfold ZaS;rw [HO.o];exact⟨_,rfl,al.o,OwnsI.nil _ _,fun i hi=>by cases hi⟩
             · by_cases h5:kn=5
               · subst h5;have cw:t=1:=HN.o;subst cw;have bl:(wr.alloc (.cells #[.int .i64 5,.int .i64 0,.float .f64 0,.string ⟨#[]⟩] 182)).cell? ⟨b,off+j,none⟩=some (.int .i64 5):=ad;clear ad;(have da:U<256:=by have:=bp.o;simpa using this);rcases Nat.lt_or_ge (len-q-1) U with cc | cc
                 · have HO:Hi (Zay xs ks=([],0,4)):=Zb4 ao.o HG.o (ar.o.1 (by
                    show tk (xs.drop q) 5=none;simp only [tk,show ¬(5:Int)=4 by decide,if_false,if_true];rw [if_pos (by rw [List.length_drop,ag.o];omega),← ca.o,if_neg (by rw [List.length_drop,ag.o];omega)]))
                   (have i2:(len:Int)-(q:Int)-1<(U:Int):=by omega);have al:=Zh (bn.trans ((Zab wr (.cells #[.int .i64 5,.int .i64 0,.float .f64 0,.string ⟨#[]⟩] 182)).mono bn.size));go_wp2;go_ret3;unfold ZaS;rw [HO.o];exact⟨_,rfl,al.o,OwnsI.nil _ _,fun i hi=>by cases hi⟩
                 · (have i2:¬(len:Int)-(q:Int)-1<(U:Int):=by omega);have di:∀w,(Instr.sliceAt 107 (.slice a len cap) (some (.int .i64 ((q:Int)+1))) (some (.int .i64 ((q:Int)+1+(U:Int)))) none).run prog w=.ok (.slice (fromA a cap (q+1)) U (cap-(q+1))) w:=by
                    intro w;have h:=Zfl a len cap (q+1) (q+1+U) (by omega) (by omega) HC.o.le w;rw [show q+1+U-(q+1)=U by omega] at h;exact h
                   have dc:(convert 107 9 (.slice (fromA a cap (q+1)) U (cap-(q+1)))).run prog (wr.alloc (.cells #[.int .i64 5,.int .i64 0,.float .f64 0,.string ⟨#[]⟩] 182))=.ok (.string (bstr ((xs.drop (q+1)).take U))) (wr.alloc (.cells #[.int .i64 5,.int .i64 0,.float .f64 0,.string ⟨#[]⟩] 182)):=by
                    have h:=(br.o.keep (Zab wr (.cells #[.int .i64 5,.int .i64 0,.float .f64 0,.string ⟨#[]⟩] 182)) (Nat.le_refl _)).mid (cap:=cap) (k:=q+1) (j:=q+1+U) (by omega) (by omega) HC.o.le;rw [show q+1+U-(q+1)=U by omega] at h;exact Zam (cap-(q+1)) h
                   have be:cand (xs.drop q) ((5:Nat):Int)=(⟨5,0,0,bstr ((xs.drop (q+1)).take U)⟩,1+U):=by
                                           show cand (xs.drop q) 5=_;simp only [cand,show ¬(5:Int)=4 by decide,if_false,if_true];rw [← ca.o,List.drop_drop]
                   have ak:=Zin ay.o an.o (by show (if (5:Int)=4 then 8 else if (5:Int)=5 then 1 else _)≤_;rw [if_neg (by decide),if_pos rfl,List.length_drop,ag.o];omega) (by rw [be];rw [List.length_drop,ag.o];simp only;omega);rw [be] at ak;simp only at ak;(have bi:q+(1+U)≤len:=by omega);have ai:=Zh bi;have ah:=Zh ak;have HI:Hi (ItAt (wr.alloc (.cells #[.int .i64 5,.int .i64 0,.float .f64 0,.string (bstr ((xs.drop (q+1)).take U))] 182)) wr.heap.size 0 ⟨5,0,0,bstr ((xs.drop (q+1)).take U)⟩):=Zew wr ⟨5,0,0,bstr ((xs.drop (q+1)).take U)⟩ _;have aq:=Zh (br.o.keep (Zab wr (.cells #[.int .i64 5,.int .i64 0,.float .f64 0,.string (bstr ((xs.drop (q+1)).take U))] 182)) (Nat.le_refl _));have bv:=Zh (hO.o.keep (Zab wr (.cells #[.int .i64 5,.int .i64 0,.float .f64 0,.string (bstr ((xs.drop (q+1)).take U))] 182)) (Nat.le_refl _));have aj:=Zh (hB.o.trans ((Zab wr (.cells #[.int .i64 5,.int .i64 0,.float .f64 0,.string (bstr ((xs.drop (q+1)).take U))] 182)).mono (Nat.le_trans ap.o hB.o.size)));have ab:Hi (w.heap.size+1≤(wr.alloc (.cells #[.int .i64 5,.int .i64 0,.float .f64 0,.string (bstr ((xs.drop (q+1)).take U))] 182)).heap.size):=Nat.le_trans ap.o aj.o.size;clear ak bi;go_wp2_with fail;cases hm:It.may ⟨5,0,0,bstr ((xs.drop (q+1)).take U)⟩
                   · have HO:Hi (Zay xs ks=([],0,4)):=Zb4 ao.o HG.o (ar.o.1 (ah.o.1 hm));refine Pl.q9 (ops:=Pl.fd 30 f162) ?_;refine ZmD (wr.alloc (.cells #[.int .i64 5,.int .i64 0,.float .f64 0,.string (bstr ((xs.drop (q+1)).take U))] 182)) _ a len cap q (1+U) wr.heap.size xs ⟨5,0,0,bstr ((xs.drop (q+1)).take U)⟩ HI.o aq.o HC.o.le ai.o HC.o.big (Below.refl _ _) hm (by rfl) (by rfl) (by rfl) (by rfl) (by rfl) (by rfl) ?_;intro u w' hb';have al:=Zh (bj.o.trans ((aj.o.mono (Nat.le_succ _)).trans (hb'.mono (Nat.le_trans (Nat.le_succ _) ab.o))));clear hb' hm;simp only [Pl.pu,List.foldl,Act.put,List.setIfInBounds_toArray,List.set];go_wp2;go_ret3;unfold ZaS;rw [HO.o];exact⟨_,rfl,al.o,OwnsI.nil _ _,fun i hi=>by cases hi⟩
                   · have au:Hi (It.x ⟨5,0,0,bstr ((xs.drop (q+1)).take U)⟩<18446744073709551616):=by
                      show _<_;simp only;first | decide | exact am.o
                     by_cases ac:It.bytes ⟨5,0,0,bstr ((xs.drop (q+1)).take U)⟩=(xs.drop q).take (1+U)
                     · have ax:=ah.o.2.2 hm ac;have bf:=ZdR ay.o (by rw [List.length_drop,ag.o];omega) an.o ax;have az:=Zh bf.1;have bz:=Zh (ar.o.2 _ _ ax);have aa:(!((bstr (It.bytes ⟨5,0,0,bstr ((xs.drop (q+1)).take U)⟩)).toList == (bstr ((xs.drop q).take (q+(1+U)-q))).toList))=false:=by
                        rw [show q+(1+U)-q=1+U by omega,ac];simp
                       refine Pl.q9 (ops:=Pl.fd 30 f162) ?_;refine ZfO (wr.alloc (.cells #[.int .i64 5,.int .i64 0,.float .f64 0,.string (bstr ((xs.drop (q+1)).take U))] 182)) _ a len cap q (1+U) wr.heap.size xs ⟨5,0,0,bstr ((xs.drop (q+1)).take U)⟩ HI.o aq.o HC.o.le ai.o HC.o.big (Below.refl _ _) hm au.o (by rfl) (by rfl) (by rfl) (by rfl) (by rfl) (by rfl) ?_;intro u w' hb';rw [aa];have af:=Zao HI.o hb';have d0:=af.p0;have d1:=af.p1;have d2:=af.p2;have d3:=af.p3;simp only at d0 d1 d2 d3;have bc:=Zh (aj.o.trans (hb'.mono ab.o));have bw:Hi (OwnsI (w'.alloc (.cells #[.int .i64 5,.int .i64 0,.float .f64 0,.string (bstr ((xs.drop (q+1)).take U))] 182)) (w.heap.size+1) u9 l):=(bv.o.keep hb' (Nat.le_refl _)).keep (Zab w' _) (Nat.le_refl _);have bt:Hi (Is (w'.alloc (.cells #[.int .i64 5,.int .i64 0,.float .f64 0,.string (bstr ((xs.drop (q+1)).take U))] 182)) (some ⟨w'.heap.size,0,none⟩) 1 [⟨5,0,0,bstr ((xs.drop (q+1)).take U)⟩]):=Zdi w' ⟨5,0,0,bstr ((xs.drop (q+1)).take U)⟩ az.o;have ba:Hi (Below (w.heap.size+1) w2 (w'.alloc (.cells #[.int .i64 5,.int .i64 0,.float .f64 0,.string (bstr ((xs.drop (q+1)).take U))] 182))):=bc.o.alloc (Nat.le_trans ap.o bc.o.size) _;(have bu:Hi (l.length+1≤1000000):=by show _≤_;rw [hL.o];omega);clear hb' hm ac ax bf aa af;simp only [Pl.pu,List.foldl,Act.put,List.setIfInBounds_toArray,List.set];go_wp2_with (at_builtin;refine Zaw _ rfl (.tmp 127) (.tmp 129) rfl (w.heap.size+1) _ l rfl bw.o _ _ _ [⟨5,0,0,bstr ((xs.drop (q+1)).take U)⟩] rfl bt.o (fun e=>by cases e) bu.o (Nat.le_trans ap.o ba.o.size) ?_);intro v3 w3 bh bd _;have bx:=Zh bh;have cb:=Zh (ba.o.trans bd);clear bh bd au am bp ah;(try clear bk);go_wp2;go_roundw
                       case rel=>exact ⟨j+1,q+(1+U),l ++ [⟨5,0,0,bstr ((xs.drop (q+1)).take U)⟩],by omega,ai.o,by go_num,by go_num,bx,Zh (fun z hz=>by
                        rcases List.mem_append.1 hz with h | h
                        · exact hF.o z h
                        · simp at h;rw [h];exact az.o),cb,bz,Zh (by rw [List.length_append,hL.o];rfl)⟩
                       case measure=>simp only [intOf];omega
                     · have HO:Hi (Zay xs ks=([],0,4)):=Zb4 ao.o HG.o (ar.o.1 (ah.o.2.1 hm ac));have aa:(!((bstr (It.bytes ⟨5,0,0,bstr ((xs.drop (q+1)).take U)⟩)).toList == (bstr ((xs.drop q).take (q+(1+U)-q))).toList))=true:=by
                        rw [show q+(1+U)-q=1+U by omega,ZhY (ZdJ hm).2 (fun x hx=>ay.o x (List.mem_of_mem_take hx)) ac];rfl
                       refine Pl.q9 (ops:=Pl.fd 30 f162) ?_;refine ZfO (wr.alloc (.cells #[.int .i64 5,.int .i64 0,.float .f64 0,.string (bstr ((xs.drop (q+1)).take U))] 182)) _ a len cap q (1+U) wr.heap.size xs ⟨5,0,0,bstr ((xs.drop (q+1)).take U)⟩ HI.o aq.o HC.o.le ai.o HC.o.big (Below.refl _ _) hm au.o (by rfl) (by rfl) (by rfl) (by rfl) (by rfl) (by rfl) ?_;intro u w' hb';rw [aa];have al:=Zh (bj.o.trans ((aj.o.mono (Nat.le_succ _)).trans (hb'.mono (Nat.le_trans (Nat.le_succ _) ab.o))));clear hb' hm ac aa;simp only [Pl.pu,List.foldl,Act.put,List.setIfInBounds_toArray,List.set];go_wp2;go_ret3;unfold ZaS;rw [HO.o];exact⟨_,rfl,al.o,OwnsI.nil _ _,fun i hi=>by cases hi⟩
               · (have e4:((kn:Int) == 4)=false:=by apply beq_eq_false_iff_ne.2;omega);(have e5:((kn:Int) == 5)=false:=by apply beq_eq_false_iff_ne.2;omega);have cg:Hi (t=cntN (kn:Nat)):=by
                  have:=HN.o;unfold szN at this;rw [if_neg (by omega),if_neg (by omega)] at this;exact this
                 have bk:U<4294967296:=by
                  have hc:t≤4:=by
                   rw [cg.o];unfold cntN;split
                   · omega
                   · split <;> omega
                  have h6:256 ^ t≤256 ^ 4:=Nat.pow_le_pow_right (by decide) hc;(have:(256:Nat) ^ 4=4294967296:=by decide);have:=bp.o;omega
                 have be:cand (xs.drop q) (kn:Nat)=(⟨(kn:Nat),(U:Nat),0,noS⟩,t):=by
                                       unfold cand;rw [if_neg (by omega),if_neg (by omega),← cg.o,← ca.o]
                 have ak:=Zin ay.o an.o (by rw [if_neg (by omega),if_neg (by omega),← cg.o,List.length_drop,ag.o];omega) (by rw [be];rw [List.length_drop,ag.o];simp only;omega);rw [be] at ak;simp only at ak;(have bi:q+(t)≤len:=by omega);have ai:=Zh bi;have ah:=Zh ak;have HI:Hi (ItAt (wr.alloc (.cells #[.int .i64 (kn:Nat),.int .i64 (U:Nat),.float .f64 0,.string noS] 182)) wr.heap.size 0 ⟨(kn:Nat),(U:Nat),0,noS⟩):=Zew wr ⟨(kn:Nat),(U:Nat),0,noS⟩ _;have aq:=Zh (br.o.keep (Zab wr (.cells #[.int .i64 (kn:Nat),.int .i64 (U:Nat),.float .f64 0,.string noS] 182)) (Nat.le_refl _));have bv:=Zh (hO.o.keep (Zab wr (.cells #[.int .i64 (kn:Nat),.int .i64 (U:Nat),.float .f64 0,.string noS] 182)) (Nat.le_refl _));have aj:=Zh (hB.o.trans ((Zab wr (.cells #[.int .i64 (kn:Nat),.int .i64 (U:Nat),.float .f64 0,.string noS] 182)).mono (Nat.le_trans ap.o hB.o.size)));have ab:Hi (w.heap.size+1≤(wr.alloc (.cells #[.int .i64 (kn:Nat),.int .i64 (U:Nat),.float .f64 0,.string noS] 182)).heap.size):=Nat.le_trans ap.o aj.o.size;clear ak bi;go_wp2_with fail;cases hm:It.may ⟨(kn:Nat),(U:Nat),0,noS⟩
                 · have HO:Hi (Zay xs ks=([],0,4)):=Zb4 ao.o HG.o (ar.o.1 (ah.o.1 hm));refine Pl.q9 (ops:=Pl.fd 30 f162) ?_;refine ZmD (wr.alloc (.cells #[.int .i64 (kn:Nat),.int .i64 (U:Nat),.float .f64 0,.string noS] 182)) _ a len cap q (t) wr.heap.size xs ⟨(kn:Nat),(U:Nat),0,noS⟩ HI.o aq.o HC.o.le ai.o HC.o.big (Below.refl _ _) hm (by rfl) (by rfl) (by rfl) (by rfl) (by rfl) (by rfl) ?_;intro u w' hb';have al:=Zh (bj.o.trans ((aj.o.mono (Nat.le_succ _)).trans (hb'.mono (Nat.le_trans (Nat.le_succ _) ab.o))));clear hb' hm;simp only [Pl.pu,List.foldl,Act.put,List.setIfInBounds_toArray,List.set];go_wp2;go_ret3;unfold ZaS;rw [HO.o];exact⟨_,rfl,al.o,OwnsI.nil _ _,fun i hi=>by cases hi⟩
                 · have au:Hi (It.x ⟨(kn:Nat),(U:Nat),0,noS⟩<18446744073709551616):=by
                    show _<_;simp only;first | decide | exact am.o
                   by_cases ac:It.bytes ⟨(kn:Nat),(U:Nat),0,noS⟩=(xs.drop q).take (t)
                   · have ax:=ah.o.2.2 hm ac;have bf:=ZdR ay.o (by rw [List.length_drop,ag.o];omega) an.o ax;have az:=Zh bf.1;have bz:=Zh (ar.o.2 _ _ ax);have aa:(!((bstr (It.bytes ⟨(kn:Nat),(U:Nat),0,noS⟩)).toList == (bstr ((xs.drop q).take (q+(t)-q))).toList))=false:=by
                      rw [show q+(t)-q=t by omega,ac];simp
                     refine Pl.q9 (ops:=Pl.fd 30 f162) ?_;refine ZfO (wr.alloc (.cells #[.int .i64 (kn:Nat),.int .i64 (U:Nat),.float .f64 0,.string noS] 182)) _ a len cap q (t) wr.heap.size xs ⟨(kn:Nat),(U:Nat),0,noS⟩ HI.o aq.o HC.o.le ai.o HC.o.big (Below.refl _ _) hm au.o (by rfl) (by rfl) (by rfl) (by rfl) (by rfl) (by rfl) ?_;intro u w' hb';rw [aa];have af:=Zao HI.o hb';have d0:=af.p0;have d1:=af.p1;have d2:=af.p2;have d3:=af.p3;simp only at d0 d1 d2 d3;have bc:=Zh (aj.o.trans (hb'.mono ab.o));have bw:Hi (OwnsI (w'.alloc (.cells #[.int .i64 (kn:Nat),.int .i64 (U:Nat),.float .f64 0,.string noS] 182)) (w.heap.size+1) u9 l):=(bv.o.keep hb' (Nat.le_refl _)).keep (Zab w' _) (Nat.le_refl _);have bt:Hi (Is (w'.alloc (.cells #[.int .i64 (kn:Nat),.int .i64 (U:Nat),.float .f64 0,.string noS] 182)) (some ⟨w'.heap.size,0,none⟩) 1 [⟨(kn:Nat),(U:Nat),0,noS⟩]):=Zdi w' ⟨(kn:Nat),(U:Nat),0,noS⟩ az.o;have ba:Hi (Below (w.heap.size+1) w2 (w'.alloc (.cells #[.int .i64 (kn:Nat),.int .i64 (U:Nat),.float .f64 0,.string noS] 182))):=bc.o.alloc (Nat.le_trans ap.o bc.o.size) _;(have bu:Hi (l.length+1≤1000000):=by show _≤_;rw [hL.o];omega);clear hb' hm ac ax bf aa af;simp only [Pl.pu,List.foldl,Act.put,List.setIfInBounds_toArray,List.set];go_wp2_with (at_builtin;refine Zaw _ rfl (.tmp 127) (.tmp 129) rfl (w.heap.size+1) _ l rfl bw.o _ _ _ [⟨(kn:Nat),(U:Nat),0,noS⟩] rfl bt.o (fun e=>by cases e) bu.o (Nat.le_trans ap.o ba.o.size) ?_);intro v3 w3 bh bd _;have bx:=Zh bh;have cb:=Zh (ba.o.trans bd);clear bh bd au am bp ah;(try clear bk);go_wp2;go_roundw
                     case rel=>exact ⟨j+1,q+(t),l ++ [⟨(kn:Nat),(U:Nat),0,noS⟩],by omega,ai.o,by go_num,by go_num,bx,Zh (fun z hz=>by
                      rcases List.mem_append.1 hz with h | h
                      · exact hF.o z h
                      · simp at h;rw [h];exact az.o),cb,bz,Zh (by rw [List.length_append,hL.o];rfl)⟩
                     case measure=>simp only [intOf];omega
                   · have HO:Hi (Zay xs ks=([],0,4)):=Zb4 ao.o HG.o (ar.o.1 (ah.o.2.1 hm ac));have aa:(!((bstr (It.bytes ⟨(kn:Nat),(U:Nat),0,noS⟩)).toList == (bstr ((xs.drop q).take (q+(t)-q))).toList))=true:=by
                      rw [show q+(t)-q=t by omega,ZhY (ZdJ hm).2 (fun x hx=>ay.o x (List.mem_of_mem_take hx)) ac];rfl
                     refine Pl.q9 (ops:=Pl.fd 30 f162) ?_;refine ZfO (wr.alloc (.cells #[.int .i64 (kn:Nat),.int .i64 (U:Nat),.float .f64 0,.string noS] 182)) _ a len cap q (t) wr.heap.size xs ⟨(kn:Nat),(U:Nat),0,noS⟩ HI.o aq.o HC.o.le ai.o HC.o.big (Below.refl _ _) hm au.o (by rfl) (by rfl) (by rfl) (by rfl) (by rfl) (by rfl) ?_;intro u w' hb';rw [aa];have al:=Zh (bj.o.trans ((aj.o.mono (Nat.le_succ _)).trans (hb'.mono (Nat.le_trans (Nat.le_succ _) ab.o))));clear hb' hm ac aa;simp only [Pl.pu,List.foldl,Act.put,List.setIfInBounds_toArray,List.set];go_wp2;go_ret3;unfold ZaS;rw [HO.o];exact⟨_,rfl,al.o,OwnsI.nil _ _,fun i hi=>by cases hi⟩
      · (have cs:j=klen:=by omega);subst cs;have HO:Hi (Zay xs ks=(l,q,0)):=by
         have:=hT.o;rw [List.drop_of_length_le (by rw [ao.o];exact Nat.le_refl _)] at this;simp only [tks] at this;rw [ZbZ (fun t ht=>HG.o t (by rw [← ao.o];exact ht)),this];trivial
        clear hT;go_wp2;go_ret3;unfold ZaS;rw [HO.o];exact⟨_,rfl,bn,hO.o.lower (Nat.le_succ _),hF.o⟩
def Vs (w:World) (a:Option Addr) (len:Nat) (vs:List Value):Prop:=
  vs.length=len∧(∀u∈vs,u.oneCell'=true)∧∀j,j<len→∃b off,a=some ⟨b,off,none⟩∧w.cell? ⟨b,off+j,none⟩=vs[j]?
theorem Vs.keep {len:Nat}{vs:List Value}(h:Vs w a len vs)(hb:Below B w w')(hB:w.heap.size≤B):Vs w' a len vs:=by
 refine⟨h.1,h.2.1,fun i hi=>?_⟩;obtain⟨b,off,ha,hc⟩:=h.2.2 i hi;(have hi':i<vs.length:=by rw [h.1];exact hi);(have hc':w.cell? ⟨b,off+i,none⟩=some vs[i]:=by rw [hc];simp [hi']);exact⟨b,off,ha,(hb.cell (Nat.lt_of_lt_of_le (World.block_lt_of_cell? w _ hc') hB)).trans hc⟩
def OwnsV (e:TypeId) (w:World) (base:Nat) (v:Value) (vs:List Value):Prop:=w.ownsRow base e 1 v vs.length vs
theorem OwnsV.nil (e:TypeId)(w:World)(base:Nat):OwnsV e w base (.slice none 0 0) []:=⟨rfl,.inl ⟨rfl,rfl⟩⟩
theorem OwnsV.lit (e:TypeId)(w:World)(base:Nat)(vs:List Value)(hb:base≤w.heap.size)(hm:vs.length≤1000000):OwnsV e (w.alloc (.cells vs.toArray e)) base (.slice (some ⟨w.heap.size,0,none⟩) vs.length vs.length) vs:=by
 have:=World.ownsRow_lit (base:=base) (e:=e) (size:=1) w vs.toArray vs.length hb (by unfold maxLen;omega) (by simp);simpa [OwnsV] using this
theorem OwnsV.keep {vs:List Value}(h:OwnsV e w base v vs)(hb:Below B w w')(hB:w.heap.size≤B):OwnsV e w' base v vs:=by
 refine⟨h.1,?_⟩;rcases h.2 with hn | ⟨g,cap,cur,hv,aa,hg,rest⟩
 · exact .inl hn
 · refine .inr ⟨g,cap,cur,hv,aa,?_,rest⟩;rw [hb.block g (Nat.lt_of_lt_of_le (Array.getElem?_eq_some_iff.1 hg).1 hB)];exact hg
theorem OwnsV.lower {b':Nat}{vs:List Value}(h:OwnsV e w b v vs)(hb:b'≤b):OwnsV e w b' v vs:=by
 refine⟨h.1,?_⟩;rcases h.2 with hn | ⟨g,cap,cur,hv,aa,rest⟩
 · exact .inl hn
 · exact .inr ⟨g,cap,cur,hv,Nat.le_trans hb aa,rest⟩
def Zlw (e:TypeId) (w w':World):Prop:=∀(p:Nat) (C:Array Value) (t:TypeId) (fr:Nat × Nat),w.heap[p]? = some (Obj.cells C t fr)→t≠e→w'.heap[p]? = w.heap[p]?
theorem OwnsV.stay {e':TypeId}{vs:List Value}(h:OwnsV e w base v vs)(hs:Zlw e' w w')(ab:e≠e'):OwnsV e w' base v vs:=by
 refine⟨h.1,?_⟩;rcases h.2 with hn | ⟨g,cap,cur,hv,aa,hg,rest⟩
 · exact .inl hn
 · exact .inr ⟨g,cap,cur,hv,aa,(hs g _ _ _ hg ab).trans hg,rest⟩
theorem OwnsV.vs {vs:List Value}(h:OwnsV e w base v vs)(h1:∀u∈vs,u.oneCell'=true) :
    ∃a cap,v=.slice a vs.length cap∧Vs w a vs.length vs∧(a=none→cap=0)∧vs.length≤cap:=by
  rcases h.2 with ⟨hv,h0⟩ | ⟨g,cap,cur,hv,ab,hg,aa,hr⟩
  · refine⟨none,0,by rw [h0];exact hv,⟨rfl,h1,fun i hi=>by omega⟩,fun _=>rfl,by omega⟩
  · refine⟨some ⟨g,0,none⟩,cap,hv,⟨rfl,h1,fun i hi=>⟨g,0,rfl,?_⟩⟩,(fun e=>by cases e),aa⟩;rw [hv] at h;have:=World.ownsRow.cellAt h i (by omega);rw [Nat.zero_add,this]
theorem OwnsV.ne {vs:List Value}(h:OwnsV e w base v vs){C:Array Value}{fr:Nat × Nat}(hp:w.heap[p]? = some (Obj.cells C t fr))(ht:t≠e):v.ownBlock≠some p:=by
 intro e';rcases h.2 with ⟨hv,_⟩ | ⟨g,cap,cur,hv,_,hg,_⟩
 · rw [hv] at e';cases e'
 · rw [hv] at e';simp [Value.ownBlock] at e';subst e';rw [hg] at hp;simp only [Option.some.injEq,Obj.cells.injEq] at hp;exact ht hp.2.1.symm
structure One (S e:TypeId) (z:Value) (bytes:Nat):Prop where
  slice:prog.underlying S=some (.slice e)
  info:(prog.info? e).map (fun i=>(i.zero,i.size,i.bytes))=some (some z,1,bytes)
  zs:z.cells.size=1
  small:bytes≤8
theorem Zcl {S:TypeId}{z:Value}{bytes:Nat}(O:One S e z bytes)(w:World)(ty:TypeId)(base:Nat)(v:Value)(us:List Value)(aa:OwnsV e w base v us)(ao:Option Addr)(len cap:Nat)(vs:List Value)(hb:Vs w ao len vs)(hn:ao=none→cap=0)
    (af:us.length+len≤1000000)(ab:base≤w.heap.size) :
    ∃v' w',(Builtin.append_ #[S,S] ty #[v,.slice ao len cap]).run prog w=.ok v' w'∧OwnsV e w' base v' (us ++ vs)∧Below base w w'∧Zlw e w w':=by
  obtain⟨i0,hi,ai,aj,ak⟩:=info_parts O.info;have ag:∀k,v.ownBlock=some k→base≤k:=fun k hk=>(World.ownsRow.lt aa k hk).1;have ah:=hb.1;cases ao with
  | none =>
   obtain rfl:=hn rfl;have h0:len=0:=by
    rcases Nat.eq_zero_or_pos len with h | h
    · exact h
    · obtain⟨_,_,e',_⟩:=hb.2.2 0 h;cases e'
   subst h0;have hy:vs=[]:=List.eq_nil_of_length_eq_zero ah;subst hy;have ae:=run_append_owned_none (P:=prog) (w:=w) base S ty e i0 1 O.slice hi v us.length us aa;exact⟨v,w,ae,by simpa using aa,Below.refl _ _,fun _ _ _ _ _ _=>rfl⟩
  | some ad =>
   have ac:∀j u,vs[j]? = some u→w.cell? (ad.add j)=some u:=by
    intro j u hj;have al:j<vs.length:=(List.getElem?_eq_some_iff.1 hj).1;obtain⟨b,off,e',hc⟩:=hb.2.2 j (by omega);obtain rfl:=Option.some.inj e';rw [Addr.add_lit,hc,hj]
   obtain⟨v',w',ae,ho,hg,_⟩:=run_append_own (P:=prog) w base S ty e i0 z 1 bytes O.slice hi ai aj ak O.zs (by decide) v us.length us aa ad len cap vs (by rw [ah,Nat.mul_one]) ac hb.2.1
    (by unfold maxLen;omega) (by have:=O.small;have:(us.length+len)*bytes≤1000000*8:=Nat.mul_le_mul af O.small;omega) ab
   refine⟨v',w',ae,?_,(Below.refl base w).grown hg ab ag,fun p C t fr hp ht=>hg.block p (Array.getElem?_eq_some_iff.1 hp).1 (aa.ne hp ht).symm⟩;unfold OwnsV;rw [List.length_append,ah];exact ho
theorem ZaJ {S:TypeId}{z:Value}{bytes:Nat}(O:One S e z bytes)(w:World){ops:Array Oper}{rest:List Oper}{o:Oper}{a:Act}{Q:Exit→Act→World→Prop}(ae:o.guard=none)(s x:Operand)
    (ho:o.op=.call { callee:=.builtin .append,args:=#[s,x],argTypes:=#[S,S] })(base:Nat)(v:Value)(us:List Value)(hs:a.eval s=v)(ac:OwnsV e w base v us)
    (ao:Option Addr)(len cap:Nat)(vs:List Value)(hx:a.eval x=.slice ao len cap)(hb:Vs w ao len vs)(hn:ao=none→cap=0)
    (ab:us.length+len≤1000000)(aa:base≤w.heap.size)
    (hK:∀v' w',OwnsV e w' base v' (us ++ vs)→Below base w w'→Zlw e w w'→wpList prog ops Q rest (a.put o.dst v') w'):wpList prog ops Q (o :: rest) a w:=by
  refine wpList_plain ae fun K hK'=>?_;obtain⟨v',w',ad,r1,r2,r3⟩:=Zcl O w o.type base v us ac ao len cap vs hb hn ab aa;unfold Oper.wp;simp [execOp,ho,resolve,invoke,builtin,hs,hx,ad,Result.andThen];exact hK' _ _ (hK v' w' r1 r2 r3)
theorem ZjQ (e:TypeId)(w:World)(u:Value)(h:u.oneCell'=true):Vs (w.alloc (.cells #[u] e)) (some ⟨w.heap.size,0,none⟩) 1 [u]:=by
 refine⟨rfl,fun x hx=>by simp at hx;rw [hx];exact h,fun j hj=>?_⟩;(obtain rfl:j=0:=by omega);refine⟨w.heap.size,0,rfl,?_⟩;have:=heap_alloc_new w (.cells #[u] e);simp only [World.cell?,Nat.add_zero,this];rfl
def kVals (ks:List Int):List Value:=ks.map (Value.int .i64)
theorem Zhv (ks:List Int):∀u∈kVals ks,u.oneCell'=true:=by
 intro u hu;obtain⟨_,_,rfl⟩:=List.mem_map.1 hu;rfl
def fVals (xs:List Nat):List Value:=xs.map (Value.float .f64)
theorem Zhi (xs:List Nat):∀u∈fVals xs,u.oneCell'=true:=by
 intro u hu;obtain⟨_,_,rfl⟩:=List.mem_map.1 hu;rfl
structure Rw where
  key:Nat
  dead:Bool
  xs:List Nat
  wr:Int
  cell:Int
  no:Int
def Rw.val (r:Rw) (c:Value):Value:=.agg #[.float .f64 r.key,.bool r.dead,c,.int .i64 r.wr,.int .i64 r.cell,.int .i64 r.no]
structure Rw.fits (r:Rw):Prop where
  key:r.key<18446744073709551616
  xs:∀x∈r.xs,x<18446744073709551616
  wr:(Lit.int .i64 r.wr).wf=true
  cell:(Lit.int .i64 r.cell).wf=true
  no:(Lit.int .i64 r.no).wf=true
structure Fs (w:World) (a:Option Addr) (len cap:Nat) (xs:List Nat):Prop where
  vs:Vs w a len (fVals xs)
  fit:∀x∈xs,x<18446744073709551616
  nil:a=none→cap=0
  le:len≤cap
  big:len≤9223372036854775807
theorem Fs.keep {len:Nat}(h:Fs w a len cap xs)(hb:Below B w w')(hB:w.heap.size≤B):Fs w' a len cap xs:=⟨h.vs.keep hb hB,h.fit,h.nil,h.le,h.big⟩
theorem Fs.len {len:Nat}(h:Fs w a len cap xs):xs.length=len:=by
 have:=h.vs.1;simpa [fVals] using this
theorem Fs.at {len:Nat}(h:Fs w a len cap xs)(k:Nat)(hk:k<len):∃b off,a=some ⟨b,off,none⟩∧w.cell? ⟨b,off+k,none⟩=some (.float .f64 (xs.getD k 0))∧xs.getD k 0∈xs∧xs.getD k 0<18446744073709551616:=by
 obtain⟨b,off,ha,hc⟩:=h.vs.2.2 k hk;(have hk':k<xs.length:=by rw [h.len];exact hk);(have hm:xs.getD k 0∈xs:=by simp [List.getD,hk']);refine⟨b,off,ha,?_,hm,h.fit _ hm⟩;rw [hc];simp [fVals,List.getD,hk']
theorem Zm0:One 35 32 (.float .f64 0) 8:=⟨underlying35,by kernel_rfl,by kernel_rfl,by decide⟩
theorem ZjD:One 29 3 (.int .i64 0) 8:=⟨underlying29,by kernel_rfl,by kernel_rfl,by decide⟩
def haveB (dead:Bool) (xs:List Nat):Bool:=decide (xs.length≤4) && !(dead && decide (0<xs.length)) && xs.all (fun x=>x == Fl.val x)
def cntB (n:Int):Bool:=decide (0≤n) && decide (n≤2147483647)
def rollB (c n:Int):Bool:=if c=0 then n == 0 else decide (0<c) && decide (c≤65535) && cntB n
def Rw.may (r:Rw):Bool:=(r.key == Fl.key r.key) && haveB r.dead r.xs && cntB r.wr && rollB r.cell r.no
theorem Zmg (x:Nat)(hx:x<18446744073709551616)(w:World):Calls prog 175 #[.float .f64 x] w fun e w'=>e=.returned (.bool (x == Fl.key x))∧w'=w:=by
 have H1:=Zh (Zix x hx);have H2:=Zh (Zdv x (Fl.key x));clear hx;generalize Fl.key x=k at *;go_enter func175,ntmps175;go_wp2_with fail;refine(H1.o _).mono ?_;rintro e w' ⟨rfl,hw⟩;obtain rfl:=hw.symm;go_wp2_with fail;refine(H2.o _).mono ?_;rintro e w' ⟨rfl,hw⟩;obtain rfl:=hw.symm;go_wp2;go_ret;exact⟨rfl,rfl⟩
theorem Ziw (x:Nat)(hx:x<18446744073709551616)(w:World):Calls prog 198 #[.float .f64 x] w fun e w'=>e=.returned (.bool (x == Fl.val x))∧w'=w:=by
 have H1:=Zh (Zfs x hx);have H2:=Zh (Zdv x (Fl.val x));clear hx;generalize Fl.val x=k at *;go_enter func198,ntmps198;go_wp2_with fail;refine(H1.o _).mono ?_;rintro e w' ⟨rfl,hw⟩;obtain rfl:=hw.symm;go_wp2_with fail;refine(H2.o _).mono ?_;rintro e w' ⟨rfl,hw⟩;obtain rfl:=hw.symm;go_wp2;go_ret;exact⟨rfl,rfl⟩
theorem ZeP (n:Int)(w:World):Calls prog 177 #[.int .i64 n] w fun e w'=>e=.returned (.bool (cntB n))∧w'=w:=by
 unfold cntB;go_enter func177,ntmps177;go_wp2_with fail;all_goals (go_ret;exact ⟨by simp [*] <;> (intros;omega),rfl⟩)
theorem Zi4 (c n:Int)(w:World):Calls prog 178 #[.agg #[.int .i64 c,.int .i64 n]] w fun e w'=>e=.returned (.bool (rollB c n))∧Bl w w':=by
 have HC:=Zh (ZeP n);have HW:Hi (∀o,Bl w (w.alloc o)):=Zab w;by_cases h0:c=0
 · subst h0;(have e:rollB 0 n=(n == 0):=by simp [rollB]);rw [e];clear e;go_enter func178,ntmps178;go_wp2_with fail;all_goals (go_ret;exact ⟨by simp [*],HW.o _⟩)
 · (have e:rollB c n=(decide (0<c) && decide (c≤65535) && cntB n):=by simp [rollB,h0]);rw [e];have e0:(c == 0)=false:=beq_eq_false_iff_ne.2 h0;clear e h0;generalize cntB n=m at *;by_cases h1:0<c
   · by_cases h2:c≤65535
     · go_enter func178,ntmps178;go_wp2_with fail;refine(HC.o _).mono ?_;rintro e w' ⟨rfl,hw⟩;obtain rfl:=hw.symm;go_wp2;go_ret;exact⟨by simp [*],HW.o _⟩
     · go_enter func178,ntmps178;go_wp2;go_ret;exact⟨by simp [*] <;> (intros;omega),HW.o _⟩
   · go_enter func178,ntmps178;go_wp2;go_ret;exact⟨by simp [*] <;> (intros;omega),HW.o _⟩
theorem Zi3 (a:Option Addr)(len cap:Nat)(xs:List Nat)(dead:Bool)(w:World)(h:Fs w a len cap xs):Calls prog 176 #[.slice a len cap,.bool dead] w fun e w'=>e=.returned (.bool (haveB dead xs))∧w'=w:=by
 have H:=Zh h;have HL:=Zh h.len;have af:=h.big;clear h;cases dead
 · by_cases h4:len≤4
   · (have i1:¬(4:Int)<(len:Int):=by omega);go_enter func176,ntmps176;go_wp2_with fail;go_loop [16] (fun i=>∃k:Nat,k≤len∧i=.int .i64 k∧Hi (∀j,j<k→(xs.getD j 0 == Fl.val (xs.getD j 0))=true)) (fun i=>len-(intOf i).toNat)
     case atStart=>exact ⟨0,by omega,rfl,fun j hj=>by omega⟩
     case round =>
      obtain⟨k,hk,rfl,ab⟩:=hrel;rcases Nat.lt_or_ge k len with ag | ah
      · obtain⟨b,off,rfl,hc,aa,hx⟩:=H.o.at k ag;obtain⟨x,ac⟩:∃x,x=xs.getD k 0:=⟨_,rfl⟩;rw [← ac] at hc aa hx;have ae:=Zh ac;have HV:=Zh (Ziw x hx);have HM:=Zh aa;clear aa ac;obtain⟨m,hm⟩:∃m,m=(x == Fl.val x):=⟨_,rfl⟩;rw [← hm] at HV;have ad:=Zh hm;clear hm hx;cases m
        · have HN:Hi (haveB false xs=false):=by
           have:xs.all (fun x=>x == Fl.val x)=false:=List.all_eq_false.2 ⟨x,HM.o,by rw [← ad.o];decide⟩;show _=_;simp [haveB,this]
          go_wp2_with fail;refine(HV.o _).mono ?_;rintro e w' ⟨rfl,hw⟩;obtain rfl:=hw.symm;go_wp2;go_ret;exact⟨by rw [HN.o];rfl,rfl⟩
        · go_wp2_with fail;refine(HV.o _).mono ?_;rintro e w' ⟨rfl,hw⟩;obtain rfl:=hw.symm;go_wp2;go_round
          case rel =>
           refine⟨k+1,by omega,by go_num,?_⟩;intro j hj;by_cases e:j=k
           · rw [e,← ae.o];exact ad.o.symm
           · exact ab.o j (by omega)
          case measure=>simp only [intOf];omega
      · have HN:Hi (haveB false xs=true):=by
         have:xs.all (fun x=>x == Fl.val x)=true:=by
          rw [List.all_eq_true];intro x hx;obtain⟨j,hj,rfl⟩:=List.getElem_of_mem hx;have:=ab.o j (by rw [HL.o] at hj;omega);simpa [List.getD,hj] using this
         show _=_;simp only [haveB,this,HL.o,decide_eq_true h4];rfl
        go_wp2;go_ret;exact⟨by rw [HN.o];rfl,rfl⟩
   · (have i1:(4:Int)<(len:Int):=by omega);(have e:haveB false xs=false:=by simp [haveB,HL.o,h4]);rw [e];go_enter func176,ntmps176;go_wp2;go_ret;exact⟨rfl,rfl⟩
 · by_cases h0:len=0
   · subst h0;have e:haveB true xs=true:=by
      have:xs=[]:=List.eq_nil_of_length_eq_zero HL.o;rw [this];rfl
     rw [e];go_enter func176,ntmps176;go_wp2;go_ret;exact⟨rfl,rfl⟩
   · have e:haveB true xs=false:=by
      (have:0<xs.length:=by rw [HL.o];omega);simp [haveB,this]
     rw [e];have i1:((len:Int) == 0)=false:=beq_eq_false_iff_ne.2 (by omega);go_enter func176,ntmps176;go_wp2;go_ret;exact⟨rfl,rfl⟩
end Go.Proofs.YtiecfcjlhldhdaaGreat
