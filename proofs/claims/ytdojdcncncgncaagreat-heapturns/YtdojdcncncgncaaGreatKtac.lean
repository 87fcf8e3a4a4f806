/-
  Lemmas.
-/
import Derived.Deep.RegionHeld3
import Derived.BigCall
import Derived.KernelRfl
import Derived.WalkKit
import Derived.Test.YtdojdcncncgncaaGreatKtab
namespace Go.Proofs.YtdojdcncncgncaaGreat
open Go.RowKit
set_option linter.unusedVariables false
set_option maxRecDepth 100000
set_option maxHeartbeats 4000000
variable {A:Act}{n:Nat}
namespace Pl
def At (n:Nat) (A:Act) (f:Nat→Value):Prop:=A.tmps.size=n∧A.defers=[]∧∀d,d<n→A.tmps.getD d undef=f d
def upd (f:Nat→Value) (d:Nat) (v:Value):Nat→Value:=fun e=>if e=d then v else f e
theorem At.here (hn:A.tmps.size=n)(h:A.defers=[]):At n A (fun d=>A.tmps.getD d undef):=⟨hn,h,fun _ _=>rfl⟩
def At.fn {n : Nat} {A : Act} {f : Nat → Value} (_ : At n A f) : Nat → Value := f
theorem At.put {n:Nat}{A:Act}{f:Nat→Value}(h:At n A f)(d:Nat)(v:Value):At n (A.put (some d) v) (upd f d v):=by
 refine⟨by simpa [Act.put] using h.1,by simpa [Act.put] using h.2.1,fun e he=>?_⟩;have hs:=h.1;simp only [Act.put,upd];by_cases aa:e=d
 · subst aa;rw [if_pos rfl];simp [Array.getD,hs,he]
 · rw [if_neg aa,← h.2.2 e he];have ab:d≠e:=fun x=>aa x.symm;simp [Array.getD,hs,he,ab]
theorem At.ext {B:Act}{f:Nat→Value}(h:At n A f)(k:At n B f):A=B:=by
 have e1:A.tmps=B.tmps:=by
  apply Array.ext
  · rw [h.1,k.1]
  · intro i h1 h2;have ha:=h.2.2 i (by have:=h.1;omega);have hb:=k.2.2 i (by have:=h.1;omega);simp only [Array.getD,h1,h2,dif_pos] at ha hb;exact ha.trans hb.symm
 (have e2:A.defers=B.defers:=by rw [h.2.1,k.2.1]);cases A;cases B;simp only at e1 e2;rw [e1,e2]
def ev (f:Nat→Value):Operand→Value
  | .tmp t=>f t
  | .const v=>v
  | .global g=>.pointer (some ⟨g,0,none⟩)
  | .func g=>.func (.func g) #[] #[]
def inB (n:Nat):Operand→Bool
  | .tmp t=>decide (t<n)
  | _=>true
theorem At.ev {f:Nat→Value}(h:At n A f)(x:Operand)(hx:inB n x=true):A.eval x=ev f x:=by
 cases x with
 | tmp t=>exact h.2.2 t (by simpa [inB] using hx)
 | const v=>rfl
 | global g=>rfl
 | func g=>rfl
section
variable {P : Program} {ops : Array Oper} {S : World → Prop} {Q : Exit → Act → World → Prop} {n fuel : Nat} {listed : Array Bool} {f : Nat → Value} {w : World}
def H (P:Program) (ops:Array Oper) (S:World→Prop) (Q:Exit→Act→World→Prop) (n fuel:Nat) (listed:Array Bool) (f:Nat→Value) (w:World):Prop:=
  ∀A,At n A f→wpAnyH P .any ops (NoPanic Q) S fuel listed A w
theorem H.start {id:Nat}(hm:P.follows .mixedOrders=true)(hA:At n A f)(hS:S w.drew)(h:H P ops S Q n ops.size (Array.replicate ops.size false) f w.drew) :
    (Code.region id ops true).wp P Q A w:=
  wp_region_noPanic (wp_region_held_drew (S:=S) hm hS (fun _=>h A hA))

theorem qa {id:Nat}{A:Act}(hA:At n A f)(hS:S w.drew)(h:H P ops S Q n ops.size (Array.replicate ops.size false) f w.drew)(hm:P.follows .mixedOrders=true:=by kernel_rfl):(Code.region id ops true).wp P Q A w:=H.start hm hA hS h
theorem H.done (hr:Region.ready .any ops listed=[])(h:∀A,At n A f→Q .normal A w):H P ops S Q n fuel listed f w:=
 fun A hA=>wpAnyH_done hr (NoPanic.normal (h A hA)) _

theorem q7 (h:∀A,At n A f→Q .normal A w)(hr:Region.ready .any ops listed=[]:=by kernel_rfl):H P ops S Q n fuel listed f w:=H.done hr h
def first (ops:Array Oper) (listed:Array Bool) (i:Nat):Bool:=Region.noSelect ops && Region.free .any ops listed i && (Region.ready .any ops listed).contains i
def op (ops:Array Oper) (i:Nat):Oper:=ops.getD i default
theorem H.take (i d:Nat)(v:Value)(hi:ops[i]? = some (op ops i))(hd:(op ops i).dst=some d)(hc:first ops listed i=true)
    (hw:∀A,At n A f→Region.wanted (op ops i) (yielded ops A.tmps)=true)
    (hy:∀A,At n A f→∀w,S w→(execOp A.eval (op ops i)).run P w=.ok (.value v) w)(hS:S w)
    (h:H P ops S Q n fuel (listed.setIfInBounds i true) (upd f d v) w):H P ops S Q n (fuel+1) listed f w:=by
  intro A hA;simp only [first,Bool.and_eq_true] at hc;refine wpAnyH_take (i:=i) (oi:=op ops i) (v:=v) hi hc.1.1 hc.1.2 hc.2 (fun _ _ _ h=>h) (.inl ⟨hw A hA,hy A hA⟩) hS (h _ ?_);rw [hd];exact hA.put d v

theorem q0 (i:Nat)(d:Nat)(v:Value)(hw:∀A,At n A f→Region.wanted (op ops i) (yielded ops A.tmps)=true)(hy:∀A,At n A f→∀w,S w→(execOp A.eval (op ops i)).run P w=.ok (.value v) w)(hS:S w)(h:H P ops S Q n fuel (listed.setIfInBounds i true) (upd f d v) w)(hi:ops[i]? = some (op ops i):=by kernel_rfl)(hd:(op ops i).dst=some d:=by kernel_rfl)(hc:first ops listed i=true:=by kernel_rfl):H P ops S Q n (fuel+1) listed f w:=H.take i d v hi hd hc hw hy hS h
theorem H.solo (i d:Nat)(v:Value)(hi:ops[i]? = some (op ops i))(hd:(op ops i).dst=some d)(hr:Region.ready .any ops listed=[i])
    (hw:∀A,At n A f→Region.wanted (op ops i) (yielded ops A.tmps)=true)
    (hy:∀A,At n A f→(execOp A.eval (op ops i)).run P w=.ok (.value v) w)(hS:S w)
    (h:H P ops S Q n fuel (listed.setIfInBounds i true) (upd f d v) w):H P ops S Q n (fuel+1) listed f w:=by
  intro A hA;refine wpAnyH_all hr (by simp) ?_;intro j hj;(obtain rfl:j=i:=by simpa using hj);unfold wpOp;rw [hi];simp only [hw A hA,if_true];refine .inl ?_;unfold Oper.wp;rw [hy A hA];refine⟨hS,h _ ?_⟩;rw [hd];exact hA.put d v

theorem qu (i:Nat)(d:Nat)(v:Value)(hw:∀A,At n A f→Region.wanted (op ops i) (yielded ops A.tmps)=true)(hy:∀A,At n A f→(execOp A.eval (op ops i)).run P w=.ok (.value v) w)(hS:S w)(h:H P ops S Q n fuel (listed.setIfInBounds i true) (upd f d v) w)(hi:ops[i]? = some (op ops i):=by kernel_rfl)(hd:(op ops i).dst=some d:=by kernel_rfl)(hr:Region.ready .any ops listed=[i]:=by kernel_rfl):H P ops S Q n (fuel+1) listed f w:=H.solo i d v hi hd hr hw hy hS h
theorem H.make (i d:Nat)(v:Value)(w':World)(hi:ops[i]? = some (op ops i))(hd:(op ops i).dst=some d)(hr:Region.ready .any ops listed=[i])
    (hw:∀A,At n A f→Region.wanted (op ops i) (yielded ops A.tmps)=true)
    (hy:∀A,At n A f→(execOp A.eval (op ops i)).run P w=.ok (.value v) w')(hS:S w')
    (h:H P ops S Q n fuel (listed.setIfInBounds i true) (upd f d v) w'):H P ops S Q n (fuel+1) listed f w:=by
  intro A hA;refine wpAnyH_all hr (by simp) ?_;intro j hj;(obtain rfl:j=i:=by simpa using hj);unfold wpOp;rw [hi];simp only [hw A hA,if_true];refine .inl ?_;unfold Oper.wp;rw [hy A hA];refine⟨hS,h _ ?_⟩;rw [hd];exact hA.put d v

theorem qo (i:Nat)(d:Nat)(v:Value)(w':World)(hw:∀A,At n A f→Region.wanted (op ops i) (yielded ops A.tmps)=true)(hy:∀A,At n A f→(execOp A.eval (op ops i)).run P w=.ok (.value v) w')(hS:S w')(h:H P ops S Q n fuel (listed.setIfInBounds i true) (upd f d v) w')(hi:ops[i]? = some (op ops i):=by kernel_rfl)(hd:(op ops i).dst=some d:=by kernel_rfl)(hr:Region.ready .any ops listed=[i]:=by kernel_rfl):H P ops S Q n (fuel+1) listed f w:=H.make i d v w' hi hd hr hw hy hS h
theorem H.call (i d g:Nat)(xs:List Operand)(ts:Array TypeId)(hi:ops[i]? = some (op ops i))(hd:(op ops i).dst=some d)(hr:Region.ready .any ops listed=[i])
    (hw:∀A,At n A f→Region.wanted (op ops i) (yielded ops A.tmps)=true)
    (ad:(op ops i).op=.call { callee:=.value (.func g),args:=xs.toArray,argTypes:=ts })(hx:xs.all (inB n)=true)
    (ac:∀args w,(callFunc g args).run P w=.ok (.enter g args) w)
    (h:Calls P g (xs.map (ev f)).toArray w fun e w'=>∃v,e=.returned v∧S w'∧H P ops S Q n fuel (listed.setIfInBounds i true) (upd f d v) w') :
    H P ops S Q n (fuel+1) listed f w:=by
  intro A hA;refine wpAnyH_all hr (by simp) ?_;intro j hj;(obtain rfl:j=i:=by simpa using hj);unfold wpOp;rw [hi];simp only [hw A hA,if_true];refine .inl ?_;have aa:#[] ++ xs.toArray.map A.eval ++ #[]=(xs.map (ev f)).toArray:=by
   simp only [Array.empty_append,Array.append_empty,List.map_toArray];congr 1;apply List.map_congr_left;intro x ae;exact hA.ev x (List.all_eq_true.1 hx x ae)
  have ab:(execOp A.eval (op ops j)).run P w=.ok (.enter g (xs.map (ev f)).toArray) w:=by
   have e:execOp A.eval (op ops j)=callFunc g (#[] ++ xs.toArray.map A.eval ++ #[]):=by
    unfold execOp;rw [ad];rfl
   rw [e,aa];exact ac _ _
  unfold Oper.wp;rw [ab];refine h.mono ?_;rintro e w' ⟨v,rfl,hS,hh⟩;refine⟨hS,hh _ ?_⟩;rw [hd];exact hA.put d v

theorem qd (i:Nat)(d:Nat)(g:Nat)(xs:List Operand)(ts:Array TypeId)(hw:∀A,At n A f→Region.wanted (op ops i) (yielded ops A.tmps)=true)(hfn:∀args w,(callFunc g args).run P w=.ok (.enter g args) w)(h:Calls P g (xs.map (ev f)).toArray w fun e w'=>∃v,e=.returned v∧S w'∧H P ops S Q n fuel (listed.setIfInBounds i true) (upd f d v) w')(hi:ops[i]? = some (op ops i):=by kernel_rfl)(hd:(op ops i).dst=some d:=by kernel_rfl)(hr:Region.ready .any ops listed=[i]:=by kernel_rfl)(hop:(op ops i).op=.call { callee:=.value (.func g),args:=xs.toArray,argTypes:=ts }:=by kernel_rfl)(hx:xs.all (inB n)=true:=by decide):H P ops S Q n (fuel+1) listed f w:=H.call i d g xs ts hi hd hr hw hop hx hfn h
theorem free (i:Nat)(h:(op ops i).guard=none):∀A,At n A f→Region.wanted (op ops i) (yielded ops A.tmps)=true:=by
 intro A _;simp [Region.wanted,h]

theorem q1 {i:Nat}(h:(op ops i).guard=none:=by kernel_rfl):∀A,At n A f→Region.wanted (op ops i) (yielded ops A.tmps)=true:=free i h
theorem guarded (i j dj:Nat)(b:Bool)(h:(op ops i).guard=some (j,b))(hj:(ops[j]?).bind (·.dst)=some dj)(hn:dj<n)(hv:f dj=.bool b) :
    ∀A,At n A f→Region.wanted (op ops i) (yielded ops A.tmps)=true:=by
  intro A hA;have hs:=hA.1;have h1:=hA.2.2 dj hn;have h2:A.tmps[dj]? = some (.bool b):=by
   rw [hv] at h1;(have aa:dj<A.tmps.size:=by omega);simp only [Array.getD,aa,dif_pos] at h1;rw [Array.getElem?_eq_getElem aa];exact congrArg some h1
  simp [Region.wanted,h,yielded,hj,h2]

theorem q4 {i:Nat}(j:Nat)(dj:Nat)(b:Bool)(h:(op ops i).guard=some (j,b):=by kernel_rfl)(hj:(ops[j]?).bind (·.dst)=some dj:=by kernel_rfl)(hn:dj<n:=by decide)(hv:f dj=.bool b:=by exact rfl):∀A,At n A f→Region.wanted (op ops i) (yielded ops A.tmps)=true:=guarded i j dj b h hj hn hv
theorem move (i:Nat)(x:Operand)(h:(op ops i).op=.move x)(hx:inB n x=true):∀A,At n A f→∀w,S w→(execOp A.eval (op ops i)).run P w=.ok (.value (ev f x)) w:=by
 intro A hA w _;rw [BigFrame.run_move x h,hA.ev x hx]

theorem q2 {i:Nat}(x:Operand)(h:(op ops i).op=.move x:=by kernel_rfl)(hx:inB n x=true:=by decide):∀A,At n A f→∀w,S w→(execOp A.eval (op ops i)).run P w=.ok (.value (ev f x)) w:=move i x h hx
theorem assign (i:Nat)(x:Operand)(h:(op ops i).op=.assign x)(hx:inB n x=true):∀A,At n A f→∀w,S w→(execOp A.eval (op ops i)).run P w=.ok (.value (ev f x)) w:=by
 intro A hA w _;rw [BigFrame.run_assign x h,hA.ev x hx]

theorem qf {i:Nat}(x:Operand)(h:(op ops i).op=.assign x:=by kernel_rfl)(hx:inB n x=true:=by decide):∀A,At n A f→∀w,S w→(execOp A.eval (op ops i)).run P w=.ok (.value (ev f x)) w:=assign i x h hx
theorem pick (i:Nat)(c x y:Operand)(h:(op ops i).op=.pick c x y)(hc:inB n c=true)(hx:inB n x=true)(hv:ev f c=.bool true) :
    ∀A,At n A f→∀w,S w→(execOp A.eval (op ops i)).run P w=.ok (.value (ev f x)) w:=by
  intro A hA w _;have e:execOp A.eval (op ops i)=(do pure (.value (if ← asBool (A.eval c) then A.eval x else A.eval y))):=by
   unfold execOp;rw [h]
  rw [e,hA.ev c hc,hv,hA.ev x hx];rfl

theorem qn {i:Nat}(c:Operand)(x:Operand)(y:Operand)(h:(op ops i).op=.pick c x y:=by kernel_rfl)(hc:inB n c=true:=by decide)(hx:inB n x=true:=by decide)(hv:ev f c=.bool true:=by exact rfl):∀A,At n A f→∀w,S w→(execOp A.eval (op ops i)).run P w=.ok (.value (ev f x)) w:=pick i c x y h hc hx hv
theorem conv (i:Nat)(src dst:TypeId)(x:Operand)(v:Value)(h:(op ops i).op=.convert src dst x)(hx:inB n x=true)(hv:∀w,S w→(convert src dst (ev f x)).run P w=.ok v w) :
    ∀A,At n A f→∀w,S w→(execOp A.eval (op ops i)).run P w=.ok (.value v) w:=by
  intro A hA w hS;have e:execOp A.eval (op ops i)=(do pure (.value (← convert src dst (A.eval x)))):=by
   unfold execOp;rw [h]
  rw [e,hA.ev x hx];simp [hv w hS]
theorem conv1 (i:Nat)(src dst:TypeId)(x:Operand)(v:Value)(h:(op ops i).op=.convert src dst x)(hx:inB n x=true)(hv:(convert src dst (ev f x)).run P w=.ok v w) :
    ∀A,At n A f→(execOp A.eval (op ops i)).run P w=.ok (.value v) w:=by
  intro A hA;have e:execOp A.eval (op ops i)=(do pure (.value (← convert src dst (A.eval x)))):=by
   unfold execOp;rw [h]
  rw [e,hA.ev x hx];simp [hv]

theorem q_39 {i:Nat}{v:Value}(src:TypeId)(dst:TypeId)(x:Operand)(hv:(convert src dst (ev f x)).run P w=.ok v w)(h:(op ops i).op=.convert src dst x:=by kernel_rfl)(hx:inB n x=true:=by decide):∀A,At n A f→(execOp A.eval (op ops i)).run P w=.ok (.value v) w:=conv1 i src dst x v h hx hv
theorem slice (i:Nat)(t:TypeId)(x:Operand)(lo hi:Option Operand)(v:Value)(h:(op ops i).op=.slice t x lo hi none)(hx:inB n x=true)(hl:lo.all (inB n)=true)(hh:hi.all (inB n)=true)
    (hv:∀w,(Instr.sliceAt t (ev f x) (lo.map (ev f)) (hi.map (ev f)) none).run P w=.ok v w):∀A,At n A f→∀w,S w→(execOp A.eval (op ops i)).run P w=.ok (.value v) w:=by
  intro A hA w _;have e1:lo.map A.eval=lo.map (ev f):=by
   cases lo with
   | none=>rfl
   | some y=>exact congrArg some (hA.ev y (by simpa using hl))
  have e2:hi.map A.eval=hi.map (ev f):=by
   cases hi with
   | none=>rfl
   | some y=>exact congrArg some (hA.ev y (by simpa using hh))
  have e:execOp A.eval (op ops i)=(do pure (.value (← Instr.sliceAt t (A.eval x) (lo.map A.eval) (hi.map A.eval) none))):=by
   unfold execOp;rw [h];rfl
  rw [e,hA.ev x hx,e1,e2];simp [hv w]

theorem q_36 {i:Nat}{v:Value}(t:TypeId)(x:Operand)(lo:Option Operand)(hi:Option Operand)(hv:∀w,(Instr.sliceAt t (ev f x) (lo.map (ev f)) (hi.map (ev f)) none).run P w=.ok v w)(h:(op ops i).op=.slice t x lo hi none:=by kernel_rfl)(hx:inB n x=true:=by decide)(hl:lo.all (inB n)=true:=by decide)(hh:hi.all (inB n)=true:=by decide):∀A,At n A f→∀w,S w→(execOp A.eval (op ops i)).run P w=.ok (.value v) w:=slice i t x lo hi v h hx hl hh hv
theorem neg (i:Nat)(t:TypeId)(x:Operand)(b:Bool)(h:(op ops i).op=.unOp .not t x)(hx:inB n x=true)(hv:ev f x=.bool b) :
    ∀A,At n A f→∀w,S w→(execOp A.eval (op ops i)).run P w=.ok (.value (.bool (!b))) w:=by
  intro A hA w _;have e:execOp A.eval (op ops i)=(do pure (.value (← Op.unary .not (A.eval x)))):=by
   unfold execOp;rw [h]
  rw [e,hA.ev x hx,hv];rfl

theorem qt {i:Nat}(t:TypeId)(x:Operand)(b:Bool)(h:(op ops i).op=.unOp .not t x:=by kernel_rfl)(hx:inB n x=true:=by decide)(hv:ev f x=.bool b:=by exact rfl):∀A,At n A f→∀w,S w→(execOp A.eval (op ops i)).run P w=.ok (.value (.bool (!b))) w:=neg i t x b h hx hv
theorem index (i:Nat)(t:TypeId)(x y:Operand)(v:Value)(h:(op ops i).op=.indexAddr t x y)(hx:inB n x=true)(hy:inB n y=true)(hv:∀w,(Instr.indexAt t (ev f x) (ev f y)).run P w=.ok v w) :
    ∀A,At n A f→∀w,S w→(execOp A.eval (op ops i)).run P w=.ok (.value v) w:=by
  intro A hA w _;have e:execOp A.eval (op ops i)=(do pure (.value (← Instr.indexAt t (A.eval x) (A.eval y)))):=by
   unfold execOp;rw [h]
  rw [e,hA.ev x hx,hA.ev y hy];simp [hv w]

theorem qb {i:Nat}{v:Value}(t:TypeId)(x:Operand)(y:Operand)(hv:∀w,(Instr.indexAt t (ev f x) (ev f y)).run P w=.ok v w)(h:(op ops i).op=.indexAddr t x y:=by kernel_rfl)(hx:inB n x=true:=by decide)(hy:inB n y=true:=by decide):∀A,At n A f→∀w,S w→(execOp A.eval (op ops i)).run P w=.ok (.value v) w:=index i t x y v h hx hy hv
theorem load (i:Nat)(t:TypeId)(x:Operand)(v:Value)(h:(op ops i).op=.load t x)(hx:inB n x=true)(hv:∀w,S w→(Instr.loadAt t (ev f x)).run P w=.ok v w) :
    ∀A,At n A f→∀w,S w→(execOp A.eval (op ops i)).run P w=.ok (.value v) w:=by
  intro A hA w hS;have e:execOp A.eval (op ops i)=(do pure (.value (← Instr.loadAt t (A.eval x)))):=by
   unfold execOp;rw [h]
  rw [e,hA.ev x hx];simp [hv w hS]

theorem q3 {i:Nat}{v:Value}(t:TypeId)(x:Operand)(hv:∀w,S w→(Instr.loadAt t (ev f x)).run P w=.ok v w)(h:(op ops i).op=.load t x:=by kernel_rfl)(hx:inB n x=true:=by decide):∀A,At n A f→∀w,S w→(execOp A.eval (op ops i)).run P w=.ok (.value v) w:=load i t x v h hx hv
theorem bin (i:Nat)(b:BinOp)(t t':TypeId)(x y:Operand)(v:Value)(h:(op ops i).op=.binOp b t x y t')(hx:inB n x=true)(hy:inB n y=true)
    (hv:∀w,(do eqGuard b t x y (ev f x) (ev f y);binOp b t (ev f x) (ev f y):Sem Value).run P w=.ok v w) :
    ∀A,At n A f→∀w,S w→(execOp A.eval (op ops i)).run P w=.ok (.value v) w:=by
  intro A hA w _;have e:execOp A.eval (op ops i)=(do pure (.value (← (do eqGuard b t x y (A.eval x) (A.eval y);binOp b t (A.eval x) (A.eval y))))):=by
   unfold execOp;rw [h]
  rw [e,hA.ev x hx,hA.ev y hy];rw [Sem.run_bind,hv w];rfl
theorem one (i:Nat)(t:TypeId)(x:Operand)(v:Value)(w':World)(h:(op ops i).op=.buildSlice t 1 #[(0,x)])(hx:inB n x=true)(hv:(Instr.buildSlice t 1 #[(0,ev f x)]).run P w=.ok v w') :
    ∀A,At n A f→(execOp A.eval (op ops i)).run P w=.ok (.value v) w':=by
  intro A hA;have e:execOp A.eval (op ops i)=(do pure (.value (← Instr.buildSlice t 1 (Array.map (fun (p:Nat × Operand)=>(p.1,A.eval p.2)) #[(0,x)])))):=by
   unfold execOp;rw [h]
  rw [e];simp [hA.ev x hx,hv]

theorem q_37 {i:Nat}{v:Value}{w':World}(t:TypeId)(x:Operand)(hv:(Instr.buildSlice t 1 #[(0,ev f x)]).run P w=.ok v w')(h:(op ops i).op=.buildSlice t 1 #[(0,x)]:=by kernel_rfl)(hx:inB n x=true:=by decide):∀A,At n A f→(execOp A.eval (op ops i)).run P w=.ok (.value v) w':=one i t x v w' h hx hv
theorem app (i:Nat)(t:TypeId)(x y:Operand)(v:Value)(w':World)(h:(op ops i).op=.call { callee:=.builtin .append,args:=#[x,y],argTypes:=#[t,t] })(hx:inB n x=true)(hy:inB n y=true)
    (hv:∀ty,(Builtin.append_ #[t,t] ty #[ev f x,ev f y]).run P w=.ok v w') :
    ∀A,At n A f→(execOp A.eval (op ops i)).run P w=.ok (.value v) w':=by
  intro A hA;unfold execOp;rw [h];simp [resolve,invoke,builtin,hA.ev x hx,hA.ev y hy,hv]
theorem H.skip (i d:Nat)(hi:ops[i]? = some (op ops i))(hd:(op ops i).dst=some d)(hc:first ops listed i=true)
    (hw:∀A,At n A f→Region.wanted (op ops i) (yielded ops A.tmps)=false)(hS:S w)
    (h:H P ops S Q n fuel (listed.setIfInBounds i true) (upd f d undef) w):H P ops S Q n (fuel+1) listed f w:=by
  intro A hA;simp only [first,Bool.and_eq_true] at hc;refine wpAnyH_take (i:=i) (oi:=op ops i) (v:=undef) hi hc.1.1 hc.1.2 hc.2 (fun _ _ _ h=>h) (.inr ⟨hw A hA,rfl⟩) hS (h _ ?_);rw [hd];exact hA.put d undef

theorem q6 (i:Nat)(d:Nat)(hw:∀A,At n A f→Region.wanted (op ops i) (yielded ops A.tmps)=false)(hS:S w)(h:H P ops S Q n fuel (listed.setIfInBounds i true) (upd f d undef) w)(hi:ops[i]? = some (op ops i):=by kernel_rfl)(hd:(op ops i).dst=some d:=by kernel_rfl)(hc:first ops listed i=true:=by kernel_rfl):H P ops S Q n (fuel+1) listed f w:=H.skip i d hi hd hc hw hS h
theorem unwanted (i j dj:Nat)(b:Bool)(h:(op ops i).guard=some (j,b))(hj:(ops[j]?).bind (·.dst)=some dj)(hn:dj<n)(hv:f dj=.bool (!b)) :
    ∀A,At n A f→Region.wanted (op ops i) (yielded ops A.tmps)=false:=by
  intro A hA;have hs:=hA.1;have h1:=hA.2.2 dj hn;have h2:A.tmps[dj]? = some (.bool (!b)):=by
   rw [hv] at h1;(have aa:dj<A.tmps.size:=by omega);simp only [Array.getD,aa,dif_pos] at h1;rw [Array.getElem?_eq_getElem aa];exact congrArg some h1
  cases b <;> simp [Region.wanted,h,yielded,hj,h2]

theorem q8 {i:Nat}(j:Nat)(dj:Nat)(b:Bool)(h:(op ops i).guard=some (j,b):=by kernel_rfl)(hj:(ops[j]?).bind (·.dst)=some dj:=by kernel_rfl)(hn:dj<n:=by decide)(hv:f dj=.bool (!b):=by exact rfl):∀A,At n A f→Region.wanted (op ops i) (yielded ops A.tmps)=false:=unwanted i j dj b h hj hn hv
theorem pickF (i:Nat)(c x y:Operand)(h:(op ops i).op=.pick c x y)(hc:inB n c=true)(hy:inB n y=true)(hv:ev f c=.bool false) :
    ∀A,At n A f→∀w,S w→(execOp A.eval (op ops i)).run P w=.ok (.value (ev f y)) w:=by
  intro A hA w _;have e:execOp A.eval (op ops i)=(do pure (.value (if ← asBool (A.eval c) then A.eval x else A.eval y))):=by
   unfold execOp;rw [h]
  rw [e,hA.ev c hc,hv,hA.ev y hy];rfl

theorem ql {i:Nat}(c:Operand)(x:Operand)(y:Operand)(h:(op ops i).op=.pick c x y:=by kernel_rfl)(hc:inB n c=true:=by decide)(hy:inB n y=true:=by decide)(hv:ev f c=.bool false:=by exact rfl):∀A,At n A f→∀w,S w→(execOp A.eval (op ops i)).run P w=.ok (.value (ev f y)) w:=pickF i c x y h hc hy hv
theorem field (i:Nat)(t:TypeId)(x:Operand)(k:Nat)(v:Value)(h:(op ops i).op=.fieldAddr t x k)(hx:inB n x=true)(hv:∀w,(Instr.fieldAt t (ev f x) k).run P w=.ok v w) :
    ∀A,At n A f→∀w,S w→(execOp A.eval (op ops i)).run P w=.ok (.value v) w:=by
  intro A hA w _;have e:execOp A.eval (op ops i)=(do pure (.value (← Instr.fieldAt t (A.eval x) k))):=by
   unfold execOp;rw [h]
  rw [e,hA.ev x hx];simp [hv w]

theorem q5 {i:Nat}{v:Value}(t:TypeId)(x:Operand)(k:Nat)(hv:∀w,(Instr.fieldAt t (ev f x) k).run P w=.ok v w)(h:(op ops i).op=.fieldAddr t x k:=by kernel_rfl)(hx:inB n x=true:=by decide):∀A,At n A f→∀w,S w→(execOp A.eval (op ops i)).run P w=.ok (.value v) w:=field i t x k v h hx hv
theorem nilc (i:Nat)(x:Operand)(a:Addr)(h:(op ops i).op=.nilCheck x)(hx:inB n x=true)(hv:ev f x=.pointer (some a)) :
    ∀A,At n A f→∀w,S w→(execOp A.eval (op ops i)).run P w=.ok (.value (.pointer (some a))) w:=by
  intro A hA w _;unfold execOp;rw [h];simp only [hA.ev x hx,hv];rfl

theorem qz {i:Nat}{a:Addr}(x:Operand)(h:(op ops i).op=.nilCheck x:=by kernel_rfl)(hx:inB n x=true:=by decide)(hv:ev f x=.pointer (some a):=by exact rfl):∀A,At n A f→∀w,S w→(execOp A.eval (op ops i)).run P w=.ok (.value (.pointer (some a))) w:=nilc i x a h hx hv
theorem lenOf (i:Nat)(t:TypeId)(x:Operand)(v:Value)(h:(op ops i).op=.call { callee:=.builtin .len,args:=#[x],argTypes:=#[t] })(hx:inB n x=true)
    (hv:∀ty w,(Builtin.len_ #[t] ty #[ev f x]).run P w=.ok v w):∀A,At n A f→∀w,S w→(execOp A.eval (op ops i)).run P w=.ok (.value v) w:=by
  intro A hA w _;unfold execOp;rw [h];simp [resolve,invoke,builtin,hA.ev x hx,hv]

theorem qw {i:Nat}{v:Value}(t:TypeId)(x:Operand)(hv:∀ty w,(Builtin.len_ #[t] ty #[ev f x]).run P w=.ok v w)(h:(op ops i).op=.call { callee:=.builtin .len,args:=#[x],argTypes:=#[t] }:=by kernel_rfl)(hx:inB n x=true:=by decide):∀A,At n A f→∀w,S w→(execOp A.eval (op ops i)).run P w=.ok (.value v) w:=lenOf i t x v h hx hv
theorem app2 (i:Nat)(t t':TypeId)(x y:Operand)(v:Value)(w':World)(h:(op ops i).op=.call { callee:=.builtin .append,args:=#[x,y],argTypes:=#[t,t'] })(hx:inB n x=true)(hy:inB n y=true)
    (hv:∀ty,(Builtin.append_ #[t,t'] ty #[ev f x,ev f y]).run P w=.ok v w') :
    ∀A,At n A f→(execOp A.eval (op ops i)).run P w=.ok (.value v) w':=by
  intro A hA;unfold execOp;rw [h];simp [resolve,invoke,builtin,hA.ev x hx,hA.ev y hy,hv]
theorem eqlStrs (i:Nat)(t t':TypeId)(x y:Operand)(a b:ByteArray)(h:(op ops i).op=.binOp .eql t x y t')(hx:inB n x=true)(hy:inB n y=true)(h1:ev f x=.string a)(h2:ev f y=.string b) :
    ∀A,At n A f→∀w,S w→(execOp A.eval (op ops i)).run P w=.ok (.value (.bool (a.toList == b.toList))) w:=by
  intro A hA w _;have e:execOp A.eval (op ops i)=(do pure (.value (← (do eqGuard .eql t x y (A.eval x) (A.eval y);binOp .eql t (A.eval x) (A.eval y))))):=by
   unfold execOp;rw [h]
  rw [e,hA.ev x hx,hA.ev y hy,h1,h2];simp [go_sem,eqGuard]
theorem neqStrs (i:Nat)(t t':TypeId)(x y:Operand)(a b:ByteArray)(h:(op ops i).op=.binOp .neq t x y t')(hx:inB n x=true)(hy:inB n y=true)(h1:ev f x=.string a)(h2:ev f y=.string b) :
    ∀A,At n A f→∀w,S w→(execOp A.eval (op ops i)).run P w=.ok (.value (.bool (!(a.toList == b.toList)))) w:=by
  intro A hA w _;have e:execOp A.eval (op ops i)=(do pure (.value (← (do eqGuard .neq t x y (A.eval x) (A.eval y);binOp .neq t (A.eval x) (A.eval y))))):=by
   unfold execOp;rw [h]
  rw [e,hA.ev x hx,hA.ev y hy,h1,h2];simp [go_sem,eqGuard]
theorem binV (i:Nat)(b:BinOp)(t t':TypeId)(x y:Operand)(vx vy v:Value)(h:(op ops i).op=.binOp b t x y t')(hx:inB n x=true)(hy:inB n y=true)(h1:ev f x=vx)(h2:ev f y=vy)
    (hv:∀w,(do eqGuard b t x y vx vy;binOp b t vx vy:Sem Value).run P w=.ok v w) :
    ∀A,At n A f→∀w,S w→(execOp A.eval (op ops i)).run P w=.ok (.value v) w:=by
  subst h1;subst h2;exact bin i b t t' x y v h hx hy hv

theorem qe {i:Nat}{v:Value}(b:BinOp)(t:TypeId)(t':TypeId)(x:Operand)(y:Operand)(vx:Value)(vy:Value)(hv:∀w,(do eqGuard b t x y vx vy;binOp b t vx vy:Sem Value).run P w=.ok v w)(h:(op ops i).op=.binOp b t x y t':=by kernel_rfl)(hx:inB n x=true:=by decide)(hy:inB n y=true:=by decide)(h1:ev f x=vx:=by exact rfl)(h2:ev f y=vy:=by exact rfl):∀A,At n A f→∀w,S w→(execOp A.eval (op ops i)).run P w=.ok (.value v) w:=binV i b t t' x y vx vy v h hx hy h1 h2 hv
theorem convV (i:Nat)(src dst:TypeId)(x:Operand)(vx v:Value)(h:(op ops i).op=.convert src dst x)(hx:inB n x=true)(h1:ev f x=vx)(hv:∀w,S w→(convert src dst vx).run P w=.ok v w) :
    ∀A,At n A f→∀w,S w→(execOp A.eval (op ops i)).run P w=.ok (.value v) w:=by
  subst h1;exact conv i src dst x v h hx hv
theorem qv {i:Nat}{v:Value}(src:TypeId)(dst:TypeId)(x:Operand)(vx:Value)(hv:∀w,S w→(convert src dst vx).run P w=.ok v w)(h:(op ops i).op=.convert src dst x:=by kernel_rfl)(hx:inB n x=true:=by decide)(h1:ev f x=vx:=by exact rfl):∀A,At n A f→∀w,S w→(execOp A.eval (op ops i)).run P w=.ok (.value v) w:=convV i src dst x vx v h hx h1 hv
end
theorem enters {P : Program} {g : Nat} {fn : Func} (hf : P.funcs[g]? = some fn) (aa : (fn.name == "runtime.NumGoroutine") = false) (hb : fn.body.isNone = false) : ∀ args w, (callFunc g args).run P w = .ok (.enter g args) w := by
 intro args w;unfold callFunc;rw [Sem.run_bind,run_program];simp only [Result.andThen,hf,aa,hb];rfl

theorem qj {P : Program} {g : Nat} {fn : Func} (hf : P.funcs[g]? = some fn) (hname : (fn.name == "runtime.NumGoroutine") = false := by kernel_rfl) (hb : fn.body.isNone = false := by kernel_rfl) : ∀ args w, (callFunc g args).run P w = .ok (.enter g args) w := enters hf hname hb
theorem At.same {f:Nat→Value}(h:At n A f){d:Nat}{v:Value}(hv:f d=v):At n A (upd f d v):=by
 refine⟨h.1,h.2.1,fun e he=>?_⟩;rw [h.2.2 e he];unfold upd;split
 · rename_i hed;rw [hed,hv]
 · rfl
def find (id:Nat):Code→Array Oper
  | .region k ops _=>if k=id then ops else #[]
  | .seq a b=>find id a ++ find id b
  | .cond _ a b=>find id a ++ find id b
  | .block _ a=>find id a
  | .loop a=>find id a
  | .scope a=>find id a
  | _=>#[]
theorem region_is {P:Program}{Q:Exit→Act→World→Prop}{w:World}{id:Nat}{l ops:Array Oper}{b:Bool}(h:l=ops)(hh:(Code.region id ops b).wp P Q A w):(Code.region id l b).wp P Q A w:=by
 subst h;exact hh

theorem q9 {P:Program}{Q:Exit→Act→World→Prop}{A:Act}{w:World}{id:Nat}{l ops:Array Oper}{b:Bool}(hh:(Code.region id ops b).wp P Q A w)(h:l=ops:=by kernel_rfl):(Code.region id l b).wp P Q A w:=region_is h hh
end Pl
theorem Za6 (b o len cap k:Nat)(hk:k<len)(w:World):(Instr.indexAt 155 (.slice (some ⟨b,o,none⟩) len cap) (.int .i64 (k:Nat))).run Tryz.prog w=.ok (.pointer (some ⟨b,o+k*4,none⟩)) w:=by
 have h22:Tryz.prog.underlying 155=some (.slice (Tryz.prog.elem 155)):=by kernel_rfl
 have h1:(0:Int)≤(k:Int):=by omega
 simp [go_sem,Instr.indexAt,run_underlying h22,h1,Addr.add_lit]
 intro h
 omega
theorem ZeN (b o : Nat) (i : It) (w : World) (h : ItAt w b o i) : (Instr.loadAt 158 (.pointer (some ⟨b, o, none⟩))).run Tryz.prog w = .ok i.val w := by
 obtain ⟨c0, c1, c2, c3⟩ := h
 simp [go_sem, c0, c1, c2, c3, It.val]
theorem Zal {w w':World}{b o:Nat}{i:It}(h:ItAt w b o i)(hb:Below w.heap.size w w'):ItAt w' b o i:=by
 obtain⟨c0,c1,c2,c3⟩:=h
 have hlt:=World.block_lt_of_cell? w _ c0
 exact⟨(hb.cell hlt).trans c0,(hb.cell (p:=⟨b,o+1,none⟩) hlt).trans c1,(hb.cell (p:=⟨b,o+2,none⟩) hlt).trans c2,(hb.cell (p:=⟨b,o+3,none⟩) hlt).trans c3⟩
end Go.Proofs.YtdojdcncncgncaaGreat
