/-
  Lemmas.
-/
import Derived.Deep.RegionHeld3
import Derived.BigCall
import Derived.KernelRfl
import Derived.WalkKit
import Derived.Test.YtiecfcjlhldhdaaGreatKeaa
import Derived.Laws.CopyRow
import Derived.Laws.IdiomCopy
import Derived.Deep.MidRow
import Derived.Deep.WholeRow
namespace Go.Proofs.YtiecfcjlhldhdaaGreat
open Go.RowKit
set_option linter.unusedVariables false
set_option linter.unusedSimpArgs false
set_option maxRecDepth 100000
set_option maxHeartbeats 4000000
variable {w a b w':World}{e:TypeId}{z n:Nat}{vs:List Value}{A:Act}
namespace Pl
def At (n:Nat) (A:Act) (f:Nat→Value):Prop:=A.tmps.size=n∧A.defers=[]∧∀d,d<n→A.tmps.getD d undef=f d
def upd (f:Nat→Value) (d:Nat) (v:Value):Nat→Value:=fun e=>if e=d then v else f e
theorem At.here (hn:A.tmps.size=n)(h:A.defers=[]):At n A (fun d=>A.tmps.getD d undef):=⟨hn,h,fun _ _=>rfl⟩
def At.fn {n : Nat} {A : Act} {f : Nat → Value} (_ : At n A f) : Nat → Value := f
def pu (A : Act) (u : Nat → Value) (l : List Nat) : Act := l.foldl (fun a i => a.put (some i) (u i)) A
theorem At.put {n:Nat}{A:Act}{f:Nat→Value}(h:At n A f)(d:Nat)(v:Value):At n (A.put (some d) v) (upd f d v):=by
 refine⟨by simpa [Act.put] using h.1,by simpa [Act.put] using h.2.1,fun e he=>?_⟩;have hs:=h.1;simp only [Act.put,upd];by_cases aa:e=d
 · subst aa;rw [if_pos rfl];simp [Array.getD,hs,he]
 · rw [if_neg aa,← h.2.2 e he];have ab:d≠e:=fun x=>aa x.symm;simp [Array.getD,hs,he,ab]
theorem At.ext {B:Act}{f:Nat→Value}(h:At n A f)(k:At n B f):A=B:=by
 have e1:A.tmps=B.tmps:=by
  apply Array.ext
  · rw [h.1,k.1]
  · intro i h1 h2;have ha:=h.2.2 i (by have:=h.1;omega);have hb:=k.2.2 i (by have:=h.1;omega);simp only [Array.getD,h1,h2,dif_pos] at ha hb;exact ha.trans hb.symm
 (have e2:A.defers=B.defers:=by rw [h.2.1,k.2.1]);cases A;cases B;simp only at e1 e2;rw [e1,e2]
def ev (f:Nat→Value):Operand→Value
  | .tmp t=>f t
  | .const v=>v
  | .global g=>.pointer (some ⟨g,0,none⟩)
  | .func g=>.func (.func g) #[] #[]
def inB (n:Nat):Operand→Bool
  | .tmp t=>decide (t<n)
  | _=>true
theorem At.ev {f:Nat→Value}(h:At n A f)(x:Operand)(hx:inB n x=true):A.eval x=ev f x:=by
 cases x with
 | tmp t=>exact h.2.2 t (by simpa [inB] using hx)
 | const v=>rfl
 | global g=>rfl
 | func g=>rfl
section
variable {P : Program} {ops : Array Oper} {S : World → Prop} {Q : Exit → Act → World → Prop} {n fuel : Nat} {listed : Array Bool} {f : Nat → Value} {w : World}
def H (P:Program) (ops:Array Oper) (S:World→Prop) (Q:Exit→Act→World→Prop) (n fuel:Nat) (listed:Array Bool) (f:Nat→Value) (w:World):Prop:=
  ∀A,At n A f→wpAnyH P .any ops (NoPanic Q) S fuel listed A w
theorem H.start {id:Nat}(hm:P.follows .mixedOrders=true)(hA:At n A f)(hS:S w.drew)(h:H P ops S Q n ops.size (Array.replicate ops.size false) f w.drew) :
    (Code.region id ops true).wp P Q A w:=
  wp_region_noPanic (wp_region_held_drew (S:=S) hm hS (fun _=>h A hA))

theorem qa {id:Nat}{A:Act}(hA:At n A f)(hS:S w.drew)(h:H P ops S Q n ops.size (Array.replicate ops.size false) f w.drew)(hm:P.follows .mixedOrders=true:=by kernel_rfl):(Code.region id ops true).wp P Q A w:=H.start hm hA hS h
theorem H.done (hr:Region.ready .any ops listed=[])(h:∀A,At n A f→Q .normal A w):H P ops S Q n fuel listed f w:=
 fun A hA=>wpAnyH_done hr (NoPanic.normal (h A hA)) _

theorem q8 (h:∀A,At n A f→Q .normal A w)(hr:Region.ready .any ops listed=[]:=by kernel_rfl):H P ops S Q n fuel listed f w:=H.done hr h
def first (ops:Array Oper) (listed:Array Bool) (i:Nat):Bool:=Region.noSelect ops && Region.free .any ops listed i && (Region.ready .any ops listed).contains i
def op (ops:Array Oper) (i:Nat):Oper:=ops.getD i default
theorem H.take (i d:Nat)(v:Value)(hi:ops[i]? = some (op ops i))(hd:(op ops i).dst=some d)(hc:first ops listed i=true)
    (hw:∀A,At n A f→Region.wanted (op ops i) (yielded ops A.tmps)=true)
    (hy:∀A,At n A f→∀w,S w→(execOp A.eval (op ops i)).run P w=.ok (.value v) w)(hS:S w)
    (h:H P ops S Q n fuel (listed.setIfInBounds i true) (upd f d v) w):H P ops S Q n (fuel+1) listed f w:=by
  intro A hA;simp only [first,Bool.and_eq_true] at hc;refine wpAnyH_take (i:=i) (oi:=op ops i) (v:=v) hi hc.1.1 hc.1.2 hc.2 (fun _ _ _ h=>h) (.inl ⟨hw A hA,hy A hA⟩) hS (h _ ?_);rw [hd];exact hA.put d v

theorem q0 (i:Nat)(d:Nat)(v:Value)(hw:∀A,At n A f→Region.wanted (op ops i) (yielded ops A.tmps)=true)(hy:∀A,At n A f→∀w,S w→(execOp A.eval (op ops i)).run P w=.ok (.value v) w)(hS:S w)(h:H P ops S Q n fuel (listed.setIfInBounds i true) (upd f d v) w)(hi:ops[i]? = some (op ops i):=by kernel_rfl)(hd:(op ops i).dst=some d:=by kernel_rfl)(hc:first ops listed i=true:=by kernel_rfl):H P ops S Q n (fuel+1) listed f w:=H.take i d v hi hd hc hw hy hS h
theorem H.solo (i d:Nat)(v:Value)(hi:ops[i]? = some (op ops i))(hd:(op ops i).dst=some d)(hr:Region.ready .any ops listed=[i])
    (hw:∀A,At n A f→Region.wanted (op ops i) (yielded ops A.tmps)=true)
    (hy:∀A,At n A f→(execOp A.eval (op ops i)).run P w=.ok (.value v) w)(hS:S w)
    (h:H P ops S Q n fuel (listed.setIfInBounds i true) (upd f d v) w):H P ops S Q n (fuel+1) listed f w:=by
  intro A hA;refine wpAnyH_all hr (by simp) ?_;intro j hj;(obtain rfl:j=i:=by simpa using hj);unfold wpOp;rw [hi];simp only [hw A hA,if_true];refine .inl ?_;unfold Oper.wp;rw [hy A hA];refine⟨hS,h _ ?_⟩;rw [hd];exact hA.put d v

theorem qv (i:Nat)(d:Nat)(v:Value)(hw:∀A,At n A f→Region.wanted (op ops i) (yielded ops A.tmps)=true)(hy:∀A,At n A f→(execOp A.eval (op ops i)).run P w=.ok (.value v) w)(hS:S w)(h:H P ops S Q n fuel (listed.setIfInBounds i true) (upd f d v) w)(hi:ops[i]? = some (op ops i):=by kernel_rfl)(hd:(op ops i).dst=some d:=by kernel_rfl)(hr:Region.ready .any ops listed=[i]:=by kernel_rfl):H P ops S Q n (fuel+1) listed f w:=H.solo i d v hi hd hr hw hy hS h
theorem H.make (i d:Nat)(v:Value)(w':World)(hi:ops[i]? = some (op ops i))(hd:(op ops i).dst=some d)(hr:Region.ready .any ops listed=[i])
    (hw:∀A,At n A f→Region.wanted (op ops i) (yielded ops A.tmps)=true)
    (hy:∀A,At n A f→(execOp A.eval (op ops i)).run P w=.ok (.value v) w')(hS:S w')
    (h:H P ops S Q n fuel (listed.setIfInBounds i true) (upd f d v) w'):H P ops S Q n (fuel+1) listed f w:=by
  intro A hA;refine wpAnyH_all hr (by simp) ?_;intro j hj;(obtain rfl:j=i:=by simpa using hj);unfold wpOp;rw [hi];simp only [hw A hA,if_true];refine .inl ?_;unfold Oper.wp;rw [hy A hA];refine⟨hS,h _ ?_⟩;rw [hd];exact hA.put d v

theorem qh (i:Nat)(d:Nat)(v:Value)(w':World)(hw:∀A,At n A f→Region.wanted (op ops i) (yielded ops A.tmps)=true)(hy:∀A,At n A f→(execOp A.eval (op ops i)).run P w=.ok (.value v) w')(hS:S w')(h:H P ops S Q n fuel (listed.setIfInBounds i true) (upd f d v) w')(hi:ops[i]? = some (op ops i):=by kernel_rfl)(hd:(op ops i).dst=some d:=by kernel_rfl)(hr:Region.ready .any ops listed=[i]:=by kernel_rfl):H P ops S Q n (fuel+1) listed f w:=H.make i d v w' hi hd hr hw hy hS h
theorem H.call (i d g:Nat)(xs:List Operand)(ts:Array TypeId)(hi:ops[i]? = some (op ops i))(hd:(op ops i).dst=some d)(hr:Region.ready .any ops listed=[i])
    (hw:∀A,At n A f→Region.wanted (op ops i) (yielded ops A.tmps)=true)
    (ad:(op ops i).op=.call { callee:=.value (.func g),args:=xs.toArray,argTypes:=ts })(hx:xs.all (inB n)=true)
    (ac:∀args w,(callFunc g args).run P w=.ok (.enter g args) w)
    (h:Calls P g (xs.map (ev f)).toArray w fun e w'=>∃v,e=.returned v∧S w'∧H P ops S Q n fuel (listed.setIfInBounds i true) (upd f d v) w') :
    H P ops S Q n (fuel+1) listed f w:=by
  intro A hA;refine wpAnyH_all hr (by simp) ?_;intro j hj;(obtain rfl:j=i:=by simpa using hj);unfold wpOp;rw [hi];simp only [hw A hA,if_true];refine .inl ?_;have aa:#[] ++ xs.toArray.map A.eval ++ #[]=(xs.map (ev f)).toArray:=by
   simp only [Array.empty_append,Array.append_empty,List.map_toArray];congr 1;apply List.map_congr_left;intro x ae;exact hA.ev x (List.all_eq_true.1 hx x ae)
  have ab:(execOp A.eval (op ops j)).run P w=.ok (.enter g (xs.map (ev f)).toArray) w:=by
   have e:execOp A.eval (op ops j)=callFunc g (#[] ++ xs.toArray.map A.eval ++ #[]):=by
    unfold execOp;rw [ad];rfl
   rw [e,aa];exact ac _ _
  unfold Oper.wp;rw [ab];refine h.mono ?_;rintro e w' ⟨v,rfl,hS,hh⟩;refine⟨hS,hh _ ?_⟩;rw [hd];exact hA.put d v

theorem qd (i:Nat)(d:Nat)(g:Nat)(xs:List Operand)(ts:Array TypeId)(hw:∀A,At n A f→Region.wanted (op ops i) (yielded ops A.tmps)=true)(hfn:∀args w,(callFunc g args).run P w=.ok (.enter g args) w)(h:Calls P g (xs.map (ev f)).toArray w fun e w'=>∃v,e=.returned v∧S w'∧H P ops S Q n fuel (listed.setIfInBounds i true) (upd f d v) w')(hi:ops[i]? = some (op ops i):=by kernel_rfl)(hd:(op ops i).dst=some d:=by kernel_rfl)(hr:Region.ready .any ops listed=[i]:=by kernel_rfl)(hop:(op ops i).op=.call { callee:=.value (.func g),args:=xs.toArray,argTypes:=ts }:=by kernel_rfl)(hx:xs.all (inB n)=true:=by decide):H P ops S Q n (fuel+1) listed f w:=H.call i d g xs ts hi hd hr hw hop hx hfn h
theorem free (i:Nat)(h:(op ops i).guard=none):∀A,At n A f→Region.wanted (op ops i) (yielded ops A.tmps)=true:=by
 intro A _;simp [Region.wanted,h]

theorem q1 {i:Nat}(h:(op ops i).guard=none:=by kernel_rfl):∀A,At n A f→Region.wanted (op ops i) (yielded ops A.tmps)=true:=free i h
theorem guarded (i j dj:Nat)(b:Bool)(h:(op ops i).guard=some (j,b))(hj:(ops[j]?).bind (·.dst)=some dj)(hn:dj<n)(hv:f dj=.bool b) :
    ∀A,At n A f→Region.wanted (op ops i) (yielded ops A.tmps)=true:=by
  intro A hA;have hs:=hA.1;have h1:=hA.2.2 dj hn;have h2:A.tmps[dj]? = some (.bool b):=by
   rw [hv] at h1;(have aa:dj<A.tmps.size:=by omega);simp only [Array.getD,aa,dif_pos] at h1;rw [Array.getElem?_eq_getElem aa];exact congrArg some h1
  simp [Region.wanted,h,yielded,hj,h2]

theorem q3 {i:Nat}(j:Nat)(dj:Nat)(b:Bool)(h:(op ops i).guard=some (j,b):=by kernel_rfl)(hj:(ops[j]?).bind (·.dst)=some dj:=by kernel_rfl)(hn:dj<n:=by decide)(hv:f dj=.bool b:=by exact rfl):∀A,At n A f→Region.wanted (op ops i) (yielded ops A.tmps)=true:=guarded i j dj b h hj hn hv
theorem move (i:Nat)(x:Operand)(h:(op ops i).op=.move x)(hx:inB n x=true):∀A,At n A f→∀w,S w→(execOp A.eval (op ops i)).run P w=.ok (.value (ev f x)) w:=by
 intro A hA w _;rw [BigFrame.run_move x h,hA.ev x hx]

theorem q2 {i:Nat}(x:Operand)(h:(op ops i).op=.move x:=by kernel_rfl)(hx:inB n x=true:=by decide):∀A,At n A f→∀w,S w→(execOp A.eval (op ops i)).run P w=.ok (.value (ev f x)) w:=move i x h hx
theorem assign (i:Nat)(x:Operand)(h:(op ops i).op=.assign x)(hx:inB n x=true):∀A,At n A f→∀w,S w→(execOp A.eval (op ops i)).run P w=.ok (.value (ev f x)) w:=by
 intro A hA w _;rw [BigFrame.run_assign x h,hA.ev x hx]

theorem qe {i:Nat}(x:Operand)(h:(op ops i).op=.assign x:=by kernel_rfl)(hx:inB n x=true:=by decide):∀A,At n A f→∀w,S w→(execOp A.eval (op ops i)).run P w=.ok (.value (ev f x)) w:=assign i x h hx
theorem pick (i:Nat)(c x y:Operand)(h:(op ops i).op=.pick c x y)(hc:inB n c=true)(hx:inB n x=true)(hv:ev f c=.bool true) :
    ∀A,At n A f→∀w,S w→(execOp A.eval (op ops i)).run P w=.ok (.value (ev f x)) w:=by
  intro A hA w _;have e:execOp A.eval (op ops i)=(do pure (.value (if ← asBool (A.eval c) then A.eval x else A.eval y))):=by
   unfold execOp;rw [h]
  rw [e,hA.ev c hc,hv,hA.ev x hx];rfl

theorem qq {i:Nat}(c:Operand)(x:Operand)(y:Operand)(h:(op ops i).op=.pick c x y:=by kernel_rfl)(hc:inB n c=true:=by decide)(hx:inB n x=true:=by decide)(hv:ev f c=.bool true:=by exact rfl):∀A,At n A f→∀w,S w→(execOp A.eval (op ops i)).run P w=.ok (.value (ev f x)) w:=pick i c x y h hc hx hv
theorem conv (i:Nat)(src dst:TypeId)(x:Operand)(v:Value)(h:(op ops i).op=.convert src dst x)(hx:inB n x=true)(hv:∀w,S w→(convert src dst (ev f x)).run P w=.ok v w) :
    ∀A,At n A f→∀w,S w→(execOp A.eval (op ops i)).run P w=.ok (.value v) w:=by
  intro A hA w hS;have e:execOp A.eval (op ops i)=(do pure (.value (← convert src dst (A.eval x)))):=by
   unfold execOp;rw [h]
  rw [e,hA.ev x hx];simp [hv w hS]
theorem conv1 (i:Nat)(src dst:TypeId)(x:Operand)(v:Value)(h:(op ops i).op=.convert src dst x)(hx:inB n x=true)(hv:(convert src dst (ev f x)).run P w=.ok v w) :
    ∀A,At n A f→(execOp A.eval (op ops i)).run P w=.ok (.value v) w:=by
  intro A hA;have e:execOp A.eval (op ops i)=(do pure (.value (← convert src dst (A.eval x)))):=by
   unfold execOp;rw [h]
  rw [e,hA.ev x hx];simp [hv]

theorem q_47 {i:Nat}{v:Value}(src:TypeId)(dst:TypeId)(x:Operand)(hv:(convert src dst (ev f x)).run P w=.ok v w)(h:(op ops i).op=.convert src dst x:=by kernel_rfl)(hx:inB n x=true:=by decide):∀A,At n A f→(execOp A.eval (op ops i)).run P w=.ok (.value v) w:=conv1 i src dst x v h hx hv
theorem slice (i:Nat)(t:TypeId)(x:Operand)(lo hi:Option Operand)(v:Value)(h:(op ops i).op=.slice t x lo hi none)(hx:inB n x=true)(hl:lo.all (inB n)=true)(hh:hi.all (inB n)=true)
    (hv:∀w,(Instr.sliceAt t (ev f x) (lo.map (ev f)) (hi.map (ev f)) none).run P w=.ok v w):∀A,At n A f→∀w,S w→(execOp A.eval (op ops i)).run P w=.ok (.value v) w:=by
  intro A hA w _;have e1:lo.map A.eval=lo.map (ev f):=by
   cases lo with
   | none=>rfl
   | some y=>exact congrArg some (hA.ev y (by simpa using hl))
  have e2:hi.map A.eval=hi.map (ev f):=by
   cases hi with
   | none=>rfl
   | some y=>exact congrArg some (hA.ev y (by simpa using hh))
  have e:execOp A.eval (op ops i)=(do pure (.value (← Instr.sliceAt t (A.eval x) (lo.map A.eval) (hi.map A.eval) none))):=by
   unfold execOp;rw [h];rfl
  rw [e,hA.ev x hx,e1,e2];simp [hv w]

theorem qu {i:Nat}{v:Value}(t:TypeId)(x:Operand)(lo:Option Operand)(hi:Option Operand)(hv:∀w,(Instr.sliceAt t (ev f x) (lo.map (ev f)) (hi.map (ev f)) none).run P w=.ok v w)(h:(op ops i).op=.slice t x lo hi none:=by kernel_rfl)(hx:inB n x=true:=by decide)(hl:lo.all (inB n)=true:=by decide)(hh:hi.all (inB n)=true:=by decide):∀A,At n A f→∀w,S w→(execOp A.eval (op ops i)).run P w=.ok (.value v) w:=slice i t x lo hi v h hx hl hh hv
theorem neg (i:Nat)(t:TypeId)(x:Operand)(b:Bool)(h:(op ops i).op=.unOp .not t x)(hx:inB n x=true)(hv:ev f x=.bool b) :
    ∀A,At n A f→∀w,S w→(execOp A.eval (op ops i)).run P w=.ok (.value (.bool (!b))) w:=by
  intro A hA w _;have e:execOp A.eval (op ops i)=(do pure (.value (← Op.unary .not (A.eval x)))):=by
   unfold execOp;rw [h]
  rw [e,hA.ev x hx,hv];rfl

theorem qt {i:Nat}(t:TypeId)(x:Operand)(b:Bool)(h:(op ops i).op=.unOp .not t x:=by kernel_rfl)(hx:inB n x=true:=by decide)(hv:ev f x=.bool b:=by exact rfl):∀A,At n A f→∀w,S w→(execOp A.eval (op ops i)).run P w=.ok (.value (.bool (!b))) w:=neg i t x b h hx hv
theorem index (i:Nat)(t:TypeId)(x y:Operand)(v:Value)(h:(op ops i).op=.indexAddr t x y)(hx:inB n x=true)(hy:inB n y=true)(hv:∀w,(Instr.indexAt t (ev f x) (ev f y)).run P w=.ok v w) :
    ∀A,At n A f→∀w,S w→(execOp A.eval (op ops i)).run P w=.ok (.value v) w:=by
  intro A hA w _;have e:execOp A.eval (op ops i)=(do pure (.value (← Instr.indexAt t (A.eval x) (A.eval y)))):=by
   unfold execOp;rw [h]
  rw [e,hA.ev x hx,hA.ev y hy];simp [hv w]

theorem qb {i:Nat}{v:Value}(t:TypeId)(x:Operand)(y:Operand)(hv:∀w,(Instr.indexAt t (ev f x) (ev f y)).run P w=.ok v w)(h:(op ops i).op=.indexAddr t x y:=by kernel_rfl)(hx:inB n x=true:=by decide)(hy:inB n y=true:=by decide):∀A,At n A f→∀w,S w→(execOp A.eval (op ops i)).run P w=.ok (.value v) w:=index i t x y v h hx hy hv
theorem load (i:Nat)(t:TypeId)(x:Operand)(v:Value)(h:(op ops i).op=.load t x)(hx:inB n x=true)(hv:∀w,S w→(Instr.loadAt t (ev f x)).run P w=.ok v w) :
    ∀A,At n A f→∀w,S w→(execOp A.eval (op ops i)).run P w=.ok (.value v) w:=by
  intro A hA w hS;have e:execOp A.eval (op ops i)=(do pure (.value (← Instr.loadAt t (A.eval x)))):=by
   unfold execOp;rw [h]
  rw [e,hA.ev x hx];simp [hv w hS]

theorem q4 {i:Nat}{v:Value}(t:TypeId)(x:Operand)(hv:∀w,S w→(Instr.loadAt t (ev f x)).run P w=.ok v w)(h:(op ops i).op=.load t x:=by kernel_rfl)(hx:inB n x=true:=by decide):∀A,At n A f→∀w,S w→(execOp A.eval (op ops i)).run P w=.ok (.value v) w:=load i t x v h hx hv
theorem bin (i:Nat)(b:BinOp)(t t':TypeId)(x y:Operand)(v:Value)(h:(op ops i).op=.binOp b t x y t')(hx:inB n x=true)(hy:inB n y=true)
    (hv:∀w,(do eqGuard b t x y (ev f x) (ev f y);binOp b t (ev f x) (ev f y):Sem Value).run P w=.ok v w) :
    ∀A,At n A f→∀w,S w→(execOp A.eval (op ops i)).run P w=.ok (.value v) w:=by
  intro A hA w _;have e:execOp A.eval (op ops i)=(do pure (.value (← (do eqGuard b t x y (A.eval x) (A.eval y);binOp b t (A.eval x) (A.eval y))))):=by
   unfold execOp;rw [h]
  rw [e,hA.ev x hx,hA.ev y hy];rw [Sem.run_bind,hv w];rfl
theorem one (i:Nat)(t:TypeId)(x:Operand)(v:Value)(w':World)(h:(op ops i).op=.buildSlice t 1 #[(0,x)])(hx:inB n x=true)(hv:(Instr.buildSlice t 1 #[(0,ev f x)]).run P w=.ok v w') :
    ∀A,At n A f→(execOp A.eval (op ops i)).run P w=.ok (.value v) w':=by
  intro A hA;have e:execOp A.eval (op ops i)=(do pure (.value (← Instr.buildSlice t 1 (Array.map (fun (p:Nat × Operand)=>(p.1,A.eval p.2)) #[(0,x)])))):=by
   unfold execOp;rw [h]
  rw [e];simp [hA.ev x hx,hv]

theorem qy {i:Nat}{v:Value}{w':World}(t:TypeId)(x:Operand)(hv:(Instr.buildSlice t 1 #[(0,ev f x)]).run P w=.ok v w')(h:(op ops i).op=.buildSlice t 1 #[(0,x)]:=by kernel_rfl)(hx:inB n x=true:=by decide):∀A,At n A f→(execOp A.eval (op ops i)).run P w=.ok (.value v) w':=one i t x v w' h hx hv
theorem app (i:Nat)(t:TypeId)(x y:Operand)(v:Value)(w':World)(h:(op ops i).op=.call { callee:=.builtin .append,args:=#[x,y],argTypes:=#[t,t] })(hx:inB n x=true)(hy:inB n y=true)
    (hv:∀ty,(Builtin.append_ #[t,t] ty #[ev f x,ev f y]).run P w=.ok v w') :
    ∀A,At n A f→(execOp A.eval (op ops i)).run P w=.ok (.value v) w':=by
  intro A hA;unfold execOp;rw [h];simp [resolve,invoke,builtin,hA.ev x hx,hA.ev y hy,hv]

theorem qx {i:Nat}{v:Value}{w':World}(t:TypeId)(x:Operand)(y:Operand)(hv:∀ty,(Builtin.append_ #[t,t] ty #[ev f x,ev f y]).run P w=.ok v w')(h:(op ops i).op=.call { callee:=.builtin .append,args:=#[x,y],argTypes:=#[t,t] }:=by kernel_rfl)(hx:inB n x=true:=by decide)(hy:inB n y=true:=by decide):∀A,At n A f→(execOp A.eval (op ops i)).run P w=.ok (.value v) w':=app i t x y v w' h hx hy hv
theorem H.skip (i d:Nat)(hi:ops[i]? = some (op ops i))(hd:(op ops i).dst=some d)(hc:first ops listed i=true)
    (hw:∀A,At n A f→Region.wanted (op ops i) (yielded ops A.tmps)=false)(hS:S w)
    (h:H P ops S Q n fuel (listed.setIfInBounds i true) (upd f d undef) w):H P ops S Q n (fuel+1) listed f w:=by
  intro A hA;simp only [first,Bool.and_eq_true] at hc;refine wpAnyH_take (i:=i) (oi:=op ops i) (v:=undef) hi hc.1.1 hc.1.2 hc.2 (fun _ _ _ h=>h) (.inr ⟨hw A hA,rfl⟩) hS (h _ ?_);rw [hd];exact hA.put d undef

theorem q6 (i:Nat)(d:Nat)(hw:∀A,At n A f→Region.wanted (op ops i) (yielded ops A.tmps)=false)(hS:S w)(h:H P ops S Q n fuel (listed.setIfInBounds i true) (upd f d undef) w)(hi:ops[i]? = some (op ops i):=by kernel_rfl)(hd:(op ops i).dst=some d:=by kernel_rfl)(hc:first ops listed i=true:=by kernel_rfl):H P ops S Q n (fuel+1) listed f w:=H.skip i d hi hd hc hw hS h
theorem unwanted (i j dj:Nat)(b:Bool)(h:(op ops i).guard=some (j,b))(hj:(ops[j]?).bind (·.dst)=some dj)(hn:dj<n)(hv:f dj=.bool (!b)) :
    ∀A,At n A f→Region.wanted (op ops i) (yielded ops A.tmps)=false:=by
  intro A hA;have hs:=hA.1;have h1:=hA.2.2 dj hn;have h2:A.tmps[dj]? = some (.bool (!b)):=by
   rw [hv] at h1;(have aa:dj<A.tmps.size:=by omega);simp only [Array.getD,aa,dif_pos] at h1;rw [Array.getElem?_eq_getElem aa];exact congrArg some h1
  cases b <;> simp [Region.wanted,h,yielded,hj,h2]

theorem q7 {i:Nat}(j:Nat)(dj:Nat)(b:Bool)(h:(op ops i).guard=some (j,b):=by kernel_rfl)(hj:(ops[j]?).bind (·.dst)=some dj:=by kernel_rfl)(hn:dj<n:=by decide)(hv:f dj=.bool (!b):=by exact rfl):∀A,At n A f→Region.wanted (op ops i) (yielded ops A.tmps)=false:=unwanted i j dj b h hj hn hv
theorem pickF (i:Nat)(c x y:Operand)(h:(op ops i).op=.pick c x y)(hc:inB n c=true)(hy:inB n y=true)(hv:ev f c=.bool false) :
    ∀A,At n A f→∀w,S w→(execOp A.eval (op ops i)).run P w=.ok (.value (ev f y)) w:=by
  intro A hA w _;have e:execOp A.eval (op ops i)=(do pure (.value (if ← asBool (A.eval c) then A.eval x else A.eval y))):=by
   unfold execOp;rw [h]
  rw [e,hA.ev c hc,hv,hA.ev y hy];rfl

theorem ql {i:Nat}(c:Operand)(x:Operand)(y:Operand)(h:(op ops i).op=.pick c x y:=by kernel_rfl)(hc:inB n c=true:=by decide)(hy:inB n y=true:=by decide)(hv:ev f c=.bool false:=by exact rfl):∀A,At n A f→∀w,S w→(execOp A.eval (op ops i)).run P w=.ok (.value (ev f y)) w:=pickF i c x y h hc hy hv
theorem field (i:Nat)(t:TypeId)(x:Operand)(k:Nat)(v:Value)(h:(op ops i).op=.fieldAddr t x k)(hx:inB n x=true)(hv:∀w,(Instr.fieldAt t (ev f x) k).run P w=.ok v w) :
    ∀A,At n A f→∀w,S w→(execOp A.eval (op ops i)).run P w=.ok (.value v) w:=by
  intro A hA w _;have e:execOp A.eval (op ops i)=(do pure (.value (← Instr.fieldAt t (A.eval x) k))):=by
   unfold execOp;rw [h]
  rw [e,hA.ev x hx];simp [hv w]

theorem q5 {i:Nat}{v:Value}(t:TypeId)(x:Operand)(k:Nat)(hv:∀w,(Instr.fieldAt t (ev f x) k).run P w=.ok v w)(h:(op ops i).op=.fieldAddr t x k:=by kernel_rfl)(hx:inB n x=true:=by decide):∀A,At n A f→∀w,S w→(execOp A.eval (op ops i)).run P w=.ok (.value v) w:=field i t x k v h hx hv
theorem nilc (i:Nat)(x:Operand)(a:Addr)(h:(op ops i).op=.nilCheck x)(hx:inB n x=true)(hv:ev f x=.pointer (some a)) :
    ∀A,At n A f→∀w,S w→(execOp A.eval (op ops i)).run P w=.ok (.value (.pointer (some a))) w:=by
  intro A hA w _;unfold execOp;rw [h];simp only [hA.ev x hx,hv];rfl

theorem q_36 {i:Nat}{a:Addr}(x:Operand)(h:(op ops i).op=.nilCheck x:=by kernel_rfl)(hx:inB n x=true:=by decide)(hv:ev f x=.pointer (some a):=by exact rfl):∀A,At n A f→∀w,S w→(execOp A.eval (op ops i)).run P w=.ok (.value (.pointer (some a))) w:=nilc i x a h hx hv
theorem lenOf (i:Nat)(t:TypeId)(x:Operand)(v:Value)(h:(op ops i).op=.call { callee:=.builtin .len,args:=#[x],argTypes:=#[t] })(hx:inB n x=true)
    (hv:∀ty w,(Builtin.len_ #[t] ty #[ev f x]).run P w=.ok v w):∀A,At n A f→∀w,S w→(execOp A.eval (op ops i)).run P w=.ok (.value v) w:=by
  intro A hA w _;unfold execOp;rw [h];simp [resolve,invoke,builtin,hA.ev x hx,hv]

theorem qr {i:Nat}{v:Value}(t:TypeId)(x:Operand)(hv:∀ty w,(Builtin.len_ #[t] ty #[ev f x]).run P w=.ok v w)(h:(op ops i).op=.call { callee:=.builtin .len,args:=#[x],argTypes:=#[t] }:=by kernel_rfl)(hx:inB n x=true:=by decide):∀A,At n A f→∀w,S w→(execOp A.eval (op ops i)).run P w=.ok (.value v) w:=lenOf i t x v h hx hv
theorem neqStrs (i:Nat)(t t':TypeId)(x y:Operand)(a b:ByteArray)(h:(op ops i).op=.binOp .neq t x y t')(hx:inB n x=true)(hy:inB n y=true)(h1:ev f x=.string a)(h2:ev f y=.string b) :
    ∀A,At n A f→∀w,S w→(execOp A.eval (op ops i)).run P w=.ok (.value (.bool (!(a.toList == b.toList)))) w:=by
  intro A hA w _;have e:execOp A.eval (op ops i)=(do pure (.value (← (do eqGuard .neq t x y (A.eval x) (A.eval y);binOp .neq t (A.eval x) (A.eval y))))):=by
   unfold execOp;rw [h]
  rw [e,hA.ev x hx,hA.ev y hy,h1,h2];simp [go_sem,eqGuard]
theorem binV (i:Nat)(b:BinOp)(t t':TypeId)(x y:Operand)(vx vy v:Value)(h:(op ops i).op=.binOp b t x y t')(hx:inB n x=true)(hy:inB n y=true)(h1:ev f x=vx)(h2:ev f y=vy)
    (hv:∀w,(do eqGuard b t x y vx vy;binOp b t vx vy:Sem Value).run P w=.ok v w) :
    ∀A,At n A f→∀w,S w→(execOp A.eval (op ops i)).run P w=.ok (.value v) w:=by
  subst h1;subst h2;exact bin i b t t' x y v h hx hy hv

theorem qc {i:Nat}{v:Value}(b:BinOp)(t:TypeId)(t':TypeId)(x:Operand)(y:Operand)(vx:Value)(vy:Value)(hv:∀w,(do eqGuard b t x y vx vy;binOp b t vx vy:Sem Value).run P w=.ok v w)(h:(op ops i).op=.binOp b t x y t':=by kernel_rfl)(hx:inB n x=true:=by decide)(hy:inB n y=true:=by decide)(h1:ev f x=vx:=by exact rfl)(h2:ev f y=vy:=by exact rfl):∀A,At n A f→∀w,S w→(execOp A.eval (op ops i)).run P w=.ok (.value v) w:=binV i b t t' x y vx vy v h hx hy h1 h2 hv
theorem convV (i:Nat)(src dst:TypeId)(x:Operand)(vx v:Value)(h:(op ops i).op=.convert src dst x)(hx:inB n x=true)(h1:ev f x=vx)(hv:∀w,S w→(convert src dst vx).run P w=.ok v w) :
    ∀A,At n A f→∀w,S w→(execOp A.eval (op ops i)).run P w=.ok (.value v) w:=by
  subst h1;exact conv i src dst x v h hx hv
theorem q_46 {i:Nat}{v:Value}(src:TypeId)(dst:TypeId)(x:Operand)(vx:Value)(hv:∀w,S w→(convert src dst vx).run P w=.ok v w)(h:(op ops i).op=.convert src dst x:=by kernel_rfl)(hx:inB n x=true:=by decide)(h1:ev f x=vx:=by exact rfl):∀A,At n A f→∀w,S w→(execOp A.eval (op ops i)).run P w=.ok (.value v) w:=convV i src dst x vx v h hx h1 hv
end
theorem enters {P : Program} {g : Nat} {fn : Func} (hf : P.funcs[g]? = some fn) (aa : (fn.name == "runtime.NumGoroutine") = false) (hb : fn.body.isNone = false) : ∀ args w, (callFunc g args).run P w = .ok (.enter g args) w := by
 intro args w;unfold callFunc;rw [Sem.run_bind,run_program];simp only [Result.andThen,hf,aa,hb];rfl

theorem qi {P : Program} {g : Nat} {fn : Func} (hf : P.funcs[g]? = some fn) (hname : (fn.name == "runtime.NumGoroutine") = false := by kernel_rfl) (hb : fn.body.isNone = false := by kernel_rfl) : ∀ args w, (callFunc g args).run P w = .ok (.enter g args) w := enters hf hname hb
theorem At.same {f:Nat→Value}(h:At n A f){d:Nat}{v:Value}(hv:f d=v):At n A (upd f d v):=by
 refine⟨h.1,h.2.1,fun e he=>?_⟩;rw [h.2.2 e he];unfold upd;split
 · rename_i hed;rw [hed,hv]
 · rfl
def find (id:Nat):Code→Array Oper
  | .region k ops _=>if k=id then ops else #[]
  | .seq a b=>find id a ++ find id b
  | .cond _ a b=>find id a ++ find id b
  | .block _ a=>find id a
  | .loop a=>find id a
  | .scope a=>find id a
  | _=>#[]
theorem region_is {P:Program}{Q:Exit→Act→World→Prop}{id:Nat}{l ops:Array Oper}{b:Bool}(h:l=ops)(hh:(Code.region id ops b).wp P Q A w):(Code.region id l b).wp P Q A w:=by
 subst h;exact hh

theorem q9 {P:Program}{Q:Exit→Act→World→Prop}{A:Act}{w:World}{id:Nat}{l ops:Array Oper}{b:Bool}(hh:(Code.region id ops b).wp P Q A w)(h:l=ops:=by kernel_rfl):(Code.region id l b).wp P Q A w:=region_is h hh
end Pl
namespace Pl
section
variable {P : Program} {ops : Array Oper} {S : World → Prop} {Q : Exit → Act → World → Prop} {n fuel : Nat} {listed : Array Bool} {f : Nat → Value} {w : World}
def HOp (P:Program) (ops:Array Oper) (S:World→Prop) (Q:Exit→Act→World→Prop) (n fuel:Nat) (listed:Array Bool) (f:Nat→Value) (w:World) (i:Nat):Prop:=
  ∀A,At n A f→wpOp P ops (NoPanic Q) i (fun a' w'=>S w'∧wpAnyH P .any ops (NoPanic Q) S fuel (listed.setIfInBounds i true) a' w') A w
theorem H.one (i:Nat)(hr:Region.ready .any ops listed=[i])(h:HOp P ops S Q n fuel listed f w i):H P ops S Q n (fuel+1) listed f w:=by
 intro A hA;refine wpAnyH_all hr (by simp) ?_;intro j hj;(obtain rfl:j=i:=by simpa using hj);exact h A hA

theorem q_44 (i:Nat)(h:HOp P ops S Q n fuel listed f w i)(hr:Region.ready .any ops listed=[i]:=by kernel_rfl):H P ops S Q n (fuel+1) listed f w:=H.one i hr h
theorem H.two (i k:Nat)(hr:Region.ready .any ops listed=[i,k])(h:HOp P ops S Q n fuel listed f w i)(h2:HOp P ops S Q n fuel listed f w k):H P ops S Q n (fuel+1) listed f w:=by
 intro A hA;refine wpAnyH_all hr (by simp) ?_;intro j hj;(have:j=i∨j=k:=by simpa using hj);rcases this with rfl | rfl
 · exact h A hA
 · exact h2 A hA

theorem qs (i:Nat)(k:Nat)(h:HOp P ops S Q n fuel listed f w i)(h2:HOp P ops S Q n fuel listed f w k)(hr:Region.ready .any ops listed=[i,k]:=by kernel_rfl):H P ops S Q n (fuel+1) listed f w:=H.two i k hr h h2
theorem HOp.value (i d:Nat)(v:Value)(w':World)(hi:ops[i]? = some (op ops i))(hd:(op ops i).dst=some d)(hg:(op ops i).guard=none)
    (hy:∀A,At n A f→(execOp A.eval (op ops i)).run P w=.ok (.value v) w')(hS:S w')
    (h:H P ops S Q n fuel (listed.setIfInBounds i true) (upd f d v) w'):HOp P ops S Q n fuel listed f w i:=by
  intro A hA;unfold wpOp;rw [hi];simp only [free (n:=n) (f:=f) i hg A hA,if_true];refine .inl ?_;unfold Oper.wp;rw [hy A hA];refine⟨hS,h _ ?_⟩;rw [hd];exact hA.put d v

theorem qm (i:Nat)(d:Nat)(v:Value)(w':World)(hy:∀A,At n A f→(execOp A.eval (op ops i)).run P w=.ok (.value v) w')(hS:S w')(h:H P ops S Q n fuel (listed.setIfInBounds i true) (upd f d v) w')(hi:ops[i]? = some (op ops i):=by kernel_rfl)(hd:(op ops i).dst=some d:=by kernel_rfl)(hg:(op ops i).guard=none:=by kernel_rfl):HOp P ops S Q n fuel listed f w i:=HOp.value i d v w' hi hd hg hy hS h
theorem HOp.call (i d g:Nat)(xs:List Operand)(ts:Array TypeId)(hi:ops[i]? = some (op ops i))(hd:(op ops i).dst=some d)(hg:(op ops i).guard=none)
    (ad:(op ops i).op=.call { callee:=.value (.func g),args:=xs.toArray,argTypes:=ts })(hx:xs.all (inB n)=true)
    (ac:∀args w,(callFunc g args).run P w=.ok (.enter g args) w)
    (h:Calls P g (xs.map (ev f)).toArray w fun e w'=>∃v,e=.returned v∧S w'∧H P ops S Q n fuel (listed.setIfInBounds i true) (upd f d v) w') :
    HOp P ops S Q n fuel listed f w i:=by
  intro A hA;unfold wpOp;rw [hi];simp only [free (n:=n) (f:=f) i hg A hA,if_true];refine .inl ?_;have aa:#[] ++ xs.toArray.map A.eval ++ #[]=(xs.map (ev f)).toArray:=by
   simp only [Array.empty_append,Array.append_empty,List.map_toArray];congr 1;apply List.map_congr_left;intro x ae;exact hA.ev x (List.all_eq_true.1 hx x ae)
  have ab:(execOp A.eval (op ops i)).run P w=.ok (.enter g (xs.map (ev f)).toArray) w:=by
   have e:execOp A.eval (op ops i)=callFunc g (#[] ++ xs.toArray.map A.eval ++ #[]):=by
    unfold execOp;rw [ad];rfl
   rw [e,aa];exact ac _ _
  unfold Oper.wp;rw [ab];refine h.mono ?_;rintro e w' ⟨v,rfl,hS,hh⟩;refine⟨hS,hh _ ?_⟩;rw [hd];exact hA.put d v

theorem qz (i:Nat)(d:Nat)(g:Nat)(xs:List Operand)(ts:Array TypeId)(hfn:∀args w,(callFunc g args).run P w=.ok (.enter g args) w)(h:Calls P g (xs.map (ev f)).toArray w fun e w'=>∃v,e=.returned v∧S w'∧H P ops S Q n fuel (listed.setIfInBounds i true) (upd f d v) w')(hi:ops[i]? = some (op ops i):=by kernel_rfl)(hd:(op ops i).dst=some d:=by kernel_rfl)(hg:(op ops i).guard=none:=by kernel_rfl)(hop:(op ops i).op=.call { callee:=.value (.func g),args:=xs.toArray,argTypes:=ts }:=by kernel_rfl)(hx:xs.all (inB n)=true:=by decide):HOp P ops S Q n fuel listed f w i:=HOp.call i d g xs ts hi hd hg hop hx hfn h
theorem load1 (i:Nat)(t:TypeId)(x:Operand)(v:Value)(h:(op ops i).op=.load t x)(hx:inB n x=true)(hv:(Instr.loadAt t (ev f x)).run P w=.ok v w) :
    ∀A,At n A f→(execOp A.eval (op ops i)).run P w=.ok (.value v) w:=by
  intro A hA;have e:execOp A.eval (op ops i)=(do pure (.value (← Instr.loadAt t (A.eval x)))):=by
   unfold execOp;rw [h]
  rw [e,hA.ev x hx];simp [hv]

theorem q_48 {i:Nat}{v:Value}(t:TypeId)(x:Operand)(hv:(Instr.loadAt t (ev f x)).run P w=.ok v w)(h:(op ops i).op=.load t x:=by kernel_rfl)(hx:inB n x=true:=by decide):∀A,At n A f→(execOp A.eval (op ops i)).run P w=.ok (.value v) w:=load1 i t x v h hx hv
theorem appT (i:Nat)(t ty:TypeId)(x y:Operand)(v:Value)(w':World)(h:(op ops i).op=.call { callee:=.builtin .append,args:=#[x,y],argTypes:=#[t,t] })(ht:(op ops i).type=ty)(hx:inB n x=true)(hy:inB n y=true)
    (hv:(Builtin.append_ #[t,t] ty #[ev f x,ev f y]).run P w=.ok v w') :
    ∀A,At n A f→(execOp A.eval (op ops i)).run P w=.ok (.value v) w':=by
  intro A hA;unfold execOp;rw [h];simp [resolve,invoke,builtin,hA.ev x hx,hA.ev y hy,ht,hv]

theorem q_49 {i:Nat}{v:Value}{w':World}(t:TypeId)(ty:TypeId)(x:Operand)(y:Operand)(hv:(Builtin.append_ #[t,t] ty #[ev f x,ev f y]).run P w=.ok v w')(h:(op ops i).op=.call { callee:=.builtin .append,args:=#[x,y],argTypes:=#[t,t] }:=by kernel_rfl)(ht:(op ops i).type=ty:=by kernel_rfl)(hx:inB n x=true:=by decide)(hy:inB n y=true:=by decide):∀A,At n A f→(execOp A.eval (op ops i)).run P w=.ok (.value v) w':=appT i t ty x y v w' h ht hx hy hv
theorem H.store (i:Nat)(w':World)(hi:ops[i]? = some (op ops i))(hd:(op ops i).dst=none)(hr:Region.ready .any ops listed=[i])
    (hw:∀A,At n A f→Region.wanted (op ops i) (yielded ops A.tmps)=true)
    (hy:∀A,At n A f→(execOp A.eval (op ops i)).run P w=.ok .skip w')(hS:S w')
    (h:H P ops S Q n fuel (listed.setIfInBounds i true) f w'):H P ops S Q n (fuel+1) listed f w:=by
  intro A hA;refine wpAnyH_all hr (by simp) ?_;intro j hj;(obtain rfl:j=i:=by simpa using hj);unfold wpOp;rw [hi];simp only [hw A hA,if_true];refine .inl ?_;unfold Oper.wp;rw [hy A hA];refine⟨hS,?_⟩;rw [hd];exact h A hA

theorem qj (i:Nat)(w':World)(hw:∀A,At n A f→Region.wanted (op ops i) (yielded ops A.tmps)=true)(hy:∀A,At n A f→(execOp A.eval (op ops i)).run P w=.ok .skip w')(hS:S w')(h:H P ops S Q n fuel (listed.setIfInBounds i true) f w')(hi:ops[i]? = some (op ops i):=by kernel_rfl)(hd:(op ops i).dst=none:=by kernel_rfl)(hr:Region.ready .any ops listed=[i]:=by kernel_rfl):H P ops S Q n (fuel+1) listed f w:=H.store i w' hi hd hr hw hy hS h
theorem storeV (i:Nat)(t:TypeId)(x y:Operand)(w':World)(h:(op ops i).op=.store t x y)(hx:inB n x=true)(hy:inB n y=true)(hv:(Instr.storeAt t (ev f x) (ev f y)).run P w=.ok () w') :
    ∀A,At n A f→(execOp A.eval (op ops i)).run P w=.ok .skip w':=by
  intro A hA;have e:execOp A.eval (op ops i)=(do Instr.storeAt t (A.eval x) (A.eval y);pure .skip):=by
   unfold execOp;rw [h]
  rw [e,hA.ev x hx,hA.ev y hy];simp [hv]

theorem qk {i:Nat}{w':World}(t:TypeId)(x:Operand)(y:Operand)(hv:(Instr.storeAt t (ev f x) (ev f y)).run P w=.ok () w')(h:(op ops i).op=.store t x y:=by kernel_rfl)(hx:inB n x=true:=by decide)(hy:inB n y=true:=by decide):∀A,At n A f→(execOp A.eval (op ops i)).run P w=.ok .skip w':=storeV i t x y w' h hx hy hv
theorem zero (i:Nat)(t:TypeId)(v:Value)(w':World)(h:(op ops i).op=.buildSlice t 0 #[])(hv:(Instr.buildSlice t 0 #[]).run P w=.ok v w') :
    ∀A,At n A f→(execOp A.eval (op ops i)).run P w=.ok (.value v) w':=by
  intro A hA;have e:execOp A.eval (op ops i)=(do pure (.value (← Instr.buildSlice t 0 (Array.map (fun (p:Nat × Operand)=>(p.1,A.eval p.2)) #[])))):=by
   unfold execOp;rw [h]
  rw [e];simp [hv]
end
theorem upd_comm (f:Nat→Value)(d e:Nat)(v u:Value)(h:d≠e):upd (upd f d v) e u=upd (upd f e u) d v:=by
 funext x;unfold upd;by_cases h1:x=d
 · subst h1;simp [h]
 · simp [h1]
theorem qg {f:Nat→Value}{v:Value}{u:Value}(d:Nat)(e:Nat)(h:d≠e:=by decide):upd (upd f d v) e u=upd (upd f e u) d v:=upd_comm f d e v u h
end Pl
theorem Zac {c:World}(h:Below a.heap.size a b)(k:Below b.heap.size b c):Below a.heap.size a c:=h.trans (k.mono h.size)
structure Sl where
  a:Option Addr
  len:Nat
  cap:Nat
def Sl.val (s:Sl):Value:=.slice s.a s.len s.cap
def Sl.nil:Sl:=⟨none,0,0⟩
theorem Zh6 (w:World)(a:Addr)(u:Value):(w.setCell a u).heap.size=w.heap.size:=by simp [World.setCell]
structure Frm (F:Nat→Prop) (w w':World):Prop where
  os:w'.os=w.os
  tape:w'.tape=w.tape
  output:w'.output=w.output
  size:w.heap.size≤w'.heap.size
  block:∀k,k<w.heap.size→¬F k→w'.heap[k]? = w.heap[k]?
theorem Frm.refl (F:Nat→Prop)(w:World):Frm F w w:=⟨rfl,rfl,rfl,Nat.le_refl _,fun _ _ _=>rfl⟩
theorem Frm.ofBelow {F:Nat→Prop}(h:Below w.heap.size w w'):Frm F w w':=⟨h.os,h.tape,h.output,h.size,fun k hk _=>h.block k hk⟩
theorem Frm.trans {F G:Nat→Prop}{c:World}(h:Frm F a b)(k:Frm G b c)(hG:∀i,i<a.heap.size→G i→F i):Frm F a c:=
 ⟨k.os.trans h.os,k.tape.trans h.tape,k.output.trans h.output,Nat.le_trans h.size k.size,fun i hi hF=>(k.block i (Nat.lt_of_lt_of_le hi h.size) (fun g=>hF (hG i hi g))).trans (h.block i hi hF)⟩
theorem Frm.mono {F G:Nat→Prop}(h:Frm F a b)(hG:∀i,i<a.heap.size→F i→G i):Frm G a b:=
 ⟨h.os,h.tape,h.output,h.size,fun i hi hF=>h.block i hi (fun f=>hF (hG i hi f))⟩
theorem Frm.below {F:Nat→Prop}{B:Nat}(h:Frm F w w')(hB:B≤w.heap.size)(hF:∀k,F k→B≤k):Below B w w':=
 ⟨h.os,h.tape,h.output,h.size,fun k hk=>h.block k (Nat.lt_of_lt_of_le hk hB) (fun f=>by have:=hF k f;omega)⟩
theorem Frm.setCell {F:Nat→Prop}(h:Frm F a w){p:Addr}(hp:F p.block)(u:Value):Frm F a (w.setCell p u):=
 ⟨h.os,h.tape,h.output,by have:=h.size;simpa [World.setCell] using this,fun k hk hF=>(Below.heap_setCell w p u k (fun e=>hF (by rw [e];exact hp))).trans (h.block k hk hF)⟩
theorem Frm.drew {F:Nat→Prop}(h:Frm F a w):Frm F a w.drew:=⟨h.os,h.tape,h.output,h.size,h.block⟩
def Sl.blk (s:Sl):Option Nat:=s.a.map Addr.block
def Own (e:TypeId) (z:Nat) (w:World) (s:Sl) (vs:List Value):Prop:=
  vs.length=s.len*z∧((s=Sl.nil∧vs=[])∨∃g off cur,s.a=some ⟨g,off,none⟩∧w.heap[g]? = some (.cells cur e (0,0))∧off+s.cap*z≤cur.size∧s.len≤s.cap∧s.cap≤maxLen∧(cur.toList.drop off).take (s.len*z)=vs)
theorem Own.nil (e:TypeId)(z:Nat)(w:World):Own e z w Sl.nil []:=⟨by simp [Sl.nil],.inl ⟨rfl,rfl⟩⟩
theorem Own.frame {s:Sl}(h:Own e z w s vs)(hk:∀k,s.blk=some k→w'.heap[k]? = w.heap[k]?):Own e z w' s vs:=by
 refine⟨h.1,?_⟩;rcases h.2 with h0 | ⟨g,off,cur,ha,hg,r⟩
 · exact .inl h0
 · exact .inr ⟨g,off,cur,ha,(hk g (by rw [Sl.blk,ha];rfl)).trans hg,r⟩
theorem Own.lt {s:Sl}(h:Own e z w s vs){k:Nat}(hk:s.blk=some k):k<w.heap.size:=by
 rcases h.2 with ⟨h0,_⟩ | ⟨g,off,cur,ha,hg,r⟩
 · rw [h0] at hk;cases hk
 · rw [Sl.blk,ha] at hk;cases hk;exact(Array.getElem?_eq_some_iff.1 hg).1
theorem Own.kind {s:Sl}(h:Own e z w s vs){k:Nat}(hk:s.blk=some k):∃cur,w.heap[k]? = some (.cells cur e (0,0)):=by
 rcases h.2 with ⟨h0,_⟩ | ⟨g,off,cur,ha,hg,r⟩
 · rw [h0] at hk;cases hk
 · rw [Sl.blk,ha] at hk;cases hk;exact⟨cur,hg⟩
theorem Own.nilcap {s:Sl}(h:Own e z w s vs)(ha:s.a=none):s.cap=0:=by
 rcases h.2 with ⟨h0,_⟩ | ⟨g,off,cur,ha',_⟩
 · rw [h0];rfl
 · rw [ha'] at ha;cases ha
theorem Own.lecap {s:Sl}(h:Own e z w s vs):s.len≤s.cap:=by
 rcases h.2 with ⟨h0,_⟩ | ⟨g,off,cur,ha',_,_,h2,_⟩
 · rw [h0];exact Nat.le_refl _
 · exact h2
theorem Own.capmax {s:Sl}(h:Own e z w s vs):s.cap≤maxLen:=by
 rcases h.2 with ⟨h0,_⟩ | ⟨g,off,cur,ha',_,_,_,h2,_⟩
 · rw [h0];exact Nat.zero_le _
 · exact h2
theorem Own.cell {s:Sl}(h:Own e z w s vs){a:Addr}(ha:s.a=some a)(j:Nat)(u:Value)(hj:vs[j]? = some u):w.cell? (a.add j)=some u:=by
 rcases h.2 with ⟨h0,_⟩ | ⟨g,off,cur,ha',hg,_,_,_,ht⟩
 · rw [h0] at ha;cases ha
 · rw [ha'] at ha;cases ha;rw [Addr.add_lit,cell_of_row w g _ cur e (0,0) hg];rw [← ht,List.getElem?_take,List.getElem?_drop] at hj;split at hj
   · simpa using hj
   · cases hj
theorem Zp9 (l vs:List Value)(o n:Nat)(hl:o+n+vs.length≤l.length):((Zci l.toArray (o+n) vs).toList.drop o).take (n+vs.length)=(l.drop o).take n ++ vs:=by
 have h:=ZcH vs l.toArray (o+n) (by simpa using hl);have e:((Zci l.toArray (o+n) vs).toList.drop o).take (n+vs.length)=((Zci l.toArray (o+n) vs).toList.take (o+n+vs.length)).drop o:=by
  rw [List.drop_take];congr 1;omega
 rw [e,h,List.drop_append_of_le_length (by simp;omega)];congr 1;simp [List.drop_take]
theorem Zax {S:TypeId}{zv:Value}{bytes:Nat}(hu:Tryz.prog.underlying S=some (.slice e))(hi:(Tryz.prog.info? e).map (fun i=>(i.zero,i.size,i.bytes))=some (some zv,z,bytes))(hzc:zv.cells.size=z)(hby:bytes≤1000)
    (w:World)(s:Sl)(us:List Value)(hown:Own e z w s us)(h1u:∀u∈us,u.oneCell'=true)(x:Value)(n:Nat)(vs:List Value)(hs:Src Tryz.prog z S x n vs w)(hlen:s.len+n≤1000000)(ty:TypeId) :
    ∃s' w',(Builtin.append_ #[S,S] ty #[s.val,x]).run Tryz.prog w=.ok s'.val w'∧Own e z w' s' (us ++ vs)∧s'.len=s.len+n∧Frm (fun k=>s.blk=some k) w w'∧(s'.blk=s.blk∨(s'.blk=some w.heap.size∧w.heap.size<w'.heap.size)):=by
  obtain⟨i0,hi,hz0,hz1,hz2⟩:=info_parts hi
  have hvl:=hs.newsLen
  have hul:=hown.1
  rw [← hz1] at hs
  by_cases hr:s.len+n≤s.cap
  · rcases hown.2 with ⟨h0,hv⟩ | ⟨g,off,cur,ha,hg,hoc,hlc,hcm,ht⟩
    · subst h0;subst hv
      have hn0:n=0:=by simpa [Sl.nil] using hr
      subst hn0
      have hv0:vs=[]:=List.eq_nil_of_length_eq_zero (by rw [hvl];simp)
      subst hv0
      refine⟨Sl.nil,w,?_,Own.nil e z w,rfl,Frm.refl _ _,.inl rfl⟩
      simp [Builtin.append_,Sl.val,Sl.nil,run_underlying hu,sizeOf,typeInfo,hi,hs.len,hs.cells]
    · have hcell:∀j,j<vs.length→(w.cell? ⟨g,off+s.len*i0.size+j,none⟩).isSome=true:=by
       intro j hj
       have hle:off+s.len*z+j<cur.size:=by
        have:s.len*z+n*z≤s.cap*z:=by rw [← Nat.add_mul];exact Nat.mul_le_mul_right z hr
        omega
       rw [hz1,cell_of_row w g _ cur e (0,0) hg]
       simpa using hle
      have hfz:∀j,j<vs.length→w.frozen? ⟨g,off+s.len*i0.size+j,none⟩=false:=fun j _=>frozen_of_row w g _ cur e hg
      have hrun:=run_append_room_src (P:=Tryz.prog) w S S ty e i0 hu hi g off s.len s.cap x n vs hs hr hcell hfz
      refine⟨⟨s.a,s.len+n,s.cap⟩,_,by unfold Sl.val;simp only [ha];exact hrun,?_,rfl,⟨?_,?_,?_,?_,?_⟩,.inl rfl⟩
      · refine⟨by rw [List.length_append,hul,hvl];show _=(s.len+n)*z;rw [Nat.add_mul],.inr ⟨g,off,_,ha,Zcj g e vs _ cur w hg,by rw [ZcG];exact hoc,hr,hcm,?_⟩⟩
        have hle:off+s.len*z+vs.length≤cur.toList.length:=by
         have:s.len*z+n*z≤s.cap*z:=by rw [← Nat.add_mul];exact Nat.mul_le_mul_right z hr
         simp only [Array.length_toList]
         omega
        have:=Zp9 cur.toList vs off (s.len*z) hle
        rw [Array.toArray_toList,ht,hvl] at this
        rw [hz1]
        show ((Zci cur (off+s.len*z) vs).toList.drop off).take ((s.len+n)*z)=_
        rw [Nat.add_mul]
        exact this
      · exact(Za9 (B:=0) (Nat.zero_le g) vs _ w w (Below.refl _ _)).os
      · exact(Za9 (B:=0) (Nat.zero_le g) vs _ w w (Below.refl _ _)).tape
      · exact(Za9 (B:=0) (Nat.zero_le g) vs _ w w (Below.refl _ _)).output
      · exact(Za9 (B:=0) (Nat.zero_le g) vs _ w w (Below.refl _ _)).size
      · intro k _ hF
        refine Zb5 g k (fun e=>hF ?_) vs _ w
        rw [Sl.blk,ha,e];rfl
  · have hold:(Builtin.firstCells i0.size s.len (.slice s.a s.len s.cap)).run Tryz.prog w.drew=.ok us.toArray w.drew:=by
     rw [hz1]
     rcases hown.2 with ⟨h0,hv⟩ | ⟨g,off,cur,ha,hg,hoc,hlc,hcm,ht⟩
     · subst h0;subst hv
       exact run_firstCells_none w.drew z 0 0 0
     · rw [ha]
       exact run_firstCells_some w.drew z s.len ⟨g,off,none⟩ s.len s.cap us hul (fun j u hj=>by simpa using hown.cell ha j u hj)
    have hcl:=hown.lecap
    have hrun:=run_append_grow_src (P:=Tryz.prog) w S S ty e i0 zv hu hi hz0 s.a s.len s.cap us hold x n vs hs (by omega) (by omega)
     (growslice_fits (by omega) (by rw [hz2];have:(s.len+n)*bytes≤1000000*1000:=Nat.mul_le_mul hlen hby;omega))
    have hge:=grownCap_ge w (s.len+n) s.cap e
    have hcm:grownCap w (s.len+n) s.cap e≤maxLen:=grownCap_le_maxLen w _ s.cap e (by unfold maxLen;omega)
    refine⟨⟨some ⟨w.heap.size,0,none⟩,s.len+n,grownCap w (s.len+n) s.cap e⟩,_,hrun,?_,rfl,Frm.ofBelow (((Below.refl _ w).drew).alloc (Nat.le_refl _) _),.inr ⟨rfl,?_⟩⟩
    · refine⟨by rw [List.length_append,hul,hvl];show _=(s.len+n)*z;rw [Nat.add_mul],.inr ⟨w.heap.size,0,_,rfl,heap_alloc_new w.drew _,?_,hge,hcm,?_⟩⟩
      · simp only [Array.size_append,List.size_toArray,size_zeroCells,List.length_append,hul,hvl,hzc,Nat.zero_add]
        rw [← Nat.add_mul,← Nat.add_mul]
        exact Nat.mul_le_mul_right z (by omega)
      · rw [List.drop_zero,Array.toList_append]
        have hl:(us ++ vs).length=(s.len+n)*z:=by rw [List.length_append,hul,hvl,Nat.add_mul]
        show List.take ((s.len+n)*z) _=_
        rw [← hl]
        exact List.take_left
    · show w.heap.size<(w.heap.push _).size
      simp
section
variable {ops : Array Oper} {rest : List Oper} {o : Oper} {a : Act} {Q : Exit → Act → World → Prop}
theorem Zc3 (w:World)(ab:o.guard=none)(v:Value)(w':World)(aa:(execOp a.eval o).run Tryz.prog w=.ok (.value v) w')(hK:wpList Tryz.prog ops Q rest (a.put o.dst v) w'):wpList Tryz.prog ops Q (o :: rest) a w:=by
 refine wpList_plain ab fun K hK'=>?_;unfold Oper.wp;rw [aa];exact hK' _ _ hK
theorem Zah (w:World)(ab:o.guard=none)(t:TypeId)(x:Operand)(ho:o.op=.load t x)(p v:Value)(hp:a.eval x=p)(aa:(Instr.loadAt t p).run Tryz.prog w=.ok v w)(hK:wpList Tryz.prog ops Q rest (a.put o.dst v) w):wpList Tryz.prog ops Q (o :: rest) a w:=by
 refine Zc3 w ab v w ?_ hK;have e:execOp a.eval o=(do pure (.value (← Instr.loadAt t (a.eval x)))):=by
  unfold execOp;rw [ho]
 rw [e,hp];simp [aa]
theorem Zad (w:World)(ab:o.guard=none)(hd:o.dst=none)(t:TypeId)(x y:Operand)(ho:o.op=.store t x y)(p v:Value)(hp:a.eval x=p)(hv:a.eval y=v)(w':World)(aa:(Instr.storeAt t p v).run Tryz.prog w=.ok () w')(hK:wpList Tryz.prog ops Q rest a w'):wpList Tryz.prog ops Q (o :: rest) a w:=by
 refine wpList_plain ab fun K hK'=>?_;have e:(execOp a.eval o).run Tryz.prog w=.ok .skip w':=by
  have e:execOp a.eval o=(do Instr.storeAt t (a.eval x) (a.eval y);pure .skip):=by
   unfold execOp;rw [ho]
  rw [e,hp,hv];simp [aa]
 unfold Oper.wp;rw [e];obtain⟨dst,op,ty,pos,aft,gd⟩:=o;simp only at hd;subst hd;exact hK' _ _ hK
end
end Go.Proofs.YtiecfcjlhldhdaaGreat
