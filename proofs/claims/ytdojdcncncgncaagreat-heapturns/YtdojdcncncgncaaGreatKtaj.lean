/-
  Lemmas.
-/
import Derived.Test.YtdojdcncncgncaaGreatKtab
import Derived.Test.YtdojdcncncgncaaGreatKtai
import Derived.Test.YtdojdcncncgncaaGreatKtac
import Derived.Laws.CopyRow
import Derived.Laws.IdiomCopy
import Derived.Deep.MidRow
import Derived.Deep.WholeRow
namespace Go.Proofs.YtdojdcncncgncaaGreat
open Go.RowKit
set_option linter.unusedVariables false
set_option maxRecDepth 100000
set_option maxHeartbeats 4000000
variable {w w' b:World}{e S:TypeId}{z B cap base bytes k:Nat}{a:Option Addr}{xs:List Nat}{v:Value}
def Vs (w:World) (a:Option Addr) (len:Nat) (vs:List Value):Prop:=
  vs.length=len∧(∀u∈vs,u.oneCell'=true)∧∀j,j<len→∃b off,a=some ⟨b,off,none⟩∧w.cell? ⟨b,off+j,none⟩=vs[j]?
theorem Vs.keep {len:Nat}{vs:List Value}(h:Vs w a len vs)(hb:Below B w w')(hB:w.heap.size≤B):Vs w' a len vs:=by
 refine⟨h.1,h.2.1,fun i hi=>?_⟩;obtain⟨b,off,ha,hc⟩:=h.2.2 i hi;(have hi':i<vs.length:=by rw [h.1];exact hi);(have hc':w.cell? ⟨b,off+i,none⟩=some vs[i]:=by rw [hc];simp [hi']);exact⟨b,off,ha,(hb.cell (Nat.lt_of_lt_of_le (World.block_lt_of_cell? w _ hc') hB)).trans hc⟩
def OwnsV (e:TypeId) (w:World) (base:Nat) (v:Value) (vs:List Value):Prop:=w.ownsRow base e 1 v vs.length vs
theorem OwnsV.nil (e:TypeId)(w:World)(base:Nat):OwnsV e w base (.slice none 0 0) []:=⟨rfl,.inl ⟨rfl,rfl⟩⟩
theorem OwnsV.lit (e:TypeId)(w:World)(base:Nat)(vs:List Value)(hb:base≤w.heap.size)(hm:vs.length≤1000000):OwnsV e (w.alloc (.cells vs.toArray e)) base (.slice (some ⟨w.heap.size,0,none⟩) vs.length vs.length) vs:=by
 have:=World.ownsRow_lit (base:=base) (e:=e) (size:=1) w vs.toArray vs.length hb (by unfold maxLen;omega) (by simp);simpa [OwnsV] using this
theorem OwnsV.keep {vs:List Value}(h:OwnsV e w base v vs)(hb:Below B w w')(hB:w.heap.size≤B):OwnsV e w' base v vs:=by
 refine⟨h.1,?_⟩;rcases h.2 with hn | ⟨g,cap,cur,hv,aa,hg,rest⟩
 · exact .inl hn
 · refine .inr ⟨g,cap,cur,hv,aa,?_,rest⟩;rw [hb.block g (Nat.lt_of_lt_of_le (Array.getElem?_eq_some_iff.1 hg).1 hB)];exact hg
theorem OwnsV.lower {b b':Nat}{vs:List Value}(h:OwnsV e w b v vs)(hb:b'≤b):OwnsV e w b' v vs:=by
 refine⟨h.1,?_⟩;rcases h.2 with hn | ⟨g,cap,cur,hv,aa,rest⟩
 · exact .inl hn
 · exact .inr ⟨g,cap,cur,hv,Nat.le_trans hb aa,rest⟩
def Zo0 (e:TypeId) (w w':World):Prop:=∀(p:Nat) (C:Array Value) (t:TypeId) (fr:Nat × Nat),w.heap[p]? = some (Obj.cells C t fr)→t≠e→w'.heap[p]? = w.heap[p]?
theorem OwnsV.vs {vs:List Value}(h:OwnsV e w base v vs)(h1:∀u∈vs,u.oneCell'=true) :
    ∃a cap,v=.slice a vs.length cap∧Vs w a vs.length vs∧(a=none→cap=0)∧vs.length≤cap:=by
  rcases h.2 with ⟨hv,h0⟩ | ⟨g,cap,cur,hv,ab,hg,aa,hr⟩
  · refine⟨none,0,by rw [h0];exact hv,⟨rfl,h1,fun i hi=>by omega⟩,fun _=>rfl,by omega⟩
  · refine⟨some ⟨g,0,none⟩,cap,hv,⟨rfl,h1,fun i hi=>⟨g,0,rfl,?_⟩⟩,(fun e=>by cases e),aa⟩;rw [hv] at h;have:=World.ownsRow.cellAt h i (by omega);rw [Nat.zero_add,this]
theorem OwnsV.ne {vs:List Value}(h:OwnsV e w base v vs){p:Nat}{C:Array Value}{t:TypeId}{fr:Nat × Nat}(hp:w.heap[p]? = some (Obj.cells C t fr))(ht:t≠e):v.ownBlock≠some p:=by
 intro e';rcases h.2 with ⟨hv,_⟩ | ⟨g,cap,cur,hv,_,hg,_⟩
 · rw [hv] at e';cases e'
 · rw [hv] at e';simp [Value.ownBlock] at e';subst e';rw [hg] at hp;simp only [Option.some.injEq,Obj.cells.injEq] at hp;exact ht hp.2.1.symm
structure One (S e:TypeId) (z:Value) (bytes:Nat):Prop where
  slice:Tryz.prog.underlying S=some (.slice e)
  info:(Tryz.prog.info? e).map (fun i=>(i.zero,i.size,i.bytes))=some (some z,1,bytes)
  zs:z.cells.size=1
  small:bytes≤8
theorem Zc6 {z:Value}(O:One S e z bytes)(w:World)(ty:TypeId)(base:Nat)(v:Value)(us:List Value)(aa:OwnsV e w base v us)(ao:Option Addr)(len cap:Nat)(vs:List Value)(hb:Vs w ao len vs)(hn:ao=none→cap=0)
    (af:us.length+len≤1000000)(ab:base≤w.heap.size) :
    ∃v' w',(Builtin.append_ #[S,S] ty #[v,.slice ao len cap]).run Tryz.prog w=.ok v' w'∧OwnsV e w' base v' (us ++ vs)∧Below base w w'∧Zo0 e w w':=by
  obtain⟨i0,hi,ai,aj,ak⟩:=info_parts O.info;have ag:∀k,v.ownBlock=some k→base≤k:=fun k hk=>(World.ownsRow.lt aa k hk).1;have ah:=hb.1;cases ao with
  | none =>
   obtain rfl:=hn rfl;have h0:len=0:=by
    rcases Nat.eq_zero_or_pos len with h | h
    · exact h
    · obtain⟨_,_,e',_⟩:=hb.2.2 0 h;cases e'
   subst h0;have hy:vs=[]:=List.eq_nil_of_length_eq_zero ah;subst hy;have ae:=run_append_owned_none (P:=Tryz.prog) (w:=w) base S ty e i0 1 O.slice hi v us.length us aa;exact⟨v,w,ae,by simpa using aa,Below.refl _ _,fun _ _ _ _ _ _=>rfl⟩
  | some ad =>
   have ac:∀j u,vs[j]? = some u→w.cell? (ad.add j)=some u:=by
    intro j u hj;have al:j<vs.length:=(List.getElem?_eq_some_iff.1 hj).1;obtain⟨b,off,e',hc⟩:=hb.2.2 j (by omega);obtain rfl:=Option.some.inj e';rw [Addr.add_lit,hc,hj]
   obtain⟨v',w',ae,ho,hg,_⟩:=run_append_own (P:=Tryz.prog) w base S ty e i0 z 1 bytes O.slice hi ai aj ak O.zs (by decide) v us.length us aa ad len cap vs (by rw [ah,Nat.mul_one]) ac hb.2.1
    (by unfold maxLen;omega) (by have:=O.small;have:(us.length+len)*bytes≤1000000*8:=Nat.mul_le_mul af O.small;omega) ab
   refine⟨v',w',ae,?_,(Below.refl base w).grown hg ab ag,fun p C t fr hp ht=>hg.block p (Array.getElem?_eq_some_iff.1 hp).1 (aa.ne hp ht).symm⟩;unfold OwnsV;rw [List.length_append,ah];exact ho
theorem ZbA {z:Value}(O:One S e z bytes)(w:World){ops:Array Oper}{rest:List Oper}{o:Oper}{a:Act}{Q:Exit→Act→World→Prop}(ae:o.guard=none)(s x:Operand)
    (ho:o.op=.call { callee:=.builtin .append,args:=#[s,x],argTypes:=#[S,S] })(base:Nat)(v:Value)(us:List Value)(hs:a.eval s=v)(ac:OwnsV e w base v us)
    (ao:Option Addr)(len cap:Nat)(vs:List Value)(hx:a.eval x=.slice ao len cap)(hb:Vs w ao len vs)(hn:ao=none→cap=0)
    (ab:us.length+len≤1000000)(aa:base≤w.heap.size)
    (hK:∀v' w',OwnsV e w' base v' (us ++ vs)→Below base w w'→Zo0 e w w'→wpList Tryz.prog ops Q rest (a.put o.dst v') w'):wpList Tryz.prog ops Q (o :: rest) a w:=by
  refine wpList_plain ae fun K hK'=>?_;obtain⟨v',w',ad,r1,r2,r3⟩:=Zc6 O w o.type base v us ac ao len cap vs hb hn ab aa;unfold Oper.wp;simp [execOp,ho,resolve,invoke,builtin,hs,hx,ad,Result.andThen];exact hK' _ _ (hK v' w' r1 r2 r3)
theorem ZlV (e:TypeId)(w:World)(u:Value)(h:u.oneCell'=true):Vs (w.alloc (.cells #[u] e)) (some ⟨w.heap.size,0,none⟩) 1 [u]:=by
 refine⟨rfl,fun x hx=>by simp at hx;rw [hx];exact h,fun j hj=>?_⟩;(obtain rfl:j=0:=by omega);refine⟨w.heap.size,0,rfl,?_⟩;have:=heap_alloc_new w (.cells #[u] e);simp only [World.cell?,Nat.add_zero,this];rfl
def kVals (ks:List Int):List Value:=ks.map (Value.int .i64)
theorem Zhf (ks:List Int):∀u∈kVals ks,u.oneCell'=true:=by
 intro u hu;obtain⟨_,_,rfl⟩:=List.mem_map.1 hu;rfl
def fVals (xs:List Nat):List Value:=xs.map (Value.float .f64)
theorem ZgT (xs:List Nat):∀u∈fVals xs,u.oneCell'=true:=by
 intro u hu;obtain⟨_,_,rfl⟩:=List.mem_map.1 hu;rfl
structure Rw where
  key:Nat
  dead:Bool
  xs:List Nat
  wr:Int
  cell:Int
  no:Int
def Rw.val (r:Rw) (c:Value):Value:=.agg #[.float .f64 r.key,.bool r.dead,c,.int .i64 r.wr,.int .i64 r.cell,.int .i64 r.no]
structure Rw.fits (r:Rw):Prop where
  key:r.key<18446744073709551616
  xs:∀x∈r.xs,x<18446744073709551616
  wr:(Lit.int .i64 r.wr).wf=true
  cell:(Lit.int .i64 r.cell).wf=true
  no:(Lit.int .i64 r.no).wf=true
structure Fs (w:World) (a:Option Addr) (len cap:Nat) (xs:List Nat):Prop where
  vs:Vs w a len (fVals xs)
  fit:∀x∈xs,x<18446744073709551616
  nil:a=none→cap=0
  le:len≤cap
  big:len≤9223372036854775807
theorem Fs.keep {len:Nat}(h:Fs w a len cap xs)(hb:Below B w w')(hB:w.heap.size≤B):Fs w' a len cap xs:=⟨h.vs.keep hb hB,h.fit,h.nil,h.le,h.big⟩
theorem Fs.len {len:Nat}(h:Fs w a len cap xs):xs.length=len:=by
 have:=h.vs.1;simpa [fVals] using this
theorem Fs.at {len:Nat}(h:Fs w a len cap xs)(k:Nat)(hk:k<len):∃b off,a=some ⟨b,off,none⟩∧w.cell? ⟨b,off+k,none⟩=some (.float .f64 (xs.getD k 0))∧xs.getD k 0∈xs∧xs.getD k 0<18446744073709551616:=by
 obtain⟨b,off,ha,hc⟩:=h.vs.2.2 k hk;(have hk':k<xs.length:=by rw [h.len];exact hk);(have hm:xs.getD k 0∈xs:=by simp [List.getD,hk']);refine⟨b,off,ha,?_,hm,h.fit _ hm⟩;rw [hc];simp [fVals,List.getD,hk']
theorem Znp:One 29 23 (.float .f64 0) 8:=⟨Tryz.underlying29,by kernel_rfl,by kernel_rfl,by decide⟩
theorem Zlv:One 46 3 (.int .i64 0) 8:=⟨Tryz.underlying46,by kernel_rfl,by kernel_rfl,by decide⟩
def haveB (dead:Bool) (xs:List Nat):Bool:=decide (xs.length≤4) && !(dead && decide (0<xs.length)) && xs.all (fun x=>x == Fl.val x)
def cntB (n:Int):Bool:=decide (0≤n) && decide (n≤2147483647)
def rollB (c n:Int):Bool:=if c=0 then n == 0 else decide (0<c) && decide (c≤65535) && cntB n
def Rw.may (r:Rw):Bool:=(r.key == Fl.key r.key) && haveB r.dead r.xs && cntB r.wr && rollB r.cell r.no
theorem Zlb (x:Nat)(hx:x<18446744073709551616)(w:World):Calls Tryz.prog 83 #[.float .f64 x] w fun e w'=>e=.returned (.bool (x == Fl.key x))∧w'=w:=by
 have H1:=hide (ZhU x hx);have H2:=hide (Ze1 x (Fl.key x));clear hx;generalize Fl.key x=k at *;go_enter Tryz.func83,Tryz.ntmps83;go_wp2_with fail;refine(H1.out _).mono ?_;rintro e w' ⟨rfl,hw⟩;obtain rfl:=hw.symm;go_wp2_with fail;refine(H2.out _).mono ?_;rintro e w' ⟨rfl,hw⟩;obtain rfl:=hw.symm;go_wp2_with fail;go_ret;exact⟨rfl,rfl⟩
theorem ZhT (x:Nat)(hx:x<18446744073709551616)(w:World):Calls Tryz.prog 127 #[.float .f64 x] w fun e w'=>e=.returned (.bool (x == Fl.val x))∧w'=w:=by
 have H1:=hide (ZdG x hx);have H2:=hide (Ze1 x (Fl.val x));clear hx;generalize Fl.val x=k at *;go_enter Tryz.func127,Tryz.ntmps127;go_wp2_with fail;refine(H1.out _).mono ?_;rintro e w' ⟨rfl,hw⟩;obtain rfl:=hw.symm;go_wp2_with fail;refine(H2.out _).mono ?_;rintro e w' ⟨rfl,hw⟩;obtain rfl:=hw.symm;go_wp2_with fail;go_ret;exact⟨rfl,rfl⟩
theorem ZeH (n:Int)(w:World):Calls Tryz.prog 85 #[.int .i64 n] w fun e w'=>e=.returned (.bool (cntB n))∧w'=w:=by
 unfold cntB;go_enter Tryz.func85,Tryz.ntmps85;go_wp2_with fail;all_goals (go_ret;exact ⟨by simp [*] <;> (intros;omega),rfl⟩)
theorem ZhZ (c n:Int)(w:World):Calls Tryz.prog 86 #[.agg #[.int .i64 c,.int .i64 n]] w fun e w'=>e=.returned (.bool (rollB c n))∧Below w.heap.size w w':=by
 have HC:=hide (ZeH n);have HW:Hid (∀o,Below w.heap.size w (w.alloc o)):=Zaa w;by_cases h0:c=0
 · subst h0;(have e:rollB 0 n=(n == 0):=by simp [rollB]);rw [e];clear e;go_enter Tryz.func86,Tryz.ntmps86;go_wp2_with fail;all_goals (go_ret;exact ⟨by simp [*],HW.out _⟩)
 · (have e:rollB c n=(decide (0<c) && decide (c≤65535) && cntB n):=by simp [rollB,h0]);rw [e];have e0:(c == 0)=false:=beq_eq_false_iff_ne.2 h0;clear e h0;generalize cntB n=m at *;by_cases h1:0<c
   · by_cases h2:c≤65535
     · go_enter Tryz.func86,Tryz.ntmps86;go_wp2_with fail;refine(HC.out _).mono ?_;rintro e w' ⟨rfl,hw⟩;obtain rfl:=hw.symm;go_wp2_with fail;go_ret;exact⟨by simp [*],HW.out _⟩
     · go_enter Tryz.func86,Tryz.ntmps86;go_wp2_with fail;go_ret;exact⟨by simp [*] <;> (intros;omega),HW.out _⟩
   · go_enter Tryz.func86,Tryz.ntmps86;go_wp2_with fail;go_ret;exact⟨by simp [*] <;> (intros;omega),HW.out _⟩
theorem ZhY (a:Option Addr)(len cap:Nat)(xs:List Nat)(dead:Bool)(w:World)(h:Fs w a len cap xs):Calls Tryz.prog 84 #[.slice a len cap,.bool dead] w fun e w'=>e=.returned (.bool (haveB dead xs))∧w'=w:=by
 have H:=hide h;have HL:=hide h.len;have af:=h.big;clear h;cases dead
 · by_cases h4:len≤4
   · (have i1:¬(4:Int)<(len:Int):=by omega);go_enter Tryz.func84,Tryz.ntmps84;go_wp2_with fail;go_loop [16] (fun i=>∃k:Nat,k≤len∧i=.int .i64 k∧Hid (∀j,j<k→(xs.getD j 0 == Fl.val (xs.getD j 0))=true)) (fun i=>len-(intOf i).toNat)
     case atStart=>exact ⟨0,by omega,rfl,fun j hj=>by omega⟩
     case round =>
      obtain⟨k,hk,rfl,ab⟩:=hrel;rcases Nat.lt_or_ge k len with ag | ah
      · obtain⟨b,off,rfl,hc,aa,hx⟩:=H.out.at k ag;obtain⟨x,ac⟩:∃x,x=xs.getD k 0:=⟨_,rfl⟩;rw [← ac] at hc aa hx;have ae:=hide ac;have HV:=hide (ZhT x hx);have HM:=hide aa;clear aa ac;obtain⟨m,hm⟩:∃m,m=(x == Fl.val x):=⟨_,rfl⟩;rw [← hm] at HV;have ad:=hide hm;clear hm hx;cases m
        · have HN:Hid (haveB false xs=false):=by
           have:xs.all (fun x=>x == Fl.val x)=false:=List.all_eq_false.2 ⟨x,HM.out,by rw [← ad.out];decide⟩;show _=_;simp [haveB,this]
          go_wp2_with fail;refine(HV.out _).mono ?_;rintro e w' ⟨rfl,hw⟩;obtain rfl:=hw.symm;go_wp2_with fail;go_ret;exact⟨by rw [HN.out];rfl,rfl⟩
        · go_wp2_with fail;refine(HV.out _).mono ?_;rintro e w' ⟨rfl,hw⟩;obtain rfl:=hw.symm;go_wp2_with fail;go_round
          case rel =>
           refine⟨k+1,by omega,by go_num,?_⟩;intro j hj;by_cases e:j=k
           · rw [e,← ae.out];exact ad.out.symm
           · exact ab.out j (by omega)
          case measure=>simp only [intOf];omega
      · have HN:Hid (haveB false xs=true):=by
         have:xs.all (fun x=>x == Fl.val x)=true:=by
          rw [List.all_eq_true];intro x hx;obtain⟨j,hj,rfl⟩:=List.getElem_of_mem hx;have:=ab.out j (by rw [HL.out] at hj;omega);simpa [List.getD,hj] using this
         show _=_;simp only [haveB,this,HL.out,decide_eq_true h4];rfl
        go_wp2_with fail;go_ret;exact⟨by rw [HN.out];rfl,rfl⟩
   · (have i1:(4:Int)<(len:Int):=by omega);(have e:haveB false xs=false:=by simp [haveB,HL.out,h4]);rw [e];go_enter Tryz.func84,Tryz.ntmps84;go_wp2_with fail;go_ret;exact⟨rfl,rfl⟩
 · by_cases h0:len=0
   · subst h0;have e:haveB true xs=true:=by
      have:xs=[]:=List.eq_nil_of_length_eq_zero HL.out;rw [this];rfl
     rw [e];go_enter Tryz.func84,Tryz.ntmps84;go_wp2_with fail;go_ret;exact⟨rfl,rfl⟩
   · have e:haveB true xs=false:=by
      (have:0<xs.length:=by rw [HL.out];omega);simp [haveB,this]
     rw [e];have i1:((len:Int) == 0)=false:=beq_eq_false_iff_ne.2 (by omega);go_enter Tryz.func84,Tryz.ntmps84;go_wp2_with fail;go_ret;exact⟨rfl,rfl⟩
namespace Pl
section
variable {P : Program} {ops : Array Oper} {S : World → Prop} {Q : Exit → Act → World → Prop} {n fuel : Nat} {listed : Array Bool} {f : Nat → Value} {w : World}
def HOp (P:Program) (ops:Array Oper) (S:World→Prop) (Q:Exit→Act→World→Prop) (n fuel:Nat) (listed:Array Bool) (f:Nat→Value) (w:World) (i:Nat):Prop:=
  ∀A,At n A f→wpOp P ops (NoPanic Q) i (fun a' w'=>S w'∧wpAnyH P .any ops (NoPanic Q) S fuel (listed.setIfInBounds i true) a' w') A w
theorem H.one (i:Nat)(hr:Region.ready .any ops listed=[i])(h:HOp P ops S Q n fuel listed f w i):H P ops S Q n (fuel+1) listed f w:=by
 intro A hA;refine wpAnyH_all hr (by simp) ?_;intro j hj;(obtain rfl:j=i:=by simpa using hj);exact h A hA

theorem qp (i:Nat)(h:HOp P ops S Q n fuel listed f w i)(hr:Region.ready .any ops listed=[i]:=by kernel_rfl):H P ops S Q n (fuel+1) listed f w:=H.one i hr h
theorem H.two (i k:Nat)(hr:Region.ready .any ops listed=[i,k])(h:HOp P ops S Q n fuel listed f w i)(h2:HOp P ops S Q n fuel listed f w k):H P ops S Q n (fuel+1) listed f w:=by
 intro A hA;refine wpAnyH_all hr (by simp) ?_;intro j hj;(have:j=i∨j=k:=by simpa using hj);rcases this with rfl | rfl
 · exact h A hA
 · exact h2 A hA

theorem qr (i:Nat)(k:Nat)(h:HOp P ops S Q n fuel listed f w i)(h2:HOp P ops S Q n fuel listed f w k)(hr:Region.ready .any ops listed=[i,k]:=by kernel_rfl):H P ops S Q n (fuel+1) listed f w:=H.two i k hr h h2
theorem HOp.value (i d:Nat)(v:Value)(w':World)(hi:ops[i]? = some (op ops i))(hd:(op ops i).dst=some d)(hg:(op ops i).guard=none)
    (hy:∀A,At n A f→(execOp A.eval (op ops i)).run P w=.ok (.value v) w')(hS:S w')
    (h:H P ops S Q n fuel (listed.setIfInBounds i true) (upd f d v) w'):HOp P ops S Q n fuel listed f w i:=by
  intro A hA;unfold wpOp;rw [hi];simp only [free (n:=n) (f:=f) i hg A hA,if_true];refine .inl ?_;unfold Oper.wp;rw [hy A hA];refine⟨hS,h _ ?_⟩;rw [hd];exact hA.put d v

theorem qk (i:Nat)(d:Nat)(v:Value)(w':World)(hy:∀A,At n A f→(execOp A.eval (op ops i)).run P w=.ok (.value v) w')(hS:S w')(h:H P ops S Q n fuel (listed.setIfInBounds i true) (upd f d v) w')(hi:ops[i]? = some (op ops i):=by kernel_rfl)(hd:(op ops i).dst=some d:=by kernel_rfl)(hg:(op ops i).guard=none:=by kernel_rfl):HOp P ops S Q n fuel listed f w i:=HOp.value i d v w' hi hd hg hy hS h
theorem HOp.call (i d g:Nat)(xs:List Operand)(ts:Array TypeId)(hi:ops[i]? = some (op ops i))(hd:(op ops i).dst=some d)(hg:(op ops i).guard=none)
    (ad:(op ops i).op=.call { callee:=.value (.func g),args:=xs.toArray,argTypes:=ts })(hx:xs.all (inB n)=true)
    (ac:∀args w,(callFunc g args).run P w=.ok (.enter g args) w)
    (h:Calls P g (xs.map (ev f)).toArray w fun e w'=>∃v,e=.returned v∧S w'∧H P ops S Q n fuel (listed.setIfInBounds i true) (upd f d v) w') :
    HOp P ops S Q n fuel listed f w i:=by
  intro A hA;unfold wpOp;rw [hi];simp only [free (n:=n) (f:=f) i hg A hA,if_true];refine .inl ?_;have aa:#[] ++ xs.toArray.map A.eval ++ #[]=(xs.map (ev f)).toArray:=by
   simp only [Array.empty_append,Array.append_empty,List.map_toArray];congr 1;apply List.map_congr_left;intro x ae;exact hA.ev x (List.all_eq_true.1 hx x ae)
  have ab:(execOp A.eval (op ops i)).run P w=.ok (.enter g (xs.map (ev f)).toArray) w:=by
   have e:execOp A.eval (op ops i)=callFunc g (#[] ++ xs.toArray.map A.eval ++ #[]):=by
    unfold execOp;rw [ad];rfl
   rw [e,aa];exact ac _ _
  unfold Oper.wp;rw [ab];refine h.mono ?_;rintro e w' ⟨v,rfl,hS,hh⟩;refine⟨hS,hh _ ?_⟩;rw [hd];exact hA.put d v

theorem qm (i:Nat)(d:Nat)(g:Nat)(xs:List Operand)(ts:Array TypeId)(hfn:∀args w,(callFunc g args).run P w=.ok (.enter g args) w)(h:Calls P g (xs.map (ev f)).toArray w fun e w'=>∃v,e=.returned v∧S w'∧H P ops S Q n fuel (listed.setIfInBounds i true) (upd f d v) w')(hi:ops[i]? = some (op ops i):=by kernel_rfl)(hd:(op ops i).dst=some d:=by kernel_rfl)(hg:(op ops i).guard=none:=by kernel_rfl)(hop:(op ops i).op=.call { callee:=.value (.func g),args:=xs.toArray,argTypes:=ts }:=by kernel_rfl)(hx:xs.all (inB n)=true:=by decide):HOp P ops S Q n fuel listed f w i:=HOp.call i d g xs ts hi hd hg hop hx hfn h
theorem load1 (i:Nat)(t:TypeId)(x:Operand)(v:Value)(h:(op ops i).op=.load t x)(hx:inB n x=true)(hv:(Instr.loadAt t (ev f x)).run P w=.ok v w) :
    ∀A,At n A f→(execOp A.eval (op ops i)).run P w=.ok (.value v) w:=by
  intro A hA;have e:execOp A.eval (op ops i)=(do pure (.value (← Instr.loadAt t (A.eval x)))):=by
   unfold execOp;rw [h]
  rw [e,hA.ev x hx];simp [hv]

theorem qs {i:Nat}{v:Value}(t:TypeId)(x:Operand)(hv:(Instr.loadAt t (ev f x)).run P w=.ok v w)(h:(op ops i).op=.load t x:=by kernel_rfl)(hx:inB n x=true:=by decide):∀A,At n A f→(execOp A.eval (op ops i)).run P w=.ok (.value v) w:=load1 i t x v h hx hv
theorem appT (i:Nat)(t ty:TypeId)(x y:Operand)(v:Value)(w':World)(h:(op ops i).op=.call { callee:=.builtin .append,args:=#[x,y],argTypes:=#[t,t] })(ht:(op ops i).type=ty)(hx:inB n x=true)(hy:inB n y=true)
    (hv:(Builtin.append_ #[t,t] ty #[ev f x,ev f y]).run P w=.ok v w') :
    ∀A,At n A f→(execOp A.eval (op ops i)).run P w=.ok (.value v) w':=by
  intro A hA;unfold execOp;rw [h];simp [resolve,invoke,builtin,hA.ev x hx,hA.ev y hy,ht,hv]

theorem q_40 {i:Nat}{v:Value}{w':World}(t:TypeId)(ty:TypeId)(x:Operand)(y:Operand)(hv:(Builtin.append_ #[t,t] ty #[ev f x,ev f y]).run P w=.ok v w')(h:(op ops i).op=.call { callee:=.builtin .append,args:=#[x,y],argTypes:=#[t,t] }:=by kernel_rfl)(ht:(op ops i).type=ty:=by kernel_rfl)(hx:inB n x=true:=by decide)(hy:inB n y=true:=by decide):∀A,At n A f→(execOp A.eval (op ops i)).run P w=.ok (.value v) w':=appT i t ty x y v w' h ht hx hy hv
theorem H.store (i:Nat)(w':World)(hi:ops[i]? = some (op ops i))(hd:(op ops i).dst=none)(hr:Region.ready .any ops listed=[i])
    (hw:∀A,At n A f→Region.wanted (op ops i) (yielded ops A.tmps)=true)
    (hy:∀A,At n A f→(execOp A.eval (op ops i)).run P w=.ok .skip w')(hS:S w')
    (h:H P ops S Q n fuel (listed.setIfInBounds i true) f w'):H P ops S Q n (fuel+1) listed f w:=by
  intro A hA;refine wpAnyH_all hr (by simp) ?_;intro j hj;(obtain rfl:j=i:=by simpa using hj);unfold wpOp;rw [hi];simp only [hw A hA,if_true];refine .inl ?_;unfold Oper.wp;rw [hy A hA];refine⟨hS,?_⟩;rw [hd];exact h A hA

theorem qh (i:Nat)(w':World)(hw:∀A,At n A f→Region.wanted (op ops i) (yielded ops A.tmps)=true)(hy:∀A,At n A f→(execOp A.eval (op ops i)).run P w=.ok .skip w')(hS:S w')(h:H P ops S Q n fuel (listed.setIfInBounds i true) f w')(hi:ops[i]? = some (op ops i):=by kernel_rfl)(hd:(op ops i).dst=none:=by kernel_rfl)(hr:Region.ready .any ops listed=[i]:=by kernel_rfl):H P ops S Q n (fuel+1) listed f w:=H.store i w' hi hd hr hw hy hS h
theorem storeV (i:Nat)(t:TypeId)(x y:Operand)(w':World)(h:(op ops i).op=.store t x y)(hx:inB n x=true)(hy:inB n y=true)(hv:(Instr.storeAt t (ev f x) (ev f y)).run P w=.ok () w') :
    ∀A,At n A f→(execOp A.eval (op ops i)).run P w=.ok .skip w':=by
  intro A hA;have e:execOp A.eval (op ops i)=(do Instr.storeAt t (A.eval x) (A.eval y);pure .skip):=by
   unfold execOp;rw [h]
  rw [e,hA.ev x hx,hA.ev y hy];simp [hv]

theorem qi {i:Nat}{w':World}(t:TypeId)(x:Operand)(y:Operand)(hv:(Instr.storeAt t (ev f x) (ev f y)).run P w=.ok () w')(h:(op ops i).op=.store t x y:=by kernel_rfl)(hx:inB n x=true:=by decide)(hy:inB n y=true:=by decide):∀A,At n A f→(execOp A.eval (op ops i)).run P w=.ok .skip w':=storeV i t x y w' h hx hy hv
end
theorem upd_comm (f:Nat→Value)(d e:Nat)(v u:Value)(h:d≠e):upd (upd f d v) e u=upd (upd f e u) d v:=by
 funext x;unfold upd;by_cases h1:x=d
 · subst h1;simp [h]
 · simp [h1]
theorem qg {f:Nat→Value}{v:Value}{u:Value}(d:Nat)(e:Nat)(h:d≠e:=by decide):upd (upd f d v) e u=upd (upd f e u) d v:=upd_comm f d e v u h
end Pl
theorem Zad {a c:World}(h:Below a.heap.size a b)(k:Below b.heap.size b c):Below a.heap.size a c:=h.trans (k.mono h.size)
structure Sl where
  a:Option Addr
  len:Nat
  cap:Nat
def Sl.val (s:Sl):Value:=.slice s.a s.len s.cap
def Sl.nil:Sl:=⟨none,0,0⟩
def Sl.from_ (s:Sl) (k:Nat):Sl:=⟨fromA s.a s.cap k,s.len-k,s.cap-k⟩
structure Frm (F:Nat→Prop) (w w':World):Prop where
  os:w'.os=w.os
  tape:w'.tape=w.tape
  output:w'.output=w.output
  size:w.heap.size≤w'.heap.size
  block:∀k,k<w.heap.size→¬F k→w'.heap[k]? = w.heap[k]?
theorem Frm.refl (F:Nat→Prop)(w:World):Frm F w w:=⟨rfl,rfl,rfl,Nat.le_refl _,fun _ _ _=>rfl⟩
theorem Frm.ofBelow {F:Nat→Prop}(h:Below w.heap.size w w'):Frm F w w':=⟨h.os,h.tape,h.output,h.size,fun k hk _=>h.block k hk⟩
theorem Frm.trans {F G:Nat→Prop}{a c:World}(h:Frm F a b)(k:Frm G b c)(hG:∀i,i<a.heap.size→G i→F i):Frm F a c:=
 ⟨k.os.trans h.os,k.tape.trans h.tape,k.output.trans h.output,Nat.le_trans h.size k.size,fun i hi hF=>(k.block i (Nat.lt_of_lt_of_le hi h.size) (fun g=>hF (hG i hi g))).trans (h.block i hi hF)⟩
theorem Frm.mono {F G:Nat→Prop}{a:World}(h:Frm F a b)(hG:∀i,i<a.heap.size→F i→G i):Frm G a b:=
 ⟨h.os,h.tape,h.output,h.size,fun i hi hF=>h.block i hi (fun f=>hF (hG i hi f))⟩
theorem Frm.below {F:Nat→Prop}(h:Frm F w w')(hB:B≤w.heap.size)(hF:∀k,F k→B≤k):Below B w w':=
 ⟨h.os,h.tape,h.output,h.size,fun k hk=>h.block k (Nat.lt_of_lt_of_le hk hB) (fun f=>by have:=hF k f;omega)⟩
theorem Frm.setCell {F:Nat→Prop}{a:World}(h:Frm F a w){p:Addr}(hp:F p.block)(u:Value):Frm F a (w.setCell p u):=
 ⟨h.os,h.tape,h.output,by have:=h.size;simpa [World.setCell] using this,fun k hk hF=>(Below.heap_setCell w p u k (fun e=>hF (by rw [e];exact hp))).trans (h.block k hk hF)⟩
theorem Frm.drew {F:Nat→Prop}{a:World}(h:Frm F a w):Frm F a w.drew:=⟨h.os,h.tape,h.output,h.size,h.block⟩
def Sl.blk (s:Sl):Option Nat:=s.a.map Addr.block
def Own (e:TypeId) (z:Nat) (w:World) (s:Sl) (vs:List Value):Prop:=
  vs.length=s.len*z∧((s=Sl.nil∧vs=[])∨∃g off cur,s.a=some ⟨g,off,none⟩∧w.heap[g]? = some (.cells cur e (0,0))∧off+s.cap*z≤cur.size∧s.len≤s.cap∧s.cap≤maxLen∧(cur.toList.drop off).take (s.len*z)=vs)
theorem Own.nil (e:TypeId)(z:Nat)(w:World):Own e z w Sl.nil []:=⟨by simp [Sl.nil],.inl ⟨rfl,rfl⟩⟩
theorem Own.frame {s:Sl}{vs:List Value}(h:Own e z w s vs)(hk:∀k,s.blk=some k→w'.heap[k]? = w.heap[k]?):Own e z w' s vs:=by
 refine⟨h.1,?_⟩;rcases h.2 with h0 | ⟨g,off,cur,ha,hg,r⟩
 · exact .inl h0
 · exact .inr ⟨g,off,cur,ha,(hk g (by rw [Sl.blk,ha];rfl)).trans hg,r⟩
theorem Own.lt {s:Sl}{vs:List Value}(h:Own e z w s vs)(hk:s.blk=some k):k<w.heap.size:=by
 rcases h.2 with ⟨h0,_⟩ | ⟨g,off,cur,ha,hg,r⟩
 · rw [h0] at hk;cases hk
 · rw [Sl.blk,ha] at hk;cases hk;exact(Array.getElem?_eq_some_iff.1 hg).1
theorem Own.kind {s:Sl}{vs:List Value}(h:Own e z w s vs)(hk:s.blk=some k):∃cur,w.heap[k]? = some (.cells cur e (0,0)):=by
 rcases h.2 with ⟨h0,_⟩ | ⟨g,off,cur,ha,hg,r⟩
 · rw [h0] at hk;cases hk
 · rw [Sl.blk,ha] at hk;cases hk;exact⟨cur,hg⟩
theorem Own.nilcap {s:Sl}{vs:List Value}(h:Own e z w s vs)(ha:s.a=none):s.cap=0:=by
 rcases h.2 with ⟨h0,_⟩ | ⟨g,off,cur,ha',_⟩
 · rw [h0];rfl
 · rw [ha'] at ha;cases ha
theorem Own.lecap {s:Sl}{vs:List Value}(h:Own e z w s vs):s.len≤s.cap:=by
 rcases h.2 with ⟨h0,_⟩ | ⟨g,off,cur,ha',_,_,h2,_⟩
 · rw [h0];exact Nat.le_refl _
 · exact h2
theorem Own.capmax {s:Sl}{vs:List Value}(h:Own e z w s vs):s.cap≤maxLen:=by
 rcases h.2 with ⟨h0,_⟩ | ⟨g,off,cur,ha',_,_,_,h2,_⟩
 · rw [h0];exact Nat.zero_le _
 · exact h2
theorem Own.cell {s:Sl}{vs:List Value}(h:Own e z w s vs){a:Addr}(ha:s.a=some a)(j:Nat)(u:Value)(hj:vs[j]? = some u):w.cell? (a.add j)=some u:=by
 rcases h.2 with ⟨h0,_⟩ | ⟨g,off,cur,ha',hg,_,_,_,ht⟩
 · rw [h0] at ha;cases ha
 · rw [ha'] at ha;cases ha;rw [Addr.add_lit,cell_of_row w g _ cur e (0,0) hg];rw [← ht,List.getElem?_take,List.getElem?_drop] at hj;split at hj
   · simpa using hj
   · cases hj
theorem Zom (l vs:List Value)(o n:Nat)(hl:o+n+vs.length≤l.length):((Zc8 l.toArray (o+n) vs).toList.drop o).take (n+vs.length)=(l.drop o).take n ++ vs:=by
 have h:=Zdf vs l.toArray (o+n) (by simpa using hl);have e:((Zc8 l.toArray (o+n) vs).toList.drop o).take (n+vs.length)=((Zc8 l.toArray (o+n) vs).toList.take (o+n+vs.length)).drop o:=by
  rw [List.drop_take];congr 1;omega
 rw [e,h,List.drop_append_of_le_length (by simp;omega)];congr 1;simp [List.drop_take]
theorem ZaA {zv:Value}(hu:Tryz.prog.underlying S=some (.slice e))(hi:(Tryz.prog.info? e).map (fun i=>(i.zero,i.size,i.bytes))=some (some zv,z,bytes))(hzc:zv.cells.size=z)(hby:bytes≤1000)
    (w:World)(s:Sl)(us:List Value)(hown:Own e z w s us)(h1u:∀u∈us,u.oneCell'=true)(x:Value)(n:Nat)(vs:List Value)(hs:Src Tryz.prog z S x n vs w)(hlen:s.len+n≤1000000)(ty:TypeId) :
    ∃s' w',(Builtin.append_ #[S,S] ty #[s.val,x]).run Tryz.prog w=.ok s'.val w'∧Own e z w' s' (us ++ vs)∧s'.len=s.len+n∧Frm (fun k=>s.blk=some k) w w'∧(s'.blk=s.blk∨(s'.blk=some w.heap.size∧w.heap.size<w'.heap.size)):=by
  obtain⟨i0,hi,hz0,hz1,hz2⟩:=info_parts hi
  have hvl:=hs.newsLen
  have hul:=hown.1
  rw [← hz1] at hs
  by_cases hr:s.len+n≤s.cap
  · rcases hown.2 with ⟨h0,hv⟩ | ⟨g,off,cur,ha,hg,hoc,hlc,hcm,ht⟩
    · subst h0;subst hv
      have hn0:n=0:=by simpa [Sl.nil] using hr
      subst hn0
      have hv0:vs=[]:=List.eq_nil_of_length_eq_zero (by rw [hvl];simp)
      subst hv0
      refine⟨Sl.nil,w,?_,Own.nil e z w,rfl,Frm.refl _ _,.inl rfl⟩
      simp [Builtin.append_,Sl.val,Sl.nil,run_underlying hu,sizeOf,typeInfo,hi,hs.len,hs.cells]
    · have hcell:∀j,j<vs.length→(w.cell? ⟨g,off+s.len*i0.size+j,none⟩).isSome=true:=by
       intro j hj
       have hle:off+s.len*z+j<cur.size:=by
        have:s.len*z+n*z≤s.cap*z:=by rw [← Nat.add_mul];exact Nat.mul_le_mul_right z hr
        omega
       rw [hz1,cell_of_row w g _ cur e (0,0) hg]
       simpa using hle
      have hfz:∀j,j<vs.length→w.frozen? ⟨g,off+s.len*i0.size+j,none⟩=false:=fun j _=>frozen_of_row w g _ cur e hg
      have hrun:=run_append_room_src (P:=Tryz.prog) w S S ty e i0 hu hi g off s.len s.cap x n vs hs hr hcell hfz
      refine⟨⟨s.a,s.len+n,s.cap⟩,_,by unfold Sl.val;simp only [ha];exact hrun,?_,rfl,⟨?_,?_,?_,?_,?_⟩,.inl rfl⟩
      · refine⟨by rw [List.length_append,hul,hvl];show _=(s.len+n)*z;rw [Nat.add_mul],.inr ⟨g,off,_,ha,Zc9 g e vs _ cur w hg,by rw [Zde];exact hoc,hr,hcm,?_⟩⟩
        have hle:off+s.len*z+vs.length≤cur.toList.length:=by
         have:s.len*z+n*z≤s.cap*z:=by rw [← Nat.add_mul];exact Nat.mul_le_mul_right z hr
         simp only [Array.length_toList]
         omega
        have:=Zom cur.toList vs off (s.len*z) hle
        rw [Array.toArray_toList,ht,hvl] at this
        rw [hz1]
        show ((Zc8 cur (off+s.len*z) vs).toList.drop off).take ((s.len+n)*z)=_
        rw [Nat.add_mul]
        exact this
      · exact(ZaM (B:=0) (Nat.zero_le g) vs _ w w (Below.refl _ _)).os
      · exact(ZaM (B:=0) (Nat.zero_le g) vs _ w w (Below.refl _ _)).tape
      · exact(ZaM (B:=0) (Nat.zero_le g) vs _ w w (Below.refl _ _)).output
      · exact(ZaM (B:=0) (Nat.zero_le g) vs _ w w (Below.refl _ _)).size
      · intro k _ hF
        refine ZbD g k (fun e=>hF ?_) vs _ w
        rw [Sl.blk,ha,e];rfl
  · have hold:(Builtin.firstCells i0.size s.len (.slice s.a s.len s.cap)).run Tryz.prog w.drew=.ok us.toArray w.drew:=by
     rw [hz1]
     rcases hown.2 with ⟨h0,hv⟩ | ⟨g,off,cur,ha,hg,hoc,hlc,hcm,ht⟩
     · subst h0;subst hv
       exact run_firstCells_none w.drew z 0 0 0
     · rw [ha]
       exact run_firstCells_some w.drew z s.len ⟨g,off,none⟩ s.len s.cap us hul (fun j u hj=>by simpa using hown.cell ha j u hj)
    have hcl:=hown.lecap
    have hrun:=run_append_grow_src (P:=Tryz.prog) w S S ty e i0 zv hu hi hz0 s.a s.len s.cap us hold x n vs hs (by omega) (by omega)
     (growslice_fits (by omega) (by rw [hz2];have:(s.len+n)*bytes≤1000000*1000:=Nat.mul_le_mul hlen hby;omega))
    have hge:=grownCap_ge w (s.len+n) s.cap e
    have hcm:grownCap w (s.len+n) s.cap e≤maxLen:=grownCap_le_maxLen w _ s.cap e (by unfold maxLen;omega)
    refine⟨⟨some ⟨w.heap.size,0,none⟩,s.len+n,grownCap w (s.len+n) s.cap e⟩,_,hrun,?_,rfl,Frm.ofBelow (((Below.refl _ w).drew).alloc (Nat.le_refl _) _),.inr ⟨rfl,?_⟩⟩
    · refine⟨by rw [List.length_append,hul,hvl];show _=(s.len+n)*z;rw [Nat.add_mul],.inr ⟨w.heap.size,0,_,rfl,heap_alloc_new w.drew _,?_,hge,hcm,?_⟩⟩
      · simp only [Array.size_append,List.size_toArray,size_zeroCells,List.length_append,hul,hvl,hzc,Nat.zero_add]
        rw [← Nat.add_mul,← Nat.add_mul]
        exact Nat.mul_le_mul_right z (by omega)
      · rw [List.drop_zero,Array.toList_append]
        have hl:(us ++ vs).length=(s.len+n)*z:=by rw [List.length_append,hul,hvl,Nat.add_mul]
        show List.take ((s.len+n)*z) _=_
        rw [← hl]
        exact List.take_left
    · show w.heap.size<(w.heap.push _).size
      simp
theorem Own.from_ {s:Sl}{vs:List Value}(h:Own e 1 w s vs)(hk:k≤s.len):Own e 1 w (s.from_ k) (vs.drop k)∧(s.from_ k).blk=s.blk:=by
 have hl:=h.1;have hb:(s.from_ k).blk=s.blk:=by
  unfold Sl.blk Sl.from_ fromA;simp only;split
  · rfl
  · cases hs:s.a with
    | none=>rfl
    | some x =>
     obtain⟨b,o,sp⟩:=x;simp only [Option.map_some,Addr.add];split <;> rfl
 refine⟨⟨by rw [List.length_drop,hl];simp [Sl.from_],?_⟩,hb⟩;rcases h.2 with ⟨h0,hv⟩ | ⟨g,off,cur,ha,hg,ad,ac,ab,ht⟩
 · subst h0;subst hv;refine .inl ⟨?_,by simp⟩;unfold Sl.from_ Sl.nil fromA;simp
 · have hm:(s.from_ k).cap≤maxLen:=Nat.le_trans (Nat.sub_le _ _) ab;have aa:(s.from_ k).len≤(s.from_ k).cap:=Nat.sub_le_sub_right ac k;by_cases hc:s.cap=k
   · (have h0:s.len-k=0:=by omega);refine .inr ⟨g,off,cur,by simp [Sl.from_,fromA,hc,ha],hg,?_,aa,hm,?_⟩
     · show off+(s.cap-k)*1≤_;omega
     · show (cur.toList.drop off).take ((s.len-k)*1)=_;rw [h0];(have:vs.length≤k:=by rw [hl];omega);rw [List.drop_eq_nil_of_le this];simp
   · refine .inr ⟨g,off+k,cur,by simp [Sl.from_,fromA,hc,ha,Addr.add_lit],hg,?_,aa,hm,?_⟩
     · show off+k+(s.cap-k)*1≤_;omega
     · show (cur.toList.drop (off+k)).take ((s.len-k)*1)=_;rw [← ht,List.drop_take,List.drop_drop];simp
theorem Own.came {s:Sl}(h:Own 5 1 w s (vals xs))(hx:Bytes xs):Came w s.a s.len s.cap xs:=by
 (have hl:xs.length=s.len:=by have:=h.1;rw [Zas,Nat.mul_one] at this;exact this);refine⟨⟨hl,hx,fun i hi=>?_⟩,h.nilcap,h.lecap,by have:=h.capmax;have:=h.lecap;unfold maxLen at *;omega⟩;rcases h.2 with ⟨h0,_⟩ | ⟨g,off,cur,ha,_⟩
 · rw [h0] at hi;exact absurd hi (Nat.not_lt_zero _)
 · refine⟨g,off,ha,?_⟩;have:=h.cell ha i _ (Zcm (by omega:i<xs.length));rwa [Addr.add_lit] at this
theorem Came.src {len:Nat}(h:Came w a len cap xs):Src Tryz.prog 1 56 (.slice a len cap) len (vals xs) w:=by
 have hl:=h.bs.1;cases a with
 | none =>
  have hc:=h.nil rfl;(have h0:len=0:=by have:=h.le;omega);subst hc;subst h0;have:xs=[]:=List.eq_nil_of_length_eq_zero hl;subst this;exact Src.ofNil w Tryz.underlying56 0
 | some ad =>
  refine Src.ofSlice w Tryz.underlying56 ad len cap (vals xs) (by rw [Zas,hl,Nat.mul_one]) (fun j u hj=>?_) (ZgA xs);have aa:j<xs.length:=by
   have:=(List.getElem?_eq_some_iff.1 hj).1;simpa [vals] using this
  obtain⟨b,off,e,hc⟩:=h.bs.2.2 j (by omega);obtain rfl:=Option.some.inj e;rw [Addr.add_lit,hc,← Zcm aa,hj]
def splice {α:Type} (xs:List α) (o:Nat) (ys:List α):List α:=xs.take o ++ ys ++ xs.drop (o+ys.length)
theorem Zg6 {α:Type}(xs ys:List α)(o:Nat)(h:o+ys.length≤xs.length):(splice xs o ys).length=xs.length:=by
 unfold splice;simp only [List.length_append,List.length_take,List.length_drop];omega
theorem Zix (xs ys:List Nat)(o:Nat):splice (vals xs) o (vals ys)=vals (splice xs o ys):=by
 simp [splice,vals,List.map_take,List.map_drop]
theorem Zkf {g:Nat}{cur:Array Value}{t:TypeId}{fr:Nat × Nat}(hg:w.heap[g]? = some (.cells cur t fr))(C:Array Value):Frm (fun k=>k=g) w (w.setRow g C)∧(w.setRow g C).heap[g]? = some (.cells C t fr):=by
 refine⟨⟨rfl,rfl,rfl,by simp [World.setRow],fun k _ hk=>?_⟩,setRow_heap w g cur C t fr hg⟩;simp only [World.setRow,Array.getElem?_modify];rw [if_neg (fun e=>hk e.symm)]
theorem ZmH (w:World)(s:Sl)(xs:List Nat)(aa:Own 5 1 w s (vals xs))(o:Nat)(a:Option Addr)(len cap:Nat)(ys zs:List Nat)(hy:Came w a len cap ys)(hz:zs=ys.take (s.len-o))(ho:o≤s.len)(ty:TypeId) :
    ∃n w',(Builtin.copy_ #[56,56] ty #[(s.from_ o).val,.slice a len cap]).run Tryz.prog w=.ok n w'∧Own 5 1 w' s (vals (splice xs o zs))∧Frm (fun k=>s.blk=some k) w w'∧w'.heap.size=w.heap.size:=by
  (have ab:(Tryz.prog.info? 5).map (·.size)=some 1:=by kernel_rfl);(have ar:xs.length=s.len:=by have:=aa.1;rw [Zas,Nat.mul_one] at this;exact this);have au:=hy.bs.1;(have ai:zs.length=min (s.len-o) len:=by rw [hz,List.length_take,au]);by_cases h0:zs.length=0
  · have av:zs=[]:=List.eq_nil_of_length_eq_zero h0;subst av;refine⟨_,w,run_copy_none w 56 56 ty 5 _ _ _ _ _ _ Tryz.underlying56 ab (by show min len (s.len-o)=0;rw [Nat.min_comm];exact ai.symm.trans h0),?_,Frm.refl _ _,rfl⟩;simpa [splice] using aa
  · obtain⟨ax,aj⟩:=aa.from_ ho;rcases aa.2 with ⟨hn,_⟩ | ⟨g,off,cur,ha,hg,ay,aq,ak,ht⟩
    · (have e:s.len=0:=by rw [hn];rfl);omega
    · (have al:s.cap≠o:=by omega);(have ao:(s.from_ o).a=some ⟨g,off+o,none⟩:=by simp [Sl.from_,fromA,al,ha,Addr.add_lit]);(have ae:0<len:=by omega);obtain⟨b,of',rfl,_⟩:=hy.bs.2.2 0 ae;have ag:∀j v,(vals zs)[j]? = some v→w.cell? ((⟨b,of',none⟩:Addr).add j)=some v:=by
       intro j v hj;have ap:j<zs.length:=by
        have:=(List.getElem?_eq_some_iff.1 hj).1;simpa [vals] using this
       rw [Addr.add_lit,hy.bs.at j (by omega)];rw [Zcm ap] at hj;rw [← hj,hz];(have ah:j<s.len-o:=by omega);simp [List.getD,ah]
      have ad:(vals zs).length=Nat.min len (s.from_ o).len:=by
       rw [Zas,ai,Nat.min_comm];rfl
      (have ac:off+o+(vals zs).length≤cur.size:=by rw [Zas];omega);have af:=run_copy_row (P:=Tryz.prog) w 56 56 ty 5 g (off+o) (s.from_ o).len (s.from_ o).cap ⟨b,of',none⟩ len cap cur 5 (vals zs) Tryz.underlying56 ab hg ad ag ac (ZgA zs);obtain⟨am,an⟩:=Zkf hg (cur.toList.take (off+o) ++ vals zs ++ cur.toList.drop (off+o+(vals zs).length)).toArray;refine⟨_,_,by unfold Sl.val;rw [ao];exact af,?_,am.mono (fun i _ e=>by rw [Sl.blk,ha,e];rfl),by simp [World.setRow]⟩;refine⟨by rw [Zas,Zg6 _ _ _ (by omega),ar,Nat.mul_one],.inr ⟨g,off,_,ha,an,?_,aq,ak,?_⟩⟩
      · simp only [List.size_toArray,List.length_append,List.length_take,List.length_drop,Array.length_toList] at *;omega
      · rw [← Zix,← ht];simp only [Nat.mul_one];apply List.ext_getElem?;intro j;simp only [splice,List.getElem?_append,List.getElem?_take,List.getElem?_drop,List.length_append,List.length_take,List.length_drop,Zas,Array.length_toList] at *;by_cases hj:j<s.len
        · by_cases aw:j<o
          · rw [if_pos hj,if_pos (by omega),if_pos (by omega),if_pos (by omega),if_pos (by omega),if_pos (by omega),if_pos (by omega),if_pos (by omega)]
          · by_cases ah:j<o+zs.length
            · rw [if_pos hj,if_pos (by omega),if_neg (by omega),if_pos (by omega),if_neg (by omega)];congr 1;omega
            · rw [if_pos hj,if_neg (by omega),if_neg (by omega),if_pos (by omega)];congr 1;omega
        · rw [if_neg hj,if_neg (by omega),if_neg (by omega)]
section
variable {ops : Array Oper} {rest : List Oper} {o : Oper} {a : Act} {Q : Exit → Act → World → Prop}
theorem ZcU (w:World)(ab:o.guard=none)(v:Value)(w':World)(aa:(execOp a.eval o).run Tryz.prog w=.ok (.value v) w')(hK:wpList Tryz.prog ops Q rest (a.put o.dst v) w'):wpList Tryz.prog ops Q (o :: rest) a w:=by
 refine wpList_plain ab fun K hK'=>?_;unfold Oper.wp;rw [aa];exact hK' _ _ hK
theorem Zau (w:World)(ab:o.guard=none)(t:TypeId)(x:Operand)(ho:o.op=.load t x)(p v:Value)(hp:a.eval x=p)(aa:(Instr.loadAt t p).run Tryz.prog w=.ok v w)(hK:wpList Tryz.prog ops Q rest (a.put o.dst v) w):wpList Tryz.prog ops Q (o :: rest) a w:=by
 refine ZcU w ab v w ?_ hK;have e:execOp a.eval o=(do pure (.value (← Instr.loadAt t (a.eval x)))):=by
  unfold execOp;rw [ho]
 rw [e,hp];simp [aa]
theorem Za3 (w:World)(ab:o.guard=none)(t:TypeId)(ho:o.op=.alloc t)(v:Value)(w':World)(aa:(Instr.alloc t true (.tuple #[])).run Tryz.prog w=.ok v w')(hK:wpList Tryz.prog ops Q rest (a.put o.dst v) w'):wpList Tryz.prog ops Q (o :: rest) a w:=by
 refine ZcU w ab v w' ?_ hK;have e:execOp a.eval o=(do pure (.value (← Instr.alloc t true (.tuple #[])))):=by
  unfold execOp;rw [ho]
 rw [e];simp [aa]
theorem Zac (w:World)(ab:o.guard=none)(hd:o.dst=none)(t:TypeId)(x y:Operand)(ho:o.op=.store t x y)(p v:Value)(hp:a.eval x=p)(hv:a.eval y=v)(w':World)(aa:(Instr.storeAt t p v).run Tryz.prog w=.ok () w')(hK:wpList Tryz.prog ops Q rest a w'):wpList Tryz.prog ops Q (o :: rest) a w:=by
 refine wpList_plain ab fun K hK'=>?_;have e:(execOp a.eval o).run Tryz.prog w=.ok .skip w':=by
  have e:execOp a.eval o=(do Instr.storeAt t (a.eval x) (a.eval y);pure .skip):=by
   unfold execOp;rw [ho]
  rw [e,hp,hv];simp [aa]
 unfold Oper.wp;rw [e];obtain⟨dst,op,ty,pos,aft,gd⟩:=o;simp only at hd;subst hd;exact hK' _ _ hK
theorem Zfe (w:World)(ab:o.guard=none)(t:TypeId)(x y:Operand)(ho:o.op=.call { callee:=.builtin .copy,args:=#[x,y],argTypes:=#[t,t] })(v:Value)(w':World)(aa:∀ty,(Builtin.copy_ #[t,t] ty #[a.eval x,a.eval y]).run Tryz.prog w=.ok v w')(hK:wpList Tryz.prog ops Q rest (a.put o.dst v) w'):wpList Tryz.prog ops Q (o :: rest) a w:=by
 refine wpList_plain ab fun K hK'=>?_;unfold Oper.wp;simp [execOp,ho,resolve,invoke,builtin,aa,Result.andThen];exact hK' _ _ hK
end
end Go.Proofs.YtdojdcncncgncaaGreat
