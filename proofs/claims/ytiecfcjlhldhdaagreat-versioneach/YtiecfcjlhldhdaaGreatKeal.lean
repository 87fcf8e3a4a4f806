/-
  Lemmas.
-/
import Derived.Test.YtiecfcjlhldhdaaGreatKeaa
import Derived.Test.YtiecfcjlhldhdaaGreatKeak
namespace Go.Proofs.YtiecfcjlhldhdaaGreat
open Go.RowKit
set_option linter.unusedVariables false
set_option linter.unusedSimpArgs false
set_option maxRecDepth 100000
set_option maxHeartbeats 4000000
variable {w w':World}{e:TypeId}{v:Value}{a:Option Addr}{base B cap:Nat}{xs:List Nat}
def Vs (w:World) (a:Option Addr) (len:Nat) (vs:List Value):Prop:=
  vs.length=len∧(∀u∈vs,u.oneCell'=true)∧∀j,j<len→∃b off,a=some ⟨b,off,none⟩∧w.cell? ⟨b,off+j,none⟩=vs[j]?
theorem Vs.keep {len:Nat}{vs:List Value}(h:Vs w a len vs)(hb:Below B w w')(hB:w.heap.size≤B):Vs w' a len vs:=by
 refine⟨h.1,h.2.1,fun i hi=>?_⟩;obtain⟨b,off,ha,hc⟩:=h.2.2 i hi;(have hi':i<vs.length:=by rw [h.1];exact hi);(have hc':w.cell? ⟨b,off+i,none⟩=some vs[i]:=by rw [hc];simp [hi']);exact⟨b,off,ha,(hb.cell (Nat.lt_of_lt_of_le (World.block_lt_of_cell? w _ hc') hB)).trans hc⟩
def OwnsV (e:TypeId) (w:World) (base:Nat) (v:Value) (vs:List Value):Prop:=w.ownsRow base e 1 v vs.length vs
theorem OwnsV.nil (e:TypeId)(w:World)(base:Nat):OwnsV e w base (.slice none 0 0) []:=⟨rfl,.inl ⟨rfl,rfl⟩⟩
theorem OwnsV.lit (e:TypeId)(w:World)(base:Nat)(vs:List Value)(hb:base≤w.heap.size)(hm:vs.length≤1000000):OwnsV e (w.alloc (.cells vs.toArray e)) base (.slice (some ⟨w.heap.size,0,none⟩) vs.length vs.length) vs:=by
 have:=World.ownsRow_lit (base:=base) (e:=e) (size:=1) w vs.toArray vs.length hb (by unfold maxLen;omega) (by simp);simpa [OwnsV] using this
theorem OwnsV.keep {vs:List Value}(h:OwnsV e w base v vs)(hb:Below B w w')(hB:w.heap.size≤B):OwnsV e w' base v vs:=by
 refine⟨h.1,?_⟩;rcases h.2 with hn | ⟨g,cap,cur,hv,aa,hg,rest⟩
 · exact .inl hn
 · refine .inr ⟨g,cap,cur,hv,aa,?_,rest⟩;rw [hb.block g (Nat.lt_of_lt_of_le (Array.getElem?_eq_some_iff.1 hg).1 hB)];exact hg
theorem OwnsV.lower {b b':Nat}{vs:List Value}(h:OwnsV e w b v vs)(hb:b'≤b):OwnsV e w b' v vs:=by
 refine⟨h.1,?_⟩;rcases h.2 with hn | ⟨g,cap,cur,hv,aa,rest⟩
 · exact .inl hn
 · exact .inr ⟨g,cap,cur,hv,Nat.le_trans hb aa,rest⟩
def Zlc (e:TypeId) (w w':World):Prop:=∀(p:Nat) (C:Array Value) (t:TypeId) (fr:Nat × Nat),w.heap[p]? = some (Obj.cells C t fr)→t≠e→w'.heap[p]? = w.heap[p]?
theorem OwnsV.stay {e':TypeId}{vs:List Value}(h:OwnsV e w base v vs)(hs:Zlc e' w w')(ab:e≠e'):OwnsV e w' base v vs:=by
 refine⟨h.1,?_⟩;rcases h.2 with hn | ⟨g,cap,cur,hv,aa,hg,rest⟩
 · exact .inl hn
 · exact .inr ⟨g,cap,cur,hv,aa,(hs g _ _ _ hg ab).trans hg,rest⟩
theorem OwnsV.vs {vs:List Value}(h:OwnsV e w base v vs)(h1:∀u∈vs,u.oneCell'=true) :
    ∃a cap,v=.slice a vs.length cap∧Vs w a vs.length vs∧(a=none→cap=0)∧vs.length≤cap:=by
  rcases h.2 with ⟨hv,h0⟩ | ⟨g,cap,cur,hv,ab,hg,aa,hr⟩
  · refine⟨none,0,by rw [h0];exact hv,⟨rfl,h1,fun i hi=>by omega⟩,fun _=>rfl,by omega⟩
  · refine⟨some ⟨g,0,none⟩,cap,hv,⟨rfl,h1,fun i hi=>⟨g,0,rfl,?_⟩⟩,(fun e=>by cases e),aa⟩;rw [hv] at h;have:=World.ownsRow.cellAt h i (by omega);rw [Nat.zero_add,this]
theorem OwnsV.ne {vs:List Value}(h:OwnsV e w base v vs){p:Nat}{C:Array Value}{t:TypeId}{fr:Nat × Nat}(hp:w.heap[p]? = some (Obj.cells C t fr))(ht:t≠e):v.ownBlock≠some p:=by
 intro e';rcases h.2 with ⟨hv,_⟩ | ⟨g,cap,cur,hv,_,hg,_⟩
 · rw [hv] at e';cases e'
 · rw [hv] at e';simp [Value.ownBlock] at e';subst e';rw [hg] at hp;simp only [Option.some.injEq,Obj.cells.injEq] at hp;exact ht hp.2.1.symm
structure One (S e:TypeId) (z:Value) (bytes:Nat):Prop where
  slice:Tryz.prog.underlying S=some (.slice e)
  info:(Tryz.prog.info? e).map (fun i=>(i.zero,i.size,i.bytes))=some (some z,1,bytes)
  zs:z.cells.size=1
  small:bytes≤8
theorem Zcg {S:TypeId}{z:Value}{bytes:Nat}(O:One S e z bytes)(w:World)(ty:TypeId)(base:Nat)(v:Value)(us:List Value)(aa:OwnsV e w base v us)(ao:Option Addr)(len cap:Nat)(vs:List Value)(hb:Vs w ao len vs)(hn:ao=none→cap=0)
    (af:us.length+len≤1000000)(ab:base≤w.heap.size) :
    ∃v' w',(Builtin.append_ #[S,S] ty #[v,.slice ao len cap]).run Tryz.prog w=.ok v' w'∧OwnsV e w' base v' (us ++ vs)∧Below base w w'∧Zlc e w w':=by
  obtain⟨i0,hi,ai,aj,ak⟩:=info_parts O.info;have ag:∀k,v.ownBlock=some k→base≤k:=fun k hk=>(World.ownsRow.lt aa k hk).1;have ah:=hb.1;cases ao with
  | none =>
   obtain rfl:=hn rfl;have h0:len=0:=by
    rcases Nat.eq_zero_or_pos len with h | h
    · exact h
    · obtain⟨_,_,e',_⟩:=hb.2.2 0 h;cases e'
   subst h0;have hy:vs=[]:=List.eq_nil_of_length_eq_zero ah;subst hy;have ae:=run_append_owned_none (P:=Tryz.prog) (w:=w) base S ty e i0 1 O.slice hi v us.length us aa;exact⟨v,w,ae,by simpa using aa,Below.refl _ _,fun _ _ _ _ _ _=>rfl⟩
  | some ad =>
   have ac:∀j u,vs[j]? = some u→w.cell? (ad.add j)=some u:=by
    intro j u hj;have al:j<vs.length:=(List.getElem?_eq_some_iff.1 hj).1;obtain⟨b,off,e',hc⟩:=hb.2.2 j (by omega);obtain rfl:=Option.some.inj e';rw [Addr.add_lit,hc,hj]
   obtain⟨v',w',ae,ho,hg,_⟩:=run_append_own (P:=Tryz.prog) w base S ty e i0 z 1 bytes O.slice hi ai aj ak O.zs (by decide) v us.length us aa ad len cap vs (by rw [ah,Nat.mul_one]) ac hb.2.1
    (by unfold maxLen;omega) (by have:=O.small;have:(us.length+len)*bytes≤1000000*8:=Nat.mul_le_mul af O.small;omega) ab
   refine⟨v',w',ae,?_,(Below.refl base w).grown hg ab ag,fun p C t fr hp ht=>hg.block p (Array.getElem?_eq_some_iff.1 hp).1 (aa.ne hp ht).symm⟩;unfold OwnsV;rw [List.length_append,ah];exact ho
theorem ZaD {S:TypeId}{z:Value}{bytes:Nat}(O:One S e z bytes)(w:World){ops:Array Oper}{rest:List Oper}{o:Oper}{a:Act}{Q:Exit→Act→World→Prop}(ae:o.guard=none)(s x:Operand)
    (ho:o.op=.call { callee:=.builtin .append,args:=#[s,x],argTypes:=#[S,S] })(base:Nat)(v:Value)(us:List Value)(hs:a.eval s=v)(ac:OwnsV e w base v us)
    (ao:Option Addr)(len cap:Nat)(vs:List Value)(hx:a.eval x=.slice ao len cap)(hb:Vs w ao len vs)(hn:ao=none→cap=0)
    (ab:us.length+len≤1000000)(aa:base≤w.heap.size)
    (hK:∀v' w',OwnsV e w' base v' (us ++ vs)→Below base w w'→Zlc e w w'→wpList Tryz.prog ops Q rest (a.put o.dst v') w'):wpList Tryz.prog ops Q (o :: rest) a w:=by
  refine wpList_plain ae fun K hK'=>?_;obtain⟨v',w',ad,r1,r2,r3⟩:=Zcg O w o.type base v us ac ao len cap vs hb hn ab aa;unfold Oper.wp;simp [execOp,ho,resolve,invoke,builtin,hs,hx,ad,Result.andThen];exact hK' _ _ (hK v' w' r1 r2 r3)
theorem ZjB (e:TypeId)(w:World)(u:Value)(h:u.oneCell'=true):Vs (w.alloc (.cells #[u] e)) (some ⟨w.heap.size,0,none⟩) 1 [u]:=by
 refine⟨rfl,fun x hx=>by simp at hx;rw [hx];exact h,fun j hj=>?_⟩;(obtain rfl:j=0:=by omega);refine⟨w.heap.size,0,rfl,?_⟩;have:=heap_alloc_new w (.cells #[u] e);simp only [World.cell?,Nat.add_zero,this];rfl
def kVals (ks:List Int):List Value:=ks.map (Value.int .i64)
theorem Zhf (ks:List Int):∀u∈kVals ks,u.oneCell'=true:=by
 intro u hu;obtain⟨_,_,rfl⟩:=List.mem_map.1 hu;rfl
def fVals (xs:List Nat):List Value:=xs.map (Value.float .f64)
theorem ZgT (xs:List Nat):∀u∈fVals xs,u.oneCell'=true:=by
 intro u hu;obtain⟨_,_,rfl⟩:=List.mem_map.1 hu;rfl
structure Rw where
  key:Nat
  dead:Bool
  xs:List Nat
  wr:Int
  cell:Int
  no:Int
def Rw.val (r:Rw) (c:Value):Value:=.agg #[.float .f64 r.key,.bool r.dead,c,.int .i64 r.wr,.int .i64 r.cell,.int .i64 r.no]
structure Rw.fits (r:Rw):Prop where
  key:r.key<18446744073709551616
  xs:∀x∈r.xs,x<18446744073709551616
  wr:(Lit.int .i64 r.wr).wf=true
  cell:(Lit.int .i64 r.cell).wf=true
  no:(Lit.int .i64 r.no).wf=true
structure Fs (w:World) (a:Option Addr) (len cap:Nat) (xs:List Nat):Prop where
  vs:Vs w a len (fVals xs)
  fit:∀x∈xs,x<18446744073709551616
  nil:a=none→cap=0
  le:len≤cap
  big:len≤9223372036854775807
theorem Fs.keep {len:Nat}(h:Fs w a len cap xs)(hb:Below B w w')(hB:w.heap.size≤B):Fs w' a len cap xs:=⟨h.vs.keep hb hB,h.fit,h.nil,h.le,h.big⟩
theorem Fs.len {len:Nat}(h:Fs w a len cap xs):xs.length=len:=by
 have:=h.vs.1;simpa [fVals] using this
theorem Fs.at {len:Nat}(h:Fs w a len cap xs)(k:Nat)(hk:k<len):∃b off,a=some ⟨b,off,none⟩∧w.cell? ⟨b,off+k,none⟩=some (.float .f64 (xs.getD k 0))∧xs.getD k 0∈xs∧xs.getD k 0<18446744073709551616:=by
 obtain⟨b,off,ha,hc⟩:=h.vs.2.2 k hk;(have hk':k<xs.length:=by rw [h.len];exact hk);(have hm:xs.getD k 0∈xs:=by simp [List.getD,hk']);refine⟨b,off,ha,?_,hm,h.fit _ hm⟩;rw [hc];simp [fVals,List.getD,hk']
theorem Zmi:One 35 32 (.float .f64 0) 8:=⟨Tryz.underlying35,by kernel_rfl,by kernel_rfl,by decide⟩
theorem Zjy:One 29 3 (.int .i64 0) 8:=⟨Tryz.underlying29,by kernel_rfl,by kernel_rfl,by decide⟩
def haveB (dead:Bool) (xs:List Nat):Bool:=decide (xs.length≤4) && !(dead && decide (0<xs.length)) && xs.all (fun x=>x == Fl.val x)
def cntB (n:Int):Bool:=decide (0≤n) && decide (n≤2147483647)
def rollB (c n:Int):Bool:=if c=0 then n == 0 else decide (0<c) && decide (c≤65535) && cntB n
def Rw.may (r:Rw):Bool:=(r.key == Fl.key r.key) && haveB r.dead r.xs && cntB r.wr && rollB r.cell r.no
theorem ZlN (x:Nat)(hx:x<18446744073709551616)(w:World):Calls Tryz.prog 175 #[.float .f64 x] w fun e w'=>e=.returned (.bool (x == Fl.key x))∧w'=w:=by
 have H1:=hide (Zig x hx);have H2:=hide (Zdp x (Fl.key x));clear hx;generalize Fl.key x=k at *;go_enter Tryz.func175,Tryz.ntmps175;go_wp2_with fail;refine(H1.out _).mono ?_;rintro e w' ⟨rfl,hw⟩;obtain rfl:=hw.symm;go_wp2_with fail;refine(H2.out _).mono ?_;rintro e w' ⟨rfl,hw⟩;obtain rfl:=hw.symm;go_wp2_with fail;go_ret;exact⟨rfl,rfl⟩
theorem Zif (x:Nat)(hx:x<18446744073709551616)(w:World):Calls Tryz.prog 198 #[.float .f64 x] w fun e w'=>e=.returned (.bool (x == Fl.val x))∧w'=w:=by
 have H1:=hide (Zfe x hx);have H2:=hide (Zdp x (Fl.val x));clear hx;generalize Fl.val x=k at *;go_enter Tryz.func198,Tryz.ntmps198;go_wp2_with fail;refine(H1.out _).mono ?_;rintro e w' ⟨rfl,hw⟩;obtain rfl:=hw.symm;go_wp2_with fail;refine(H2.out _).mono ?_;rintro e w' ⟨rfl,hw⟩;obtain rfl:=hw.symm;go_wp2_with fail;go_ret;exact⟨rfl,rfl⟩
theorem ZeC (n:Int)(w:World):Calls Tryz.prog 177 #[.int .i64 n] w fun e w'=>e=.returned (.bool (cntB n))∧w'=w:=by
 unfold cntB;go_enter Tryz.func177,Tryz.ntmps177;go_wp2_with fail;all_goals (go_ret;exact ⟨by simp [*] <;> (intros;omega),rfl⟩)
theorem Zin (c n:Int)(w:World):Calls Tryz.prog 178 #[.agg #[.int .i64 c,.int .i64 n]] w fun e w'=>e=.returned (.bool (rollB c n))∧Below w.heap.size w w':=by
 have HC:=hide (ZeC n);have HW:Hid (∀o,Below w.heap.size w (w.alloc o)):=Zaa w;by_cases h0:c=0
 · subst h0;(have e:rollB 0 n=(n == 0):=by simp [rollB]);rw [e];clear e;go_enter Tryz.func178,Tryz.ntmps178;go_wp2_with fail;all_goals (go_ret;exact ⟨by simp [*],HW.out _⟩)
 · (have e:rollB c n=(decide (0<c) && decide (c≤65535) && cntB n):=by simp [rollB,h0]);rw [e];have e0:(c == 0)=false:=beq_eq_false_iff_ne.2 h0;clear e h0;generalize cntB n=m at *;by_cases h1:0<c
   · by_cases h2:c≤65535
     · go_enter Tryz.func178,Tryz.ntmps178;go_wp2_with fail;refine(HC.out _).mono ?_;rintro e w' ⟨rfl,hw⟩;obtain rfl:=hw.symm;go_wp2_with fail;go_ret;exact⟨by simp [*],HW.out _⟩
     · go_enter Tryz.func178,Tryz.ntmps178;go_wp2_with fail;go_ret;exact⟨by simp [*] <;> (intros;omega),HW.out _⟩
   · go_enter Tryz.func178,Tryz.ntmps178;go_wp2_with fail;go_ret;exact⟨by simp [*] <;> (intros;omega),HW.out _⟩
theorem Zim (a:Option Addr)(len cap:Nat)(xs:List Nat)(dead:Bool)(w:World)(h:Fs w a len cap xs):Calls Tryz.prog 176 #[.slice a len cap,.bool dead] w fun e w'=>e=.returned (.bool (haveB dead xs))∧w'=w:=by
 have H:=hide h;have HL:=hide h.len;have af:=h.big;clear h;cases dead
 · by_cases h4:len≤4
   · (have i1:¬(4:Int)<(len:Int):=by omega);go_enter Tryz.func176,Tryz.ntmps176;go_wp2_with fail;go_loop [16] (fun i=>∃k:Nat,k≤len∧i=.int .i64 k∧Hid (∀j,j<k→(xs.getD j 0 == Fl.val (xs.getD j 0))=true)) (fun i=>len-(intOf i).toNat)
     case atStart=>exact ⟨0,by omega,rfl,fun j hj=>by omega⟩
     case round =>
      obtain⟨k,hk,rfl,ab⟩:=hrel;rcases Nat.lt_or_ge k len with ag | ah
      · obtain⟨b,off,rfl,hc,aa,hx⟩:=H.out.at k ag;obtain⟨x,ac⟩:∃x,x=xs.getD k 0:=⟨_,rfl⟩;rw [← ac] at hc aa hx;have ae:=hide ac;have HV:=hide (Zif x hx);have HM:=hide aa;clear aa ac;obtain⟨m,hm⟩:∃m,m=(x == Fl.val x):=⟨_,rfl⟩;rw [← hm] at HV;have ad:=hide hm;clear hm hx;cases m
        · have HN:Hid (haveB false xs=false):=by
           have:xs.all (fun x=>x == Fl.val x)=false:=List.all_eq_false.2 ⟨x,HM.out,by rw [← ad.out];decide⟩;show _=_;simp [haveB,this]
          go_wp2_with fail;refine(HV.out _).mono ?_;rintro e w' ⟨rfl,hw⟩;obtain rfl:=hw.symm;go_wp2_with fail;go_ret;exact⟨by rw [HN.out];rfl,rfl⟩
        · go_wp2_with fail;refine(HV.out _).mono ?_;rintro e w' ⟨rfl,hw⟩;obtain rfl:=hw.symm;go_wp2_with fail;go_round
          case rel =>
           refine⟨k+1,by omega,by go_num,?_⟩;intro j hj;by_cases e:j=k
           · rw [e,← ae.out];exact ad.out.symm
           · exact ab.out j (by omega)
          case measure=>simp only [intOf];omega
      · have HN:Hid (haveB false xs=true):=by
         have:xs.all (fun x=>x == Fl.val x)=true:=by
          rw [List.all_eq_true];intro x hx;obtain⟨j,hj,rfl⟩:=List.getElem_of_mem hx;have:=ab.out j (by rw [HL.out] at hj;omega);simpa [List.getD,hj] using this
         show _=_;simp only [haveB,this,HL.out,decide_eq_true h4];rfl
        go_wp2_with fail;go_ret;exact⟨by rw [HN.out];rfl,rfl⟩
   · (have i1:(4:Int)<(len:Int):=by omega);(have e:haveB false xs=false:=by simp [haveB,HL.out,h4]);rw [e];go_enter Tryz.func176,Tryz.ntmps176;go_wp2_with fail;go_ret;exact⟨rfl,rfl⟩
 · by_cases h0:len=0
   · subst h0;have e:haveB true xs=true:=by
      have:xs=[]:=List.eq_nil_of_length_eq_zero HL.out;rw [this];rfl
     rw [e];go_enter Tryz.func176,Tryz.ntmps176;go_wp2_with fail;go_ret;exact⟨rfl,rfl⟩
   · have e:haveB true xs=false:=by
      (have:0<xs.length:=by rw [HL.out];omega);simp [haveB,this]
     rw [e];have i1:((len:Int) == 0)=false:=beq_eq_false_iff_ne.2 (by omega);go_enter Tryz.func176,Tryz.ntmps176;go_wp2_with fail;go_ret;exact⟨rfl,rfl⟩
end Go.Proofs.YtiecfcjlhldhdaaGreat
