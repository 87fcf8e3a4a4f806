/-
  Lemmas.
-/
import Derived.Test.YtiecfcjlhldhdaaGreatRows
import Derived.WalkKit
import Derived.WalkSpells
import Derived.WalkLawsBesides
import Derived.Laws.BitsAllLaws
import Derived.Laws.AppendOwnNone
import Derived.Laws.IdiomStrings
import Derived.Laws.BytesArg
import Derived.Below
import Derived.ArgAppend
import Derived.Deep.AppendSrc
import Derived.BigQuiet
import Derived.ProofKit
import Derived.OpenShut
import Derived.ShutString
import Derived.ChangeOld
namespace Go.Proofs.YtiecfcjlhldhdaaGreat
open Go.RowKit
set_option linter.unusedVariables false
set_option linter.unusedSimpArgs false
set_option maxRecDepth 100000
set_option maxHeartbeats 4000000
variable {xs:List Nat}{w:World}{base len cap B g n:Nat}{a:Option Addr}{v:Value}
def Bytes (xs:List Nat):Prop:=∀n∈xs,n<256
theorem Zl4 (h:Bytes xs)(j:Nat):xs.getD j 0<256:=by
 by_cases hj:j<xs.length
 · have:=h _ (List.getElem_mem hj);simpa [List.getD,hj] using this
 · simp [List.getD,Nat.le_of_not_lt hj]
theorem hide {p:Prop}(h:p):Hid p:=h
theorem Zaa (w:World)(o:Obj):Below w.heap.size w (w.alloc o):=(Below.refl _ _).alloc (Nat.le_refl _) o
def Bs (w:World) (a:Option Addr) (len:Nat) (xs:List Nat):Prop:=
  xs.length=len∧Bytes xs∧∀i,i<len→∃b off,a=some ⟨b,off,none⟩∧w.cell? ⟨b,off+i,none⟩=some (.int .u8 (xs.getD i 0:Nat))
theorem Zn9:(Tryz.prog.info? 5).map (fun i=>(i.zero,i.size,i.bytes))=some (some (.int .u8 0),1,1):=by kernel_rfl
def vals (xs:List Nat):List Value:=xs.map fun x=>Value.int .u8 ((x:Nat):Int)
theorem ZaT (xs:List Nat):(vals xs).length=xs.length:=by simp [vals]
theorem ZcO (xs ys:List Nat):vals (xs ++ ys)=vals xs ++ vals ys:=by simp [vals]
theorem Zoo (xs:List Nat):∀u∈vals xs,u.oneCell'=true:=by
 intro u hu;obtain⟨_,_,rfl⟩:=List.mem_map.1 hu;rfl
theorem Zey {i:Nat}(hi:i<xs.length):(vals xs)[i]? = some (.int .u8 (xs.getD i 0:Nat)):=by
 simp [vals,List.getD,hi]
theorem Zop (xs:List Nat)(i x:Nat):(vals xs).set i (.int .u8 (x:Int))=vals (xs.set i x):=by
 simp [vals,List.map_set]
def Owns (w:World) (base:Nat) (v:Value) (xs:List Nat):Prop:=w.ownsRow base 5 1 v xs.length (vals xs)
theorem Bs.keep {w':World}(h:Bs w a len xs)(hb:Below B w w')(hB:w.heap.size≤B):Bs w' a len xs:=by
 refine⟨h.1,h.2.1,fun i hi=>?_⟩;obtain⟨b,off,ha,hc⟩:=h.2.2 i hi;exact⟨b,off,ha,(hb.cell (Nat.lt_of_lt_of_le (World.block_lt_of_cell? w _ hc) hB)).trans hc⟩
theorem Owns.keep {w':World}(h:Owns w base v xs)(hb:Below B w w')(hB:w.heap.size≤B):Owns w' base v xs:=by
 refine⟨h.1,?_⟩;rcases h.2 with hn | ⟨g,cap,cur,hv,aa,hg,rest⟩
 · exact .inl hn
 · refine .inr ⟨g,cap,cur,hv,aa,?_,rest⟩;rw [hb.block g (Nat.lt_of_lt_of_le (Array.getElem?_eq_some_iff.1 hg).1 hB)];exact hg
theorem Owns.row (h:Owns w base (.slice (some ⟨g,0,none⟩) n cap) xs)(hx:Bytes xs):n=xs.length∧Bs w (some ⟨g,0,none⟩) xs.length xs:=by
 have hn:n=xs.length:=by
  rcases h.2 with ⟨h',_⟩ | ⟨g',cap',cur,h',_⟩
  · simp at h'
  · simp only [Value.slice.injEq] at h';exact h'.2.1
 subst hn;refine⟨rfl,rfl,hx,fun i hi=>⟨g,0,rfl,?_⟩⟩;have:=World.ownsRow.cellAt h i (by omega);rw [Nat.zero_add,this,Zey hi]
theorem Owns.bs (h:Owns w base v xs)(hx:Bytes xs) :
    ∃a cap,v=.slice a xs.length cap∧Bs w a xs.length xs∧(a=none→cap=0):=by
  rcases h.2 with ⟨hv,h0⟩ | ⟨g,cap,cur,hv,aa,hg,hr⟩
  · refine⟨none,0,by rw [h0];exact hv,⟨rfl,hx,fun i hi=>by omega⟩,fun _=>rfl⟩
  · refine⟨some ⟨g,0,none⟩,cap,hv,?_,fun e=>by cases e⟩;rw [hv] at h;exact(h.row hx).2
theorem Owns.pos (h:Owns w base v xs)(hp:0<xs.length) :
    ∃g cap,v=.slice (some ⟨g,0,none⟩) xs.length cap∧base≤g∧g<w.heap.size∧xs.length≤cap:=by
  rcases h.2 with ⟨hv,h0⟩ | ⟨g,cap,cur,hv,aa,hg,ab,hr⟩
  · omega
  · exact⟨g,cap,hv,aa,(Array.getElem?_eq_some_iff.1 hg).1,ab⟩
theorem Owns.lit (w:World)(base:Nat)(xs:List Nat)(hb:base≤w.heap.size)(hm:xs.length≤1000000):Owns (w.alloc (.cells (vals xs).toArray 5)) base (.slice (some ⟨w.heap.size,0,none⟩) xs.length xs.length) xs:=by
 have:=World.ownsRow_lit (base:=base) (e:=5) (size:=1) w (vals xs).toArray xs.length hb (by unfold maxLen;omega) (by simp [vals]);simpa [Owns] using this
def Stay (w w':World):Prop:=∀(p:Nat) (C:Array Value) (t:TypeId) (fr:Nat × Nat),w.heap[p]? = some (Obj.cells C t fr)→t≠5→w'.heap[p]? = w.heap[p]?
theorem Stay.refl (w:World):Stay w w:=fun _ _ _ _ _ _=>rfl
theorem Owns.ne (h:Owns w base v xs){p:Nat}{C:Array Value}{t:TypeId}{fr:Nat × Nat}(hp:w.heap[p]? = some (Obj.cells C t fr))(ht:t≠5):v.ownBlock≠some p:=by
 intro e;rcases h.2 with ⟨hv,_⟩ | ⟨g,cap,cur,hv,_,hg,_⟩
 · rw [hv] at e;cases e
 · rw [hv] at e;simp [Value.ownBlock] at e;subst e;rw [hg] at hp;simp only [Option.some.injEq,Obj.cells.injEq] at hp;exact ht hp.2.1.symm
theorem ZdH (w:World)(ty:TypeId)(base:Nat)(v:Value)(xs:List Nat)(aa:Owns w base v xs)(ao:Option Addr)(len cap:Nat)(ys:List Nat)(hb:Bs w ao len ys)(hn:ao=none→cap=0)
    (ai:xs.length+len≤1000000)(ab:base≤w.heap.size) :
    ∃v' w',(Builtin.append_ #[107,107] ty #[v,.slice ao len cap]).run Tryz.prog w=.ok v' w'∧Owns w' base v' (xs ++ ys)∧Below base w w'∧Stay w w':=by
  obtain⟨i0,hi,aj,ak,al⟩:=info_parts Zn9;have af:∀k,v.ownBlock=some k→base≤k:=fun k hk=>(World.ownsRow.lt aa k hk).1;have ag:=hb.1;cases ao with
  | none =>
   obtain rfl:=hn rfl;have h0:len=0:=by
    rcases Nat.eq_zero_or_pos len with h | h
    · exact h
    · obtain⟨_,_,e,_⟩:=hb.2.2 0 h;cases e
   subst h0;have hy:ys=[]:=List.eq_nil_of_length_eq_zero ag;subst hy;have ae:=run_append_owned_none (P:=Tryz.prog) (w:=w) base 107 ty 5 i0 1 Tryz.underlying107 hi v xs.length (vals xs) aa;exact⟨v,w,ae,by simpa using aa,Below.refl _ _,Stay.refl _⟩
  | some ad =>
   have ac:∀j u,(vals ys)[j]? = some u→w.cell? (ad.add j)=some u:=by
    intro j u hj;have ah:j<ys.length:=by
     have:=(List.getElem?_eq_some_iff.1 hj).1;simpa [vals] using this
    obtain⟨b,off,e,hc⟩:=hb.2.2 j (by omega);obtain rfl:=Option.some.inj e;rw [Addr.add_lit,hc,← Zey ah,hj]
   obtain⟨v',w',ae,ho,hg,_⟩:=run_append_own (P:=Tryz.prog) w base 107 ty 5 i0 (.int .u8 0) 1 1 Tryz.underlying107 hi aj ak al rfl (by decide) v xs.length (vals xs) aa ad len cap (vals ys) (by rw [ZaT,ag,Nat.mul_one]) ac (Zoo ys)
    (by unfold maxLen;omega) (by omega) ab
   refine⟨v',w',ae,?_,(Below.refl base w).grown hg ab af,fun p C t fr hp ht=>hg.block p (Array.getElem?_eq_some_iff.1 hp).1 (aa.ne hp ht).symm⟩;unfold Owns;rw [List.length_append,ag,ZcO];exact ho
theorem ZbX (w:World)(ty:TypeId)(base:Nat)(v:Value)(xs:List Nat)(ac:Owns w base v xs)(ao:Option Addr)(len cap:Nat)(ys:List Nat)(hb:Bs w ao len ys)(hn:ao=none→cap=0)
    (ab:xs.length+len≤1000000)(aa:base≤w.heap.size) :
    ∃v' w',(Builtin.append_ #[107,107] ty #[v,.slice ao len cap]).run Tryz.prog w=.ok v' w'∧Owns w' base v' (xs ++ ys)∧Below base w w':=by
  obtain⟨v',w',h1,h2,h3,_⟩:=ZdH w ty base v xs ac ao len cap ys hb hn ab aa;exact⟨v',w',h1,h2,h3⟩
theorem ZcP (w:World){ops:Array Oper}{rest:List Oper}{o:Oper}{a:Act}{Q:Exit→Act→World→Prop}(ae:o.guard=none)(s x:Operand)
    (ho:o.op=.call { callee:=.builtin .append,args:=#[s,x],argTypes:=#[107,107] })(base:Nat)(v:Value)(xs:List Nat)(hs:a.eval s=v)(ac:Owns w base v xs)
    (ao:Option Addr)(len cap:Nat)(ys:List Nat)(hx:a.eval x=.slice ao len cap)(hb:Bs w ao len ys)(hn:ao=none→cap=0)
    (ab:xs.length+len≤1000000)(aa:base≤w.heap.size)
    (hK:∀v' w',Owns w' base v' (xs ++ ys)→Below base w w'→wpList Tryz.prog ops Q rest (a.put o.dst v') w'):wpList Tryz.prog ops Q (o :: rest) a w:=by
  refine wpList_plain ae fun K hK'=>?_;obtain⟨v',w',ad,r1,r2⟩:=ZbX w o.type base v xs ac ao len cap ys hb hn ab aa;unfold Oper.wp;simp [execOp,ho,resolve,invoke,builtin,hs,hx,ad,Result.andThen];exact hK' _ _ (hK v' w' r1 r2)
theorem Zll (w:World)(xs:List Nat)(fr:Nat × Nat)(hx:Bytes xs):Bs (w.alloc (.cells (vals xs).toArray 5 fr)) (some ⟨w.heap.size,0,none⟩) xs.length xs:=by
 refine⟨rfl,hx,fun i hi=>⟨w.heap.size,0,rfl,?_⟩⟩;rw [Nat.zero_add,World.cell?_alloc_mark];simpa using Zey hi
theorem Bs.at {b off:Nat}(h:Bs w (some ⟨b,off,none⟩) len xs)(i:Nat)(hi:i<len):w.cell? ⟨b,off+i,none⟩=some (.int .u8 (xs.getD i 0:Nat)):=by
 obtain⟨_,_,e,aa⟩:=h.2.2 i hi;simp at e;obtain⟨rfl,rfl⟩:=e;exact aa
structure Came (w:World) (a:Option Addr) (len cap:Nat) (xs:List Nat):Prop where
  bs:Bs w a len xs
  nil:a=none→cap=0
  le:len≤cap
  big:len≤9223372036854775807
def bstr (xs:List Nat):ByteArray:=strOfNums (xs.map Int.ofNat)
theorem ZiX {ys:List Nat}(hx:Bytes xs)(hy:Bytes ys)(h:bstr xs=bstr ys):xs=ys:=by
 (have h1:(bstr xs).data.toList=(bstr ys).data.toList:=by rw [h]);unfold bstr at h1;rw [strOfNums_data,strOfNums_data,List.map_map,List.map_map] at h1;have key:∀(l:List Nat),Bytes l→(l.map ((fun n:Int=>UInt8.ofNat n.toNat) ∘ Int.ofNat)).map UInt8.toNat=l:=by
  intro l hl;rw [List.map_map];have e:l.map (UInt8.toNat ∘ ((fun n:Int=>UInt8.ofNat n.toNat) ∘ Int.ofNat))=l.map id:=by
   apply List.map_congr_left;intro n hn;have:=hl n hn;simp;omega
  rw [e,List.map_id]
 rw [← key xs hx,← key ys hy,h1]
theorem ZhG {ys:List Nat}(hx:Bytes xs)(hy:Bytes ys)(h:xs≠ys):((bstr xs).toList == (bstr ys).toList)=false:=by
 apply beq_eq_false_iff_ne.2;intro e;rw [ByteArray.toList_eq,ByteArray.toList_eq] at e;refine h (ZiX hx hy ?_);have:(bstr xs).data=(bstr ys).data:=Array.toList_inj.1 e;cases hX:bstr xs;cases hY:bstr ys;rw [hX,hY] at this;simp only at this;rw [this]
theorem Zam (cap:Nat)(h:Bs w a len xs):(convert 107 9 (.slice a len cap)).run Tryz.prog w=.ok (.string (bstr xs)) w:=by
 cases a with
 | none =>
  have h0:len=0:=by
   rcases Nat.eq_zero_or_pos len with h0 | h0
   · exact h0
   · obtain⟨_,_,e,_⟩:=h.2.2 0 h0;cases e
  subst h0;have hx:xs=[]:=List.eq_nil_of_length_eq_zero h.1;subst hx;exact run_convert_bytes_nil w 107 5 Tryz.underlying107 Tryz.underlying5 0 cap 9 Tryz.underlying9
 | some ad =>
  by_cases h0:len=0
  · subst h0;have hx:xs=[]:=List.eq_nil_of_length_eq_zero h.1;subst hx;rw [run_convert_bytes_string w 107 9 5 (some ad) 0 cap Tryz.underlying107 Tryz.underlying5 Tryz.underlying9];rw [run_bytesToString (P:=Tryz.prog) w ad 0 cap [] rfl];rfl
  · obtain⟨b,off,e,_⟩:=h.2.2 0 (by omega);obtain rfl:=Option.some.inj e;have aa:=h.1;refine run_convert_bytes_arg w 107 5 Tryz.underlying107 Tryz.underlying5 b off len cap (xs.map Int.ofNat) (by simp [aa]) ?_ 9 Tryz.underlying9;intro i hi;rw [h.at i hi];(have hi':i<xs.length:=by omega);simp [List.getD,hi']
theorem Zpy (w:World):Owns (w.alloc (.cells #[] 5)) w.heap.size (.slice (some ⟨w.heap.size,0,none⟩) 0 0) []:=Owns.lit w w.heap.size [] (Nat.le_refl _) (by simp)
def fromA (a:Option Addr) (cap k:Nat):Option Addr:=if cap=k then a else a.map (·.add (k*1))
theorem sz5 (w:World):(sizeOf 5).run Tryz.prog w=.ok 1 w:=by
 obtain⟨i0,hi,ab,aa,ac⟩:=info_parts Zn9;simp [sizeOf,typeInfo,hi,aa]
theorem Zlw:Tryz.prog.elem 107=5:=by kernel_rfl
theorem Zc0 (a:Option Addr)(len cap k:Nat)(hk:k≤len)(w:World):(Instr.sliceAt 107 (.slice a len cap) (some (.int .i64 (k:Nat))) none none).run Tryz.prog w=.ok (.slice (fromA a cap k) (len-k) (cap-k)) w:=by
 (have aa:Tryz.prog.underlying 107=some (.slice (Tryz.prog.elem 107)):=by kernel_rfl);rw [run_sliceAt_slice w 107 _ _ _ _ aa,run_slice_l w 107 a len cap aa .i64 (k:Nat) (by omega) (by omega),Zlw,sz5];simp [Result.andThen,sliced,fromA]
theorem ZfJ (a:Option Addr)(len cap k:Nat)(hk:k≤cap)(w:World):(Instr.sliceAt 107 (.slice a len cap) none (some (.int .i64 (k:Nat))) none).run Tryz.prog w=.ok (.slice (fromA a cap 0) k cap) w:=by
 (have aa:Tryz.prog.underlying 107=some (.slice (Tryz.prog.elem 107)):=by kernel_rfl);rw [run_sliceAt_slice w 107 _ _ _ _ aa,run_slice_h w 107 a len cap aa .i64 (k:Nat) (by omega) (by omega),Zlw,sz5];simp [Result.andThen,sliced,fromA]
theorem Bs.from {k:Nat}(h:Bs w a len xs)(hk:k≤len)(hc:len≤cap):Bs w (fromA a cap k) (len-k) (xs.drop k):=by
 refine⟨by simp [h.1],fun x hx=>h.2.1 x (List.mem_of_mem_drop hx),fun i hi=>?_⟩;obtain⟨b,off,rfl,aa⟩:=h.2.2 (k+i) (by omega);refine⟨b,off+k,?_,?_⟩
 · unfold fromA;rw [if_neg (by omega)];simp only [Option.map_some,Nat.mul_one,Addr.add_lit]
 · rw [Nat.add_assoc,aa];simp [List.getD]
theorem Bs.upto {k:Nat}(h:Bs w a len xs)(hk:k≤len):Bs w (fromA a cap 0) k (xs.take k):=by
 refine⟨by simp [h.1,hk],fun x hx=>h.2.1 x (List.mem_of_mem_take hx),fun i hi=>?_⟩;obtain⟨b,off,rfl,aa⟩:=h.2.2 i (by omega);refine⟨b,off,?_,?_⟩
 · unfold fromA;split
   · rfl
   · simp only [Option.map_some,Nat.zero_mul,Addr.add_lit,Nat.add_zero]
 · rw [aa];simp [List.getD,hi]
theorem Owns.set {wr:World}{N:Nat}{zs:List Nat}(h:Owns wr base (.slice (some ⟨g,0,none⟩) N cap) zs)(hN:N=zs.length)(i x:Nat) :
    Owns (wr.setCell ⟨g,i,none⟩ (.int .u8 (x:Int))) base (.slice (some ⟨g,0,none⟩) N cap) (zs.set i x):=by
  subst hN;have:=(World.ownsRow.stored h i (.int .u8 (x:Int))).1;unfold Owns;rw [List.length_set,← Zop];exact this
def Zci (cur:Array Value):Nat→List Value→Array Value
  | _,[]=>cur
  | o,v :: r=>Zci (cur.setIfInBounds o v) (o+1) r
theorem ZcG:∀(vs:List Value)(cur:Array Value)(o:Nat),(Zci cur o vs).size=cur.size
 | [],_,_=>rfl
 | v :: r,cur,o=>by
  show (Zci (cur.setIfInBounds o v) (o+1) r).size=_
  rw [ZcG r]
  simp
theorem ZcH:∀(vs:List Value)(cur:Array Value)(o:Nat),o+vs.length≤cur.size→(Zci cur o vs).toList.take (o+vs.length)=cur.toList.take o ++ vs
 | [],cur,o,_=>by simp [Zci]
 | v :: r,cur,o,h=>by
  have h':o+1+r.length≤cur.size:=by simp at h;omega
  have ih:=ZcH r (cur.setIfInBounds o v) (o+1) (by simpa using h')
  show (Zci (cur.setIfInBounds o v) (o+1) r).toList.take (o+(r.length+1))=_
  rw [show o+(r.length+1)=o+1+r.length by omega,ih]
  have ho:o<cur.toList.length:=by simp;omega
  rw [Array.toList_setIfInBounds,List.take_succ_eq_append_getElem (by simpa using ho),List.take_set_of_le (Nat.le_refl _)]
  simp
theorem Zcj (g:Nat)(e:TypeId):∀(vs:List Value)(o:Nat)(cur:Array Value)(w:World),w.heap[g]? = some (.cells cur e (0,0))→(w.setCells g o vs).heap[g]? = some (.cells (Zci cur o vs) e (0,0))
 | [],_,_,_,h=>h
 | v :: r,o,cur,w,h=>Zcj g e r (o+1) _ _ (heap_setCell_same w g o cur e v h)
theorem Za9 (hB:B≤g):∀(vs:List Value)(o:Nat)(w0 w:World),Below B w0 w→Below B w0 (w.setCells g o vs)
 | [],_,_,_,h=>h
 | v :: r,o,w0,_,h=>Za9 hB r (o+1) w0 _ (h.setCell hB v)
def strB (s:ByteArray):List Nat:=s.data.toList.map UInt8.toNat
theorem Zaz (s:ByteArray):(strB s).length=s.size:=by
 unfold strB;rw [List.length_map,Array.length_toList];rfl
theorem ZfM (s:ByteArray):Bytes (strB s):=by
 intro x hx;obtain⟨c,_,rfl⟩:=List.mem_map.1 hx;exact c.toNat_lt
theorem ZkU (s:ByteArray):byteCells s=vals (strB s):=by
 simp [byteCells,vals,strB]
theorem ZgA (s:ByteArray):bstr (strB s)=s:=by
 have h:(bstr (strB s)).data.toList=s.data.toList:=by
  unfold bstr strB;rw [strOfNums_data,List.map_map,List.map_map];have e:((fun n:Int=>UInt8.ofNat n.toNat) ∘ Int.ofNat) ∘ UInt8.toNat=id:=by
   funext c;simp
  rw [e,List.map_id]
 cases hb:bstr (strB s);cases s;rw [hb] at h;simp only at h;rw [Array.toList_inj.1 h]
theorem Zb5 (g k:Nat)(hk:k≠g):∀(vs:List Value)(o:Nat)(w:World),(w.setCells g o vs).heap[k]? = w.heap[k]?
 | [],_,_=>rfl
 | v :: r,o,w=>by
  show ((w.setCell ⟨g,o,none⟩ v).setCells g (o+1) r).heap[k]? = _
  rw [Zb5 g k hk r (o+1) _]
  exact Below.heap_setCell w ⟨g,o,none⟩ v k hk
theorem ZeT (w:World)(ty:TypeId)(base g n cap:Nat)(xs:List Nat)(ab:Owns w base (.slice (some ⟨g,0,none⟩) n cap) xs)(hx:Bytes xs)(s:ByteArray)(ar:xs.length+s.size≤1000000)(aa:base≤w.heap.size) :
    ∃v' w',(Builtin.append_ #[107,9] ty #[.slice (some ⟨g,0,none⟩) n cap,.string s]).run Tryz.prog w=.ok v' w'∧Owns w' base v' (xs ++ strB s)∧Below base w w'∧Stay w w':=by
  obtain⟨i0,hi,av,ag,aw⟩:=info_parts Zn9;obtain⟨hn,an⟩:=ab.row hx;subst hn;have ad:=Src.ofString (P:=Tryz.prog) w Tryz.underlying9 s;rw [← ag,ZkU] at ad;rcases ab.2 with ⟨h',_⟩ | ⟨g',cap',cur,h',ak,hg,ax,ai,ah,au⟩
  · simp at h'
  · simp only [Value.slice.injEq,Option.some.injEq,Addr.mk.injEq,and_true,true_and] at h';obtain⟨rfl,rfl⟩:=h';(have af:(vals (strB s)).length=s.size:=by rw [ZaT,Zaz]);by_cases hr:xs.length+s.size≤cap
    · have ae:∀j,j<(vals (strB s)).length→(w.cell? ⟨g,0+xs.length*i0.size+j,none⟩).isSome=true:=by
       intro j hj;rw [ag,cell_of_row w g _ cur 5 (0,0) hg];(have:xs.length+j<cur.size:=by rw [ah];omega);simp;exact this
      have ap:∀j,j<(vals (strB s)).length→w.frozen? ⟨g,0+xs.length*i0.size+j,none⟩=false:=fun j _=>frozen_of_row w g _ cur 5 hg;have ac:=run_append_room_src (P:=Tryz.prog) w 107 9 ty 5 i0 Tryz.underlying107 hi g 0 xs.length cap (.string s) s.size (vals (strB s)) ad hr ae ap;refine⟨_,_,ac,?_,Za9 ak _ _ _ _ (Below.refl _ _),fun p C t fr hp ht=>Zb5 g p (fun e=>ab.ne hp ht (by rw [e];rfl)) _ _ _⟩;unfold Owns;rw [List.length_append,Zaz];refine⟨by rw [ZaT,List.length_append,Zaz,Nat.mul_one],.inr ⟨g,cap,_,rfl,ak,Zcj g 5 _ _ cur w hg,hr,ai,by rw [ZcG];exact ah,?_⟩⟩;have am:=ZcH (vals (strB s)) cur xs.length (by rw [af,ah];omega);rw [af] at am;rw [ag,Nat.zero_add,Nat.mul_one,Nat.mul_one,am,ZcO];refine congrArg (fun l=>l ++ vals (strB s)) ?_;rw [← au,Nat.mul_one]
    · have aj:(Builtin.firstCells i0.size xs.length (.slice (some ⟨g,0,none⟩) xs.length cap)).run Tryz.prog w.drew=.ok (vals xs).toArray w.drew:=by
       refine run_firstCells_some w.drew i0.size xs.length ⟨g,0,none⟩ xs.length cap (vals xs) (by rw [ZaT,ag,Nat.mul_one]) ?_;intro j u hj;have al:j<xs.length:=by
        have:=(List.getElem?_eq_some_iff.1 hj).1;simpa [vals] using this
       rw [Addr.add_lit];have:=an.at j al;rw [← Zey al,hj] at this;exact this
      have ac:=run_append_grow_src (P:=Tryz.prog) w 107 9 ty 5 i0 (.int .u8 0) Tryz.underlying107 hi av (some ⟨g,0,none⟩) xs.length cap (vals xs) aj (.string s) s.size (vals (strB s)) ad (by omega) (by omega)
       (growslice_fits (by omega) (by rw [aw];omega))
      have aq:=grownCap_ge w (xs.length+s.size) cap 5;have ao:grownCap w (xs.length+s.size) cap 5≤maxLen:=grownCap_le_maxLen w _ cap 5 (by unfold maxLen;omega);refine⟨_,_,ac,?_,((Below.refl base w).drew).alloc aa _,fun p C t fr hp ht=>Below.heap_alloc w.drew _ p (Array.getElem?_eq_some_iff.1 hp).1⟩;unfold Owns;rw [List.length_append,Zaz];refine⟨by rw [ZaT,List.length_append,Zaz,Nat.mul_one],.inr ⟨w.heap.size,_,_,rfl,aa,heap_alloc_new w.drew _,aq,ao,?_,?_⟩⟩
      · simp only [Array.size_append,List.size_toArray,size_zeroCells,List.length_append,af,ZaT];show xs.length+s.size+(grownCap w (xs.length+s.size) cap 5-(xs.length+s.size))*1=_;omega
      · rw [ZcO,Array.toList_append];(have hl:(vals xs ++ vals (strB s)).length=(xs.length+s.size)*1:=by rw [List.length_append,af,ZaT,Nat.mul_one]);rw [← hl];exact List.take_left
theorem Zfh (w:World)(ty:TypeId)(base g n cap:Nat)(xs:List Nat)(ac:Owns w base (.slice (some ⟨g,0,none⟩) n cap) xs)(hx:Bytes xs)(s:ByteArray)(ab:xs.length+s.size≤1000000)(aa:base≤w.heap.size) :
    ∃v' w',(Builtin.append_ #[107,9] ty #[.slice (some ⟨g,0,none⟩) n cap,.string s]).run Tryz.prog w=.ok v' w'∧Owns w' base v' (xs ++ strB s)∧Below base w w':=by
  obtain⟨v',w',h1,h2,h3,_⟩:=ZeT w ty base g n cap xs ac hx s ab aa;exact⟨v',w',h1,h2,h3⟩
theorem ZdO (w:World){ops:Array Oper}{rest:List Oper}{o:Oper}{a:Act}{Q:Exit→Act→World→Prop}(ae:o.guard=none)(s x:Operand)
    (ho:o.op=.call { callee:=.builtin .append,args:=#[s,x],argTypes:=#[107,9] })(base g n cap:Nat)(xs:List Nat)(hs:a.eval s=.slice (some ⟨g,0,none⟩) n cap)(ac:Owns w base (.slice (some ⟨g,0,none⟩) n cap) xs)(hb:Bytes xs)
    (str:ByteArray)(hx:a.eval x=.string str)(ab:xs.length+str.size≤1000000)(aa:base≤w.heap.size)
    (hK:∀v' w',Owns w' base v' (xs ++ strB str)→Below base w w'→wpList Tryz.prog ops Q rest (a.put o.dst v') w'):wpList Tryz.prog ops Q (o :: rest) a w:=by
  refine wpList_plain ae fun K hK'=>?_;obtain⟨v',w',ad,r1,r2⟩:=Zfh w o.type base g n cap xs ac hb str ab aa;unfold Oper.wp;simp [execOp,ho,resolve,invoke,builtin,hs,hx,ad,Result.andThen];exact hK' _ _ (hK v' w' r1 r2)
section
variable {α : Type}
structure Vn (α:Type) where
  see:α→Bool
  dead:α→Bool
  wr:α→Int
  nx:α→Option (Option α)
def Vn.look (V:Vn α):Nat→α→Option α × List Int × Int
  | 0,r=>if V.see r=true then (if V.dead r=true then none else some r,[],0) else (none,[V.wr r],13)
  | n+1,r=>if V.see r=true then (if V.dead r=true then none else some r,[],0) else
    match V.nx r with
    | none=>(none,[V.wr r],13)
    | some none=>(none,[V.wr r],0)
    | some (some q)=>((V.look n q).1,V.wr r :: (V.look n q).2.1,(V.look n q).2.2)
theorem Vn.look_seen (V:Vn α)(n:Nat){r:α}(h:V.see r=true):V.look n r=(if V.dead r=true then none else some r,[],0):=by
 cases n <;> simp only [Vn.look,if_pos h]
theorem Vn.look_end (V:Vn α){r:α}(h:V.see r=false):V.look 0 r=(none,[V.wr r],13):=by
 simp [Vn.look,h]
theorem Vn.look_old (V:Vn α)(n:Nat){r:α}(h:V.see r=false)(hn:V.nx r=none):V.look n r=(none,[V.wr r],13):=by
 cases n <;> simp [Vn.look,h,hn]
theorem Vn.look_new (V:Vn α)(n:Nat){r:α}(h:V.see r=false)(hn:V.nx r=some none):V.look (n+1) r=(none,[V.wr r],0):=by
 simp [Vn.look,h,hn]
theorem Vn.look_next (V:Vn α)(n:Nat){r q:α}(h:V.see r=false)(hn:V.nx r=some (some q)):V.look (n+1) r=((V.look n q).1,V.wr r :: (V.look n q).2.1,(V.look n q).2.2):=by
 simp [Vn.look,h,hn]
def Vn.path (V:Vn α):Nat→α→List α
  | 0,r=>if V.see r=true then [] else [r]
  | n+1,r=>if V.see r=true then [] else
    match V.nx r with
    | some (some q)=>r :: V.path n q
    | _=>[r]
theorem Zhu:∀(a b:List Nat),a.Nodup→(∀x,x∈a→x∈b)→a.length≤b.length
 | [],b,_,_=>Nat.zero_le _
 | x :: a,b,hn,hs=>by
  have hx:=hs x (by simp)
  have hn':=List.nodup_cons.1 hn
  have:=Zhu a (b.erase x) hn'.2 (fun y hy=>(List.mem_erase_of_ne (fun e=>hn'.1 (by rw [← e];exact hy))).2 (hs y (by simp [hy])))
  rw [List.length_erase_of_mem hx] at this
  have aa:0<b.length:=List.length_pos_of_mem hx
  rw [List.length_cons]
  omega
def Vn.stp (V:Vn α):Nat→α→α
  | 0,r=>r
  | k+1,r=>match V.nx r with
    | some (some q)=>V.stp k q
    | _=>r
theorem Vn.look_long (V:Vn α):∀(n:Nat)(r:α),n<(V.look n r).2.1.length→(∀k,k<n→V.nx (V.stp k r)=some (some (V.stp (k+1) r)))∧(V.look n r).2.1=(List.range (n+1)).map (fun k=>V.wr (V.stp k r))
 | 0,r,h=>by
  refine⟨fun k hk=>absurd hk (Nat.not_lt_zero k),?_⟩
  cases hs:V.see r with
  | true=>rw [V.look_seen 0 hs] at h;simp at h
  | false=>rw [V.look_end hs];rfl
 | n+1,r,h=>by
  cases hs:V.see r with
  | true=>rw [V.look_seen (n+1) hs] at h;simp at h
  | false =>
   cases hn:V.nx r with
   | none=>rw [V.look_old (n+1) hs hn] at h;simp at h
   | some o =>
    cases o with
    | none=>rw [V.look_new n hs hn] at h;simp at h
    | some q =>
     rw [V.look_next n hs hn] at h ⊢
     have e:∀k,V.stp (k+1) r=V.stp k q:=fun k=>by simp [Vn.stp,hn]
     obtain⟨h1,h2⟩:=V.look_long n q (by simpa using h)
     refine⟨fun k hk=>?_,?_⟩
     · cases k with
       | zero=>rw [e 0];exact hn
       | succ k=>rw [e k,e (k+1)];exact h1 k (by omega)
     · rw [List.range_succ_eq_map,List.map_cons,List.map_map,h2]
       refine congrArg _ (List.map_congr_left fun k _=>?_)
       show _=V.wr (V.stp (k+1) r)
       rw [e]
theorem ZdZ {f:Nat→Nat}:∀(n:Nat),(∀i j,i<j→j<n→f i≠f j)→((List.range n).map f).Nodup
 | 0,_=>by simp
 | n+1,h=>by
  rw [List.range_succ,List.map_append,List.nodup_append]
  refine⟨ZdZ n (fun i j a b=>h i j a (by omega)),by simp,fun a ha b hb=>?_⟩
  obtain⟨i,hi,rfl⟩:=List.mem_map.1 ha
  rw [List.map_cons,List.map_nil,List.mem_singleton] at hb
  rw [hb]
  exact h i n (List.mem_range.1 hi) (Nat.lt_succ_self n)
theorem Ziv {f:Nat→Nat}{N:Nat}(hN:N<n)(hf:∀i,i<n→f i<N):∃i j,i<j∧j<n∧f i=f j:=by
 refine Classical.byContradiction fun hc=>?_;have h1:=ZdZ (f:=f) n (fun i j a b e=>hc ⟨i,j,a,b,e⟩);have h2:=Zhu _ (List.range N) h1 (fun x hx=>by
  obtain⟨i,hi,rfl⟩:=List.mem_map.1 hx;exact List.mem_range.2 (hf i (List.mem_range.1 hi)))
 simp at h2;omega
theorem Vn.look_again (V:Vn α)(pl:α→Nat)(N:Nat)(hp:∀r q,V.nx r≠none→V.nx q≠none→pl r=pl q→V.nx r=V.nx q)(hN:∀r,V.nx r≠none→pl r<N)(hn:N<n)(r:α)(t:Int):t∈(V.look n r).2.1↔t∈(V.look n r).2.1.take n:=by
 refine⟨fun h=>?_,List.mem_of_mem_take⟩;rcases Nat.lt_or_ge n (V.look n r).2.1.length with hl | hl
 · obtain⟨h1,h2⟩:=V.look_long n r hl;obtain⟨i,j,aa,hj,he⟩:=Ziv (f:=fun k=>pl (V.stp k r)) hn (fun i hi=>hN _ (by rw [h1 i hi];simp));have hs:∀m,j+1+m≤n→V.stp (i+1+m) r=V.stp (j+1+m) r:=by
    intro m
    induction m with
    | zero =>
     intro _;have:=hp _ _ (by rw [h1 i (by omega)];simp) (by rw [h1 j hj];simp) he;rw [h1 i (by omega),h1 j hj] at this;simpa using this
    | succ m ih =>
     intro hm;have e:=ih (by omega);have a:=h1 (i+1+m) (by omega);have b:=h1 (j+1+m) (by omega);rw [e,b] at a;simp only [Option.some.injEq] at a;exact a.symm
   rw [h2] at h ⊢;rw [← List.map_take,List.take_range,Nat.min_eq_left (Nat.le_succ n)];obtain⟨k,hk,rfl⟩:=List.mem_map.1 h;have hk':=List.mem_range.1 hk;rcases Nat.lt_or_ge k n with h3 | h3
   · exact List.mem_map.2 ⟨k,List.mem_range.2 h3,rfl⟩
   · have h4:=hs (n-(j+1)) (by omega);rw [show j+1+(n-(j+1))=n by omega] at h4;(obtain rfl:k=n:=by omega);exact List.mem_map.2 ⟨i+1+(k-(j+1)),List.mem_range.2 (by omega),by rw [h4]⟩
 · rw [List.take_of_length_le hl];exact h
def Vn.cut (o:Option α × List Int × Int):Option α × List Int × Int:=(o.1,o.2.1.take 400,o.2.2)
end
end Go.Proofs.YtiecfcjlhldhdaaGreat
