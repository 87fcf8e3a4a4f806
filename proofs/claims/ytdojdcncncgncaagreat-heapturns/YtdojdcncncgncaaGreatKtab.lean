/-
  Lemmas.
-/
import Derived.Test.YtdojdcncncgncaaGreatRows
import Derived.WalkKit
import Derived.WalkSpells
import Derived.WalkLawsBesides
import Derived.Laws.BitsAllLaws
import Derived.Laws.AppendOwnNone
import Derived.Laws.IdiomStrings
import Derived.Laws.BytesArg
import Derived.Below
import Derived.ArgAppend
import Derived.Deep.AppendSrc
import Derived.BigQuiet
import Derived.ProofKit
import Derived.OpenShut
import Derived.ShutString
import Derived.ChangeOld
import Derived.Test.YtdojdcncncgncaaGreatKtaa
namespace Go.Proofs.YtdojdcncncgncaaGreat
open Go.RowKit
set_option linter.unusedVariables false
set_option maxRecDepth 100000
set_option maxHeartbeats 4000000
variable {xs:List Nat}{w w':World}{len base B cap g:Nat}{a:Option Addr}{v:Value}{ops:Array Oper}{rest:List Oper}{o:Oper}
def Bytes (xs:List Nat):Prop:=∀n∈xs,n<256
theorem ZkG (h:Bytes xs)(j:Nat):xs.getD j 0<256:=by
 by_cases hj:j<xs.length
 · have:=h _ (List.getElem_mem hj);simpa [List.getD,hj] using this
 · simp [List.getD,Nat.le_of_not_lt hj]
theorem hide {p:Prop}(h:p):Hid p:=h
theorem Zaa (w:World)(o:Obj):Below w.heap.size w (w.alloc o):=(Below.refl _ _).alloc (Nat.le_refl _) o
def Bs (w:World) (a:Option Addr) (len:Nat) (xs:List Nat):Prop:=
  xs.length=len∧Bytes xs∧∀i,i<len→∃b off,a=some ⟨b,off,none⟩∧w.cell? ⟨b,off+i,none⟩=some (.int .u8 (xs.getD i 0:Nat))
theorem info5:(Tryz.prog.info? 5).map (fun i=>(i.zero,i.size,i.bytes))=some (some (.int .u8 0),1,1):=by kernel_rfl
def vals (xs:List Nat):List Value:=xs.map fun x=>Value.int .u8 ((x:Nat):Int)
theorem Zas (xs:List Nat):(vals xs).length=xs.length:=by simp [vals]
theorem Zdj (xs ys:List Nat):vals (xs ++ ys)=vals xs ++ vals ys:=by simp [vals]
theorem ZgA (xs:List Nat):∀u∈vals xs,u.oneCell'=true:=by
 intro u hu;obtain⟨_,_,rfl⟩:=List.mem_map.1 hu;rfl
theorem Zcm {i:Nat}(hi:i<xs.length):(vals xs)[i]? = some (.int .u8 (xs.getD i 0:Nat)):=by
 simp [vals,List.getD,hi]
theorem ZmZ (xs:List Nat)(i x:Nat):(vals xs).set i (.int .u8 (x:Int))=vals (xs.set i x):=by
 simp [vals,List.map_set]
def Owns (w:World) (base:Nat) (v:Value) (xs:List Nat):Prop:=w.ownsRow base 5 1 v xs.length (vals xs)
theorem Bs.keep (h:Bs w a len xs)(hb:Below B w w')(hB:w.heap.size≤B):Bs w' a len xs:=by
 refine⟨h.1,h.2.1,fun i hi=>?_⟩;obtain⟨b,off,ha,hc⟩:=h.2.2 i hi;exact⟨b,off,ha,(hb.cell (Nat.lt_of_lt_of_le (World.block_lt_of_cell? w _ hc) hB)).trans hc⟩
theorem Owns.keep (h:Owns w base v xs)(hb:Below B w w')(hB:w.heap.size≤B):Owns w' base v xs:=by
 refine⟨h.1,?_⟩;rcases h.2 with hn | ⟨g,cap,cur,hv,aa,hg,rest⟩
 · exact .inl hn
 · refine .inr ⟨g,cap,cur,hv,aa,?_,rest⟩;rw [hb.block g (Nat.lt_of_lt_of_le (Array.getElem?_eq_some_iff.1 hg).1 hB)];exact hg
theorem Owns.row {n:Nat}(h:Owns w base (.slice (some ⟨g,0,none⟩) n cap) xs)(hx:Bytes xs):n=xs.length∧Bs w (some ⟨g,0,none⟩) xs.length xs:=by
 have hn:n=xs.length:=by
  rcases h.2 with ⟨h',_⟩ | ⟨g',cap',cur,h',_⟩
  · simp at h'
  · simp only [Value.slice.injEq] at h';exact h'.2.1
 subst hn;refine⟨rfl,rfl,hx,fun i hi=>⟨g,0,rfl,?_⟩⟩;have:=World.ownsRow.cellAt h i (by omega);rw [Nat.zero_add,this,Zcm hi]
theorem Owns.bs (h:Owns w base v xs)(hx:Bytes xs) :
    ∃a cap,v=.slice a xs.length cap∧Bs w a xs.length xs∧(a=none→cap=0):=by
  rcases h.2 with ⟨hv,h0⟩ | ⟨g,cap,cur,hv,aa,hg,hr⟩
  · refine⟨none,0,by rw [h0];exact hv,⟨rfl,hx,fun i hi=>by omega⟩,fun _=>rfl⟩
  · refine⟨some ⟨g,0,none⟩,cap,hv,?_,fun e=>by cases e⟩;rw [hv] at h;exact(h.row hx).2
theorem Owns.pos (h:Owns w base v xs)(hp:0<xs.length) :
    ∃g cap,v=.slice (some ⟨g,0,none⟩) xs.length cap∧base≤g∧g<w.heap.size∧xs.length≤cap:=by
  rcases h.2 with ⟨hv,h0⟩ | ⟨g,cap,cur,hv,aa,hg,ab,hr⟩
  · omega
  · exact⟨g,cap,hv,aa,(Array.getElem?_eq_some_iff.1 hg).1,ab⟩
theorem Owns.lit (w:World)(base:Nat)(xs:List Nat)(hb:base≤w.heap.size)(hm:xs.length≤1000000):Owns (w.alloc (.cells (vals xs).toArray 5)) base (.slice (some ⟨w.heap.size,0,none⟩) xs.length xs.length) xs:=by
 have:=World.ownsRow_lit (base:=base) (e:=5) (size:=1) w (vals xs).toArray xs.length hb (by unfold maxLen;omega) (by simp [vals]);simpa [Owns] using this
def Stay (w w':World):Prop:=∀(p:Nat) (C:Array Value) (t:TypeId) (fr:Nat × Nat),w.heap[p]? = some (Obj.cells C t fr)→t≠5→w'.heap[p]? = w.heap[p]?
theorem Stay.refl (w:World):Stay w w:=fun _ _ _ _ _ _=>rfl
theorem Stay.trans {a b c:World}(h:Stay a b)(k:Stay b c):Stay a c:=fun p C t fr hp ht=>(k p C t fr ((h p C t fr hp ht).trans hp) ht).trans (h p C t fr hp ht)
theorem Stay.below (h:Below w.heap.size w w'):Stay w w':=fun p _ _ _ hp _=>h.block p (Array.getElem?_eq_some_iff.1 hp).1
theorem Owns.ne (h:Owns w base v xs){p:Nat}{C:Array Value}{t:TypeId}{fr:Nat × Nat}(hp:w.heap[p]? = some (Obj.cells C t fr))(ht:t≠5):v.ownBlock≠some p:=by
 intro e;rcases h.2 with ⟨hv,_⟩ | ⟨g,cap,cur,hv,_,hg,_⟩
 · rw [hv] at e;cases e
 · rw [hv] at e;simp [Value.ownBlock] at e;subst e;rw [hg] at hp;simp only [Option.some.injEq,Obj.cells.injEq] at hp;exact ht hp.2.1.symm
theorem Zbh (w:World)(ty:TypeId)(base:Nat)(v:Value)(xs:List Nat)(aa:Owns w base v xs)(ao:Option Addr)(len cap:Nat)(ys:List Nat)(hb:Bs w ao len ys)(hn:ao=none→cap=0)
    (ai:xs.length+len≤1000000)(ab:base≤w.heap.size) :
    ∃v' w',(Builtin.append_ #[56,56] ty #[v,.slice ao len cap]).run Tryz.prog w=.ok v' w'∧Owns w' base v' (xs ++ ys)∧Below base w w'∧Stay w w':=by
  obtain⟨i0,hi,aj,ak,al⟩:=info_parts info5;have af:∀k,v.ownBlock=some k→base≤k:=fun k hk=>(World.ownsRow.lt aa k hk).1;have ag:=hb.1;cases ao with
  | none =>
   obtain rfl:=hn rfl;have h0:len=0:=by
    rcases Nat.eq_zero_or_pos len with h | h
    · exact h
    · obtain⟨_,_,e,_⟩:=hb.2.2 0 h;cases e
   subst h0;have hy:ys=[]:=List.eq_nil_of_length_eq_zero ag;subst hy;have ae:=run_append_owned_none (P:=Tryz.prog) (w:=w) base 56 ty 5 i0 1 Tryz.underlying56 hi v xs.length (vals xs) aa;exact⟨v,w,ae,by simpa using aa,Below.refl _ _,Stay.refl _⟩
  | some ad =>
   have ac:∀j u,(vals ys)[j]? = some u→w.cell? (ad.add j)=some u:=by
    intro j u hj;have ah:j<ys.length:=by
     have:=(List.getElem?_eq_some_iff.1 hj).1;simpa [vals] using this
    obtain⟨b,off,e,hc⟩:=hb.2.2 j (by omega);obtain rfl:=Option.some.inj e;rw [Addr.add_lit,hc,← Zcm ah,hj]
   obtain⟨v',w',ae,ho,hg,_⟩:=run_append_own (P:=Tryz.prog) w base 56 ty 5 i0 (.int .u8 0) 1 1 Tryz.underlying56 hi aj ak al rfl (by decide) v xs.length (vals xs) aa ad len cap (vals ys) (by rw [Zas,ag,Nat.mul_one]) ac (ZgA ys)
    (by unfold maxLen;omega) (by omega) ab
   refine⟨v',w',ae,?_,(Below.refl base w).grown hg ab af,fun p C t fr hp ht=>hg.block p (Array.getElem?_eq_some_iff.1 hp).1 (aa.ne hp ht).symm⟩;unfold Owns;rw [List.length_append,ag,Zdj];exact ho
theorem Zco (w:World)(ty:TypeId)(base:Nat)(v:Value)(xs:List Nat)(ac:Owns w base v xs)(ao:Option Addr)(len cap:Nat)(ys:List Nat)(hb:Bs w ao len ys)(hn:ao=none→cap=0)
    (ab:xs.length+len≤1000000)(aa:base≤w.heap.size) :
    ∃v' w',(Builtin.append_ #[56,56] ty #[v,.slice ao len cap]).run Tryz.prog w=.ok v' w'∧Owns w' base v' (xs ++ ys)∧Below base w w':=by
  obtain⟨v',w',h1,h2,h3,_⟩:=Zbh w ty base v xs ac ao len cap ys hb hn ab aa;exact⟨v',w',h1,h2,h3⟩
theorem Zdk (w:World){a:Act}{Q:Exit→Act→World→Prop}(ae:o.guard=none)(s x:Operand)
    (ho:o.op=.call { callee:=.builtin .append,args:=#[s,x],argTypes:=#[56,56] })(base:Nat)(v:Value)(xs:List Nat)(hs:a.eval s=v)(ac:Owns w base v xs)
    (ao:Option Addr)(len cap:Nat)(ys:List Nat)(hx:a.eval x=.slice ao len cap)(hb:Bs w ao len ys)(hn:ao=none→cap=0)
    (ab:xs.length+len≤1000000)(aa:base≤w.heap.size)
    (hK:∀v' w',Owns w' base v' (xs ++ ys)→Below base w w'→wpList Tryz.prog ops Q rest (a.put o.dst v') w'):wpList Tryz.prog ops Q (o :: rest) a w:=by
  refine wpList_plain ae fun K hK'=>?_;obtain⟨v',w',ad,r1,r2⟩:=Zco w o.type base v xs ac ao len cap ys hb hn ab aa;unfold Oper.wp;simp [execOp,ho,resolve,invoke,builtin,hs,hx,ad,Result.andThen];exact hK' _ _ (hK v' w' r1 r2)
theorem ZcW (w:World){a:Act}{Q:Exit→Act→World→Prop}(ae:o.guard=none)(s x:Operand)
    (ho:o.op=.call { callee:=.builtin .append,args:=#[s,x],argTypes:=#[56,56] })(base:Nat)(v:Value)(xs:List Nat)(hs:a.eval s=v)(ac:Owns w base v xs)
    (ao:Option Addr)(len cap:Nat)(ys:List Nat)(hx:a.eval x=.slice ao len cap)(hb:Bs w ao len ys)(hn:ao=none→cap=0)
    (ab:xs.length+len≤1000000)(aa:base≤w.heap.size)
    (hK:∀v' w',Owns w' base v' (xs ++ ys)→Below base w w'→Stay w w'→wpList Tryz.prog ops Q rest (a.put o.dst v') w'):wpList Tryz.prog ops Q (o :: rest) a w:=by
  refine wpList_plain ae fun K hK'=>?_;obtain⟨v',w',ad,r1,r2,r3⟩:=Zbh w o.type base v xs ac ao len cap ys hb hn ab aa;unfold Oper.wp;simp [execOp,ho,resolve,invoke,builtin,hs,hx,ad,Result.andThen];exact hK' _ _ (hK v' w' r1 r2 r3)
theorem Ze7 (w:World)(xs:List Nat)(fr:Nat × Nat)(hx:Bytes xs):Bs (w.alloc (.cells (vals xs).toArray 5 fr)) (some ⟨w.heap.size,0,none⟩) xs.length xs:=by
 refine⟨rfl,hx,fun i hi=>⟨w.heap.size,0,rfl,?_⟩⟩;rw [Nat.zero_add,World.cell?_alloc_mark];simpa using Zcm hi
theorem Bs.at {b off:Nat}(h:Bs w (some ⟨b,off,none⟩) len xs)(i:Nat)(hi:i<len):w.cell? ⟨b,off+i,none⟩=some (.int .u8 (xs.getD i 0:Nat)):=by
 obtain⟨_,_,e,aa⟩:=h.2.2 i hi;simp at e;obtain⟨rfl,rfl⟩:=e;exact aa
structure Came (w:World) (a:Option Addr) (len cap:Nat) (xs:List Nat):Prop where
  bs:Bs w a len xs
  nil:a=none→cap=0
  le:len≤cap
  big:len≤9223372036854775807
def bstr (xs:List Nat):ByteArray:=strOfNums (xs.map Int.ofNat)
theorem Zi6 {ys:List Nat}(hx:Bytes xs)(hy:Bytes ys)(h:bstr xs=bstr ys):xs=ys:=by
 (have h1:(bstr xs).data.toList=(bstr ys).data.toList:=by rw [h]);unfold bstr at h1;rw [strOfNums_data,strOfNums_data,List.map_map,List.map_map] at h1;have key:∀(l:List Nat),Bytes l→(l.map ((fun n:Int=>UInt8.ofNat n.toNat) ∘ Int.ofNat)).map UInt8.toNat=l:=by
  intro l hl;rw [List.map_map];have e:l.map (UInt8.toNat ∘ ((fun n:Int=>UInt8.ofNat n.toNat) ∘ Int.ofNat))=l.map id:=by
   apply List.map_congr_left;intro n hn;have:=hl n hn;simp;omega
  rw [e,List.map_id]
 rw [← key xs hx,← key ys hy,h1]
theorem ZfX {ys:List Nat}(hx:Bytes xs)(hy:Bytes ys)(h:xs≠ys):((bstr xs).toList == (bstr ys).toList)=false:=by
 apply beq_eq_false_iff_ne.2;intro e;rw [ByteArray.toList_eq,ByteArray.toList_eq] at e;refine h (Zi6 hx hy ?_);have:(bstr xs).data=(bstr ys).data:=Array.toList_inj.1 e;cases hX:bstr xs;cases hY:bstr ys;rw [hX,hY] at this;simp only at this;rw [this]
theorem Zar (cap:Nat)(h:Bs w a len xs):(convert 56 9 (.slice a len cap)).run Tryz.prog w=.ok (.string (bstr xs)) w:=by
 cases a with
 | none =>
  have h0:len=0:=by
   rcases Nat.eq_zero_or_pos len with h0 | h0
   · exact h0
   · obtain⟨_,_,e,_⟩:=h.2.2 0 h0;cases e
  subst h0;have hx:xs=[]:=List.eq_nil_of_length_eq_zero h.1;subst hx;exact run_convert_bytes_nil w 56 5 Tryz.underlying56 Tryz.underlying5 0 cap 9 Tryz.underlying9
 | some ad =>
  by_cases h0:len=0
  · subst h0;have hx:xs=[]:=List.eq_nil_of_length_eq_zero h.1;subst hx;rw [run_convert_bytes_string w 56 9 5 (some ad) 0 cap Tryz.underlying56 Tryz.underlying5 Tryz.underlying9];rw [run_bytesToString (P:=Tryz.prog) w ad 0 cap [] rfl];rfl
  · obtain⟨b,off,e,_⟩:=h.2.2 0 (by omega);obtain rfl:=Option.some.inj e;have aa:=h.1;refine run_convert_bytes_arg w 56 5 Tryz.underlying56 Tryz.underlying5 b off len cap (xs.map Int.ofNat) (by simp [aa]) ?_ 9 Tryz.underlying9;intro i hi;rw [h.at i hi];(have hi':i<xs.length:=by omega);simp [List.getD,hi']
theorem Zod (w:World):Owns (w.alloc (.cells #[] 5)) w.heap.size (.slice (some ⟨w.heap.size,0,none⟩) 0 0) []:=Owns.lit w w.heap.size [] (Nat.le_refl _) (by simp)
def fromA (a:Option Addr) (cap k:Nat):Option Addr:=if cap=k then a else a.map (·.add (k*1))
theorem sz5 (w:World):(sizeOf 5).run Tryz.prog w=.ok 1 w:=by
 obtain⟨i0,hi,ab,aa,ac⟩:=info_parts info5;simp [sizeOf,typeInfo,hi,aa]
theorem Zk7:Tryz.prog.elem 56=5:=by kernel_rfl
theorem ZcS (a:Option Addr)(len cap k:Nat)(hk:k≤len)(w:World):(Instr.sliceAt 56 (.slice a len cap) (some (.int .i64 (k:Nat))) none none).run Tryz.prog w=.ok (.slice (fromA a cap k) (len-k) (cap-k)) w:=by
 (have aa:Tryz.prog.underlying 56=some (.slice (Tryz.prog.elem 56)):=by kernel_rfl);rw [run_sliceAt_slice w 56 _ _ _ _ aa,run_slice_l w 56 a len cap aa .i64 (k:Nat) (by omega) (by omega),Zk7,sz5];simp [Result.andThen,sliced,fromA]
theorem ZfT (a:Option Addr)(len cap k:Nat)(hk:k≤cap)(w:World):(Instr.sliceAt 56 (.slice a len cap) none (some (.int .i64 (k:Nat))) none).run Tryz.prog w=.ok (.slice (fromA a cap 0) k cap) w:=by
 (have aa:Tryz.prog.underlying 56=some (.slice (Tryz.prog.elem 56)):=by kernel_rfl);rw [run_sliceAt_slice w 56 _ _ _ _ aa,run_slice_h w 56 a len cap aa .i64 (k:Nat) (by omega) (by omega),Zk7,sz5];simp [Result.andThen,sliced,fromA]
theorem Bs.from {k:Nat}(h:Bs w a len xs)(hk:k≤len)(hc:len≤cap):Bs w (fromA a cap k) (len-k) (xs.drop k):=by
 refine⟨by simp [h.1],fun x hx=>h.2.1 x (List.mem_of_mem_drop hx),fun i hi=>?_⟩;obtain⟨b,off,rfl,aa⟩:=h.2.2 (k+i) (by omega);refine⟨b,off+k,?_,?_⟩
 · unfold fromA;rw [if_neg (by omega)];simp only [Option.map_some,Nat.mul_one,Addr.add_lit]
 · rw [Nat.add_assoc,aa];simp [List.getD]
theorem Bs.upto {k:Nat}(h:Bs w a len xs)(hk:k≤len):Bs w (fromA a cap 0) k (xs.take k):=by
 refine⟨by simp [h.1,hk],fun x hx=>h.2.1 x (List.mem_of_mem_take hx),fun i hi=>?_⟩;obtain⟨b,off,rfl,aa⟩:=h.2.2 i (by omega);refine⟨b,off,?_,?_⟩
 · unfold fromA;split
   · rfl
   · simp only [Option.map_some,Nat.zero_mul,Addr.add_lit,Nat.add_zero]
 · rw [aa];simp [List.getD,hi]
theorem Zkx (x:Nat)(w:World):(Instr.buildSlice 56 1 #[(0,.int .u8 (x:Nat))]).run Tryz.prog w=.ok (.slice (some ⟨w.heap.size,0,none⟩) 1 1) (w.alloc (.cells (vals [x]).toArray 5)):=by
 simp [go_sem,vals]
theorem Owns.set {wr:World}{N:Nat}{zs:List Nat}(h:Owns wr base (.slice (some ⟨g,0,none⟩) N cap) zs)(hN:N=zs.length)(i x:Nat) :
    Owns (wr.setCell ⟨g,i,none⟩ (.int .u8 (x:Int))) base (.slice (some ⟨g,0,none⟩) N cap) (zs.set i x):=by
  subst hN;have:=(World.ownsRow.stored h i (.int .u8 (x:Int))).1;unfold Owns;rw [List.length_set,← ZmZ];exact this
def Zc8 (cur:Array Value):Nat→List Value→Array Value
  | _,[]=>cur
  | o,v :: r=>Zc8 (cur.setIfInBounds o v) (o+1) r
theorem Zde:∀(vs:List Value)(cur:Array Value)(o:Nat),(Zc8 cur o vs).size=cur.size
 | [],_,_=>rfl
 | v :: r,cur,o=>by
  show (Zc8 (cur.setIfInBounds o v) (o+1) r).size=_
  rw [Zde r]
  simp
theorem Zdf:∀(vs:List Value)(cur:Array Value)(o:Nat),o+vs.length≤cur.size→(Zc8 cur o vs).toList.take (o+vs.length)=cur.toList.take o ++ vs
 | [],cur,o,_=>by simp [Zc8]
 | v :: r,cur,o,h=>by
  have h':o+1+r.length≤cur.size:=by simp at h;omega
  have ih:=Zdf r (cur.setIfInBounds o v) (o+1) (by simpa using h')
  show (Zc8 (cur.setIfInBounds o v) (o+1) r).toList.take (o+(r.length+1))=_
  rw [show o+(r.length+1)=o+1+r.length by omega,ih]
  have ho:o<cur.toList.length:=by simp;omega
  rw [Array.toList_setIfInBounds,List.take_succ_eq_append_getElem (by simpa using ho),List.take_set_of_le (Nat.le_refl _)]
  simp
theorem Zc9 (g:Nat)(e:TypeId):∀(vs:List Value)(o:Nat)(cur:Array Value)(w:World),w.heap[g]? = some (.cells cur e (0,0))→(w.setCells g o vs).heap[g]? = some (.cells (Zc8 cur o vs) e (0,0))
 | [],_,_,_,h=>h
 | v :: r,o,cur,w,h=>Zc9 g e r (o+1) _ _ (heap_setCell_same w g o cur e v h)
theorem ZaM (hB:B≤g):∀(vs:List Value)(o:Nat)(w0 w:World),Below B w0 w→Below B w0 (w.setCells g o vs)
 | [],_,_,_,h=>h
 | v :: r,o,w0,_,h=>ZaM hB r (o+1) w0 _ (h.setCell hB v)
def strB (s:ByteArray):List Nat:=s.data.toList.map UInt8.toNat
theorem ZaD (s:ByteArray):(strB s).length=s.size:=by
 unfold strB;rw [List.length_map,Array.length_toList];rfl
theorem ZfW (s:ByteArray):Bytes (strB s):=by
 intro x hx;obtain⟨c,_,rfl⟩:=List.mem_map.1 hx;exact c.toNat_lt
theorem Zkk (s:ByteArray):byteCells s=vals (strB s):=by
 simp [byteCells,vals,strB]
theorem ZgF (s:ByteArray):bstr (strB s)=s:=by
 have h:(bstr (strB s)).data.toList=s.data.toList:=by
  unfold bstr strB;rw [strOfNums_data,List.map_map,List.map_map];have e:((fun n:Int=>UInt8.ofNat n.toNat) ∘ Int.ofNat) ∘ UInt8.toNat=id:=by
   funext c;simp
  rw [e,List.map_id]
 cases hb:bstr (strB s);cases s;rw [hb] at h;simp only at h;rw [Array.toList_inj.1 h]
theorem ZbD (g k:Nat)(hk:k≠g):∀(vs:List Value)(o:Nat)(w:World),(w.setCells g o vs).heap[k]? = w.heap[k]?
 | [],_,_=>rfl
 | v :: r,o,w=>by
  show ((w.setCell ⟨g,o,none⟩ v).setCells g (o+1) r).heap[k]? = _
  rw [ZbD g k hk r (o+1) _]
  exact Below.heap_setCell w ⟨g,o,none⟩ v k hk
theorem Zc5 (w:World)(ty:TypeId)(base g n cap:Nat)(xs:List Nat)(ab:Owns w base (.slice (some ⟨g,0,none⟩) n cap) xs)(hx:Bytes xs)(s:ByteArray)(ar:xs.length+s.size≤1000000)(aa:base≤w.heap.size) :
    ∃v' w',(Builtin.append_ #[56,9] ty #[.slice (some ⟨g,0,none⟩) n cap,.string s]).run Tryz.prog w=.ok v' w'∧Owns w' base v' (xs ++ strB s)∧Below base w w'∧Stay w w':=by
  obtain⟨i0,hi,av,ag,aw⟩:=info_parts info5;obtain⟨hn,an⟩:=ab.row hx;subst hn;have ad:=Src.ofString (P:=Tryz.prog) w Tryz.underlying9 s;rw [← ag,Zkk] at ad;rcases ab.2 with ⟨h',_⟩ | ⟨g',cap',cur,h',ak,hg,ax,ai,ah,au⟩
  · simp at h'
  · simp only [Value.slice.injEq,Option.some.injEq,Addr.mk.injEq,and_true,true_and] at h';obtain⟨rfl,rfl⟩:=h';(have af:(vals (strB s)).length=s.size:=by rw [Zas,ZaD]);by_cases hr:xs.length+s.size≤cap
    · have ae:∀j,j<(vals (strB s)).length→(w.cell? ⟨g,0+xs.length*i0.size+j,none⟩).isSome=true:=by
       intro j hj;rw [ag,cell_of_row w g _ cur 5 (0,0) hg];(have:xs.length+j<cur.size:=by rw [ah];omega);simp;exact this
      have ap:∀j,j<(vals (strB s)).length→w.frozen? ⟨g,0+xs.length*i0.size+j,none⟩=false:=fun j _=>frozen_of_row w g _ cur 5 hg;have ac:=run_append_room_src (P:=Tryz.prog) w 56 9 ty 5 i0 Tryz.underlying56 hi g 0 xs.length cap (.string s) s.size (vals (strB s)) ad hr ae ap;refine⟨_,_,ac,?_,ZaM ak _ _ _ _ (Below.refl _ _),fun p C t fr hp ht=>ZbD g p (fun e=>ab.ne hp ht (by rw [e];rfl)) _ _ _⟩;unfold Owns;rw [List.length_append,ZaD];refine⟨by rw [Zas,List.length_append,ZaD,Nat.mul_one],.inr ⟨g,cap,_,rfl,ak,Zc9 g 5 _ _ cur w hg,hr,ai,by rw [Zde];exact ah,?_⟩⟩;have am:=Zdf (vals (strB s)) cur xs.length (by rw [af,ah];omega);rw [af] at am;rw [ag,Nat.zero_add,Nat.mul_one,Nat.mul_one,am,Zdj];refine congrArg (fun l=>l ++ vals (strB s)) ?_;rw [← au,Nat.mul_one]
    · have aj:(Builtin.firstCells i0.size xs.length (.slice (some ⟨g,0,none⟩) xs.length cap)).run Tryz.prog w.drew=.ok (vals xs).toArray w.drew:=by
       refine run_firstCells_some w.drew i0.size xs.length ⟨g,0,none⟩ xs.length cap (vals xs) (by rw [Zas,ag,Nat.mul_one]) ?_;intro j u hj;have al:j<xs.length:=by
        have:=(List.getElem?_eq_some_iff.1 hj).1;simpa [vals] using this
       rw [Addr.add_lit];have:=an.at j al;rw [← Zcm al,hj] at this;exact this
      have ac:=run_append_grow_src (P:=Tryz.prog) w 56 9 ty 5 i0 (.int .u8 0) Tryz.underlying56 hi av (some ⟨g,0,none⟩) xs.length cap (vals xs) aj (.string s) s.size (vals (strB s)) ad (by omega) (by omega)
       (growslice_fits (by omega) (by rw [aw];omega))
      have aq:=grownCap_ge w (xs.length+s.size) cap 5;have ao:grownCap w (xs.length+s.size) cap 5≤maxLen:=grownCap_le_maxLen w _ cap 5 (by unfold maxLen;omega);refine⟨_,_,ac,?_,((Below.refl base w).drew).alloc aa _,fun p C t fr hp ht=>Below.heap_alloc w.drew _ p (Array.getElem?_eq_some_iff.1 hp).1⟩;unfold Owns;rw [List.length_append,ZaD];refine⟨by rw [Zas,List.length_append,ZaD,Nat.mul_one],.inr ⟨w.heap.size,_,_,rfl,aa,heap_alloc_new w.drew _,aq,ao,?_,?_⟩⟩
      · simp only [Array.size_append,List.size_toArray,size_zeroCells,List.length_append,af,Zas];show xs.length+s.size+(grownCap w (xs.length+s.size) cap 5-(xs.length+s.size))*1=_;omega
      · rw [Zdj,Array.toList_append];(have hl:(vals xs ++ vals (strB s)).length=(xs.length+s.size)*1:=by rw [List.length_append,af,Zas,Nat.mul_one]);rw [← hl];exact List.take_left
theorem Zfk (w:World)(ty:TypeId)(base g n cap:Nat)(xs:List Nat)(ac:Owns w base (.slice (some ⟨g,0,none⟩) n cap) xs)(hx:Bytes xs)(s:ByteArray)(ab:xs.length+s.size≤1000000)(aa:base≤w.heap.size) :
    ∃v' w',(Builtin.append_ #[56,9] ty #[.slice (some ⟨g,0,none⟩) n cap,.string s]).run Tryz.prog w=.ok v' w'∧Owns w' base v' (xs ++ strB s)∧Below base w w':=by
  obtain⟨v',w',h1,h2,h3,_⟩:=Zc5 w ty base g n cap xs ac hx s ab aa;exact⟨v',w',h1,h2,h3⟩
theorem Zee (w:World){a:Act}{Q:Exit→Act→World→Prop}(ae:o.guard=none)(s x:Operand)
    (ho:o.op=.call { callee:=.builtin .append,args:=#[s,x],argTypes:=#[56,9] })(base g n cap:Nat)(xs:List Nat)(hs:a.eval s=.slice (some ⟨g,0,none⟩) n cap)(ac:Owns w base (.slice (some ⟨g,0,none⟩) n cap) xs)(hb:Bytes xs)
    (str:ByteArray)(hx:a.eval x=.string str)(ab:xs.length+str.size≤1000000)(aa:base≤w.heap.size)
    (hK:∀v' w',Owns w' base v' (xs ++ strB str)→Below base w w'→wpList Tryz.prog ops Q rest (a.put o.dst v') w'):wpList Tryz.prog ops Q (o :: rest) a w:=by
  refine wpList_plain ae fun K hK'=>?_;obtain⟨v',w',ad,r1,r2⟩:=Zfk w o.type base g n cap xs ac hb str ab aa;unfold Oper.wp;simp [execOp,ho,resolve,invoke,builtin,hs,hx,ad,Result.andThen];exact hK' _ _ (hK v' w' r1 r2)
structure It where
  kind : Int
  n : Int
  x : Nat
  s : ByteArray
def It.val (i : It) : Value := .agg #[.int .i64 i.kind, .int .i64 i.n, .float .f64 i.x, .string i.s]
theorem ZbE (w : World) (o o' : Obj) : Below w.heap.size w ((w.alloc o).alloc o') :=
  (Zaa w o).trans ((Zaa (w.alloc o) o').mono (Zaa w o).size)
def It.may (i : It) : Bool :=
  if i.kind = 1 then decide (0 ≤ i.n) && decide (i.n < 256) && i.x == 0 && i.s.toList == []
  else if i.kind = 2 then decide (0 ≤ i.n) && decide (i.n < 65536) && i.x == 0 && i.s.toList == []
  else if i.kind = 3 then decide (0 ≤ i.n) && decide (i.n < 2147483648) && i.x == 0 && i.s.toList == []
  else if i.kind = 4 then i.n == 0 && i.s.toList == []
  else if i.kind = 5 then i.n == 0 && i.x == 0 && decide (i.s.size < 256)
  else false
theorem ZfJ (i : It) (w : World) : Calls Tryz.prog 156 #[i.val] w fun e w' => e = .returned (.bool i.may) ∧ Below w.heap.size w w' := by
 obtain ⟨k, n, x, s⟩ := i
 have H : Hid (∀ w, Calls Tryz.prog 43 #[.float .f64 x, .float .f64 0] w fun e w' => e = .returned (.bool (x == 0)) ∧ w' = w) := Zdd x 0
 have HW : Hid (∀ o, Below w.heap.size w (w.alloc o)) := Zaa w
 unfold It.val
 simp only
 go_enter Tryz.func156, Tryz.ntmps156
 go_wp2_with fail
 refine (H.out _).mono ?_
 rintro e w' ⟨rfl, hw⟩
 obtain rfl := hw.symm
 by_cases h1 : k = 1
 · subst h1
   go_wp2_with fail
   all_goals (go_ret; refine ⟨?_, HW.out _⟩; simp [It.may, *] <;> (intros; omega))
 by_cases h2 : k = 2
 · subst h2
   go_wp2_with fail
   all_goals (go_ret; refine ⟨?_, HW.out _⟩; simp [It.may, *] <;> (intros; omega))
 by_cases h3 : k = 3
 · subst h3
   go_wp2_with fail
   all_goals (go_ret; refine ⟨?_, HW.out _⟩; simp [It.may, *] <;> (intros; omega))
 by_cases h4 : k = 4
 · subst h4
   go_wp2_with fail
   all_goals (go_ret; refine ⟨?_, HW.out _⟩; simp [It.may, *] <;> (intros; omega))
 by_cases h5 : k = 5
 · subst h5
   go_wp2_with fail
   all_goals (go_ret; refine ⟨?_, HW.out _⟩; simp [It.may, *] <;> (intros; omega))
 have e1 : (k == 1) = false := beq_eq_false_iff_ne.2 h1
 have e2 : (k == 2) = false := beq_eq_false_iff_ne.2 h2
 have e3 : (k == 3) = false := beq_eq_false_iff_ne.2 h3
 have e4 : (k == 4) = false := beq_eq_false_iff_ne.2 h4
 have e5 : (k == 5) = false := beq_eq_false_iff_ne.2 h5
 go_wp2_with fail
 all_goals (go_ret; refine ⟨?_, HW.out _⟩; simp [It.may, *] <;> (intros; omega))
def bigB (u : Nat) : Nat → List Nat
  | 0 => []
  | j + 1 => u / 256 ^ j % 256 :: bigB u j
theorem Zan (u : Nat) : ∀ n, (bigB u n).length = n
  | 0 => rfl
  | n + 1 => by simp [bigB, Zan u n]
theorem Zb0 (u : Nat) : ∀ n, Bytes (bigB u n)
  | 0 => fun x h => by cases h
  | n + 1 => by
    intro x hx
    rcases List.mem_cons.1 hx with h | h
    · rw [h]
      exact Nat.mod_lt _ (by decide)
    · exact Zb0 u n x h
theorem Zmb (u n j : Nat) (hj : j < n) : (List.replicate (n - j) 0 ++ bigB u j).set (n - 1 - j) (u / 256 ^ j % 256) = List.replicate (n - (j + 1)) 0 ++ bigB u (j + 1) := by
 have e : n - j = (n - 1 - j) + 1 := by omega
 have e2 : n - (j + 1) = n - 1 - j := by omega
 rw [e, e2, List.replicate_succ', List.append_assoc, List.set_append_right _ _ (by simp)]
 simp [bigB]
theorem Zmc (u j : Nat) : ((u / 256 ^ j : Nat) : Int) / 256 = ((u / 256 ^ (j + 1) : Nat) : Int) := by
 rw [Nat.pow_succ, ← Nat.div_div_eq_div_mul]
 rfl
theorem Zlm (w : World) (base g n cap : Nat) (h : w.ownsRow base 5 1 (.slice (some ⟨g, 0, none⟩) n cap) n (madeCells #[Value.int .u8 0] n).toList) : Owns w base (.slice (some ⟨g, 0, none⟩) n cap) (List.replicate n 0) := by
 have e : (madeCells #[Value.int .u8 0] n).toList = vals (List.replicate n 0) := by
  rw [toList_madeCells_one]
  simp [vals]
 rw [e] at h
 unfold Owns
 rw [List.length_replicate]
 exact h
theorem Zge (u n:Nat)(hu:u<18446744073709551616)(hn:n≤8)(w:World) :
    Calls Tryz.prog 175 #[.int .u64 (u:Nat),.int .i64 (n:Nat)] w fun e w'=>∃v,e=.returned v∧Owns w' w.heap.size v (bigB u n)∧Below w.heap.size w w':=by
  obtain⟨i0,hi,hz0,hz1,hz2⟩:=info_parts info5
  have HU:=hide hu
  clear hu
  go_enter Tryz.func175,Tryz.ntmps175
  go_wp2_with (at_make;refine wpList_make_full _ rfl _ _ 56 rfl w.heap.size 5 i0 (.int .u8 0) 1 Tryz.underlying56 hi hz0 hz1 _ _ _ _ n rfl rfl (by omega) (by omega) ?b2 ?b3 (Nat.le_refl _) ?_)
  case b2=>rw [hz2];omega
  case b3=>unfold maxLen;omega
  intro w0 hown0 hgrow0
  have HO:=hide (Zlm w0 w.heap.size w.heap.size n n hown0)
  have HW:Hid (Below w.heap.size w w0):=(Below.refl w.heap.size w).grown hgrow0 (Nat.le_refl _) (fun k hk=>by cases hk)
  clear hown0 hgrow0
  go_wp2_with fail
  go_loopw [0,6] (fun uu i wr=>∃j:Nat,j≤n∧i=.int .i64 ((n:Int)-1-j)∧uu=.int .u64 (u / 256 ^ j:Nat)∧Hid (Owns wr w.heap.size (.slice (some ⟨w.heap.size,0,none⟩) n n) (List.replicate (n-j) 0 ++ bigB u j))∧Hid (Below w.heap.size w wr)) (fun _ i _=>(intOf i+1).toNat)
  case atStart=>exact ⟨0,by omega,by simp,by simp,hide (by simpa [bigB] using HO.out),HW⟩
  case round =>
   obtain⟨j,hj,rfl,rfl,hown,hWr⟩:=hrel
   have hlen:(List.replicate (n-j) 0 ++ bigB u j).length=n:=by simp [Zan];omega
   rcases Nat.lt_or_ge j n with hlt | hge
   · obtain⟨U,hU⟩:∃U,U=u / 256 ^ j:=⟨_,rfl⟩
     have hUl:U<18446744073709551616:=by rw [hU];exact Nat.lt_of_le_of_lt (Nat.div_le_self _ _) HU.out
     have hB:Bytes (List.replicate (n-j) 0 ++ bigB u j):=by
      intro x hx
      rcases List.mem_append.1 hx with k | k
      · rw [(List.mem_replicate.1 k).2]
        decide
      · exact Zb0 u j x k
     have hrow:=(hown.out.row hB).2
     rw [hlen] at hrow
     obtain⟨c,hc⟩:∃c,wr.cell? ⟨w.heap.size,n-1-j,none⟩=some (.int .u8 c):=by
      have:=hrow.at (n-1-j) (by omega)
      rw [Nat.zero_add] at this
      exact⟨_,this⟩
     have hfz:wr.frozen? ⟨w.heap.size,n-1-j,none⟩=false:=by
      have ho2:=hown.out
      unfold Owns at ho2
      rw [hlen] at ho2
      exact ho2.frozenAt _
     have i1:¬(n:Int)-1-(j:Int)<0:=by omega
     have i2:(0:Int)≤(n:Int)-1-(j:Int):=by omega
     rw [← hU]
     have HUU:=hide hU
     have HL:=hide hlen
     clear hU hB hrow hlen
     go_wp2_with fail
     have HS:Hid (Owns (wr.setCell ⟨w.heap.size,n-1-j,none⟩ (.int .u8 ((U:Int) % 256))) w.heap.size (.slice (some ⟨w.heap.size,0,none⟩) n n) (List.replicate (n-(j+1)) 0 ++ bigB u (j+1))):=by
      have:=hown.out.set HL.out.symm (n-1-j) (U % 256)
      rw [HUU.out,Zmb u n j hlt] at this
      rw [HUU.out]
      exact this
     have HB:=hide (hWr.out.setCell (p:=⟨w.heap.size,n-1-j,none⟩) (Nat.le_refl _) (.int .u8 ((U:Int) % 256)))
     go_roundw
     case rel=>exact ⟨j+1,by omega,by congr 1;omega,by rw [HUU.out,Zmc],HS,HB⟩
     case measure=>simp only [intOf];omega
   · have i1:¬(0:Int)≤(n:Int)-1-(j:Int):=by omega
     have hjn:j=n:=by omega
     subst hjn
     have HO2:Hid (Owns wr w.heap.size (.slice (some ⟨w.heap.size,0,none⟩) j j) (bigB u j)):=by simpa using hown
     clear hown hlen
     go_wp2_with fail
     go_ret
     exact⟨_,rfl,HO2.out,hWr.out⟩
def It.bytes (i : It) : List Nat :=
  if i.kind = 1 then bigB i.n.toNat 1
  else if i.kind = 2 then bigB i.n.toNat 2
  else if i.kind = 3 then bigB i.n.toNat 4
  else if i.kind = 4 then bigB (Fl.val i.x) 8
  else i.s.size :: strB i.s
theorem Owns.lower {b b':Nat}(h:Owns w b v xs)(hb:b'≤b):Owns w b' v xs:=by
 refine⟨h.1,?_⟩
 rcases h.2 with hn | ⟨g,cap,cur,hv,hbg,rest⟩
 · exact .inl hn
 · exact .inr ⟨g,cap,cur,hv,Nat.le_trans hb hbg,rest⟩
theorem ZfK (i:It)(hm:i.may=true)(hx:i.x<18446744073709551616)(w:World) :
    Calls Tryz.prog 157 #[i.val] w fun e w'=>∃v,e=.returned v∧Owns w' w.heap.size v i.bytes∧Below w.heap.size w w':=by
  obtain⟨k,n,x,s⟩:=i
  have HW:Hid (∀o,Below w.heap.size w (w.alloc o)):=Zaa w
  unfold It.val
  simp only at hx ⊢
  by_cases h1:k=1
  · subst h1
    simp [It.may] at hm
    obtain⟨m,rfl⟩:=Int.eq_ofNat_of_zero_le hm.1.1.1
    have hml:m<256:=by omega
    have HB:Hid (∀o,Calls Tryz.prog 175 #[.int .u64 (m:Nat),.int .i64 1] (w.alloc o) fun e w'=>∃v,e=.returned v∧Owns w' (w.alloc o).heap.size v (bigB m 1)∧Below (w.alloc o).heap.size (w.alloc o) w'):=
     fun o=>Zge m 1 (by omega) (by omega) (w.alloc o)
    have HY:Hid (It.bytes ⟨1,(m:Nat),x,s⟩=bigB m 1):=by simp [It.bytes,hide]
    clear hm hx
    go_enter Tryz.func157,Tryz.ntmps157
    go_wp2_with fail
    refine(HB.out _).mono ?_
    rintro e w' ⟨v,rfl,ho,hb⟩
    go_wp2_with fail
    go_ret
    exact⟨v,rfl,by rw [HY.out];exact ho.lower (by simp),(HW.out _).trans (hb.mono (HW.out _).size)⟩
  by_cases h2:k=2
  · subst h2
    simp [It.may] at hm
    obtain⟨m,rfl⟩:=Int.eq_ofNat_of_zero_le hm.1.1.1
    have hml:m<65536:=by omega
    have HB:Hid (∀o,Calls Tryz.prog 175 #[.int .u64 (m:Nat),.int .i64 2] (w.alloc o) fun e w'=>∃v,e=.returned v∧Owns w' (w.alloc o).heap.size v (bigB m 2)∧Below (w.alloc o).heap.size (w.alloc o) w'):=
     fun o=>Zge m 2 (by omega) (by omega) (w.alloc o)
    have HY:Hid (It.bytes ⟨2,(m:Nat),x,s⟩=bigB m 2):=by simp [It.bytes,hide]
    clear hm hx
    go_enter Tryz.func157,Tryz.ntmps157
    go_wp2_with fail
    refine(HB.out _).mono ?_
    rintro e w' ⟨v,rfl,ho,hb⟩
    go_wp2_with fail
    go_ret
    exact⟨v,rfl,by rw [HY.out];exact ho.lower (by simp),(HW.out _).trans (hb.mono (HW.out _).size)⟩
  by_cases h3:k=3
  · subst h3
    simp [It.may] at hm
    obtain⟨m,rfl⟩:=Int.eq_ofNat_of_zero_le hm.1.1.1
    have hml:m<2147483648:=by omega
    have HB:Hid (∀o,Calls Tryz.prog 175 #[.int .u64 (m:Nat),.int .i64 4] (w.alloc o) fun e w'=>∃v,e=.returned v∧Owns w' (w.alloc o).heap.size v (bigB m 4)∧Below (w.alloc o).heap.size (w.alloc o) w'):=
     fun o=>Zge m 4 (by omega) (by omega) (w.alloc o)
    have HY:Hid (It.bytes ⟨3,(m:Nat),x,s⟩=bigB m 4):=by simp [It.bytes,hide]
    clear hm hx
    go_enter Tryz.func157,Tryz.ntmps157
    go_wp2_with fail
    refine(HB.out _).mono ?_
    rintro e w' ⟨v,rfl,ho,hb⟩
    go_wp2_with fail
    go_ret
    exact⟨v,rfl,by rw [HY.out];exact ho.lower (by simp),(HW.out _).trans (hb.mono (HW.out _).size)⟩
  by_cases h4:k=4
  · subst h4
    have HV:Hid (∀o,Calls Tryz.prog 66 #[.float .f64 x] (w.alloc o) fun e w'=>e=.returned (.int .u64 (Fl.val x:Nat))∧w'=w.alloc o):=fun o=>Zb8 x hx (w.alloc o)
    have HB:Hid (∀o,Calls Tryz.prog 175 #[.int .u64 (Fl.val x:Nat),.int .i64 8] (w.alloc o) fun e w'=>∃v,e=.returned v∧Owns w' (w.alloc o).heap.size v (bigB (Fl.val x) 8)∧Below (w.alloc o).heap.size (w.alloc o) w'):=
     fun o=>Zge (Fl.val x) 8 (Fl.val_lt hx) (by omega) (w.alloc o)
    have HY:Hid (It.bytes ⟨4,n,x,s⟩=bigB (Fl.val x) 8):=by simp [It.bytes,hide]
    clear hm hx
    go_enter Tryz.func157,Tryz.ntmps157
    go_wp2_with fail
    refine(HV.out _).mono ?_
    rintro e w' ⟨rfl,hw⟩
    obtain rfl:=hw.symm
    go_wp2_with fail
    refine(HB.out _).mono ?_
    rintro e w' ⟨v,rfl,ho,hb⟩
    go_wp2_with fail
    go_ret
    exact⟨v,rfl,by rw [HY.out];exact ho.lower (by simp),(HW.out _).trans (hb.mono (HW.out _).size)⟩
  have h5:k=5:=by
   simp only [It.may,h1,h2,h3,h4,if_false] at hm
   by_cases h5:k=5
   · exact h5
   · rw [if_neg h5] at hm
     cases hm
  subst h5
  simp [It.may] at hm
  have hsz:s.size<256:=hm.2
  have HO:Hid (∀o,Owns ((w.alloc o).alloc (.cells (vals [s.size]).toArray 5)) w.heap.size (.slice (some ⟨w.heap.size+1,0,none⟩) 1 1) [s.size]):=fun o=>by
   have:=Owns.lit (w.alloc o) w.heap.size [s.size] (Zaa w o).size (by simp)
   simpa using this
  have HW2:Hid (∀o o',Below w.heap.size w ((w.alloc o).alloc o')):=ZbE w
  have HY:Hid (It.bytes ⟨5,n,x,s⟩=[s.size] ++ strB s):=by simp [It.bytes,hide]
  have HBY:Hid (Bytes [s.size]):=fun y hy=>by simp at hy;omega
  clear hm hx
  go_enter Tryz.func157,Tryz.ntmps157
  go_wp2_with (at_builtin;refine Zee _ rfl (.tmp 33) (.tmp 35) rfl w.heap.size _ _ _ [s.size] rfl (HO.out _) HBY.out s rfl (by show 1+s.size≤1000000;omega) (HW2.out _ _).size ?_)
  intro v' w' ho hb
  go_wp2
  go_ret
  exact⟨v',rfl,by rw [HY.out];exact ho,(HW2.out _ _).trans hb⟩
def ItAt (w : World) (b o : Nat) (i : It) : Prop :=
  w.cell? ⟨b, o, none⟩ = some (.int .i64 i.kind) ∧ w.cell? ⟨b, o + 1, none⟩ = some (.int .i64 i.n) ∧ w.cell? ⟨b, o + 2, none⟩ = some (.float .f64 i.x) ∧ w.cell? ⟨b, o + 3, none⟩ = some (.string i.s)
def It.fits (i : It) : Prop := (Lit.int .i64 i.kind).wf = true ∧ (Lit.int .i64 i.n).wf = true ∧ i.x < 18446744073709551616 ∧ i.s.size ≤ maxLen
def itD : It := ⟨0, 0, 0, ByteArray.empty⟩
def Is (w : World) (a : Option Addr) (len : Nat) (l : List It) : Prop :=
  l.length = len ∧ (∀ i ∈ l, i.fits) ∧ ∀ j, j < len → ∃ b off, a = some ⟨b, off, none⟩ ∧ ItAt w b (off + j * 4) (l.getD j itD)
theorem Is.keep {l:List It}(h:Is w a len l)(hb:Below B w w')(hB:w.heap.size≤B):Is w' a len l:=by
 refine⟨h.1,h.2.1,fun j hj=>?_⟩
 obtain⟨b,off,ha,c0,c1,c2,c3⟩:=h.2.2 j hj
 have hlt:=Nat.lt_of_lt_of_le (World.block_lt_of_cell? w _ c0) hB
 exact⟨b,off,ha,(hb.cell hlt).trans c0,(hb.cell (p:=⟨b,off+j*4+1,none⟩) hlt).trans c1,(hb.cell (p:=⟨b,off+j*4+2,none⟩) hlt).trans c2,(hb.cell (p:=⟨b,off+j*4+3,none⟩) hlt).trans c3⟩
def putB (l : List It) : List Nat := l.flatMap It.bytes
theorem Zhw (l : List It) (k : Nat) (hk : k < l.length) : putB (l.take (k + 1)) = putB (l.take k) ++ (l.getD k itD).bytes := by
 unfold putB
 rw [List.take_succ_eq_append_getElem hk, List.flatMap_append]
 simp [List.getD, hk]
theorem ZdY {i : It} (h : i.may = true) : i.bytes.length ≤ 256 ∧ Bytes i.bytes := by
 unfold It.bytes
 split
 · exact ⟨by rw [Zan]; omega, Zb0 _ _⟩
 · split
   · exact ⟨by rw [Zan]; omega, Zb0 _ _⟩
   · split
     · exact ⟨by rw [Zan]; omega, Zb0 _ _⟩
     · split
       · exact ⟨by rw [Zan]; omega, Zb0 _ _⟩
       · rename_i h1 h2 h3 h4
         have hs : i.s.size < 256 := by
          simp only [It.may, h1, h2, h3, h4, if_false] at h
          by_cases h5 : i.kind = 5
          · simp [h5] at h
            exact h.2
          · rw [if_neg h5] at h
            cases h
         refine ⟨by simp [ZaD]; omega, ?_⟩
         intro y hy
         rcases List.mem_cons.1 hy with k | k
         · omega
         · exact ZfW _ y k
theorem Zg2 {l : List It} (h : ∀ i ∈ l, i.may = true) : (putB l).length ≤ 256 * l.length ∧ Bytes (putB l) := by
 induction l with
 | nil => exact ⟨by simp [putB], fun x hx => by simp [putB] at hx⟩
 | cons i r ih =>
  have h1 := ZdY (h i (by simp))
  have h2 := ih (fun j hj => h j (by simp [hj]))
  have e : putB (i :: r) = i.bytes ++ putB r := by simp [putB]
  rw [e]
  refine ⟨by simp; omega, ?_⟩
  intro x hx
  rcases List.mem_append.1 hx with k | k
  · exact h1.2 x k
  · exact h2.2 x k
theorem ZfL (a:Option Addr)(len cap:Nat)(l:List It)(w:World)(h:Is w a len l)(hm:len≤200) :
    Calls Tryz.prog 139 #[.slice a len cap] w fun e w'=>∃v,e=.returned (.tuple #[v,.bool (l.all It.may)])∧Below w.heap.size w w'∧(l.all It.may=true→Owns w' w.heap.size v (putB l))∧(l.all It.may=false→v=.slice none 0 0):=by
  have HO:=hide (Zod w)
  have HW:=hide (Zaa w (.cells #[] 5))
  have H:=hide h
  have HL:=hide h.1
  clear h
  go_enter Tryz.func139,Tryz.ntmps139
  go_wp2_with fail
  go_loopw [4,5] (fun v i wr=>∃k:Nat,k≤len∧i=.int .i64 k∧Hid (Owns wr w.heap.size v (putB (l.take k)))∧Hid (∀i∈l.take k,i.may=true)∧Hid (Below w.heap.size w wr)) (fun _ i _=>len-(intOf i).toNat)
  case atStart=>exact ⟨0,by omega,rfl,HO,hide (fun i hi=>by simp at hi),HW⟩
  case round =>
   obtain⟨k,hk,rfl,hown,hmay,hWr⟩:=hrel
   rcases Nat.lt_or_ge k len with hlt | hge
   · obtain⟨b,off,rfl,c0,c1,c2,c3⟩:=(H.out.keep hWr.out (Nat.le_refl _)).2.2 k hlt
     obtain⟨i,hi⟩:∃i,i=l.getD k itD:=⟨_,rfl⟩
     rw [← hi] at c0 c1 c2 c3
     have HI:=hide hi
     have HM:=hide (ZfJ i wr)
     have hmem:i∈l:=by
      have hk':k<l.length:=by rw [HL.out];exact hlt
      rw [hi]
      simp [List.getD,hk']
     have HMEM:=hide hmem
     have HF:Hid i.fits:=H.out.2.1 i hmem
     clear hi hmem
     go_wp2_with fail
     refine HM.out.mono ?_
     rintro e w1 ⟨rfl,hb1⟩
     have HW1:=hide (hWr.out.trans (hb1.mono hWr.out.size))
     have HB1:=hide hb1
     clear hb1
     cases hy:i.may
     · have HN:Hid (l.all It.may=false):=by
        rw [List.all_eq_false]
        exact⟨i,HMEM.out,by rw [hy];decide⟩
       clear hy
       go_wp2_with fail
       go_ret2
       refine⟨_,?_,HW1.out,(fun h=>by rw [HN.out] at h;cases h),fun _=>rfl⟩
       rw [HN.out]
       rfl
     · obtain⟨_,_,e,d0,d1,d2,d3⟩:=(H.out.keep HW1.out (Nat.le_refl _)).2.2 k hlt
       simp only [Option.some.injEq,Addr.mk.injEq,and_true] at e
       obtain⟨rfl,rfl⟩:=e
       rw [← HI.out] at d0 d1 d2 d3
       have HOne:=hide (ZfK i hy HF.out.2.2.1 w1)
       have HY:=hide hy
       clear hy c0 c1 c2 c3
       go_wp2_with fail
       refine HOne.out.mono ?_
       rintro e w2 ⟨v2,rfl,ho2,hb2⟩
       have HW2:=hide (HW1.out.trans (hb2.mono HW1.out.size))
       have hml:=ZdY HY.out
       obtain⟨a2,cap2,rfl,hbs2,hn2⟩:=ho2.bs hml.2
       have hpl:=Zg2 hmay.out
       have hown2:=(hown.out.keep HB1.out (Nat.le_refl _)).keep hb2 (Nat.le_refl _)
       have htk:(l.take k).length≤k:=by simp;omega
       have HO2:=hide hown2
       have HB2:=hide hbs2
       have HN2:=hide hn2
       have HLEN:Hid ((putB (l.take k)).length+i.bytes.length≤1000000):=by
        show _≤_
        have:=hpl.1
        have:=hml.1
        omega
       clear hb2 ho2 hml hbs2 hn2 hpl hown2 htk d0 d1 d2 d3
       go_wp2_with (at_builtin;refine Zdk _ rfl (.tmp 19) (.tmp 24) rfl w.heap.size _ (putB (l.take k)) rfl HO2.out _ _ _ i.bytes rfl HB2.out HN2.out HLEN.out HW2.out.size ?_)
       intro v3 w3 ho3 hb3
       have HO3:=hide ho3
       have HB3:=hide (HW2.out.trans hb3)
       clear ho3 hb3
       go_wp2
       go_roundw
       case rel =>
        have hk':k<l.length:=by rw [HL.out];exact hlt
        refine⟨k+1,by omega,by go_num,?_,?_,HB3⟩
        · rw [Zhw l k hk',← HI.out]
          exact HO3
        · intro j hj
          rw [List.take_succ_eq_append_getElem hk'] at hj
          rcases List.mem_append.1 hj with q | q
          · exact hmay.out j q
          · simp at q
            have:i=l[k]:=by rw [HI.out];simp [List.getD,hk']
            rw [q,← this]
            exact HY.out
       case measure=>simp only [intOf];omega
   · have hkl:k=len:=by omega
     have htk:l.take k=l:=List.take_of_length_le (by rw [HL.out];omega)
     rw [htk] at hown hmay
     have HA:Hid (l.all It.may=true):=List.all_eq_true.2 hmay.out
     clear htk
     go_wp2_with fail
     go_ret2
     refine⟨_,?_,hWr.out,fun _=>hown.out,fun h=>by rw [HA.out] at h;cases h⟩
     rw [HA.out]
     rfl
end Go.Proofs.YtdojdcncncgncaaGreat
