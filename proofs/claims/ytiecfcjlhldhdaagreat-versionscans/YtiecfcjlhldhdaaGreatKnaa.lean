/-
  Lemmas.
-/
import Derived.Test.YtiecfcjlhldhdaaGreatRows
import Derived.WalkKit
import Derived.WalkSpells
import Derived.WalkLawsBesides
import Derived.Laws.BitsAllLaws
import Derived.Laws.AppendOwnNone
import Derived.Laws.IdiomStrings
import Derived.Laws.BytesArg
import Derived.Below
import Derived.ArgAppend
import Derived.Deep.AppendSrc
import Derived.BigQuiet
import Derived.ProofKit
import Derived.OpenShut
import Derived.ShutString
import Derived.ChangeOld
import Derived.Deep.RegionHeld3
import Derived.BigCall
import Derived.KernelRfl
import Derived.Laws.CopyRow
import Derived.Laws.IdiomCopy
import Derived.Deep.MidRow
import Derived.Deep.WholeRow
namespace Go.Proofs.YtiecfcjlhldhdaaGreat
open Go.RowKit Go.Proofs.Tryz
set_option linter.unusedVariables false
set_option linter.unusedSimpArgs false
set_option maxRecDepth 100000
set_option maxHeartbeats 4000000
variable {w w' a b:World}{xs:List Nat}{i z B n base p k g cap:Nat}{v u:Value}{t:List Int}{e:TypeId}{vs:List Value}{A:Act}{ops:Array Oper}
def Hi (p:Prop):Prop:=p
theorem Hi.o {p:Prop}(h:Hi p):p:=h
abbrev Bl (w w':World):Prop:=Below w.heap.size w w'
def Bytes (xs:List Nat):Prop:=∀n∈xs,n<256
theorem ZlO (h:Bytes xs)(j:Nat):xs.getD j 0<256:=by
 by_cases hj:j<xs.length
 · have:=h _ (List.getElem_mem hj);simpa [List.getD,hj] using this
 · simp [List.getD,Nat.le_of_not_lt hj]
theorem Zh {p:Prop}(h:p):Hi p:=h
theorem Zab (w:World)(o:Obj):Bl w (w.alloc o):=(Below.refl _ _).alloc (Nat.le_refl _) o
def Bs (w:World) (a:Option Addr) (len:Nat) (xs:List Nat):Prop:=
  xs.length=len∧Bytes xs∧∀i,i<len→∃b off,a=some ⟨b,off,none⟩∧w.cell? ⟨b,off+i,none⟩=some (.int .u8 (xs.getD i 0:Nat))
theorem ZnW:(prog.info? 5).map (fun i=>(i.zero,i.size,i.bytes))=some (some (.int .u8 0),1,1):=by kernel_rfl
def vals (xs:List Nat):List Value:=xs.map fun x=>Value.int .u8 ((x:Nat):Int)
theorem ZaY (xs:List Nat):(vals xs).length=xs.length:=by simp [vals]
theorem ZcR (xs ys:List Nat):vals (xs ++ ys)=vals xs ++ vals ys:=by simp [vals]
theorem ZoB (xs:List Nat):∀u∈vals xs,u.oneCell'=true:=by
 intro u hu;obtain⟨_,_,rfl⟩:=List.mem_map.1 hu;rfl
theorem Ze7 (hi:i<xs.length):(vals xs)[i]? = some (.int .u8 (xs.getD i 0:Nat)):=by
 simp [vals,List.getD,hi]
theorem ZoC (xs:List Nat)(i x:Nat):(vals xs).set i (.int .u8 (x:Int))=vals (xs.set i x):=by
 simp [vals,List.map_set]
def Owns (w:World) (base:Nat) (v:Value) (xs:List Nat):Prop:=w.ownsRow base 5 1 v xs.length (vals xs)
theorem Bs.keep {a:Option Addr}{len:Nat}(h:Bs w a len xs)(hb:Below B w w')(hB:w.heap.size≤B):Bs w' a len xs:=by
 refine⟨h.1,h.2.1,fun i hi=>?_⟩;obtain⟨b,off,ha,hc⟩:=h.2.2 i hi;exact⟨b,off,ha,(hb.cell (Nat.lt_of_lt_of_le (World.block_lt_of_cell? w _ hc) hB)).trans hc⟩
theorem Owns.keep (h:Owns w base v xs)(hb:Below B w w')(hB:w.heap.size≤B):Owns w' base v xs:=by
 refine⟨h.1,?_⟩;rcases h.2 with hn | ⟨g,cap,cur,hv,aa,hg,rest⟩
 · exact .inl hn
 · refine .inr ⟨g,cap,cur,hv,aa,?_,rest⟩;rw [hb.block g (Nat.lt_of_lt_of_le (Array.getElem?_eq_some_iff.1 hg).1 hB)];exact hg
theorem Owns.row (h:Owns w base (.slice (some ⟨g,0,none⟩) n cap) xs)(hx:Bytes xs):n=xs.length∧Bs w (some ⟨g,0,none⟩) xs.length xs:=by
 have hn:n=xs.length:=by
  rcases h.2 with ⟨h',_⟩ | ⟨g',cap',cur,h',_⟩
  · simp at h'
  · simp only [Value.slice.injEq] at h';exact h'.2.1
 subst hn;refine⟨rfl,rfl,hx,fun i hi=>⟨g,0,rfl,?_⟩⟩;have:=World.ownsRow.cellAt h i (by omega);rw [Nat.zero_add,this,Ze7 hi]
theorem Owns.bs (h:Owns w base v xs)(hx:Bytes xs) :
    ∃a cap,v=.slice a xs.length cap∧Bs w a xs.length xs∧(a=none→cap=0):=by
  rcases h.2 with ⟨hv,h0⟩ | ⟨g,cap,cur,hv,aa,hg,hr⟩
  · refine⟨none,0,by rw [h0];exact hv,⟨rfl,hx,fun i hi=>by omega⟩,fun _=>rfl⟩
  · refine⟨some ⟨g,0,none⟩,cap,hv,?_,fun e=>by cases e⟩;rw [hv] at h;exact(h.row hx).2
theorem Owns.pos (h:Owns w base v xs)(hp:0<xs.length) :
    ∃g cap,v=.slice (some ⟨g,0,none⟩) xs.length cap∧base≤g∧g<w.heap.size∧xs.length≤cap:=by
  rcases h.2 with ⟨hv,h0⟩ | ⟨g,cap,cur,hv,aa,hg,ab,hr⟩
  · omega
  · exact⟨g,cap,hv,aa,(Array.getElem?_eq_some_iff.1 hg).1,ab⟩
theorem Owns.lit (w:World)(base:Nat)(xs:List Nat)(hb:base≤w.heap.size)(hm:xs.length≤1000000):Owns (w.alloc (.cells (vals xs).toArray 5)) base (.slice (some ⟨w.heap.size,0,none⟩) xs.length xs.length) xs:=by
 have:=World.ownsRow_lit (base:=base) (e:=5) (size:=1) w (vals xs).toArray xs.length hb (by unfold maxLen;omega) (by simp [vals]);simpa [Owns] using this
def Stay (w w':World):Prop:=∀(p:Nat) (C:Array Value) (t:TypeId) (fr:Nat × Nat),w.heap[p]? = some (Obj.cells C t fr)→t≠5→w'.heap[p]? = w.heap[p]?
theorem Stay.refl (w:World):Stay w w:=fun _ _ _ _ _ _=>rfl
theorem Owns.ne (h:Owns w base v xs){C:Array Value}{t:TypeId}{fr:Nat × Nat}(hp:w.heap[p]? = some (Obj.cells C t fr))(ht:t≠5):v.ownBlock≠some p:=by
 intro e;rcases h.2 with ⟨hv,_⟩ | ⟨g,cap,cur,hv,_,hg,_⟩
 · rw [hv] at e;cases e
 · rw [hv] at e;simp [Value.ownBlock] at e;subst e;rw [hg] at hp;simp only [Option.some.injEq,Obj.cells.injEq] at hp;exact ht hp.2.1.symm
theorem ZdN (w:World)(ty:TypeId)(base:Nat)(v:Value)(xs:List Nat)(aa:Owns w base v xs)(ao:Option Addr)(len cap:Nat)(ys:List Nat)(hb:Bs w ao len ys)(hn:ao=none→cap=0)
    (ai:xs.length+len≤1000000)(ab:base≤w.heap.size) :
    ∃v' w',(Builtin.append_ #[107,107] ty #[v,.slice ao len cap]).run prog w=.ok v' w'∧Owns w' base v' (xs ++ ys)∧Below base w w'∧Stay w w':=by
  obtain⟨i0,hi,aj,ak,al⟩:=info_parts ZnW;have af:∀k,v.ownBlock=some k→base≤k:=fun k hk=>(World.ownsRow.lt aa k hk).1;have ag:=hb.1;cases ao with
  | none =>
   obtain rfl:=hn rfl;have h0:len=0:=by
    rcases Nat.eq_zero_or_pos len with h | h
    · exact h
    · obtain⟨_,_,e,_⟩:=hb.2.2 0 h;cases e
   subst h0;have hy:ys=[]:=List.eq_nil_of_length_eq_zero ag;subst hy;have ae:=run_append_owned_none (P:=prog) (w:=w) base 107 ty 5 i0 1 underlying107 hi v xs.length (vals xs) aa;exact⟨v,w,ae,by simpa using aa,Below.refl _ _,Stay.refl _⟩
  | some ad =>
   have ac:∀j u,(vals ys)[j]? = some u→w.cell? (ad.add j)=some u:=by
    intro j u hj;have ah:j<ys.length:=by
     have:=(List.getElem?_eq_some_iff.1 hj).1;simpa [vals] using this
    obtain⟨b,off,e,hc⟩:=hb.2.2 j (by omega);obtain rfl:=Option.some.inj e;rw [Addr.add_lit,hc,← Ze7 ah,hj]
   obtain⟨v',w',ae,ho,hg,_⟩:=run_append_own (P:=prog) w base 107 ty 5 i0 (.int .u8 0) 1 1 underlying107 hi aj ak al rfl (by decide) v xs.length (vals xs) aa ad len cap (vals ys) (by rw [ZaY,ag,Nat.mul_one]) ac (ZoB ys)
    (by unfold maxLen;omega) (by omega) ab
   refine⟨v',w',ae,?_,(Below.refl base w).grown hg ab af,fun p C t fr hp ht=>hg.block p (Array.getElem?_eq_some_iff.1 hp).1 (aa.ne hp ht).symm⟩;unfold Owns;rw [List.length_append,ag,ZcR];exact ho
theorem Zce (w:World)(ty:TypeId)(base:Nat)(v:Value)(xs:List Nat)(ac:Owns w base v xs)(ao:Option Addr)(len cap:Nat)(ys:List Nat)(hb:Bs w ao len ys)(hn:ao=none→cap=0)
    (ab:xs.length+len≤1000000)(aa:base≤w.heap.size) :
    ∃v' w',(Builtin.append_ #[107,107] ty #[v,.slice ao len cap]).run prog w=.ok v' w'∧Owns w' base v' (xs ++ ys)∧Below base w w':=by
  obtain⟨v',w',h1,h2,h3,_⟩:=ZdN w ty base v xs ac ao len cap ys hb hn ab aa;exact⟨v',w',h1,h2,h3⟩
theorem ZcS (w:World){rest:List Oper}{o:Oper}{a:Act}{Q:Exit→Act→World→Prop}(ae:o.guard=none)(s x:Operand)
    (ho:o.op=.call { callee:=.builtin .append,args:=#[s,x],argTypes:=#[107,107] })(base:Nat)(v:Value)(xs:List Nat)(hs:a.eval s=v)(ac:Owns w base v xs)
    (ao:Option Addr)(len cap:Nat)(ys:List Nat)(hx:a.eval x=.slice ao len cap)(hb:Bs w ao len ys)(hn:ao=none→cap=0)
    (ab:xs.length+len≤1000000)(aa:base≤w.heap.size)
    (hK:∀v' w',Owns w' base v' (xs ++ ys)→Below base w w'→wpList prog ops Q rest (a.put o.dst v') w'):wpList prog ops Q (o :: rest) a w:=by
  refine wpList_plain ae fun K hK'=>?_;obtain⟨v',w',ad,r1,r2⟩:=Zce w o.type base v xs ac ao len cap ys hb hn ab aa;unfold Oper.wp;simp [execOp,ho,resolve,invoke,builtin,hs,hx,ad,Result.andThen];exact hK' _ _ (hK v' w' r1 r2)
theorem Zl7 (w:World)(xs:List Nat)(fr:Nat × Nat)(hx:Bytes xs):Bs (w.alloc (.cells (vals xs).toArray 5 fr)) (some ⟨w.heap.size,0,none⟩) xs.length xs:=by
 refine⟨rfl,hx,fun i hi=>⟨w.heap.size,0,rfl,?_⟩⟩;rw [Nat.zero_add,World.cell?_alloc_mark];simpa using Ze7 hi
theorem Bs.at {b off len:Nat}(h:Bs w (some ⟨b,off,none⟩) len xs)(i:Nat)(hi:i<len):w.cell? ⟨b,off+i,none⟩=some (.int .u8 (xs.getD i 0:Nat)):=by
 obtain⟨_,_,e,aa⟩:=h.2.2 i hi;simp at e;obtain⟨rfl,rfl⟩:=e;exact aa
structure Came (w:World) (a:Option Addr) (len cap:Nat) (xs:List Nat):Prop where
  bs:Bs w a len xs
  nil:a=none→cap=0
  le:len≤cap
  big:len≤9223372036854775807
def bstr (xs:List Nat):ByteArray:=strOfNums (xs.map Int.ofNat)
theorem Zjn {ys:List Nat}(hx:Bytes xs)(hy:Bytes ys)(h:bstr xs=bstr ys):xs=ys:=by
 (have h1:(bstr xs).data.toList=(bstr ys).data.toList:=by rw [h]);unfold bstr at h1;rw [strOfNums_data,strOfNums_data,List.map_map,List.map_map] at h1;have key:∀(l:List Nat),Bytes l→(l.map ((fun n:Int=>UInt8.ofNat n.toNat) ∘ Int.ofNat)).map UInt8.toNat=l:=by
  intro l hl;rw [List.map_map];have e:l.map (UInt8.toNat ∘ ((fun n:Int=>UInt8.ofNat n.toNat) ∘ Int.ofNat))=l.map id:=by
   apply List.map_congr_left;intro n hn;have:=hl n hn;simp;omega
  rw [e,List.map_id]
 rw [← key xs hx,← key ys hy,h1]
theorem ZhY {ys:List Nat}(hx:Bytes xs)(hy:Bytes ys)(h:xs≠ys):((bstr xs).toList == (bstr ys).toList)=false:=by
 apply beq_eq_false_iff_ne.2;intro e;rw [ByteArray.toList_eq,ByteArray.toList_eq] at e;refine h (Zjn hx hy ?_);have:(bstr xs).data=(bstr ys).data:=Array.toList_inj.1 e;cases hX:bstr xs;cases hY:bstr ys;rw [hX,hY] at this;simp only at this;rw [this]
theorem Zam {a:Option Addr}{len:Nat}(cap:Nat)(h:Bs w a len xs):(convert 107 9 (.slice a len cap)).run prog w=.ok (.string (bstr xs)) w:=by
 cases a with
 | none =>
  have h0:len=0:=by
   rcases Nat.eq_zero_or_pos len with h0 | h0
   · exact h0
   · obtain⟨_,_,e,_⟩:=h.2.2 0 h0;cases e
  subst h0;have hx:xs=[]:=List.eq_nil_of_length_eq_zero h.1;subst hx;exact run_convert_bytes_nil w 107 5 underlying107 underlying5 0 cap 9 underlying9
 | some ad =>
  by_cases h0:len=0
  · subst h0;have hx:xs=[]:=List.eq_nil_of_length_eq_zero h.1;subst hx;rw [run_convert_bytes_string w 107 9 5 (some ad) 0 cap underlying107 underlying5 underlying9];rw [run_bytesToString (P:=prog) w ad 0 cap [] rfl];rfl
  · obtain⟨b,off,e,_⟩:=h.2.2 0 (by omega);obtain rfl:=Option.some.inj e;have aa:=h.1;refine run_convert_bytes_arg w 107 5 underlying107 underlying5 b off len cap (xs.map Int.ofNat) (by simp [aa]) ?_ 9 underlying9;intro i hi;rw [h.at i hi];(have hi':i<xs.length:=by omega);simp [List.getD,hi']
theorem ZpT (w:World):Owns (w.alloc (.cells #[] 5)) w.heap.size (.slice (some ⟨w.heap.size,0,none⟩) 0 0) []:=Owns.lit w w.heap.size [] (Nat.le_refl _) (by simp)
def fromA (a:Option Addr) (cap k:Nat):Option Addr:=if cap=k then a else a.map (·.add (k*1))
theorem sz5 (w:World):(sizeOf 5).run prog w=.ok 1 w:=by
 obtain⟨i0,hi,ab,aa,ac⟩:=info_parts ZnW;simp [sizeOf,typeInfo,hi,aa]
theorem ZlI:prog.elem 107=5:=by kernel_rfl
theorem Zc3 (a:Option Addr)(len cap k:Nat)(hk:k≤len)(w:World):(Instr.sliceAt 107 (.slice a len cap) (some (.int .i64 (k:Nat))) none none).run prog w=.ok (.slice (fromA a cap k) (len-k) (cap-k)) w:=by
 (have aa:prog.underlying 107=some (.slice (prog.elem 107)):=by kernel_rfl);rw [run_sliceAt_slice w 107 _ _ _ _ aa,run_slice_l w 107 a len cap aa .i64 (k:Nat) (by omega) (by omega),ZlI,sz5];simp [Result.andThen,sliced,fromA]
theorem ZfZ (a:Option Addr)(len cap k:Nat)(hk:k≤cap)(w:World):(Instr.sliceAt 107 (.slice a len cap) none (some (.int .i64 (k:Nat))) none).run prog w=.ok (.slice (fromA a cap 0) k cap) w:=by
 (have aa:prog.underlying 107=some (.slice (prog.elem 107)):=by kernel_rfl);rw [run_sliceAt_slice w 107 _ _ _ _ aa,run_slice_h w 107 a len cap aa .i64 (k:Nat) (by omega) (by omega),ZlI,sz5];simp [Result.andThen,sliced,fromA]
theorem Bs.from {a:Option Addr}{len:Nat}(h:Bs w a len xs)(hk:k≤len)(hc:len≤cap):Bs w (fromA a cap k) (len-k) (xs.drop k):=by
 refine⟨by simp [h.1],fun x hx=>h.2.1 x (List.mem_of_mem_drop hx),fun i hi=>?_⟩;obtain⟨b,off,rfl,aa⟩:=h.2.2 (k+i) (by omega);refine⟨b,off+k,?_,?_⟩
 · unfold fromA;rw [if_neg (by omega)];simp only [Option.map_some,Nat.mul_one,Addr.add_lit]
 · rw [Nat.add_assoc,aa];simp [List.getD]
theorem Bs.upto {a:Option Addr}{len:Nat}(h:Bs w a len xs)(hk:k≤len):Bs w (fromA a cap 0) k (xs.take k):=by
 refine⟨by simp [h.1,hk],fun x hx=>h.2.1 x (List.mem_of_mem_take hx),fun i hi=>?_⟩;obtain⟨b,off,rfl,aa⟩:=h.2.2 i (by omega);refine⟨b,off,?_,?_⟩
 · unfold fromA;split
   · rfl
   · simp only [Option.map_some,Nat.zero_mul,Addr.add_lit,Nat.add_zero]
 · rw [aa];simp [List.getD,hi]
theorem Owns.set {wr:World}{N:Nat}{zs:List Nat}(h:Owns wr base (.slice (some ⟨g,0,none⟩) N cap) zs)(hN:N=zs.length)(i x:Nat) :
    Owns (wr.setCell ⟨g,i,none⟩ (.int .u8 (x:Int))) base (.slice (some ⟨g,0,none⟩) N cap) (zs.set i x):=by
  subst hN;have:=(World.ownsRow.stored h i (.int .u8 (x:Int))).1;unfold Owns;rw [List.length_set,← ZoC];exact this
def Zcn (cur:Array Value):Nat→List Value→Array Value
  | _,[]=>cur
  | o,v :: r=>Zcn (cur.setIfInBounds o v) (o+1) r
theorem ZcM:∀(vs:List Value)(cur:Array Value)(o:Nat),(Zcn cur o vs).size=cur.size
 | [],_,_=>rfl
 | v :: r,cur,o=>by
  show (Zcn (cur.setIfInBounds o v) (o+1) r).size=_
  rw [ZcM r]
  simp
theorem ZcN:∀(vs:List Value)(cur:Array Value)(o:Nat),o+vs.length≤cur.size→(Zcn cur o vs).toList.take (o+vs.length)=cur.toList.take o ++ vs
 | [],cur,o,_=>by simp [Zcn]
 | v :: r,cur,o,h=>by
  have h':o+1+r.length≤cur.size:=by simp at h;omega
  have ih:=ZcN r (cur.setIfInBounds o v) (o+1) (by simpa using h')
  show (Zcn (cur.setIfInBounds o v) (o+1) r).toList.take (o+(r.length+1))=_
  rw [show o+(r.length+1)=o+1+r.length by omega,ih]
  have ho:o<cur.toList.length:=by simp;omega
  rw [Array.toList_setIfInBounds,List.take_succ_eq_append_getElem (by simpa using ho),List.take_set_of_le (Nat.le_refl _)]
  simp
theorem Zco (g:Nat)(e:TypeId):∀(vs:List Value)(o:Nat)(cur:Array Value)(w:World),w.heap[g]? = some (.cells cur e (0,0))→(w.setCells g o vs).heap[g]? = some (.cells (Zcn cur o vs) e (0,0))
 | [],_,_,_,h=>h
 | v :: r,o,cur,w,h=>Zco g e r (o+1) _ _ (heap_setCell_same w g o cur e v h)
theorem ZaF (hB:B≤g):∀(vs:List Value)(o:Nat)(w0 w:World),Below B w0 w→Below B w0 (w.setCells g o vs)
 | [],_,_,_,h=>h
 | v :: r,o,w0,_,h=>ZaF hB r (o+1) w0 _ (h.setCell hB v)
def strB (s:ByteArray):List Nat:=s.data.toList.map UInt8.toNat
theorem Za0 (s:ByteArray):(strB s).length=s.size:=by
 unfold strB;rw [List.length_map,Array.length_toList];rfl
theorem Zgc (s:ByteArray):Bytes (strB s):=by
 intro x hx;obtain⟨c,_,rfl⟩:=List.mem_map.1 hx;exact c.toNat_lt
theorem Zlo (s:ByteArray):byteCells s=vals (strB s):=by
 simp [byteCells,vals,strB]
theorem ZgQ (s:ByteArray):bstr (strB s)=s:=by
 have h:(bstr (strB s)).data.toList=s.data.toList:=by
  unfold bstr strB;rw [strOfNums_data,List.map_map,List.map_map];have e:((fun n:Int=>UInt8.ofNat n.toNat) ∘ Int.ofNat) ∘ UInt8.toNat=id:=by
   funext c;simp
  rw [e,List.map_id]
 cases hb:bstr (strB s);cases s;rw [hb] at h;simp only at h;rw [Array.toList_inj.1 h]
theorem Zb9 (g k:Nat)(hk:k≠g):∀(vs:List Value)(o:Nat)(w:World),(w.setCells g o vs).heap[k]? = w.heap[k]?
 | [],_,_=>rfl
 | v :: r,o,w=>by
  show ((w.setCell ⟨g,o,none⟩ v).setCells g (o+1) r).heap[k]? = _
  rw [Zb9 g k hk r (o+1) _]
  exact Below.heap_setCell w ⟨g,o,none⟩ v k hk
theorem Zfg (w:World)(ty:TypeId)(base g n cap:Nat)(xs:List Nat)(ab:Owns w base (.slice (some ⟨g,0,none⟩) n cap) xs)(hx:Bytes xs)(s:ByteArray)(ar:xs.length+s.size≤1000000)(aa:base≤w.heap.size) :
    ∃v' w',(Builtin.append_ #[107,9] ty #[.slice (some ⟨g,0,none⟩) n cap,.string s]).run prog w=.ok v' w'∧Owns w' base v' (xs ++ strB s)∧Below base w w'∧Stay w w':=by
  obtain⟨i0,hi,av,ag,aw⟩:=info_parts ZnW;obtain⟨hn,an⟩:=ab.row hx;subst hn;have ad:=Src.ofString (P:=prog) w underlying9 s;rw [← ag,Zlo] at ad;rcases ab.2 with ⟨h',_⟩ | ⟨g',cap',cur,h',ak,hg,ax,ai,ah,au⟩
  · simp at h'
  · simp only [Value.slice.injEq,Option.some.injEq,Addr.mk.injEq,and_true,true_and] at h';obtain⟨rfl,rfl⟩:=h';(have af:(vals (strB s)).length=s.size:=by rw [ZaY,Za0]);by_cases hr:xs.length+s.size≤cap
    · have ae:∀j,j<(vals (strB s)).length→(w.cell? ⟨g,0+xs.length*i0.size+j,none⟩).isSome=true:=by
       intro j hj;rw [ag,cell_of_row w g _ cur 5 (0,0) hg];(have:xs.length+j<cur.size:=by rw [ah];omega);simp;exact this
      have ap:∀j,j<(vals (strB s)).length→w.frozen? ⟨g,0+xs.length*i0.size+j,none⟩=false:=fun j _=>frozen_of_row w g _ cur 5 hg;have ac:=run_append_room_src (P:=prog) w 107 9 ty 5 i0 underlying107 hi g 0 xs.length cap (.string s) s.size (vals (strB s)) ad hr ae ap;refine⟨_,_,ac,?_,ZaF ak _ _ _ _ (Below.refl _ _),fun p C t fr hp ht=>Zb9 g p (fun e=>ab.ne hp ht (by rw [e];rfl)) _ _ _⟩;unfold Owns;rw [List.length_append,Za0];refine⟨by rw [ZaY,List.length_append,Za0,Nat.mul_one],.inr ⟨g,cap,_,rfl,ak,Zco g 5 _ _ cur w hg,hr,ai,by rw [ZcM];exact ah,?_⟩⟩;have am:=ZcN (vals (strB s)) cur xs.length (by rw [af,ah];omega);rw [af] at am;rw [ag,Nat.zero_add,Nat.mul_one,Nat.mul_one,am,ZcR];refine congrArg (fun l=>l ++ vals (strB s)) ?_;rw [← au,Nat.mul_one]
    · have aj:(Builtin.firstCells i0.size xs.length (.slice (some ⟨g,0,none⟩) xs.length cap)).run prog w.drew=.ok (vals xs).toArray w.drew:=by
       refine run_firstCells_some w.drew i0.size xs.length ⟨g,0,none⟩ xs.length cap (vals xs) (by rw [ZaY,ag,Nat.mul_one]) ?_;intro j u hj;have al:j<xs.length:=by
        have:=(List.getElem?_eq_some_iff.1 hj).1;simpa [vals] using this
       rw [Addr.add_lit];have:=an.at j al;rw [← Ze7 al,hj] at this;exact this
      have ac:=run_append_grow_src (P:=prog) w 107 9 ty 5 i0 (.int .u8 0) underlying107 hi av (some ⟨g,0,none⟩) xs.length cap (vals xs) aj (.string s) s.size (vals (strB s)) ad (by omega) (by omega)
       (growslice_fits (by omega) (by rw [aw];omega))
      have aq:=grownCap_ge w (xs.length+s.size) cap 5;have ao:grownCap w (xs.length+s.size) cap 5≤maxLen:=grownCap_le_maxLen w _ cap 5 (by unfold maxLen;omega);refine⟨_,_,ac,?_,((Below.refl base w).drew).alloc aa _,fun p C t fr hp ht=>Below.heap_alloc w.drew _ p (Array.getElem?_eq_some_iff.1 hp).1⟩;unfold Owns;rw [List.length_append,Za0];refine⟨by rw [ZaY,List.length_append,Za0,Nat.mul_one],.inr ⟨w.heap.size,_,_,rfl,aa,heap_alloc_new w.drew _,aq,ao,?_,?_⟩⟩
      · simp only [Array.size_append,List.size_toArray,size_zeroCells,List.length_append,af,ZaY];show xs.length+s.size+(grownCap w (xs.length+s.size) cap 5-(xs.length+s.size))*1=_;omega
      · rw [ZcR,Array.toList_append];(have hl:(vals xs ++ vals (strB s)).length=(xs.length+s.size)*1:=by rw [List.length_append,af,ZaY,Nat.mul_one]);rw [← hl];exact List.take_left
theorem Zfw (w:World)(ty:TypeId)(base g n cap:Nat)(xs:List Nat)(ac:Owns w base (.slice (some ⟨g,0,none⟩) n cap) xs)(hx:Bytes xs)(s:ByteArray)(ab:xs.length+s.size≤1000000)(aa:base≤w.heap.size) :
    ∃v' w',(Builtin.append_ #[107,9] ty #[.slice (some ⟨g,0,none⟩) n cap,.string s]).run prog w=.ok v' w'∧Owns w' base v' (xs ++ strB s)∧Below base w w':=by
  obtain⟨v',w',h1,h2,h3,_⟩:=Zfg w ty base g n cap xs ac hx s ab aa;exact⟨v',w',h1,h2,h3⟩
theorem ZdT (w:World){rest:List Oper}{o:Oper}{a:Act}{Q:Exit→Act→World→Prop}(ae:o.guard=none)(s x:Operand)
    (ho:o.op=.call { callee:=.builtin .append,args:=#[s,x],argTypes:=#[107,9] })(base g n cap:Nat)(xs:List Nat)(hs:a.eval s=.slice (some ⟨g,0,none⟩) n cap)(ac:Owns w base (.slice (some ⟨g,0,none⟩) n cap) xs)(hb:Bytes xs)
    (str:ByteArray)(hx:a.eval x=.string str)(ab:xs.length+str.size≤1000000)(aa:base≤w.heap.size)
    (hK:∀v' w',Owns w' base v' (xs ++ strB str)→Below base w w'→wpList prog ops Q rest (a.put o.dst v') w'):wpList prog ops Q (o :: rest) a w:=by
  refine wpList_plain ae fun K hK'=>?_;obtain⟨v',w',ad,r1,r2⟩:=Zfw w o.type base g n cap xs ac hb str ab aa;unfold Oper.wp;simp [execOp,ho,resolve,invoke,builtin,hs,hx,ad,Result.andThen];exact hK' _ _ (hK v' w' r1 r2)
section
variable {α : Type}
structure Vn (α:Type) where
  see:α→Bool
  dead:α→Bool
  wr:α→Int
  nx:α→Option (Option α)
def Vn.look (V:Vn α):Nat→α→Option α × List Int × Int
  | 0,r=>if V.see r=true then (if V.dead r=true then none else some r,[],0) else (none,[V.wr r],13)
  | n+1,r=>if V.see r=true then (if V.dead r=true then none else some r,[],0) else
    match V.nx r with
    | none=>(none,[V.wr r],13)
    | some none=>(none,[V.wr r],0)
    | some (some q)=>((V.look n q).1,V.wr r :: (V.look n q).2.1,(V.look n q).2.2)
theorem Vn.look_seen (V:Vn α)(n:Nat){r:α}(h:V.see r=true):V.look n r=(if V.dead r=true then none else some r,[],0):=by
 cases n <;> simp only [Vn.look,if_pos h]
theorem Vn.look_end (V:Vn α){r:α}(h:V.see r=false):V.look 0 r=(none,[V.wr r],13):=by
 simp [Vn.look,h]
theorem Vn.look_old (V:Vn α)(n:Nat){r:α}(h:V.see r=false)(hn:V.nx r=none):V.look n r=(none,[V.wr r],13):=by
 cases n <;> simp [Vn.look,h,hn]
theorem Vn.look_new (V:Vn α)(n:Nat){r:α}(h:V.see r=false)(hn:V.nx r=some none):V.look (n+1) r=(none,[V.wr r],0):=by
 simp [Vn.look,h,hn]
theorem Vn.look_next (V:Vn α)(n:Nat){r q:α}(h:V.see r=false)(hn:V.nx r=some (some q)):V.look (n+1) r=((V.look n q).1,V.wr r :: (V.look n q).2.1,(V.look n q).2.2):=by
 simp [Vn.look,h,hn]
def Vn.path (V:Vn α):Nat→α→List α
  | 0,r=>if V.see r=true then [] else [r]
  | n+1,r=>if V.see r=true then [] else
    match V.nx r with
    | some (some q)=>r :: V.path n q
    | _=>[r]
theorem ZhB:∀(a b:List Nat),a.Nodup→(∀x,x∈a→x∈b)→a.length≤b.length
 | [],b,_,_=>Nat.zero_le _
 | x :: a,b,hn,hs=>by
  have hx:=hs x (by simp)
  have hn':=List.nodup_cons.1 hn
  have:=ZhB a (b.erase x) hn'.2 (fun y hy=>(List.mem_erase_of_ne (fun e=>hn'.1 (by rw [← e];exact hy))).2 (hs y (by simp [hy])))
  rw [List.length_erase_of_mem hx] at this
  have aa:0<b.length:=List.length_pos_of_mem hx
  rw [List.length_cons]
  omega
def Vn.stp (V:Vn α):Nat→α→α
  | 0,r=>r
  | k+1,r=>match V.nx r with
    | some (some q)=>V.stp k q
    | _=>r
theorem Vn.look_long (V:Vn α):∀(n:Nat)(r:α),n<(V.look n r).2.1.length→(∀k,k<n→V.nx (V.stp k r)=some (some (V.stp (k+1) r)))∧(V.look n r).2.1=(List.range (n+1)).map (fun k=>V.wr (V.stp k r))
 | 0,r,h=>by
  refine⟨fun k hk=>absurd hk (Nat.not_lt_zero k),?_⟩
  cases hs:V.see r with
  | true=>rw [V.look_seen 0 hs] at h;simp at h
  | false=>rw [V.look_end hs];rfl
 | n+1,r,h=>by
  cases hs:V.see r with
  | true=>rw [V.look_seen (n+1) hs] at h;simp at h
  | false =>
   cases hn:V.nx r with
   | none=>rw [V.look_old (n+1) hs hn] at h;simp at h
   | some o =>
    cases o with
    | none=>rw [V.look_new n hs hn] at h;simp at h
    | some q =>
     rw [V.look_next n hs hn] at h ⊢
     have e:∀k,V.stp (k+1) r=V.stp k q:=fun k=>by simp [Vn.stp,hn]
     obtain⟨h1,h2⟩:=V.look_long n q (by simpa using h)
     refine⟨fun k hk=>?_,?_⟩
     · cases k with
       | zero=>rw [e 0];exact hn
       | succ k=>rw [e k,e (k+1)];exact h1 k (by omega)
     · rw [List.range_succ_eq_map,List.map_cons,List.map_map,h2]
       refine congrArg _ (List.map_congr_left fun k _=>?_)
       show _=V.wr (V.stp (k+1) r)
       rw [e]
theorem Zef {f:Nat→Nat}:∀(n:Nat),(∀i j,i<j→j<n→f i≠f j)→((List.range n).map f).Nodup
 | 0,_=>by simp
 | n+1,h=>by
  rw [List.range_succ,List.map_append,List.nodup_append]
  refine⟨Zef n (fun i j a b=>h i j a (by omega)),by simp,fun a ha b hb=>?_⟩
  obtain⟨i,hi,rfl⟩:=List.mem_map.1 ha
  rw [List.map_cons,List.map_nil,List.mem_singleton] at hb
  rw [hb]
  exact h i n (List.mem_range.1 hi) (Nat.lt_succ_self n)
theorem ZiD {f:Nat→Nat}{N:Nat}(hN:N<n)(hf:∀i,i<n→f i<N):∃i j,i<j∧j<n∧f i=f j:=by
 refine Classical.byContradiction fun hc=>?_;have h1:=Zef (f:=f) n (fun i j a b e=>hc ⟨i,j,a,b,e⟩);have h2:=ZhB _ (List.range N) h1 (fun x hx=>by
  obtain⟨i,hi,rfl⟩:=List.mem_map.1 hx;exact List.mem_range.2 (hf i (List.mem_range.1 hi)))
 simp at h2;omega
theorem Vn.look_again (V:Vn α)(pl:α→Nat)(N:Nat)(hp:∀r q,V.nx r≠none→V.nx q≠none→pl r=pl q→V.nx r=V.nx q)(hN:∀r,V.nx r≠none→pl r<N)(hn:N<n)(r:α)(t:Int):t∈(V.look n r).2.1↔t∈(V.look n r).2.1.take n:=by
 refine⟨fun h=>?_,List.mem_of_mem_take⟩;rcases Nat.lt_or_ge n (V.look n r).2.1.length with hl | hl
 · obtain⟨h1,h2⟩:=V.look_long n r hl;obtain⟨i,j,aa,hj,he⟩:=ZiD (f:=fun k=>pl (V.stp k r)) hn (fun i hi=>hN _ (by rw [h1 i hi];simp));have hs:∀m,j+1+m≤n→V.stp (i+1+m) r=V.stp (j+1+m) r:=by
    intro m
    induction m with
    | zero =>
     intro _;have:=hp _ _ (by rw [h1 i (by omega)];simp) (by rw [h1 j hj];simp) he;rw [h1 i (by omega),h1 j hj] at this;simpa using this
    | succ m ih =>
     intro hm;have e:=ih (by omega);have a:=h1 (i+1+m) (by omega);have b:=h1 (j+1+m) (by omega);rw [e,b] at a;simp only [Option.some.injEq] at a;exact a.symm
   rw [h2] at h ⊢;rw [← List.map_take,List.take_range,Nat.min_eq_left (Nat.le_succ n)];obtain⟨k,hk,rfl⟩:=List.mem_map.1 h;have hk':=List.mem_range.1 hk;rcases Nat.lt_or_ge k n with h3 | h3
   · exact List.mem_map.2 ⟨k,List.mem_range.2 h3,rfl⟩
   · have h4:=hs (n-(j+1)) (by omega);rw [show j+1+(n-(j+1))=n by omega] at h4;(obtain rfl:k=n:=by omega);exact List.mem_map.2 ⟨i+1+(k-(j+1)),List.mem_range.2 (by omega),by rw [h4]⟩
 · rw [List.take_of_length_le hl];exact h
def Vn.cut (o:Option α × List Int × Int):Option α × List Int × Int:=(o.1,o.2.1.take 400,o.2.2)
end
namespace Pl
def At (n:Nat) (A:Act) (f:Nat→Value):Prop:=A.tmps.size=n∧A.defers=[]∧∀d,d<n→A.tmps.getD d undef=f d
def upd (f:Nat→Value) (d:Nat) (v:Value):Nat→Value:=fun e=>if e=d then v else f e
theorem At.here (hn:A.tmps.size=n)(h:A.defers=[]):At n A (fun d=>A.tmps.getD d undef):=⟨hn,h,fun _ _=>rfl⟩
def At.fn {n : Nat} {A : Act} {f : Nat → Value} (_ : At n A f) : Nat → Value := f
def pu (A : Act) (u : Nat → Value) (l : List Nat) : Act := l.foldl (fun a i => a.put (some i) (u i)) A
theorem At.put {n:Nat}{A:Act}{f:Nat→Value}(h:At n A f)(d:Nat)(v:Value):At n (A.put (some d) v) (upd f d v):=by
 refine⟨by simpa [Act.put] using h.1,by simpa [Act.put] using h.2.1,fun e he=>?_⟩;have hs:=h.1;simp only [Act.put,upd];by_cases aa:e=d
 · subst aa;rw [if_pos rfl];simp [Array.getD,hs,he]
 · rw [if_neg aa,← h.2.2 e he];have ab:d≠e:=fun x=>aa x.symm;simp [Array.getD,hs,he,ab]
theorem At.ext {B:Act}{f:Nat→Value}(h:At n A f)(k:At n B f):A=B:=by
 have e1:A.tmps=B.tmps:=by
  apply Array.ext
  · rw [h.1,k.1]
  · intro i h1 h2;have ha:=h.2.2 i (by have:=h.1;omega);have hb:=k.2.2 i (by have:=h.1;omega);simp only [Array.getD,h1,h2,dif_pos] at ha hb;exact ha.trans hb.symm
 (have e2:A.defers=B.defers:=by rw [h.2.1,k.2.1]);cases A;cases B;simp only at e1 e2;rw [e1,e2]

theorem pts {n:Nat}{g:Nat → Value}:∀(l:List Nat){A:Act}{f:Nat → Value},At n A f → At n (pu A g l) (l.foldl (fun f i=>upd f i (g i)) f)
 |[],_,_,h=>h
 |i::l,_,_,h=>pts l (h.put i (g i))
theorem en {n:Nat}{A B:Act}{f g:Nat → Value}{Q:Exit → Act → World → Prop}{w:World}(h:At n B g)(k:At n A f)(l:List Nat)(x:Q .normal (pu A g l) w)(e:g=l.foldl (fun f i=>upd f i (g i)) f:=by exact rfl):Q .normal B w:=by
 have h2:=pts (g:=g) l k
 rw [← e] at h2
 rw [At.ext h h2]
 exact x
def ev (f:Nat→Value):Operand→Value
  | .tmp t=>f t
  | .const v=>v
  | .global g=>.pointer (some ⟨g,0,none⟩)
  | .func g=>.func (.func g) #[] #[]
def inB (n:Nat):Operand→Bool
  | .tmp t=>decide (t<n)
  | _=>true
theorem At.ev {f:Nat→Value}(h:At n A f)(x:Operand)(hx:inB n x=true):A.eval x=ev f x:=by
 cases x with
 | tmp t=>exact h.2.2 t (by simpa [inB] using hx)
 | const v=>rfl
 | global g=>rfl
 | func g=>rfl
section
variable {P : Program} {ops : Array Oper} {S : World → Prop} {Q : Exit → Act → World → Prop} {n fuel : Nat} {listed : Array Bool} {f : Nat → Value} {w : World}
def H (P:Program) (ops:Array Oper) (S:World→Prop) (Q:Exit→Act→World→Prop) (n fuel:Nat) (listed:Array Bool) (f:Nat→Value) (w:World):Prop:=
  ∀A,At n A f→wpAnyH P .any ops (NoPanic Q) S fuel listed A w
theorem H.start {id:Nat}(hm:P.follows .mixedOrders=true)(hA:At n A f)(hS:S w.drew)(h:H P ops S Q n ops.size (Array.replicate ops.size false) f w.drew) :
    (Code.region id ops true).wp P Q A w:=
  wp_region_noPanic (wp_region_held_drew (S:=S) hm hS (fun _=>h A hA))

theorem qb {id:Nat}{A:Act}(hA:At n A f)(hS:S w.drew)(h:H P ops S Q n ops.size (Array.replicate ops.size false) f w.drew)(hm:P.follows .mixedOrders=true:=by kernel_rfl):(Code.region id ops true).wp P Q A w:=H.start hm hA hS h
theorem H.done (hr:Region.ready .any ops listed=[])(h:∀A,At n A f→Q .normal A w):H P ops S Q n fuel listed f w:=
 fun A hA=>wpAnyH_done hr (NoPanic.normal (h A hA)) _

theorem q8 (h:∀A,At n A f→Q .normal A w)(hr:Region.ready .any ops listed=[]:=by kernel_rfl):H P ops S Q n fuel listed f w:=H.done hr h
def first (ops:Array Oper) (listed:Array Bool) (i:Nat):Bool:=Region.noSelect ops && Region.free .any ops listed i && (Region.ready .any ops listed).contains i
def op (ops:Array Oper) (i:Nat):Oper:=ops.getD i default
theorem H.take (i d:Nat)(v:Value)(hi:ops[i]? = some (op ops i))(hd:(op ops i).dst=some d)(hc:first ops listed i=true)
    (hw:∀A,At n A f→Region.wanted (op ops i) (yielded ops A.tmps)=true)
    (hy:∀A,At n A f→∀w,S w→(execOp A.eval (op ops i)).run P w=.ok (.value v) w)(hS:S w)
    (h:H P ops S Q n fuel (listed.setIfInBounds i true) (upd f d v) w):H P ops S Q n (fuel+1) listed f w:=by
  intro A hA;simp only [first,Bool.and_eq_true] at hc;refine wpAnyH_take (i:=i) (oi:=op ops i) (v:=v) hi hc.1.1 hc.1.2 hc.2 (fun _ _ _ h=>h) (.inl ⟨hw A hA,hy A hA⟩) hS (h _ ?_);rw [hd];exact hA.put d v

theorem q0 (i:Nat)(d:Nat)(v:Value)(hw:∀A,At n A f→Region.wanted (op ops i) (yielded ops A.tmps)=true)(hy:∀A,At n A f→∀w,S w→(execOp A.eval (op ops i)).run P w=.ok (.value v) w)(hS:S w)(h:H P ops S Q n fuel (listed.setIfInBounds i true) (upd f d v) w)(hi:ops[i]? = some (op ops i):=by kernel_rfl)(hd:(op ops i).dst=some d:=by kernel_rfl)(hc:first ops listed i=true:=by kernel_rfl):H P ops S Q n (fuel+1) listed f w:=H.take i d v hi hd hc hw hy hS h
theorem H.solo (i d:Nat)(v:Value)(hi:ops[i]? = some (op ops i))(hd:(op ops i).dst=some d)(hr:Region.ready .any ops listed=[i])
    (hw:∀A,At n A f→Region.wanted (op ops i) (yielded ops A.tmps)=true)
    (hy:∀A,At n A f→(execOp A.eval (op ops i)).run P w=.ok (.value v) w)(hS:S w)
    (h:H P ops S Q n fuel (listed.setIfInBounds i true) (upd f d v) w):H P ops S Q n (fuel+1) listed f w:=by
  intro A hA;refine wpAnyH_all hr (by simp) ?_;intro j hj;(obtain rfl:j=i:=by simpa using hj);unfold wpOp;rw [hi];simp only [hw A hA,if_true];refine .inl ?_;unfold Oper.wp;rw [hy A hA];refine⟨hS,h _ ?_⟩;rw [hd];exact hA.put d v

theorem qw (i:Nat)(d:Nat)(v:Value)(hw:∀A,At n A f→Region.wanted (op ops i) (yielded ops A.tmps)=true)(hy:∀A,At n A f→(execOp A.eval (op ops i)).run P w=.ok (.value v) w)(hS:S w)(h:H P ops S Q n fuel (listed.setIfInBounds i true) (upd f d v) w)(hi:ops[i]? = some (op ops i):=by kernel_rfl)(hd:(op ops i).dst=some d:=by kernel_rfl)(hr:Region.ready .any ops listed=[i]:=by kernel_rfl):H P ops S Q n (fuel+1) listed f w:=H.solo i d v hi hd hr hw hy hS h
theorem H.make (i d:Nat)(v:Value)(w':World)(hi:ops[i]? = some (op ops i))(hd:(op ops i).dst=some d)(hr:Region.ready .any ops listed=[i])
    (hw:∀A,At n A f→Region.wanted (op ops i) (yielded ops A.tmps)=true)
    (hy:∀A,At n A f→(execOp A.eval (op ops i)).run P w=.ok (.value v) w')(hS:S w')
    (h:H P ops S Q n fuel (listed.setIfInBounds i true) (upd f d v) w'):H P ops S Q n (fuel+1) listed f w:=by
  intro A hA;refine wpAnyH_all hr (by simp) ?_;intro j hj;(obtain rfl:j=i:=by simpa using hj);unfold wpOp;rw [hi];simp only [hw A hA,if_true];refine .inl ?_;unfold Oper.wp;rw [hy A hA];refine⟨hS,h _ ?_⟩;rw [hd];exact hA.put d v

theorem qf (i:Nat)(d:Nat)(v:Value)(w':World)(hw:∀A,At n A f→Region.wanted (op ops i) (yielded ops A.tmps)=true)(hy:∀A,At n A f→(execOp A.eval (op ops i)).run P w=.ok (.value v) w')(hS:S w')(h:H P ops S Q n fuel (listed.setIfInBounds i true) (upd f d v) w')(hi:ops[i]? = some (op ops i):=by kernel_rfl)(hd:(op ops i).dst=some d:=by kernel_rfl)(hr:Region.ready .any ops listed=[i]:=by kernel_rfl):H P ops S Q n (fuel+1) listed f w:=H.make i d v w' hi hd hr hw hy hS h
theorem H.call (i d g:Nat)(xs:List Operand)(ts:Array TypeId)(hi:ops[i]? = some (op ops i))(hd:(op ops i).dst=some d)(hr:Region.ready .any ops listed=[i])
    (hw:∀A,At n A f→Region.wanted (op ops i) (yielded ops A.tmps)=true)
    (ad:(op ops i).op=.call { callee:=.value (.func g),args:=xs.toArray,argTypes:=ts })(hx:xs.all (inB n)=true)
    (ac:∀args w,(callFunc g args).run P w=.ok (.enter g args) w)
    (h:Calls P g (xs.map (ev f)).toArray w fun e w'=>∃v,e=.returned v∧S w'∧H P ops S Q n fuel (listed.setIfInBounds i true) (upd f d v) w') :
    H P ops S Q n (fuel+1) listed f w:=by
  intro A hA;refine wpAnyH_all hr (by simp) ?_;intro j hj;(obtain rfl:j=i:=by simpa using hj);unfold wpOp;rw [hi];simp only [hw A hA,if_true];refine .inl ?_;have aa:#[] ++ xs.toArray.map A.eval ++ #[]=(xs.map (ev f)).toArray:=by
   simp only [Array.empty_append,Array.append_empty,List.map_toArray];congr 1;apply List.map_congr_left;intro x ae;exact hA.ev x (List.all_eq_true.1 hx x ae)
  have ab:(execOp A.eval (op ops j)).run P w=.ok (.enter g (xs.map (ev f)).toArray) w:=by
   have e:execOp A.eval (op ops j)=callFunc g (#[] ++ xs.toArray.map A.eval ++ #[]):=by
    unfold execOp;rw [ad];rfl
   rw [e,aa];exact ac _ _
  unfold Oper.wp;rw [ab];refine h.mono ?_;rintro e w' ⟨v,rfl,hS,hh⟩;refine⟨hS,hh _ ?_⟩;rw [hd];exact hA.put d v

theorem qe (i:Nat)(d:Nat)(g:Nat)(xs:List Operand)(ts:Array TypeId)(hw:∀A,At n A f→Region.wanted (op ops i) (yielded ops A.tmps)=true)(hfn:∀args w,(callFunc g args).run P w=.ok (.enter g args) w)(h:Calls P g (xs.map (ev f)).toArray w fun e w'=>∃v,e=.returned v∧S w'∧H P ops S Q n fuel (listed.setIfInBounds i true) (upd f d v) w')(hi:ops[i]? = some (op ops i):=by kernel_rfl)(hd:(op ops i).dst=some d:=by kernel_rfl)(hr:Region.ready .any ops listed=[i]:=by kernel_rfl)(hop:(op ops i).op=.call { callee:=.value (.func g),args:=xs.toArray,argTypes:=ts }:=by kernel_rfl)(hx:xs.all (inB n)=true:=by decide):H P ops S Q n (fuel+1) listed f w:=H.call i d g xs ts hi hd hr hw hop hx hfn h
theorem free (i:Nat)(h:(op ops i).guard=none):∀A,At n A f→Region.wanted (op ops i) (yielded ops A.tmps)=true:=by
 intro A _;simp [Region.wanted,h]

theorem q1 {i:Nat}(h:(op ops i).guard=none:=by kernel_rfl):∀A,At n A f→Region.wanted (op ops i) (yielded ops A.tmps)=true:=free i h
theorem guarded (i j dj:Nat)(b:Bool)(h:(op ops i).guard=some (j,b))(hj:(ops[j]?).bind (·.dst)=some dj)(hn:dj<n)(hv:f dj=.bool b) :
    ∀A,At n A f→Region.wanted (op ops i) (yielded ops A.tmps)=true:=by
  intro A hA;have hs:=hA.1;have h1:=hA.2.2 dj hn;have h2:A.tmps[dj]? = some (.bool b):=by
   rw [hv] at h1;(have aa:dj<A.tmps.size:=by omega);simp only [Array.getD,aa,dif_pos] at h1;rw [Array.getElem?_eq_getElem aa];exact congrArg some h1
  simp [Region.wanted,h,yielded,hj,h2]

theorem q3 {i:Nat}(j:Nat)(dj:Nat)(b:Bool)(h:(op ops i).guard=some (j,b):=by kernel_rfl)(hj:(ops[j]?).bind (·.dst)=some dj:=by kernel_rfl)(hn:dj<n:=by decide)(hv:f dj=.bool b:=by exact rfl):∀A,At n A f→Region.wanted (op ops i) (yielded ops A.tmps)=true:=guarded i j dj b h hj hn hv
theorem move (i:Nat)(x:Operand)(h:(op ops i).op=.move x)(hx:inB n x=true):∀A,At n A f→∀w,S w→(execOp A.eval (op ops i)).run P w=.ok (.value (ev f x)) w:=by
 intro A hA w _;rw [BigFrame.run_move x h,hA.ev x hx]

theorem q2 {i:Nat}(x:Operand)(h:(op ops i).op=.move x:=by kernel_rfl)(hx:inB n x=true:=by decide):∀A,At n A f→∀w,S w→(execOp A.eval (op ops i)).run P w=.ok (.value (ev f x)) w:=move i x h hx
theorem assign (i:Nat)(x:Operand)(h:(op ops i).op=.assign x)(hx:inB n x=true):∀A,At n A f→∀w,S w→(execOp A.eval (op ops i)).run P w=.ok (.value (ev f x)) w:=by
 intro A hA w _;rw [BigFrame.run_assign x h,hA.ev x hx]

theorem qd {i:Nat}(x:Operand)(h:(op ops i).op=.assign x:=by kernel_rfl)(hx:inB n x=true:=by decide):∀A,At n A f→∀w,S w→(execOp A.eval (op ops i)).run P w=.ok (.value (ev f x)) w:=assign i x h hx
theorem pick (i:Nat)(c x y:Operand)(h:(op ops i).op=.pick c x y)(hc:inB n c=true)(hx:inB n x=true)(hv:ev f c=.bool true) :
    ∀A,At n A f→∀w,S w→(execOp A.eval (op ops i)).run P w=.ok (.value (ev f x)) w:=by
  intro A hA w _;have e:execOp A.eval (op ops i)=(do pure (.value (if ← asBool (A.eval c) then A.eval x else A.eval y))):=by
   unfold execOp;rw [h]
  rw [e,hA.ev c hc,hv,hA.ev x hx];rfl

theorem qp {i:Nat}(c:Operand)(x:Operand)(y:Operand)(h:(op ops i).op=.pick c x y:=by kernel_rfl)(hc:inB n c=true:=by decide)(hx:inB n x=true:=by decide)(hv:ev f c=.bool true:=by exact rfl):∀A,At n A f→∀w,S w→(execOp A.eval (op ops i)).run P w=.ok (.value (ev f x)) w:=pick i c x y h hc hx hv
theorem conv (i:Nat)(src dst:TypeId)(x:Operand)(v:Value)(h:(op ops i).op=.convert src dst x)(hx:inB n x=true)(hv:∀w,S w→(convert src dst (ev f x)).run P w=.ok v w) :
    ∀A,At n A f→∀w,S w→(execOp A.eval (op ops i)).run P w=.ok (.value v) w:=by
  intro A hA w hS;have e:execOp A.eval (op ops i)=(do pure (.value (← convert src dst (A.eval x)))):=by
   unfold execOp;rw [h]
  rw [e,hA.ev x hx];simp [hv w hS]
theorem conv1 (i:Nat)(src dst:TypeId)(x:Operand)(v:Value)(h:(op ops i).op=.convert src dst x)(hx:inB n x=true)(hv:(convert src dst (ev f x)).run P w=.ok v w) :
    ∀A,At n A f→(execOp A.eval (op ops i)).run P w=.ok (.value v) w:=by
  intro A hA;have e:execOp A.eval (op ops i)=(do pure (.value (← convert src dst (A.eval x)))):=by
   unfold execOp;rw [h]
  rw [e,hA.ev x hx];simp [hv]

theorem q_48 {i:Nat}{v:Value}(src:TypeId)(dst:TypeId)(x:Operand)(hv:(convert src dst (ev f x)).run P w=.ok v w)(h:(op ops i).op=.convert src dst x:=by kernel_rfl)(hx:inB n x=true:=by decide):∀A,At n A f→(execOp A.eval (op ops i)).run P w=.ok (.value v) w:=conv1 i src dst x v h hx hv
theorem slice (i:Nat)(t:TypeId)(x:Operand)(lo hi:Option Operand)(v:Value)(h:(op ops i).op=.slice t x lo hi none)(hx:inB n x=true)(hl:lo.all (inB n)=true)(hh:hi.all (inB n)=true)
    (hv:∀w,(Instr.sliceAt t (ev f x) (lo.map (ev f)) (hi.map (ev f)) none).run P w=.ok v w):∀A,At n A f→∀w,S w→(execOp A.eval (op ops i)).run P w=.ok (.value v) w:=by
  intro A hA w _;have e1:lo.map A.eval=lo.map (ev f):=by
   cases lo with
   | none=>rfl
   | some y=>exact congrArg some (hA.ev y (by simpa using hl))
  have e2:hi.map A.eval=hi.map (ev f):=by
   cases hi with
   | none=>rfl
   | some y=>exact congrArg some (hA.ev y (by simpa using hh))
  have e:execOp A.eval (op ops i)=(do pure (.value (← Instr.sliceAt t (A.eval x) (lo.map A.eval) (hi.map A.eval) none))):=by
   unfold execOp;rw [h];rfl
  rw [e,hA.ev x hx,e1,e2];simp [hv w]

theorem qt {i:Nat}{v:Value}(t:TypeId)(x:Operand)(lo:Option Operand)(hi:Option Operand)(hv:∀w,(Instr.sliceAt t (ev f x) (lo.map (ev f)) (hi.map (ev f)) none).run P w=.ok v w)(h:(op ops i).op=.slice t x lo hi none:=by kernel_rfl)(hx:inB n x=true:=by decide)(hl:lo.all (inB n)=true:=by decide)(hh:hi.all (inB n)=true:=by decide):∀A,At n A f→∀w,S w→(execOp A.eval (op ops i)).run P w=.ok (.value v) w:=slice i t x lo hi v h hx hl hh hv
theorem neg (i:Nat)(t:TypeId)(x:Operand)(b:Bool)(h:(op ops i).op=.unOp .not t x)(hx:inB n x=true)(hv:ev f x=.bool b) :
    ∀A,At n A f→∀w,S w→(execOp A.eval (op ops i)).run P w=.ok (.value (.bool (!b))) w:=by
  intro A hA w _;have e:execOp A.eval (op ops i)=(do pure (.value (← Op.unary .not (A.eval x)))):=by
   unfold execOp;rw [h]
  rw [e,hA.ev x hx,hv];rfl

theorem qv {i:Nat}(t:TypeId)(x:Operand)(b:Bool)(h:(op ops i).op=.unOp .not t x:=by kernel_rfl)(hx:inB n x=true:=by decide)(hv:ev f x=.bool b:=by exact rfl):∀A,At n A f→∀w,S w→(execOp A.eval (op ops i)).run P w=.ok (.value (.bool (!b))) w:=neg i t x b h hx hv
theorem index (i:Nat)(t:TypeId)(x y:Operand)(v:Value)(h:(op ops i).op=.indexAddr t x y)(hx:inB n x=true)(hy:inB n y=true)(hv:∀w,(Instr.indexAt t (ev f x) (ev f y)).run P w=.ok v w) :
    ∀A,At n A f→∀w,S w→(execOp A.eval (op ops i)).run P w=.ok (.value v) w:=by
  intro A hA w _;have e:execOp A.eval (op ops i)=(do pure (.value (← Instr.indexAt t (A.eval x) (A.eval y)))):=by
   unfold execOp;rw [h]
  rw [e,hA.ev x hx,hA.ev y hy];simp [hv w]

theorem qa {i:Nat}{v:Value}(t:TypeId)(x:Operand)(y:Operand)(hv:∀w,(Instr.indexAt t (ev f x) (ev f y)).run P w=.ok v w)(h:(op ops i).op=.indexAddr t x y:=by kernel_rfl)(hx:inB n x=true:=by decide)(hy:inB n y=true:=by decide):∀A,At n A f→∀w,S w→(execOp A.eval (op ops i)).run P w=.ok (.value v) w:=index i t x y v h hx hy hv
theorem load (i:Nat)(t:TypeId)(x:Operand)(v:Value)(h:(op ops i).op=.load t x)(hx:inB n x=true)(hv:∀w,S w→(Instr.loadAt t (ev f x)).run P w=.ok v w) :
    ∀A,At n A f→∀w,S w→(execOp A.eval (op ops i)).run P w=.ok (.value v) w:=by
  intro A hA w hS;have e:execOp A.eval (op ops i)=(do pure (.value (← Instr.loadAt t (A.eval x)))):=by
   unfold execOp;rw [h]
  rw [e,hA.ev x hx];simp [hv w hS]

theorem q4 {i:Nat}{v:Value}(t:TypeId)(x:Operand)(hv:∀w,S w→(Instr.loadAt t (ev f x)).run P w=.ok v w)(h:(op ops i).op=.load t x:=by kernel_rfl)(hx:inB n x=true:=by decide):∀A,At n A f→∀w,S w→(execOp A.eval (op ops i)).run P w=.ok (.value v) w:=load i t x v h hx hv
theorem bin (i:Nat)(b:BinOp)(t t':TypeId)(x y:Operand)(v:Value)(h:(op ops i).op=.binOp b t x y t')(hx:inB n x=true)(hy:inB n y=true)
    (hv:∀w,(do eqGuard b t x y (ev f x) (ev f y);binOp b t (ev f x) (ev f y):Sem Value).run P w=.ok v w) :
    ∀A,At n A f→∀w,S w→(execOp A.eval (op ops i)).run P w=.ok (.value v) w:=by
  intro A hA w _;have e:execOp A.eval (op ops i)=(do pure (.value (← (do eqGuard b t x y (A.eval x) (A.eval y);binOp b t (A.eval x) (A.eval y))))):=by
   unfold execOp;rw [h]
  rw [e,hA.ev x hx,hA.ev y hy];rw [Sem.run_bind,hv w];rfl
theorem one (i:Nat)(t:TypeId)(x:Operand)(v:Value)(w':World)(h:(op ops i).op=.buildSlice t 1 #[(0,x)])(hx:inB n x=true)(hv:(Instr.buildSlice t 1 #[(0,ev f x)]).run P w=.ok v w') :
    ∀A,At n A f→(execOp A.eval (op ops i)).run P w=.ok (.value v) w':=by
  intro A hA;have e:execOp A.eval (op ops i)=(do pure (.value (← Instr.buildSlice t 1 (Array.map (fun (p:Nat × Operand)=>(p.1,A.eval p.2)) #[(0,x)])))):=by
   unfold execOp;rw [h]
  rw [e];simp [hA.ev x hx,hv]

theorem qu {i:Nat}{v:Value}{w':World}(t:TypeId)(x:Operand)(hv:(Instr.buildSlice t 1 #[(0,ev f x)]).run P w=.ok v w')(h:(op ops i).op=.buildSlice t 1 #[(0,x)]:=by kernel_rfl)(hx:inB n x=true:=by decide):∀A,At n A f→(execOp A.eval (op ops i)).run P w=.ok (.value v) w':=one i t x v w' h hx hv
theorem app (i:Nat)(t:TypeId)(x y:Operand)(v:Value)(w':World)(h:(op ops i).op=.call { callee:=.builtin .append,args:=#[x,y],argTypes:=#[t,t] })(hx:inB n x=true)(hy:inB n y=true)
    (hv:∀ty,(Builtin.append_ #[t,t] ty #[ev f x,ev f y]).run P w=.ok v w') :
    ∀A,At n A f→(execOp A.eval (op ops i)).run P w=.ok (.value v) w':=by
  intro A hA;unfold execOp;rw [h];simp [resolve,invoke,builtin,hA.ev x hx,hA.ev y hy,hv]

theorem qy {i:Nat}{v:Value}{w':World}(t:TypeId)(x:Operand)(y:Operand)(hv:∀ty,(Builtin.append_ #[t,t] ty #[ev f x,ev f y]).run P w=.ok v w')(h:(op ops i).op=.call { callee:=.builtin .append,args:=#[x,y],argTypes:=#[t,t] }:=by kernel_rfl)(hx:inB n x=true:=by decide)(hy:inB n y=true:=by decide):∀A,At n A f→(execOp A.eval (op ops i)).run P w=.ok (.value v) w':=app i t x y v w' h hx hy hv
theorem H.skip (i d:Nat)(hi:ops[i]? = some (op ops i))(hd:(op ops i).dst=some d)(hc:first ops listed i=true)
    (hw:∀A,At n A f→Region.wanted (op ops i) (yielded ops A.tmps)=false)(hS:S w)
    (h:H P ops S Q n fuel (listed.setIfInBounds i true) (upd f d undef) w):H P ops S Q n (fuel+1) listed f w:=by
  intro A hA;simp only [first,Bool.and_eq_true] at hc;refine wpAnyH_take (i:=i) (oi:=op ops i) (v:=undef) hi hc.1.1 hc.1.2 hc.2 (fun _ _ _ h=>h) (.inr ⟨hw A hA,rfl⟩) hS (h _ ?_);rw [hd];exact hA.put d undef

theorem q5 (i:Nat)(d:Nat)(hw:∀A,At n A f→Region.wanted (op ops i) (yielded ops A.tmps)=false)(hS:S w)(h:H P ops S Q n fuel (listed.setIfInBounds i true) (upd f d undef) w)(hi:ops[i]? = some (op ops i):=by kernel_rfl)(hd:(op ops i).dst=some d:=by kernel_rfl)(hc:first ops listed i=true:=by kernel_rfl):H P ops S Q n (fuel+1) listed f w:=H.skip i d hi hd hc hw hS h
theorem unwanted (i j dj:Nat)(b:Bool)(h:(op ops i).guard=some (j,b))(hj:(ops[j]?).bind (·.dst)=some dj)(hn:dj<n)(hv:f dj=.bool (!b)) :
    ∀A,At n A f→Region.wanted (op ops i) (yielded ops A.tmps)=false:=by
  intro A hA;have hs:=hA.1;have h1:=hA.2.2 dj hn;have h2:A.tmps[dj]? = some (.bool (!b)):=by
   rw [hv] at h1;(have aa:dj<A.tmps.size:=by omega);simp only [Array.getD,aa,dif_pos] at h1;rw [Array.getElem?_eq_getElem aa];exact congrArg some h1
  cases b <;> simp [Region.wanted,h,yielded,hj,h2]

theorem q7 {i:Nat}(j:Nat)(dj:Nat)(b:Bool)(h:(op ops i).guard=some (j,b):=by kernel_rfl)(hj:(ops[j]?).bind (·.dst)=some dj:=by kernel_rfl)(hn:dj<n:=by decide)(hv:f dj=.bool (!b):=by exact rfl):∀A,At n A f→Region.wanted (op ops i) (yielded ops A.tmps)=false:=unwanted i j dj b h hj hn hv
theorem pickF (i:Nat)(c x y:Operand)(h:(op ops i).op=.pick c x y)(hc:inB n c=true)(hy:inB n y=true)(hv:ev f c=.bool false) :
    ∀A,At n A f→∀w,S w→(execOp A.eval (op ops i)).run P w=.ok (.value (ev f y)) w:=by
  intro A hA w _;have e:execOp A.eval (op ops i)=(do pure (.value (if ← asBool (A.eval c) then A.eval x else A.eval y))):=by
   unfold execOp;rw [h]
  rw [e,hA.ev c hc,hv,hA.ev y hy];rfl

theorem qk {i:Nat}(c:Operand)(x:Operand)(y:Operand)(h:(op ops i).op=.pick c x y:=by kernel_rfl)(hc:inB n c=true:=by decide)(hy:inB n y=true:=by decide)(hv:ev f c=.bool false:=by exact rfl):∀A,At n A f→∀w,S w→(execOp A.eval (op ops i)).run P w=.ok (.value (ev f y)) w:=pickF i c x y h hc hy hv
theorem field (i:Nat)(t:TypeId)(x:Operand)(k:Nat)(v:Value)(h:(op ops i).op=.fieldAddr t x k)(hx:inB n x=true)(hv:∀w,(Instr.fieldAt t (ev f x) k).run P w=.ok v w) :
    ∀A,At n A f→∀w,S w→(execOp A.eval (op ops i)).run P w=.ok (.value v) w:=by
  intro A hA w _;have e:execOp A.eval (op ops i)=(do pure (.value (← Instr.fieldAt t (A.eval x) k))):=by
   unfold execOp;rw [h]
  rw [e,hA.ev x hx];simp [hv w]

theorem q6 {i:Nat}{v:Value}(t:TypeId)(x:Operand)(k:Nat)(hv:∀w,(Instr.fieldAt t (ev f x) k).run P w=.ok v w)(h:(op ops i).op=.fieldAddr t x k:=by kernel_rfl)(hx:inB n x=true:=by decide):∀A,At n A f→∀w,S w→(execOp A.eval (op ops i)).run P w=.ok (.value v) w:=field i t x k v h hx hv
theorem nilc (i:Nat)(x:Operand)(a:Addr)(h:(op ops i).op=.nilCheck x)(hx:inB n x=true)(hv:ev f x=.pointer (some a)) :
    ∀A,At n A f→∀w,S w→(execOp A.eval (op ops i)).run P w=.ok (.value (.pointer (some a))) w:=by
  intro A hA w _;unfold execOp;rw [h];simp only [hA.ev x hx,hv];rfl

theorem q_37 {i:Nat}{a:Addr}(x:Operand)(h:(op ops i).op=.nilCheck x:=by kernel_rfl)(hx:inB n x=true:=by decide)(hv:ev f x=.pointer (some a):=by exact rfl):∀A,At n A f→∀w,S w→(execOp A.eval (op ops i)).run P w=.ok (.value (.pointer (some a))) w:=nilc i x a h hx hv
theorem lenOf (i:Nat)(t:TypeId)(x:Operand)(v:Value)(h:(op ops i).op=.call { callee:=.builtin .len,args:=#[x],argTypes:=#[t] })(hx:inB n x=true)
    (hv:∀ty w,(Builtin.len_ #[t] ty #[ev f x]).run P w=.ok v w):∀A,At n A f→∀w,S w→(execOp A.eval (op ops i)).run P w=.ok (.value v) w:=by
  intro A hA w _;unfold execOp;rw [h];simp [resolve,invoke,builtin,hA.ev x hx,hv]

theorem qr {i:Nat}{v:Value}(t:TypeId)(x:Operand)(hv:∀ty w,(Builtin.len_ #[t] ty #[ev f x]).run P w=.ok v w)(h:(op ops i).op=.call { callee:=.builtin .len,args:=#[x],argTypes:=#[t] }:=by kernel_rfl)(hx:inB n x=true:=by decide):∀A,At n A f→∀w,S w→(execOp A.eval (op ops i)).run P w=.ok (.value v) w:=lenOf i t x v h hx hv
theorem neqStrs (i:Nat)(t t':TypeId)(x y:Operand)(a b:ByteArray)(h:(op ops i).op=.binOp .neq t x y t')(hx:inB n x=true)(hy:inB n y=true)(h1:ev f x=.string a)(h2:ev f y=.string b) :
    ∀A,At n A f→∀w,S w→(execOp A.eval (op ops i)).run P w=.ok (.value (.bool (!(a.toList == b.toList)))) w:=by
  intro A hA w _;have e:execOp A.eval (op ops i)=(do pure (.value (← (do eqGuard .neq t x y (A.eval x) (A.eval y);binOp .neq t (A.eval x) (A.eval y))))):=by
   unfold execOp;rw [h]
  rw [e,hA.ev x hx,hA.ev y hy,h1,h2];simp [go_sem,eqGuard]
theorem binV (i:Nat)(b:BinOp)(t t':TypeId)(x y:Operand)(vx vy v:Value)(h:(op ops i).op=.binOp b t x y t')(hx:inB n x=true)(hy:inB n y=true)(h1:ev f x=vx)(h2:ev f y=vy)
    (hv:∀w,(do eqGuard b t x y vx vy;binOp b t vx vy:Sem Value).run P w=.ok v w) :
    ∀A,At n A f→∀w,S w→(execOp A.eval (op ops i)).run P w=.ok (.value v) w:=by
  subst h1;subst h2;exact bin i b t t' x y v h hx hy hv

theorem qc {i:Nat}{v:Value}(b:BinOp)(t:TypeId)(t':TypeId)(x:Operand)(y:Operand)(vx:Value)(vy:Value)(hv:∀w,(do eqGuard b t x y vx vy;binOp b t vx vy:Sem Value).run P w=.ok v w)(h:(op ops i).op=.binOp b t x y t':=by kernel_rfl)(hx:inB n x=true:=by decide)(hy:inB n y=true:=by decide)(h1:ev f x=vx:=by exact rfl)(h2:ev f y=vy:=by exact rfl):∀A,At n A f→∀w,S w→(execOp A.eval (op ops i)).run P w=.ok (.value v) w:=binV i b t t' x y vx vy v h hx hy h1 h2 hv
theorem convV (i:Nat)(src dst:TypeId)(x:Operand)(vx v:Value)(h:(op ops i).op=.convert src dst x)(hx:inB n x=true)(h1:ev f x=vx)(hv:∀w,S w→(convert src dst vx).run P w=.ok v w) :
    ∀A,At n A f→∀w,S w→(execOp A.eval (op ops i)).run P w=.ok (.value v) w:=by
  subst h1;exact conv i src dst x v h hx hv
theorem q_47 {i:Nat}{v:Value}(src:TypeId)(dst:TypeId)(x:Operand)(vx:Value)(hv:∀w,S w→(convert src dst vx).run P w=.ok v w)(h:(op ops i).op=.convert src dst x:=by kernel_rfl)(hx:inB n x=true:=by decide)(h1:ev f x=vx:=by exact rfl):∀A,At n A f→∀w,S w→(execOp A.eval (op ops i)).run P w=.ok (.value v) w:=convV i src dst x vx v h hx h1 hv
end
theorem enters {P : Program} {fn : Func} (hf : P.funcs[g]? = some fn) (aa : (fn.name == "runtime.NumGoroutine") = false) (hb : fn.body.isNone = false) : ∀ args w, (callFunc g args).run P w = .ok (.enter g args) w := by
 intro args w;unfold callFunc;rw [Sem.run_bind,run_program];simp only [Result.andThen,hf,aa,hb];rfl

theorem qi {P : Program} {g : Nat} {fn : Func} (hf : P.funcs[g]? = some fn) (hname : (fn.name == "runtime.NumGoroutine") = false := by kernel_rfl) (hb : fn.body.isNone = false := by kernel_rfl) : ∀ args w, (callFunc g args).run P w = .ok (.enter g args) w := enters hf hname hb
theorem At.same {f:Nat→Value}(h:At n A f){d:Nat}(hv:f d=v):At n A (upd f d v):=by
 refine⟨h.1,h.2.1,fun e he=>?_⟩;rw [h.2.2 e he];unfold upd;split
 · rename_i hed;rw [hed,hv]
 · rfl
def find (id:Nat):Code→Array Oper
  | .region k ops _=>if k=id then ops else #[]
  | .seq a b=>find id a ++ find id b
  | .cond _ a b=>find id a ++ find id b
  | .block _ a=>find id a
  | .loop a=>find id a
  | .scope a=>find id a
  | _=>#[]

abbrev fd (r:Nat)(f:Func):Array Oper:=find r (f.body.getD .skip)
abbrev rg (P:Program)(r:Nat)(f:Func)(Q:Exit → Act → World → Prop)(A:Act)(w:World):Prop:=(Code.region r (fd r f) true).wp P Q A w
theorem region_is {P:Program}{Q:Exit→Act→World→Prop}{id:Nat}{l:Array Oper}{b:Bool}(h:l=ops)(hh:(Code.region id ops b).wp P Q A w):(Code.region id l b).wp P Q A w:=by
 subst h;exact hh

theorem q9 {P:Program}{Q:Exit→Act→World→Prop}{A:Act}{w:World}{id:Nat}{l ops:Array Oper}{b:Bool}(hh:(Code.region id ops b).wp P Q A w)(h:l=ops:=by kernel_rfl):(Code.region id l b).wp P Q A w:=region_is h hh
end Pl
namespace Pl
section
variable {P : Program} {ops : Array Oper} {S : World → Prop} {Q : Exit → Act → World → Prop} {n fuel : Nat} {listed : Array Bool} {f : Nat → Value} {w : World}
def HOp (P:Program) (ops:Array Oper) (S:World→Prop) (Q:Exit→Act→World→Prop) (n fuel:Nat) (listed:Array Bool) (f:Nat→Value) (w:World) (i:Nat):Prop:=
  ∀A,At n A f→wpOp P ops (NoPanic Q) i (fun a' w'=>S w'∧wpAnyH P .any ops (NoPanic Q) S fuel (listed.setIfInBounds i true) a' w') A w
theorem H.one (i:Nat)(hr:Region.ready .any ops listed=[i])(h:HOp P ops S Q n fuel listed f w i):H P ops S Q n (fuel+1) listed f w:=by
 intro A hA;refine wpAnyH_all hr (by simp) ?_;intro j hj;(obtain rfl:j=i:=by simpa using hj);exact h A hA

theorem q_45 (i:Nat)(h:HOp P ops S Q n fuel listed f w i)(hr:Region.ready .any ops listed=[i]:=by kernel_rfl):H P ops S Q n (fuel+1) listed f w:=H.one i hr h
theorem H.two (i k:Nat)(hr:Region.ready .any ops listed=[i,k])(h:HOp P ops S Q n fuel listed f w i)(h2:HOp P ops S Q n fuel listed f w k):H P ops S Q n (fuel+1) listed f w:=by
 intro A hA;refine wpAnyH_all hr (by simp) ?_;intro j hj;(have:j=i∨j=k:=by simpa using hj);rcases this with rfl | rfl
 · exact h A hA
 · exact h2 A hA

theorem qs (i:Nat)(k:Nat)(h:HOp P ops S Q n fuel listed f w i)(h2:HOp P ops S Q n fuel listed f w k)(hr:Region.ready .any ops listed=[i,k]:=by kernel_rfl):H P ops S Q n (fuel+1) listed f w:=H.two i k hr h h2
theorem HOp.value (i d:Nat)(v:Value)(w':World)(hi:ops[i]? = some (op ops i))(hd:(op ops i).dst=some d)(hg:(op ops i).guard=none)
    (hy:∀A,At n A f→(execOp A.eval (op ops i)).run P w=.ok (.value v) w')(hS:S w')
    (h:H P ops S Q n fuel (listed.setIfInBounds i true) (upd f d v) w'):HOp P ops S Q n fuel listed f w i:=by
  intro A hA;unfold wpOp;rw [hi];simp only [free (n:=n) (f:=f) i hg A hA,if_true];refine .inl ?_;unfold Oper.wp;rw [hy A hA];refine⟨hS,h _ ?_⟩;rw [hd];exact hA.put d v

theorem qj (i:Nat)(d:Nat)(v:Value)(w':World)(hy:∀A,At n A f→(execOp A.eval (op ops i)).run P w=.ok (.value v) w')(hS:S w')(h:H P ops S Q n fuel (listed.setIfInBounds i true) (upd f d v) w')(hi:ops[i]? = some (op ops i):=by kernel_rfl)(hd:(op ops i).dst=some d:=by kernel_rfl)(hg:(op ops i).guard=none:=by kernel_rfl):HOp P ops S Q n fuel listed f w i:=HOp.value i d v w' hi hd hg hy hS h
theorem HOp.call (i d g:Nat)(xs:List Operand)(ts:Array TypeId)(hi:ops[i]? = some (op ops i))(hd:(op ops i).dst=some d)(hg:(op ops i).guard=none)
    (ad:(op ops i).op=.call { callee:=.value (.func g),args:=xs.toArray,argTypes:=ts })(hx:xs.all (inB n)=true)
    (ac:∀args w,(callFunc g args).run P w=.ok (.enter g args) w)
    (h:Calls P g (xs.map (ev f)).toArray w fun e w'=>∃v,e=.returned v∧S w'∧H P ops S Q n fuel (listed.setIfInBounds i true) (upd f d v) w') :
    HOp P ops S Q n fuel listed f w i:=by
  intro A hA;unfold wpOp;rw [hi];simp only [free (n:=n) (f:=f) i hg A hA,if_true];refine .inl ?_;have aa:#[] ++ xs.toArray.map A.eval ++ #[]=(xs.map (ev f)).toArray:=by
   simp only [Array.empty_append,Array.append_empty,List.map_toArray];congr 1;apply List.map_congr_left;intro x ae;exact hA.ev x (List.all_eq_true.1 hx x ae)
  have ab:(execOp A.eval (op ops i)).run P w=.ok (.enter g (xs.map (ev f)).toArray) w:=by
   have e:execOp A.eval (op ops i)=callFunc g (#[] ++ xs.toArray.map A.eval ++ #[]):=by
    unfold execOp;rw [ad];rfl
   rw [e,aa];exact ac _ _
  unfold Oper.wp;rw [ab];refine h.mono ?_;rintro e w' ⟨v,rfl,hS,hh⟩;refine⟨hS,hh _ ?_⟩;rw [hd];exact hA.put d v

theorem q_36 (i:Nat)(d:Nat)(g:Nat)(xs:List Operand)(ts:Array TypeId)(hfn:∀args w,(callFunc g args).run P w=.ok (.enter g args) w)(h:Calls P g (xs.map (ev f)).toArray w fun e w'=>∃v,e=.returned v∧S w'∧H P ops S Q n fuel (listed.setIfInBounds i true) (upd f d v) w')(hi:ops[i]? = some (op ops i):=by kernel_rfl)(hd:(op ops i).dst=some d:=by kernel_rfl)(hg:(op ops i).guard=none:=by kernel_rfl)(hop:(op ops i).op=.call { callee:=.value (.func g),args:=xs.toArray,argTypes:=ts }:=by kernel_rfl)(hx:xs.all (inB n)=true:=by decide):HOp P ops S Q n fuel listed f w i:=HOp.call i d g xs ts hi hd hg hop hx hfn h
theorem load1 (i:Nat)(t:TypeId)(x:Operand)(v:Value)(h:(op ops i).op=.load t x)(hx:inB n x=true)(hv:(Instr.loadAt t (ev f x)).run P w=.ok v w) :
    ∀A,At n A f→(execOp A.eval (op ops i)).run P w=.ok (.value v) w:=by
  intro A hA;have e:execOp A.eval (op ops i)=(do pure (.value (← Instr.loadAt t (A.eval x)))):=by
   unfold execOp;rw [h]
  rw [e,hA.ev x hx];simp [hv]

theorem q_49 {i:Nat}{v:Value}(t:TypeId)(x:Operand)(hv:(Instr.loadAt t (ev f x)).run P w=.ok v w)(h:(op ops i).op=.load t x:=by kernel_rfl)(hx:inB n x=true:=by decide):∀A,At n A f→(execOp A.eval (op ops i)).run P w=.ok (.value v) w:=load1 i t x v h hx hv
theorem appT (i:Nat)(t ty:TypeId)(x y:Operand)(v:Value)(w':World)(h:(op ops i).op=.call { callee:=.builtin .append,args:=#[x,y],argTypes:=#[t,t] })(ht:(op ops i).type=ty)(hx:inB n x=true)(hy:inB n y=true)
    (hv:(Builtin.append_ #[t,t] ty #[ev f x,ev f y]).run P w=.ok v w') :
    ∀A,At n A f→(execOp A.eval (op ops i)).run P w=.ok (.value v) w':=by
  intro A hA;unfold execOp;rw [h];simp [resolve,invoke,builtin,hA.ev x hx,hA.ev y hy,ht,hv]

theorem q_50 {i:Nat}{v:Value}{w':World}(t:TypeId)(ty:TypeId)(x:Operand)(y:Operand)(hv:(Builtin.append_ #[t,t] ty #[ev f x,ev f y]).run P w=.ok v w')(h:(op ops i).op=.call { callee:=.builtin .append,args:=#[x,y],argTypes:=#[t,t] }:=by kernel_rfl)(ht:(op ops i).type=ty:=by kernel_rfl)(hx:inB n x=true:=by decide)(hy:inB n y=true:=by decide):∀A,At n A f→(execOp A.eval (op ops i)).run P w=.ok (.value v) w':=appT i t ty x y v w' h ht hx hy hv
theorem H.store (i:Nat)(w':World)(hi:ops[i]? = some (op ops i))(hd:(op ops i).dst=none)(hr:Region.ready .any ops listed=[i])
    (hw:∀A,At n A f→Region.wanted (op ops i) (yielded ops A.tmps)=true)
    (hy:∀A,At n A f→(execOp A.eval (op ops i)).run P w=.ok .skip w')(hS:S w')
    (h:H P ops S Q n fuel (listed.setIfInBounds i true) f w'):H P ops S Q n (fuel+1) listed f w:=by
  intro A hA;refine wpAnyH_all hr (by simp) ?_;intro j hj;(obtain rfl:j=i:=by simpa using hj);unfold wpOp;rw [hi];simp only [hw A hA,if_true];refine .inl ?_;unfold Oper.wp;rw [hy A hA];refine⟨hS,?_⟩;rw [hd];exact h A hA

theorem ql (i:Nat)(w':World)(hw:∀A,At n A f→Region.wanted (op ops i) (yielded ops A.tmps)=true)(hy:∀A,At n A f→(execOp A.eval (op ops i)).run P w=.ok .skip w')(hS:S w')(h:H P ops S Q n fuel (listed.setIfInBounds i true) f w')(hi:ops[i]? = some (op ops i):=by kernel_rfl)(hd:(op ops i).dst=none:=by kernel_rfl)(hr:Region.ready .any ops listed=[i]:=by kernel_rfl):H P ops S Q n (fuel+1) listed f w:=H.store i w' hi hd hr hw hy hS h
theorem storeV (i:Nat)(t:TypeId)(x y:Operand)(w':World)(h:(op ops i).op=.store t x y)(hx:inB n x=true)(hy:inB n y=true)(hv:(Instr.storeAt t (ev f x) (ev f y)).run P w=.ok () w') :
    ∀A,At n A f→(execOp A.eval (op ops i)).run P w=.ok .skip w':=by
  intro A hA;have e:execOp A.eval (op ops i)=(do Instr.storeAt t (A.eval x) (A.eval y);pure .skip):=by
   unfold execOp;rw [h]
  rw [e,hA.ev x hx,hA.ev y hy];simp [hv]

theorem qm {i:Nat}{w':World}(t:TypeId)(x:Operand)(y:Operand)(hv:(Instr.storeAt t (ev f x) (ev f y)).run P w=.ok () w')(h:(op ops i).op=.store t x y:=by kernel_rfl)(hx:inB n x=true:=by decide)(hy:inB n y=true:=by decide):∀A,At n A f→(execOp A.eval (op ops i)).run P w=.ok .skip w':=storeV i t x y w' h hx hy hv
theorem zero (i:Nat)(t:TypeId)(v:Value)(w':World)(h:(op ops i).op=.buildSlice t 0 #[])(hv:(Instr.buildSlice t 0 #[]).run P w=.ok v w') :
    ∀A,At n A f→(execOp A.eval (op ops i)).run P w=.ok (.value v) w':=by
  intro A hA;have e:execOp A.eval (op ops i)=(do pure (.value (← Instr.buildSlice t 0 (Array.map (fun (p:Nat × Operand)=>(p.1,A.eval p.2)) #[])))):=by
   unfold execOp;rw [h]
  rw [e];simp [hv]
end
theorem upd_comm (f:Nat→Value)(d e:Nat)(v u:Value)(h:d≠e):upd (upd f d v) e u=upd (upd f e u) d v:=by
 funext x;unfold upd;by_cases h1:x=d
 · subst h1;simp [h]
 · simp [h1]
theorem qg {f:Nat→Value}{v:Value}{u:Value}(d:Nat)(e:Nat)(h:d≠e:=by decide):upd (upd f d v) e u=upd (upd f e u) d v:=upd_comm f d e v u h
end Pl
theorem Zac {c:World}(h:Bl a b)(k:Bl b c):Bl a c:=h.trans (k.mono h.size)
structure Sl where
  a:Option Addr
  len:Nat
  cap:Nat
def Sl.val (s:Sl):Value:=.slice s.a s.len s.cap
def Sl.nil:Sl:=⟨none,0,0⟩
theorem ZhM (w:World)(a:Addr)(u:Value):(w.setCell a u).heap.size=w.heap.size:=by simp [World.setCell]
structure Frm (F:Nat→Prop) (w w':World):Prop where
  os:w'.os=w.os
  tape:w'.tape=w.tape
  output:w'.output=w.output
  size:w.heap.size≤w'.heap.size
  block:∀k,k<w.heap.size→¬F k→w'.heap[k]? = w.heap[k]?
theorem Frm.refl (F:Nat→Prop)(w:World):Frm F w w:=⟨rfl,rfl,rfl,Nat.le_refl _,fun _ _ _=>rfl⟩
theorem Frm.ofBelow {F:Nat→Prop}(h:Bl w w'):Frm F w w':=⟨h.os,h.tape,h.output,h.size,fun k hk _=>h.block k hk⟩
theorem Frm.trans {F G:Nat→Prop}{c:World}(h:Frm F a b)(k:Frm G b c)(hG:∀i,i<a.heap.size→G i→F i):Frm F a c:=
 ⟨k.os.trans h.os,k.tape.trans h.tape,k.output.trans h.output,Nat.le_trans h.size k.size,fun i hi hF=>(k.block i (Nat.lt_of_lt_of_le hi h.size) (fun g=>hF (hG i hi g))).trans (h.block i hi hF)⟩
theorem Frm.mono {F G:Nat→Prop}(h:Frm F a b)(hG:∀i,i<a.heap.size→F i→G i):Frm G a b:=
 ⟨h.os,h.tape,h.output,h.size,fun i hi hF=>h.block i hi (fun f=>hF (hG i hi f))⟩
theorem Frm.below {F:Nat→Prop}(h:Frm F w w')(hB:B≤w.heap.size)(hF:∀k,F k→B≤k):Below B w w':=
 ⟨h.os,h.tape,h.output,h.size,fun k hk=>h.block k (Nat.lt_of_lt_of_le hk hB) (fun f=>by have:=hF k f;omega)⟩
theorem Frm.setCell {F:Nat→Prop}(h:Frm F a w){p:Addr}(hp:F p.block)(u:Value):Frm F a (w.setCell p u):=
 ⟨h.os,h.tape,h.output,by have:=h.size;simpa [World.setCell] using this,fun k hk hF=>(Below.heap_setCell w p u k (fun e=>hF (by rw [e];exact hp))).trans (h.block k hk hF)⟩
theorem Frm.drew {F:Nat→Prop}(h:Frm F a w):Frm F a w.drew:=⟨h.os,h.tape,h.output,h.size,h.block⟩
def Sl.blk (s:Sl):Option Nat:=s.a.map Addr.block
def Own (e:TypeId) (z:Nat) (w:World) (s:Sl) (vs:List Value):Prop:=
  vs.length=s.len*z∧((s=Sl.nil∧vs=[])∨∃g off cur,s.a=some ⟨g,off,none⟩∧w.heap[g]? = some (.cells cur e (0,0))∧off+s.cap*z≤cur.size∧s.len≤s.cap∧s.cap≤maxLen∧(cur.toList.drop off).take (s.len*z)=vs)
theorem Own.nil (e:TypeId)(z:Nat)(w:World):Own e z w Sl.nil []:=⟨by simp [Sl.nil],.inl ⟨rfl,rfl⟩⟩
theorem Own.frame {s:Sl}(h:Own e z w s vs)(hk:∀k,s.blk=some k→w'.heap[k]? = w.heap[k]?):Own e z w' s vs:=by
 refine⟨h.1,?_⟩;rcases h.2 with h0 | ⟨g,off,cur,ha,hg,r⟩
 · exact .inl h0
 · exact .inr ⟨g,off,cur,ha,(hk g (by rw [Sl.blk,ha];rfl)).trans hg,r⟩
theorem Own.lt {s:Sl}(h:Own e z w s vs)(hk:s.blk=some k):k<w.heap.size:=by
 rcases h.2 with ⟨h0,_⟩ | ⟨g,off,cur,ha,hg,r⟩
 · rw [h0] at hk;cases hk
 · rw [Sl.blk,ha] at hk;cases hk;exact(Array.getElem?_eq_some_iff.1 hg).1
theorem Own.kind {s:Sl}(h:Own e z w s vs)(hk:s.blk=some k):∃cur,w.heap[k]? = some (.cells cur e (0,0)):=by
 rcases h.2 with ⟨h0,_⟩ | ⟨g,off,cur,ha,hg,r⟩
 · rw [h0] at hk;cases hk
 · rw [Sl.blk,ha] at hk;cases hk;exact⟨cur,hg⟩
theorem Own.nilcap {s:Sl}(h:Own e z w s vs)(ha:s.a=none):s.cap=0:=by
 rcases h.2 with ⟨h0,_⟩ | ⟨g,off,cur,ha',_⟩
 · rw [h0];rfl
 · rw [ha'] at ha;cases ha
theorem Own.lecap {s:Sl}(h:Own e z w s vs):s.len≤s.cap:=by
 rcases h.2 with ⟨h0,_⟩ | ⟨g,off,cur,ha',_,_,h2,_⟩
 · rw [h0];exact Nat.le_refl _
 · exact h2
theorem Own.capmax {s:Sl}(h:Own e z w s vs):s.cap≤maxLen:=by
 rcases h.2 with ⟨h0,_⟩ | ⟨g,off,cur,ha',_,_,_,h2,_⟩
 · rw [h0];exact Nat.zero_le _
 · exact h2
theorem Own.cell {s:Sl}(h:Own e z w s vs){a:Addr}(ha:s.a=some a)(j:Nat)(u:Value)(hj:vs[j]? = some u):w.cell? (a.add j)=some u:=by
 rcases h.2 with ⟨h0,_⟩ | ⟨g,off,cur,ha',hg,_,_,_,ht⟩
 · rw [h0] at ha;cases ha
 · rw [ha'] at ha;cases ha;rw [Addr.add_lit,cell_of_row w g _ cur e (0,0) hg];rw [← ht,List.getElem?_take,List.getElem?_drop] at hj;split at hj
   · simpa using hj
   · cases hj
theorem Zqp (l vs:List Value)(o n:Nat)(hl:o+n+vs.length≤l.length):((Zcn l.toArray (o+n) vs).toList.drop o).take (n+vs.length)=(l.drop o).take n ++ vs:=by
 have h:=ZcN vs l.toArray (o+n) (by simpa using hl);have e:((Zcn l.toArray (o+n) vs).toList.drop o).take (n+vs.length)=((Zcn l.toArray (o+n) vs).toList.take (o+n+vs.length)).drop o:=by
  rw [List.drop_take];congr 1;omega
 rw [e,h,List.drop_append_of_le_length (by simp;omega)];congr 1;simp [List.drop_take]
theorem Zaz {S:TypeId}{zv:Value}{bytes:Nat}(hu:prog.underlying S=some (.slice e))(hi:(prog.info? e).map (fun i=>(i.zero,i.size,i.bytes))=some (some zv,z,bytes))(hzc:zv.cells.size=z)(hby:bytes≤1000)
    (w:World)(s:Sl)(us:List Value)(hown:Own e z w s us)(h1u:∀u∈us,u.oneCell'=true)(x:Value)(n:Nat)(vs:List Value)(hs:Src prog z S x n vs w)(hlen:s.len+n≤1000000)(ty:TypeId) :
    ∃s' w',(Builtin.append_ #[S,S] ty #[s.val,x]).run prog w=.ok s'.val w'∧Own e z w' s' (us ++ vs)∧s'.len=s.len+n∧Frm (fun k=>s.blk=some k) w w'∧(s'.blk=s.blk∨(s'.blk=some w.heap.size∧w.heap.size<w'.heap.size)):=by
  obtain⟨i0,hi,hz0,hz1,hz2⟩:=info_parts hi
  have hvl:=hs.newsLen
  have hul:=hown.1
  rw [← hz1] at hs
  by_cases hr:s.len+n≤s.cap
  · rcases hown.2 with ⟨h0,hv⟩ | ⟨g,off,cur,ha,hg,hoc,hlc,hcm,ht⟩
    · subst h0;subst hv
      have hn0:n=0:=by simpa [Sl.nil] using hr
      subst hn0
      have hv0:vs=[]:=List.eq_nil_of_length_eq_zero (by rw [hvl];simp)
      subst hv0
      refine⟨Sl.nil,w,?_,Own.nil e z w,rfl,Frm.refl _ _,.inl rfl⟩
      simp [Builtin.append_,Sl.val,Sl.nil,run_underlying hu,sizeOf,typeInfo,hi,hs.len,hs.cells]
    · have hcell:∀j,j<vs.length→(w.cell? ⟨g,off+s.len*i0.size+j,none⟩).isSome=true:=by
       intro j hj
       have hle:off+s.len*z+j<cur.size:=by
        have:s.len*z+n*z≤s.cap*z:=by rw [← Nat.add_mul];exact Nat.mul_le_mul_right z hr
        omega
       rw [hz1,cell_of_row w g _ cur e (0,0) hg]
       simpa using hle
      have hfz:∀j,j<vs.length→w.frozen? ⟨g,off+s.len*i0.size+j,none⟩=false:=fun j _=>frozen_of_row w g _ cur e hg
      have hrun:=run_append_room_src (P:=prog) w S S ty e i0 hu hi g off s.len s.cap x n vs hs hr hcell hfz
      refine⟨⟨s.a,s.len+n,s.cap⟩,_,by unfold Sl.val;simp only [ha];exact hrun,?_,rfl,⟨?_,?_,?_,?_,?_⟩,.inl rfl⟩
      · refine⟨by rw [List.length_append,hul,hvl];show _=(s.len+n)*z;rw [Nat.add_mul],.inr ⟨g,off,_,ha,Zco g e vs _ cur w hg,by rw [ZcM];exact hoc,hr,hcm,?_⟩⟩
        have hle:off+s.len*z+vs.length≤cur.toList.length:=by
         have:s.len*z+n*z≤s.cap*z:=by rw [← Nat.add_mul];exact Nat.mul_le_mul_right z hr
         simp only [Array.length_toList]
         omega
        have:=Zqp cur.toList vs off (s.len*z) hle
        rw [Array.toArray_toList,ht,hvl] at this
        rw [hz1]
        show ((Zcn cur (off+s.len*z) vs).toList.drop off).take ((s.len+n)*z)=_
        rw [Nat.add_mul]
        exact this
      · exact(ZaF (B:=0) (Nat.zero_le g) vs _ w w (Below.refl _ _)).os
      · exact(ZaF (B:=0) (Nat.zero_le g) vs _ w w (Below.refl _ _)).tape
      · exact(ZaF (B:=0) (Nat.zero_le g) vs _ w w (Below.refl _ _)).output
      · exact(ZaF (B:=0) (Nat.zero_le g) vs _ w w (Below.refl _ _)).size
      · intro k _ hF
        refine Zb9 g k (fun e=>hF ?_) vs _ w
        rw [Sl.blk,ha,e];rfl
  · have hold:(Builtin.firstCells i0.size s.len (.slice s.a s.len s.cap)).run prog w.drew=.ok us.toArray w.drew:=by
     rw [hz1]
     rcases hown.2 with ⟨h0,hv⟩ | ⟨g,off,cur,ha,hg,hoc,hlc,hcm,ht⟩
     · subst h0;subst hv
       exact run_firstCells_none w.drew z 0 0 0
     · rw [ha]
       exact run_firstCells_some w.drew z s.len ⟨g,off,none⟩ s.len s.cap us hul (fun j u hj=>by simpa using hown.cell ha j u hj)
    have hcl:=hown.lecap
    have hrun:=run_append_grow_src (P:=prog) w S S ty e i0 zv hu hi hz0 s.a s.len s.cap us hold x n vs hs (by omega) (by omega)
     (growslice_fits (by omega) (by rw [hz2];have:(s.len+n)*bytes≤1000000*1000:=Nat.mul_le_mul hlen hby;omega))
    have hge:=grownCap_ge w (s.len+n) s.cap e
    have hcm:grownCap w (s.len+n) s.cap e≤maxLen:=grownCap_le_maxLen w _ s.cap e (by unfold maxLen;omega)
    refine⟨⟨some ⟨w.heap.size,0,none⟩,s.len+n,grownCap w (s.len+n) s.cap e⟩,_,hrun,?_,rfl,Frm.ofBelow (((Below.refl _ w).drew).alloc (Nat.le_refl _) _),.inr ⟨rfl,?_⟩⟩
    · refine⟨by rw [List.length_append,hul,hvl];show _=(s.len+n)*z;rw [Nat.add_mul],.inr ⟨w.heap.size,0,_,rfl,heap_alloc_new w.drew _,?_,hge,hcm,?_⟩⟩
      · simp only [Array.size_append,List.size_toArray,size_zeroCells,List.length_append,hul,hvl,hzc,Nat.zero_add]
        rw [← Nat.add_mul,← Nat.add_mul]
        exact Nat.mul_le_mul_right z (by omega)
      · rw [List.drop_zero,Array.toList_append]
        have hl:(us ++ vs).length=(s.len+n)*z:=by rw [List.length_append,hul,hvl,Nat.add_mul]
        show List.take ((s.len+n)*z) _=_
        rw [← hl]
        exact List.take_left
    · show w.heap.size<(w.heap.push _).size
      simp
section
variable {ops : Array Oper} {rest : List Oper} {o : Oper} {a : Act} {Q : Exit → Act → World → Prop}
theorem Zc5 (w:World)(ab:o.guard=none)(v:Value)(w':World)(aa:(execOp a.eval o).run prog w=.ok (.value v) w')(hK:wpList prog ops Q rest (a.put o.dst v) w'):wpList prog ops Q (o :: rest) a w:=by
 refine wpList_plain ab fun K hK'=>?_;unfold Oper.wp;rw [aa];exact hK' _ _ hK
theorem Zah (w:World)(ab:o.guard=none)(t:TypeId)(x:Operand)(ho:o.op=.load t x)(p v:Value)(hp:a.eval x=p)(aa:(Instr.loadAt t p).run prog w=.ok v w)(hK:wpList prog ops Q rest (a.put o.dst v) w):wpList prog ops Q (o :: rest) a w:=by
 refine Zc5 w ab v w ?_ hK;have e:execOp a.eval o=(do pure (.value (← Instr.loadAt t (a.eval x)))):=by
  unfold execOp;rw [ho]
 rw [e,hp];simp [aa]
theorem Zad (w:World)(ab:o.guard=none)(hd:o.dst=none)(t:TypeId)(x y:Operand)(ho:o.op=.store t x y)(p v:Value)(hp:a.eval x=p)(hv:a.eval y=v)(w':World)(aa:(Instr.storeAt t p v).run prog w=.ok () w')(hK:wpList prog ops Q rest a w'):wpList prog ops Q (o :: rest) a w:=by
 refine wpList_plain ab fun K hK'=>?_;have e:(execOp a.eval o).run prog w=.ok .skip w':=by
  have e:execOp a.eval o=(do Instr.storeAt t (a.eval x) (a.eval y);pure .skip):=by
   unfold execOp;rw [ho]
  rw [e,hp,hv];simp [aa]
 unfold Oper.wp;rw [e];obtain⟨dst,op,ty,pos,aft,gd⟩:=o;simp only at hd;subst hd;exact hK' _ _ hK
end
structure Lf where
  itl:List Int
  slots:List (List Nat)
def Lf.zero:Lf:=⟨[],[]⟩
def sl (s:List (List Nat)) (i:Nat):List Nat:=s.getD i []
theorem Zek {s:List (List Nat)}(h:i<s.length):sl s i=s[i]:=by simp [sl,List.getD,h]
theorem Znb {s:List (List Nat)}(h:s.length≤i):sl s i=[]:=by simp [sl,List.getD,h]
theorem ZcO {s:List (List Nat)}(h:i<s.length)(r:List Nat):sl (s.set i r) i=r:=by simp [sl,List.getD,h]
theorem Zcp {s:List (List Nat)}{j:Nat}(h:i≠j)(r:List Nat):sl (s.set i r) j=sl s j:=by simp [sl,List.getD,h]
theorem Zfk {s:List (List Nat)}(h:i<s.length)(r:List Nat):sl (s ++ [r]) i=sl s i:=by
 unfold sl;rw [List.getD,List.getElem?_append_left h,List.getD]
theorem ZcP (s:List (List Nat))(r:List Nat):sl (s ++ [r]) s.length=r:=by simp [sl,List.getD]
theorem Zry {s:List (List Nat)}(h:sl s i ≠ []):i<s.length:=by
 rcases Nat.lt_or_ge i s.length with h1 | h1
 · exact h1
 · exact absurd (Znb h1) h
def needS:List (List Nat)→Nat
  | []=>0
  | x :: r=>1+x.length+needS r
def need (s:List (List Nat)):Nat:=18+needS s
theorem Zee:∀(s t:List (List Nat)),needS (s ++ t)=needS s+needS t
 | [],t=>by simp [needS]
 | x :: r,t=>by
  have:=Zee r t
  simp only [List.cons_append,needS,this]
  omega
theorem ZkF (s:List (List Nat))(r:List Nat):needS (s ++ [r])=needS s+1+r.length:=by
 rw [Zee];simp only [needS];omega
theorem Zbx {s:List (List Nat)}(h:k<s.length):needS (s.take (k+1))=needS (s.take k)+1+(sl s k).length:=by
 rw [List.take_succ_eq_append_getElem h,ZkF,← Zek h]
def ItlOk (t:List Int):Prop:=t.length=4∧(∀i,i<4→0≤t.getD i 0∧t.getD i 0≤2147483647)∧∀i,i<4→∀k,k<i→t.getD k 0≠0→t.getD k 0≠t.getD i 0
def Za6 (s:List (List Nat)):Prop:=s.length≤64∧(∀i,i<s.length→(sl s i).length≤255)∧(s ≠ []→sl s (s.length-1) ≠ [])
structure MayL (l:Lf):Prop where
  itl:ItlOk l.itl
  slots:Za6 l.slots
  need:need l.slots≤508
theorem Za6.set {s:List (List Nat)}(h:Za6 s)(hi:i<s.length){r:List Nat}(h1:1≤r.length)(h2:r.length≤255):Za6 (s.set i r):=by
 refine⟨by rw [List.length_set];exact h.1,fun j hj=>?_,fun _=>?_⟩
 · rw [List.length_set] at hj;by_cases e:i=j
   · subst e;rw [ZcO hi];exact h2
   · rw [Zcp e];exact h.2.1 j hj
 · rw [List.length_set];by_cases e:i=s.length-1
   · rw [← e,ZcO hi];intro x;rw [x] at h1;simp at h1
   · rw [Zcp e];exact h.2.2 (fun x=>by rw [x] at hi;simp at hi)
theorem Za6.snoc {s:List (List Nat)}(h:Za6 s)(hl:s.length<64){r:List Nat}(h1:1≤r.length)(h2:r.length≤255):Za6 (s ++ [r]):=by
 refine⟨by simp;omega,fun j hj=>?_,fun _=>?_⟩
 · rw [List.length_append] at hj;by_cases e:j=s.length
   · rw [e,ZcP];exact h2
   · rw [Zfk (by simp at hj;omega)];exact h.2.1 j (by simp at hj;omega)
 · rw [List.length_append];show sl _ (s.length+1-1)≠_;rw [Nat.add_sub_cancel,ZcP];intro x;rw [x] at h1;simp at h1
def Zea (s:List (List Nat)):List (List Nat)→Nat→Nat
  | [],k=>k
  | x :: r,k=>if x.length=0 then k else Zea s r (k+1)
def atE (s:List (List Nat)):Nat:=Zea s s 0
theorem Zeb (o:List (List Nat)):∀(s:List (List Nat))(k:Nat),(Zea o s k=k+s.length∧∀x∈s,x.length≠0)∨∃i,i<s.length∧Zea o s k=k+i∧(sl s i).length=0∧∀j,j<i→(sl s j).length≠0
 | [],k=>.inl ⟨by simp [Zea],fun _ h=>by cases h⟩
 | x :: r,k=>by
  by_cases hx:x.length=0
  · exact .inr ⟨0,by simp,by rw [Zea,if_pos hx];rfl,hx,fun j hj=>absurd hj (Nat.not_lt_zero _)⟩
  · rcases Zeb o r (k+1) with ⟨h1,h2⟩ | ⟨i,hi,h1,h2,h3⟩
    · refine .inl ⟨by rw [Zea,if_neg hx,h1,List.length_cons];omega,fun t ht=>?_⟩
      rcases List.mem_cons.1 ht with rfl | ht
      · exact hx
      · exact h2 t ht
    · refine .inr ⟨i+1,by simpa using hi,by rw [Zea,if_neg hx,h1];omega,h2,fun j hj=>?_⟩
      cases j with
      | zero=>exact hx
      | succ j=>exact h3 j (by omega)
theorem ZeB (s:List (List Nat)):(atE s=s.length∧∀i,i<s.length→(sl s i).length≠0)∨(atE s<s.length∧(sl s (atE s)).length=0∧∀j,j<atE s→(sl s j).length≠0):=by
 rcases Zeb s s 0 with ⟨h1,h2⟩ | ⟨i,hi,h1,h2,h3⟩
 · refine .inl ⟨by unfold atE;omega,fun i hi=>?_⟩;rw [Zek hi];exact h2 _ (List.getElem_mem hi)
 · (have e:atE s=i:=by unfold atE;omega);rw [e];exact .inr ⟨hi,h2,h3⟩
def insS (s:List (List Nat)) (r:List Nat):List (List Nat):=if atE s=s.length then s ++ [r] else s.set (atE s) r
theorem Ziv (s:List (List Nat))(r:List Nat):(insS s r).length=if atE s=s.length then s.length+1 else s.length:=by
 unfold insS;split <;> simp
theorem Zp4 {s:List (List Nat)}(h:Za6 s){r:List Nat}(h1:1≤r.length)(h2:r.length≤255)(hl:(insS s r).length≤64):Za6 (insS s r):=by
 rw [Ziv] at hl;unfold insS;rcases ZeB s with ⟨e,_⟩ | ⟨e,_⟩
 · rw [if_pos e] at hl ⊢;exact h.snoc (by omega) h1 h2
 · rw [if_neg (by omega)];exact h.set e h1 h2
def ixI (f:Int→Bool):List Int→Nat→Int
  | [],_=>-1
  | x :: r,k=>if f x=true then ((k:Nat):Int) else ixI f r (k+1)
theorem ZbE (f:Int→Bool):∀(t:List Int)(k:Nat),(ixI f t k = -1∧∀x∈t,f x=false)∨∃i,i<t.length∧ixI f t k=((k+i:Nat):Int)∧f (t.getD i 0)=true∧∀j,j<i→f (t.getD j 0)=false
 | [],_=>.inl ⟨rfl,fun _ h=>by cases h⟩
 | s :: r,k=>by
  by_cases hs:f s=true
  · exact .inr ⟨0,by simp,by rw [ixI,if_pos hs];rfl,hs,fun j hj=>absurd hj (Nat.not_lt_zero _)⟩
  · have hs':f s=false:=by simpa using hs
    rcases ZbE f r (k+1) with ⟨h1,h2⟩ | ⟨i,hi,h1,h2,h3⟩
    · refine .inl ⟨by rw [ixI,if_neg hs];exact h1,fun t ht=>?_⟩
      rcases List.mem_cons.1 ht with rfl | ht
      · exact hs'
      · exact h2 t ht
    · refine .inr ⟨i+1,by simpa using hi,by rw [ixI,if_neg hs,h1];congr 1;omega,h2,fun j hj=>?_⟩
      cases j with
      | zero=>exact hs'
      | succ j=>exact h3 j (by omega)
def freeI (t:List Int) (live:List Int):Int:=if 0≤ixI (fun x=>x == 0) t 0 then ixI (fun x=>x == 0) t 0 else ixI (fun x=>!(live.contains x)) t 0
structure Js where
  t:List Int
  e:Int
def joinI (t:List Int) (w:Int) (live:List Int):Js:=
  if w<1∨2147483647<w then ⟨t,1⟩ else if t.contains w=true then ⟨t,0⟩ else if freeI t live<0 then ⟨t,8⟩ else ⟨t.set (freeI t live).toNat w,0⟩
theorem ZbR (h:i<t.length)(w:Int):(t.set i w).getD i 0=w:=by simp [List.getD,h]
theorem Zbk {j:Nat}(h:i≠j)(w:Int):(t.set i w).getD j 0=t.getD j 0:=by simp [List.getD,h]
theorem Zdp (h:i<t.length):t.getD i 0∈t:=by simp [List.getD,h]
theorem ItlOk.set (h:ItlOk t){w:Int}(h1:1≤w)(h2:w≤2147483647)(hn:¬w∈t)(hi:i<4):ItlOk (t.set i w):=by
 have hl:=h.1;refine⟨by rw [List.length_set];exact hl,fun j hj=>?_,fun j hj k hk=>?_⟩
 · by_cases e:i=j
   · subst e;rw [ZbR (by omega)];omega
   · rw [Zbk e];exact h.2.1 j hj
 · by_cases e:i=j
   · subst e;rw [ZbR (by omega),Zbk (by omega)];intro _ x;exact hn (by rw [← x];exact Zdp (by omega))
   · rw [Zbk e];by_cases e2:i=k
     · subst e2;rw [ZbR (by omega)];intro _ x;exact hn (by rw [x];exact Zdp (by omega))
     · rw [Zbk e2];exact h.2.2 j hj k hk
theorem Zj1 (live:List Int):freeI t live<t.length ∧ -1≤freeI t live:=by
 unfold freeI;split
 · rcases ZbE (fun x=>x == 0) t 0 with ⟨h1,_⟩ | ⟨i,hi,h1,_⟩ <;> omega
 · rcases ZbE (fun x=>!(live.contains x)) t 0 with ⟨h1,_⟩ | ⟨i,hi,h1,_⟩ <;> omega
theorem Zod (h:ItlOk t)(w:Int)(live:List Int):ItlOk (joinI t w live).t:=by
 have hf:=Zj1 (t:=t) live;have hl:=h.1;unfold joinI;split
 · exact h
 · split
   · exact h
   · rename_i hc;split
     · exact h
     · exact h.set (by omega) (by omega) (fun x=>hc (by simpa using x)) (by omega)
theorem Zks {live:List Int}{x:Int}(hx:x∈t)(h:x=0∨¬x∈live):0≤freeI t live:=by
 unfold freeI;split
 · assumption
 · rename_i hc;rcases ZbE (fun x=>!(live.contains x)) t 0 with ⟨_,h2⟩ | ⟨i,_,h1,_⟩
   · have hl:=h2 x hx;rcases ZbE (fun x=>x == 0) t 0 with ⟨_,h4⟩ | ⟨j,_,h3,_⟩
     · have h0:=h4 x hx;rcases h with h | h
       · simp [h] at h0
       · simp at hl;exact absurd hl h
     · omega
   · omega
theorem Zre {x:Int}(h:x∈t):∃i,i<t.length∧t.getD i 0=x:=by
 obtain⟨i,hi,e⟩:=List.mem_iff_getElem.1 h;exact⟨i,hi,by simp [List.getD,hi,e]⟩
def Kept (D:Nat→Prop) (w w':World):Prop:=∀k,D k→k<w.heap.size→w'.heap[k]? = w.heap[k]?
theorem Kept.all {D:Nat→Prop}(h:Below B w w')(hB:w.heap.size≤B):Kept D w w':=fun k _ hl=>h.block k (by omega)
theorem Kept.frm {D F:Nat→Prop}(h:Frm F w w')(hD:∀k,D k→¬F k):Kept D w w':=fun k hk hl=>h.block k hl (hD k hk)
theorem Kept.cell {D:Nat→Prop}(h:Kept D w w'){a:Addr}(hc:w.cell? a=some u)(hD:D a.block):w'.cell? a=some u:=by
 have:=h a.block hD (World.block_lt_of_cell? w _ hc);simp only [World.cell?] at hc ⊢;rw [this];exact hc
structure Cm (D:Nat→Prop) (w:World) (s:Sl) (xs:List Nat):Prop where
  came:Came w s.a s.len s.cap xs
  home:∀ad,s.a=some ad→0<s.len→D ad.block
theorem Cm.len {D:Nat→Prop}{s:Sl}(h:Cm D w s xs):xs.length=s.len:=h.came.bs.1
theorem Cm.keep {D:Nat→Prop}{s:Sl}(h:Cm D w s xs)(hk:Kept D w w'):Cm D w' s xs:=by
 refine⟨⟨⟨h.came.bs.1,h.came.bs.2.1,fun i hi=>?_⟩,h.came.nil,h.came.le,h.came.big⟩,h.home⟩;obtain⟨b,off,ha,hc⟩:=h.came.bs.2.2 i hi;exact⟨b,off,ha,hk.cell hc (h.home ⟨b,off,none⟩ ha (by omega))⟩
theorem Cm.mono {D E:Nat→Prop}{s:Sl}(h:Cm D w s xs)(hE:∀k,D k→k<w.heap.size→E k):Cm E w s xs:=by
 refine⟨h.came,fun ad ha hl=>hE _ (h.home ad ha hl) ?_⟩;obtain⟨b,off,ha',hc⟩:=h.came.bs.2.2 0 hl;rw [ha'] at ha;cases ha;exact World.block_lt_of_cell? w _ hc
structure Sb where
  s:Sl
  bs:List Nat
def Sb.zero:Sb:=⟨Sl.nil,[]⟩
def bss (l:List Sb):List (List Nat):=l.map Sb.bs
theorem Zaj (l:List Sb):(bss l).length=l.length:=by simp [bss]
theorem Zq4 (l:List Sb)(i:Nat):sl (bss l) i=(l.getD i Sb.zero).bs:=by
 unfold sl bss;simp only [List.getD,List.getElem?_map];cases l[i]? <;> rfl
structure Gi (D:Nat→Prop) (w:World) (v:Sl) (t:List Int):Prop where
  len:t.length=v.len
  nil:v.a=none→v.cap=0
  le:v.len≤v.cap
  big:v.len≤1000000
  home:∀ad,v.a=some ad→0<v.len→D ad.block
  cell:∀i,i<v.len→∃b off,v.a=some ⟨b,off,none⟩∧w.cell? ⟨b,off+i,none⟩=some (.int .i64 (t.getD i 0))
theorem Gi.keep {D:Nat→Prop}{v:Sl}(h:Gi D w v t)(hk:Kept D w w'):Gi D w' v t:=by
 refine⟨h.len,h.nil,h.le,h.big,h.home,fun i hi=>?_⟩;obtain⟨b,off,ha,c0⟩:=h.cell i hi;exact⟨b,off,ha,hk.cell c0 (h.home ⟨b,off,none⟩ ha (by omega))⟩
theorem Gi.below {D:Nat→Prop}{v:Sl}(h:Gi D w v t)(hb:Below B w w')(hB:w.heap.size≤B):Gi D w' v t:=h.keep (Kept.all hb hB)
structure Gb (D:Nat→Prop) (w:World) (v:Sl) (l:List Sb):Prop where
  len:l.length=v.len
  nil:v.a=none→v.cap=0
  le:v.len≤v.cap
  big:v.len≤1000
  home:∀ad,v.a=some ad→0<v.len→D ad.block
  cell:∀i,i<v.len→∃b off,v.a=some ⟨b,off,none⟩∧w.cell? ⟨b,off+i,none⟩=some (l.getD i Sb.zero).s.val
  bs:∀x∈l,Cm D w x.s x.bs∧x.bs.length≤1000
theorem Gb.keep {D:Nat→Prop}{v:Sl}{l:List Sb}(h:Gb D w v l)(hk:Kept D w w'):Gb D w' v l:=by
 refine⟨h.len,h.nil,h.le,h.big,h.home,fun i hi=>?_,fun x hx=>⟨(h.bs x hx).1.keep hk,(h.bs x hx).2⟩⟩;obtain⟨b,off,ha,c0⟩:=h.cell i hi;exact⟨b,off,ha,hk.cell c0 (h.home ⟨b,off,none⟩ ha (by omega))⟩
theorem Gb.below {D:Nat→Prop}{v:Sl}{l:List Sb}(h:Gb D w v l)(hb:Below B w w')(hB:w.heap.size≤B):Gb D w' v l:=h.keep (Kept.all hb hB)
theorem Zhl {l:List Sb}(h:i<l.length):l.getD i Sb.zero∈l:=by simp [List.getD,h]
theorem Gb.at {D:Nat→Prop}{v:Sl}{l:List Sb}(h:Gb D w v l)(hi:i<v.len):Cm D w (l.getD i Sb.zero).s (sl (bss l) i)∧(l.getD i Sb.zero).s.len=(sl (bss l) i).length∧(sl (bss l) i).length≤1000:=by
 have hm:=h.bs _ (Zhl (l:=l) (i:=i) (by rw [h.len];exact hi));rw [Zq4];exact⟨hm.1,hm.1.len.symm,hm.2⟩
def lfV (u v:Sl):Value:=.agg #[u.val,v.val]
def LfBlk (w:World) (p:Nat) (u v:Value):Prop:=w.heap[p]? = some (Obj.cells #[u,v] 101 (0,0))
theorem LfBlk.c0 (k:LfBlk w p u v):w.cell? ⟨p,0,none⟩=some u:=by unfold LfBlk at k;simp [World.cell?,k]
theorem LfBlk.c1 (k:LfBlk w p u v):w.cell? ⟨p,1,none⟩=some v:=by unfold LfBlk at k;simp [World.cell?,k]
theorem LfBlk.fz (k:LfBlk w p u v)(o:Nat):w.frozen? ⟨p,o,none⟩=false:=frozen_of_row w p _ _ 101 k
theorem LfBlk.lt (k:LfBlk w p u v):p<w.heap.size:=(Array.getElem?_eq_some_iff.1 k).1
theorem ZaB (w:World)(u v:Value):LfBlk (w.alloc (.cells #[u,v] 101)) w.heap.size u v:=heap_alloc_new w _
theorem LfBlk.below (k:LfBlk w p u v)(hb:Bl w w'):LfBlk w' p u v:=(hb.block p k.lt).trans k
theorem Zae (w:World)(o:Obj):(w.alloc o).heap.size=w.heap.size+1:=by
 show (w.heap.push o).size=_;simp
theorem Zg8 (s:List (List Nat))(h:∀i,i<s.length→(sl s i).length≤1000):∀n,n≤s.length→needS (s.take n)≤n*1001
 | 0,_=>by simp [needS]
 | n+1,hn=>by
  rw [Zbx (by omega)]
  have h1:=Zg8 s h n (by omega)
  have h2:=h n (by omega)
  omega
theorem ZhK {D:Nat→Prop}(w:World)(u v:Sl)(l:List Sb)(hg:Gb D w v l) :
    Calls prog 100 #[lfV u v] w fun e w'=>e=.returned (.int .i64 ((need (bss l):Nat):Int))∧Bl w w':=by
  obtain⟨a,len,cap⟩:=v;obtain⟨ua,ul,uc⟩:=u;have hl:l.length=len:=hg.len;have ah:len≤1000:=hg.big;have hA:=Zab w (.cells #[.slice ua ul uc,.slice a len cap] 101);have HG:=Zh (hg.below hA (Nat.le_refl _));have HA:=Zh hA;(have HL:Hi ((bss l).length=len):=by show _=_;rw [Zaj];exact hl);have HN:Hi (∀n,n≤len→needS ((bss l).take n)≤n*1001):=by
   intro n hn;refine Zg8 (bss l) (fun i hi=>?_) n (by rw [Zaj,hl];exact hn);exact(hg.at (by rw [Zaj] at hi;show i<len;omega)).2.2
  have H0:Hi (((18:Nat):Int)=((18+needS ((bss l).take 0):Nat):Int)):=rfl;clear hg hl hA;unfold lfV Sl.val;simp only;go_enter func100,ntmps100;go_wp2_with fail;go_loopw [4,3] (fun iv nv wr=>wr=w.alloc (.cells #[.slice ua ul uc,.slice a len cap] 101)∧∃i:Nat,i≤len∧iv=.int .i64 (i:Nat)∧nv=.int .i64 ((18+needS ((bss l).take i):Nat):Int)) (fun iv _ _=>len-(intOf iv).toNat)
  case atStart=>exact ⟨rfl,0,Nat.zero_le _,rfl,rfl⟩
  case round =>
   obtain⟨rfl,i,hi,rfl,rfl⟩:=hrel;rcases Nat.lt_or_ge i len with ad | ai
   · (have i1:(i:Int)<(len:Int):=by omega);obtain⟨bb,oo,ha,c0⟩:=HG.o.cell i ad;replace ha:a=some ⟨bb,oo,none⟩:=ha;subst ha;obtain⟨_,ac,ab⟩:=HG.o.at ad;have aa:=Zbx (s:=bss l) (k:=i) (by rw [HL.o];exact ad);have ae:=HN.o i hi;obtain⟨⟨sa,sn,sc⟩,af⟩:∃s,s=(l.getD i Sb.zero).s:=⟨_,rfl⟩;rw [← af] at c0 ac;unfold Sl.val at c0;simp only at c0 ac;obtain⟨q,hq⟩:∃q,q=needS ((bss l).take i):=⟨_,rfl⟩;(have ag:Hi (needS ((bss l).take (i+1))=q+1+sn):=by show _=_;rw [aa,hq,ac]);rw [← hq] at ae ⊢;(have aj:q≤1001000:=by omega);(have ak:sn≤1000:=by omega);clear aa af hq ac ab ae;go_wp2;go_roundw;exact ⟨trivial,i+1,by omega,by go_num,by rw [ag.o];go_num⟩;simp only [intOf];omega
   · (have i1:¬(i:Int)<(len:Int):=by omega);have HE:Hi (need (bss l)=18+needS ((bss l).take i)):=by
      show _=_;rw [List.take_of_length_le (by rw [HL.o];exact ai)];rfl
     go_wp2;go_ret;exact⟨by rw [HE.o];rfl,HA.o⟩
end Go.Proofs.YtiecfcjlhldhdaaGreat
