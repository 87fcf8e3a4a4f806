/-
  Lemmas.
-/
import Derived.Test.YtpnlebpnhmibfaaGreatRows
import Derived.WalkKit
import Derived.WalkSpells
import Derived.WalkLawsBesides
import Derived.Laws.BitsAllLaws
import Derived.Laws.AppendOwnNone
import Derived.Laws.IdiomStrings
import Derived.Laws.BytesArg
import Derived.Below
import Derived.ArgAppend
import Derived.Deep.AppendSrc
import Derived.BigQuiet
import Derived.ProofKit
import Derived.OpenShut
import Derived.ShutString
import Derived.ChangeOld
import Derived.Deep.RegionHeld3
import Derived.BigCall
import Derived.KernelRfl
import Derived.Laws.CopyRow
import Derived.Laws.IdiomCopy
import Derived.Deep.MidRow
import Derived.Deep.WholeRow
namespace Go.Proofs.YtpnlebpnhmibfaaGreat
open Go.RowKit
set_option linter.unusedVariables false
set_option maxRecDepth 100000
set_option maxHeartbeats 4000000
variable {w w' b:World}{xs:List Nat}{e:TypeId}{z len base g cap n k B:Nat}{vs:List Value}{a:Option Addr}{A:Act}{v:Value}{ops:Array Oper}
def Bytes (xs:List Nat):Prop:=∀n∈xs,n<256
theorem getD_lt (h:Bytes xs)(j:Nat):xs.getD j 0<256:=by
 by_cases hj:j<xs.length
 · have:=h _ (List.getElem_mem hj);simpa [List.getD,hj] using this
 · simp [List.getD,Nat.le_of_not_lt hj]
theorem hide {p:Prop}(h:p):Hid p:=h
theorem Zaa (w:World)(o:Obj):Below w.heap.size w (w.alloc o):=(Below.refl _ _).alloc (Nat.le_refl _) o
def Bs (w:World) (a:Option Addr) (len:Nat) (xs:List Nat):Prop:=
  xs.length=len∧Bytes xs∧∀i,i<len→∃b off,a=some ⟨b,off,none⟩∧w.cell? ⟨b,off+i,none⟩=some (.int .u8 (xs.getD i 0:Nat))
theorem Bs.part (h:Bs w a len xs) :
    (len=0∧xs=[])∨∃b off,0<len∧a=some ⟨b,off,none⟩∧∀i,i<len→w.cell? ⟨b,off+i,none⟩=some (.int .u8 (xs.getD i 0:Nat)):=by
  obtain⟨hl,hb,hc⟩:=h;by_cases h0:len=0
  · left;refine⟨h0,?_⟩;apply List.eq_nil_of_length_eq_zero;omega
  · right;obtain⟨b,off,rfl,_⟩:=hc 0 (by omega);refine⟨b,off,by omega,rfl,?_⟩;intro i hi;obtain⟨b',off',he,aa⟩:=hc i hi;simp at he;obtain⟨rfl,rfl⟩:=he;exact aa
theorem ZgS:(Tryz.prog.info? 5).map (fun i=>(i.zero,i.size,i.bytes))=some (some (.int .u8 0),1,1):=by kernel_rfl
def vals (xs:List Nat):List Value:=xs.map fun x=>Value.int .u8 ((x:Nat):Int)
theorem Zao (xs:List Nat):(vals xs).length=xs.length:=by simp [vals]
theorem ZeF (xs ys:List Nat):vals (xs ++ ys)=vals xs ++ vals ys:=by simp [vals]
theorem ZcF (xs:List Nat):∀u∈vals xs,u.oneCell'=true:=by
 intro u hu;obtain⟨_,_,rfl⟩:=List.mem_map.1 hu;rfl
theorem ZbX {i:Nat}(hi:i<xs.length):(vals xs)[i]? = some (.int .u8 (xs.getD i 0:Nat)):=by
 simp [vals,List.getD,hi]
theorem Zmj (xs:List Nat)(i x:Nat):(vals xs).set i (.int .u8 (x:Int))=vals (xs.set i x):=by
 simp [vals,List.map_set]
def Owns (w:World) (base:Nat) (v:Value) (xs:List Nat):Prop:=w.ownsRow base 5 1 v xs.length (vals xs)
theorem Bs.keep (h:Bs w a len xs)(hb:Below B w w')(hB:w.heap.size≤B):Bs w' a len xs:=by
 refine⟨h.1,h.2.1,fun i hi=>?_⟩;obtain⟨b,off,ha,hc⟩:=h.2.2 i hi;exact⟨b,off,ha,(hb.cell (Nat.lt_of_lt_of_le (World.block_lt_of_cell? w _ hc) hB)).trans hc⟩
theorem Owns.keep (h:Owns w base v xs)(hb:Below B w w')(hB:w.heap.size≤B):Owns w' base v xs:=by
 refine⟨h.1,?_⟩;rcases h.2 with hn | ⟨g,cap,cur,hv,aa,hg,rest⟩
 · exact .inl hn
 · refine .inr ⟨g,cap,cur,hv,aa,?_,rest⟩;rw [hb.block g (Nat.lt_of_lt_of_le (Array.getElem?_eq_some_iff.1 hg).1 hB)];exact hg
theorem Owns.row (h:Owns w base (.slice (some ⟨g,0,none⟩) n cap) xs)(hx:Bytes xs):n=xs.length∧Bs w (some ⟨g,0,none⟩) xs.length xs:=by
 have hn:n=xs.length:=by
  rcases h.2 with ⟨h',_⟩ | ⟨g',cap',cur,h',_⟩
  · simp at h'
  · simp only [Value.slice.injEq] at h';exact h'.2.1
 subst hn;refine⟨rfl,rfl,hx,fun i hi=>⟨g,0,rfl,?_⟩⟩;have:=World.ownsRow.cellAt h i (by omega);rw [Nat.zero_add,this,ZbX hi]
theorem Owns.bs (h:Owns w base v xs)(hx:Bytes xs) :
    ∃a cap,v=.slice a xs.length cap∧Bs w a xs.length xs∧(a=none→cap=0):=by
  rcases h.2 with ⟨hv,h0⟩ | ⟨g,cap,cur,hv,aa,hg,hr⟩
  · refine⟨none,0,by rw [h0];exact hv,⟨rfl,hx,fun i hi=>by omega⟩,fun _=>rfl⟩
  · refine⟨some ⟨g,0,none⟩,cap,hv,?_,fun e=>by cases e⟩;rw [hv] at h;exact(h.row hx).2
theorem Owns.pos (h:Owns w base v xs)(hp:0<xs.length) :
    ∃g cap,v=.slice (some ⟨g,0,none⟩) xs.length cap∧base≤g∧g<w.heap.size∧xs.length≤cap:=by
  rcases h.2 with ⟨hv,h0⟩ | ⟨g,cap,cur,hv,aa,hg,ab,hr⟩
  · omega
  · exact⟨g,cap,hv,aa,(Array.getElem?_eq_some_iff.1 hg).1,ab⟩
theorem Owns.lit (w:World)(base:Nat)(xs:List Nat)(hb:base≤w.heap.size)(hm:xs.length≤1000000):Owns (w.alloc (.cells (vals xs).toArray 5)) base (.slice (some ⟨w.heap.size,0,none⟩) xs.length xs.length) xs:=by
 have:=World.ownsRow_lit (base:=base) (e:=5) (size:=1) w (vals xs).toArray xs.length hb (by unfold maxLen;omega) (by simp [vals]);simpa [Owns] using this
def Stay (w w':World):Prop:=∀(p:Nat) (C:Array Value) (t:TypeId) (fr:Nat × Nat),w.heap[p]? = some (Obj.cells C t fr)→t≠5→w'.heap[p]? = w.heap[p]?
theorem Stay.refl (w:World):Stay w w:=fun _ _ _ _ _ _=>rfl
theorem Owns.ne (h:Owns w base v xs){p:Nat}{C:Array Value}{t:TypeId}{fr:Nat × Nat}(hp:w.heap[p]? = some (Obj.cells C t fr))(ht:t≠5):v.ownBlock≠some p:=by
 intro e;rcases h.2 with ⟨hv,_⟩ | ⟨g,cap,cur,hv,_,hg,_⟩
 · rw [hv] at e;cases e
 · rw [hv] at e;simp [Value.ownBlock] at e;subst e;rw [hg] at hp;simp only [Option.some.injEq,Obj.cells.injEq] at hp;exact ht hp.2.1.symm
theorem Zba (w:World)(ty:TypeId)(base:Nat)(v:Value)(xs:List Nat)(aa:Owns w base v xs)(ao:Option Addr)(len cap:Nat)(ys:List Nat)(hb:Bs w ao len ys)(hn:ao=none→cap=0)
    (ai:xs.length+len≤1000000)(ab:base≤w.heap.size) :
    ∃v' w',(Builtin.append_ #[32,32] ty #[v,.slice ao len cap]).run Tryz.prog w=.ok v' w'∧Owns w' base v' (xs ++ ys)∧Below base w w'∧Stay w w':=by
  obtain⟨i0,hi,aj,ak,al⟩:=info_parts ZgS;have af:∀k,v.ownBlock=some k→base≤k:=fun k hk=>(World.ownsRow.lt aa k hk).1;have ag:=hb.1;cases ao with
  | none =>
   obtain rfl:=hn rfl;have h0:len=0:=by
    rcases Nat.eq_zero_or_pos len with h | h
    · exact h
    · obtain⟨_,_,e,_⟩:=hb.2.2 0 h;cases e
   subst h0;have hy:ys=[]:=List.eq_nil_of_length_eq_zero ag;subst hy;have ae:=run_append_owned_none (P:=Tryz.prog) (w:=w) base 32 ty 5 i0 1 Tryz.underlying32 hi v xs.length (vals xs) aa;exact⟨v,w,ae,by simpa using aa,Below.refl _ _,Stay.refl _⟩
  | some ad =>
   have ac:∀j u,(vals ys)[j]? = some u→w.cell? (ad.add j)=some u:=by
    intro j u hj;have ah:j<ys.length:=by
     have:=(List.getElem?_eq_some_iff.1 hj).1;simpa [vals] using this
    obtain⟨b,off,e,hc⟩:=hb.2.2 j (by omega);obtain rfl:=Option.some.inj e;rw [Addr.add_lit,hc,← ZbX ah,hj]
   obtain⟨v',w',ae,ho,hg,_⟩:=run_append_own (P:=Tryz.prog) w base 32 ty 5 i0 (.int .u8 0) 1 1 Tryz.underlying32 hi aj ak al rfl (by decide) v xs.length (vals xs) aa ad len cap (vals ys) (by rw [Zao,ag,Nat.mul_one]) ac (ZcF ys)
    (by unfold maxLen;omega) (by omega) ab
   refine⟨v',w',ae,?_,(Below.refl base w).grown hg ab af,fun p C t fr hp ht=>hg.block p (Array.getElem?_eq_some_iff.1 hp).1 (aa.ne hp ht).symm⟩;unfold Owns;rw [List.length_append,ag,ZeF];exact ho
theorem ZdH (w:World)(ty:TypeId)(base:Nat)(v:Value)(xs:List Nat)(ac:Owns w base v xs)(ao:Option Addr)(len cap:Nat)(ys:List Nat)(hb:Bs w ao len ys)(hn:ao=none→cap=0)
    (ab:xs.length+len≤1000000)(aa:base≤w.heap.size) :
    ∃v' w',(Builtin.append_ #[32,32] ty #[v,.slice ao len cap]).run Tryz.prog w=.ok v' w'∧Owns w' base v' (xs ++ ys)∧Below base w w':=by
  obtain⟨v',w',h1,h2,h3,_⟩:=Zba w ty base v xs ac ao len cap ys hb hn ab aa;exact⟨v',w',h1,h2,h3⟩
theorem Za8 (w:World){rest:List Oper}{o:Oper}{a:Act}{Q:Exit→Act→World→Prop}(ae:o.guard=none)(s x:Operand)
    (ho:o.op=.call { callee:=.builtin .append,args:=#[s,x],argTypes:=#[32,32] })(base:Nat)(v:Value)(xs:List Nat)(hs:a.eval s=v)(ac:Owns w base v xs)
    (ao:Option Addr)(len cap:Nat)(ys:List Nat)(hx:a.eval x=.slice ao len cap)(hb:Bs w ao len ys)(hn:ao=none→cap=0)
    (ab:xs.length+len≤1000000)(aa:base≤w.heap.size)
    (hK:∀v' w',Owns w' base v' (xs ++ ys)→Below base w w'→wpList Tryz.prog ops Q rest (a.put o.dst v') w'):wpList Tryz.prog ops Q (o :: rest) a w:=by
  refine wpList_plain ae fun K hK'=>?_;obtain⟨v',w',ad,r1,r2⟩:=ZdH w o.type base v xs ac ao len cap ys hb hn ab aa;unfold Oper.wp;simp [execOp,ho,resolve,invoke,builtin,hs,hx,ad,Result.andThen];exact hK' _ _ (hK v' w' r1 r2)
theorem Zak (w:World){rest:List Oper}{o:Oper}{a:Act}{Q:Exit→Act→World→Prop}(ae:o.guard=none)(s x:Operand)
    (ho:o.op=.call { callee:=.builtin .append,args:=#[s,x],argTypes:=#[32,32] })(base:Nat)(v:Value)(xs:List Nat)(hs:a.eval s=v)(ac:Owns w base v xs)
    (ao:Option Addr)(len cap:Nat)(ys:List Nat)(hx:a.eval x=.slice ao len cap)(hb:Bs w ao len ys)(hn:ao=none→cap=0)
    (ab:xs.length+len≤1000000)(aa:base≤w.heap.size)
    (hK:∀v' w',Owns w' base v' (xs ++ ys)→Below base w w'→Stay w w'→wpList Tryz.prog ops Q rest (a.put o.dst v') w'):wpList Tryz.prog ops Q (o :: rest) a w:=by
  refine wpList_plain ae fun K hK'=>?_;obtain⟨v',w',ad,r1,r2,r3⟩:=Zba w o.type base v xs ac ao len cap ys hb hn ab aa;unfold Oper.wp;simp [execOp,ho,resolve,invoke,builtin,hs,hx,ad,Result.andThen];exact hK' _ _ (hK v' w' r1 r2 r3)
theorem ZbO (w:World)(xs:List Nat)(fr:Nat × Nat)(hx:Bytes xs):Bs (w.alloc (.cells (vals xs).toArray 5 fr)) (some ⟨w.heap.size,0,none⟩) xs.length xs:=by
 refine⟨rfl,hx,fun i hi=>⟨w.heap.size,0,rfl,?_⟩⟩;rw [Nat.zero_add,World.cell?_alloc_mark];simpa using ZbX hi
theorem Zbi (B:Nat)(w:World)(q:Nat):Below B w (w.drewN q):=⟨rfl,rfl,rfl,Nat.le_refl _,fun _ _=>rfl⟩
theorem Bs.any {a':Option Addr}(h:Bs w a 0 []):Bs w a' 0 []:=⟨h.1,h.2.1,fun i hi=>by omega⟩
theorem Bs.at {b off:Nat}(h:Bs w (some ⟨b,off,none⟩) len xs)(i:Nat)(hi:i<len):w.cell? ⟨b,off+i,none⟩=some (.int .u8 (xs.getD i 0:Nat)):=by
 obtain⟨_,_,e,aa⟩:=h.2.2 i hi;simp at e;obtain⟨rfl,rfl⟩:=e;exact aa
structure Came (w:World) (a:Option Addr) (len cap:Nat) (xs:List Nat):Prop where
  bs:Bs w a len xs
  nil:a=none→cap=0
  le:len≤cap
  big:len≤9223372036854775807
def bstr (xs:List Nat):ByteArray:=strOfNums (xs.map Int.ofNat)
theorem ZkR {ys:List Nat}(hx:Bytes xs)(hy:Bytes ys)(h:bstr xs=bstr ys):xs=ys:=by
 (have h1:(bstr xs).data.toList=(bstr ys).data.toList:=by rw [h]);unfold bstr at h1;rw [strOfNums_data,strOfNums_data,List.map_map,List.map_map] at h1;have key:∀(l:List Nat),Bytes l→(l.map ((fun n:Int=>UInt8.ofNat n.toNat) ∘ Int.ofNat)).map UInt8.toNat=l:=by
  intro l hl;rw [List.map_map];have e:l.map (UInt8.toNat ∘ ((fun n:Int=>UInt8.ofNat n.toNat) ∘ Int.ofNat))=l.map id:=by
   apply List.map_congr_left;intro n hn;have:=hl n hn;simp;omega
  rw [e,List.map_id]
 rw [← key xs hx,← key ys hy,h1]
theorem ZoF {ys:List Nat}(hx:Bytes xs)(hy:Bytes ys)(h:xs≠ys):((bstr xs).toList == (bstr ys).toList)=false:=by
 apply beq_eq_false_iff_ne.2;intro e;rw [ByteArray.toList_eq,ByteArray.toList_eq] at e;refine h (ZkR hx hy ?_);have:(bstr xs).data=(bstr ys).data:=Array.toList_inj.1 e;cases hX:bstr xs;cases hY:bstr ys;rw [hX,hY] at this;simp only at this;rw [this]
theorem Zat (cap:Nat)(h:Bs w a len xs):(convert 32 9 (.slice a len cap)).run Tryz.prog w=.ok (.string (bstr xs)) w:=by
 cases a with
 | none =>
  have h0:len=0:=by
   rcases Nat.eq_zero_or_pos len with h0 | h0
   · exact h0
   · obtain⟨_,_,e,_⟩:=h.2.2 0 h0;cases e
  subst h0;have hx:xs=[]:=List.eq_nil_of_length_eq_zero h.1;subst hx;exact run_convert_bytes_nil w 32 5 Tryz.underlying32 Tryz.underlying5 0 cap 9 Tryz.underlying9
 | some ad =>
  by_cases h0:len=0
  · subst h0;have hx:xs=[]:=List.eq_nil_of_length_eq_zero h.1;subst hx;rw [run_convert_bytes_string w 32 9 5 (some ad) 0 cap Tryz.underlying32 Tryz.underlying5 Tryz.underlying9];rw [run_bytesToString (P:=Tryz.prog) w ad 0 cap [] rfl];rfl
  · obtain⟨b,off,e,_⟩:=h.2.2 0 (by omega);obtain rfl:=Option.some.inj e;have aa:=h.1;refine run_convert_bytes_arg w 32 5 Tryz.underlying32 Tryz.underlying5 b off len cap (xs.map Int.ofNat) (by simp [aa]) ?_ 9 Tryz.underlying9;intro i hi;rw [h.at i hi];(have hi':i<xs.length:=by omega);simp [List.getD,hi']
theorem Zf9 (w:World):Owns (w.alloc (.cells #[] 5)) w.heap.size (.slice (some ⟨w.heap.size,0,none⟩) 0 0) []:=Owns.lit w w.heap.size [] (Nat.le_refl _) (by simp)
def fromA (a:Option Addr) (cap k:Nat):Option Addr:=if cap=k then a else a.map (·.add (k*1))
theorem sz5 (w:World):(sizeOf 5).run Tryz.prog w=.ok 1 w:=by
 obtain⟨i0,hi,ab,aa,ac⟩:=info_parts ZgS;simp [sizeOf,typeInfo,hi,aa]
theorem Zh4:Tryz.prog.elem 32=5:=by kernel_rfl
theorem Zbc (a:Option Addr)(len cap k:Nat)(hk:k≤len)(w:World):(Instr.sliceAt 32 (.slice a len cap) (some (.int .i64 (k:Nat))) none none).run Tryz.prog w=.ok (.slice (fromA a cap k) (len-k) (cap-k)) w:=by
 (have aa:Tryz.prog.underlying 32=some (.slice (Tryz.prog.elem 32)):=by kernel_rfl);rw [run_sliceAt_slice w 32 _ _ _ _ aa,run_slice_l w 32 a len cap aa .i64 (k:Nat) (by omega) (by omega),Zh4,sz5];simp [Result.andThen,sliced,fromA]
theorem Zb0 (a:Option Addr)(len cap k:Nat)(hk:k≤cap)(w:World):(Instr.sliceAt 32 (.slice a len cap) none (some (.int .i64 (k:Nat))) none).run Tryz.prog w=.ok (.slice (fromA a cap 0) k cap) w:=by
 (have aa:Tryz.prog.underlying 32=some (.slice (Tryz.prog.elem 32)):=by kernel_rfl);rw [run_sliceAt_slice w 32 _ _ _ _ aa,run_slice_h w 32 a len cap aa .i64 (k:Nat) (by omega) (by omega),Zh4,sz5];simp [Result.andThen,sliced,fromA]
theorem Bs.from (h:Bs w a len xs)(hk:k≤len)(hc:len≤cap):Bs w (fromA a cap k) (len-k) (xs.drop k):=by
 refine⟨by simp [h.1],fun x hx=>h.2.1 x (List.mem_of_mem_drop hx),fun i hi=>?_⟩;obtain⟨b,off,rfl,aa⟩:=h.2.2 (k+i) (by omega);refine⟨b,off+k,?_,?_⟩
 · unfold fromA;rw [if_neg (by omega)];simp only [Option.map_some,Nat.mul_one,Addr.add_lit]
 · rw [Nat.add_assoc,aa];simp [List.getD]
theorem Bs.upto (h:Bs w a len xs)(hk:k≤len):Bs w (fromA a cap 0) k (xs.take k):=by
 refine⟨by simp [h.1,hk],fun x hx=>h.2.1 x (List.mem_of_mem_take hx),fun i hi=>?_⟩;obtain⟨b,off,rfl,aa⟩:=h.2.2 i (by omega);refine⟨b,off,?_,?_⟩
 · unfold fromA;split
   · rfl
   · simp only [Option.map_some,Nat.zero_mul,Addr.add_lit,Nat.add_zero]
 · rw [aa];simp [List.getD,hi]
theorem Owns.set {wr:World}{N:Nat}{zs:List Nat}(h:Owns wr base (.slice (some ⟨g,0,none⟩) N cap) zs)(hN:N=zs.length)(i x:Nat) :
    Owns (wr.setCell ⟨g,i,none⟩ (.int .u8 (x:Int))) base (.slice (some ⟨g,0,none⟩) N cap) (zs.set i x):=by
  subst hN;have:=(World.ownsRow.stored h i (.int .u8 (x:Int))).1;unfold Owns;rw [List.length_set,← Zmj];exact this
def Zc7 (cur:Array Value):Nat→List Value→Array Value
  | _,[]=>cur
  | o,v :: r=>Zc7 (cur.setIfInBounds o v) (o+1) r
theorem Zez:∀(vs:List Value)(cur:Array Value)(o:Nat),(Zc7 cur o vs).size=cur.size
 | [],_,_=>rfl
 | v :: r,cur,o=>by
  show (Zc7 (cur.setIfInBounds o v) (o+1) r).size=_
  rw [Zez r]
  simp
theorem Ze0:∀(vs:List Value)(cur:Array Value)(o:Nat),o+vs.length≤cur.size→(Zc7 cur o vs).toList.take (o+vs.length)=cur.toList.take o ++ vs
 | [],cur,o,_=>by simp [Zc7]
 | v :: r,cur,o,h=>by
  have h':o+1+r.length≤cur.size:=by simp at h;omega
  have ih:=Ze0 r (cur.setIfInBounds o v) (o+1) (by simpa using h')
  show (Zc7 (cur.setIfInBounds o v) (o+1) r).toList.take (o+(r.length+1))=_
  rw [show o+(r.length+1)=o+1+r.length by omega,ih]
  have ho:o<cur.toList.length:=by simp;omega
  rw [Array.toList_setIfInBounds,List.take_succ_eq_append_getElem (by simpa using ho),List.take_set_of_le (Nat.le_refl _)]
  simp
theorem ZdF (g:Nat)(e:TypeId):∀(vs:List Value)(o:Nat)(cur:Array Value)(w:World),w.heap[g]? = some (.cells cur e (0,0))→(w.setCells g o vs).heap[g]? = some (.cells (Zc7 cur o vs) e (0,0))
 | [],_,_,_,h=>h
 | v :: r,o,cur,w,h=>ZdF g e r (o+1) _ _ (heap_setCell_same w g o cur e v h)
theorem Zbh (hB:B≤g):∀(vs:List Value)(o:Nat)(w0 w:World),Below B w0 w→Below B w0 (w.setCells g o vs)
 | [],_,_,_,h=>h
 | v :: r,o,w0,_,h=>Zbh hB r (o+1) w0 _ (h.setCell hB v)
theorem ZcK (g k:Nat)(hk:k≠g):∀(vs:List Value)(o:Nat)(w:World),(w.setCells g o vs).heap[k]? = w.heap[k]?
 | [],_,_=>rfl
 | v :: r,o,w=>by
  show ((w.setCell ⟨g,o,none⟩ v).setCells g (o+1) r).heap[k]? = _
  rw [ZcK g k hk r (o+1) _]
  exact Below.heap_setCell w ⟨g,o,none⟩ v k hk
namespace Pl
def At (n:Nat) (A:Act) (f:Nat→Value):Prop:=A.tmps.size=n∧A.defers=[]∧∀d,d<n→A.tmps.getD d undef=f d
def upd (f:Nat→Value) (d:Nat) (v:Value):Nat→Value:=fun e=>if e=d then v else f e
theorem At.here (hn:A.tmps.size=n)(h:A.defers=[]):At n A (fun d=>A.tmps.getD d undef):=⟨hn,h,fun _ _=>rfl⟩
def At.fn {n : Nat} {A : Act} {f : Nat → Value} (_ : At n A f) : Nat → Value := f
theorem At.put {n:Nat}{A:Act}{f:Nat→Value}(h:At n A f)(d:Nat)(v:Value):At n (A.put (some d) v) (upd f d v):=by
 refine⟨by simpa [Act.put] using h.1,by simpa [Act.put] using h.2.1,fun e he=>?_⟩;have hs:=h.1;simp only [Act.put,upd];by_cases aa:e=d
 · subst aa;rw [if_pos rfl];simp [Array.getD,hs,he]
 · rw [if_neg aa,← h.2.2 e he];have ab:d≠e:=fun x=>aa x.symm;simp [Array.getD,hs,he,ab]
theorem At.ext {B:Act}{f:Nat→Value}(h:At n A f)(k:At n B f):A=B:=by
 have e1:A.tmps=B.tmps:=by
  apply Array.ext
  · rw [h.1,k.1]
  · intro i h1 h2;have ha:=h.2.2 i (by have:=h.1;omega);have hb:=k.2.2 i (by have:=h.1;omega);simp only [Array.getD,h1,h2,dif_pos] at ha hb;exact ha.trans hb.symm
 (have e2:A.defers=B.defers:=by rw [h.2.1,k.2.1]);cases A;cases B;simp only at e1 e2;rw [e1,e2]
def ev (f:Nat→Value):Operand→Value
  | .tmp t=>f t
  | .const v=>v
  | .global g=>.pointer (some ⟨g,0,none⟩)
  | .func g=>.func (.func g) #[] #[]
def inB (n:Nat):Operand→Bool
  | .tmp t=>decide (t<n)
  | _=>true
theorem At.ev {f:Nat→Value}(h:At n A f)(x:Operand)(hx:inB n x=true):A.eval x=ev f x:=by
 cases x with
 | tmp t=>exact h.2.2 t (by simpa [inB] using hx)
 | const v=>rfl
 | global g=>rfl
 | func g=>rfl
section
variable {P : Program} {ops : Array Oper} {S : World → Prop} {Q : Exit → Act → World → Prop} {n fuel : Nat} {listed : Array Bool} {f : Nat → Value} {w : World}
def H (P:Program) (ops:Array Oper) (S:World→Prop) (Q:Exit→Act→World→Prop) (n fuel:Nat) (listed:Array Bool) (f:Nat→Value) (w:World):Prop:=
  ∀A,At n A f→wpAnyH P .any ops (NoPanic Q) S fuel listed A w
theorem H.start {id:Nat}(hm:P.follows .mixedOrders=true)(hA:At n A f)(hS:S w.drew)(h:H P ops S Q n ops.size (Array.replicate ops.size false) f w.drew) :
    (Code.region id ops true).wp P Q A w:=
  wp_region_noPanic (wp_region_held_drew (S:=S) hm hS (fun _=>h A hA))

theorem qa {id:Nat}{A:Act}(hA:At n A f)(hS:S w.drew)(h:H P ops S Q n ops.size (Array.replicate ops.size false) f w.drew)(hm:P.follows .mixedOrders=true:=by kernel_rfl):(Code.region id ops true).wp P Q A w:=H.start hm hA hS h
theorem H.done (hr:Region.ready .any ops listed=[])(h:∀A,At n A f→Q .normal A w):H P ops S Q n fuel listed f w:=
 fun A hA=>wpAnyH_done hr (NoPanic.normal (h A hA)) _

theorem q7 (h:∀A,At n A f→Q .normal A w)(hr:Region.ready .any ops listed=[]:=by kernel_rfl):H P ops S Q n fuel listed f w:=H.done hr h
def first (ops:Array Oper) (listed:Array Bool) (i:Nat):Bool:=Region.noSelect ops && Region.free .any ops listed i && (Region.ready .any ops listed).contains i
def op (ops:Array Oper) (i:Nat):Oper:=ops.getD i default
theorem H.take (i d:Nat)(v:Value)(hi:ops[i]? = some (op ops i))(hd:(op ops i).dst=some d)(hc:first ops listed i=true)
    (hw:∀A,At n A f→Region.wanted (op ops i) (yielded ops A.tmps)=true)
    (hy:∀A,At n A f→∀w,S w→(execOp A.eval (op ops i)).run P w=.ok (.value v) w)(hS:S w)
    (h:H P ops S Q n fuel (listed.setIfInBounds i true) (upd f d v) w):H P ops S Q n (fuel+1) listed f w:=by
  intro A hA;simp only [first,Bool.and_eq_true] at hc;refine wpAnyH_take (i:=i) (oi:=op ops i) (v:=v) hi hc.1.1 hc.1.2 hc.2 (fun _ _ _ h=>h) (.inl ⟨hw A hA,hy A hA⟩) hS (h _ ?_);rw [hd];exact hA.put d v

theorem q1 (i:Nat)(d:Nat)(v:Value)(hw:∀A,At n A f→Region.wanted (op ops i) (yielded ops A.tmps)=true)(hy:∀A,At n A f→∀w,S w→(execOp A.eval (op ops i)).run P w=.ok (.value v) w)(hS:S w)(h:H P ops S Q n fuel (listed.setIfInBounds i true) (upd f d v) w)(hi:ops[i]? = some (op ops i):=by kernel_rfl)(hd:(op ops i).dst=some d:=by kernel_rfl)(hc:first ops listed i=true:=by kernel_rfl):H P ops S Q n (fuel+1) listed f w:=H.take i d v hi hd hc hw hy hS h
theorem H.solo (i d:Nat)(v:Value)(hi:ops[i]? = some (op ops i))(hd:(op ops i).dst=some d)(hr:Region.ready .any ops listed=[i])
    (hw:∀A,At n A f→Region.wanted (op ops i) (yielded ops A.tmps)=true)
    (hy:∀A,At n A f→(execOp A.eval (op ops i)).run P w=.ok (.value v) w)(hS:S w)
    (h:H P ops S Q n fuel (listed.setIfInBounds i true) (upd f d v) w):H P ops S Q n (fuel+1) listed f w:=by
  intro A hA;refine wpAnyH_all hr (by simp) ?_;intro j hj;(obtain rfl:j=i:=by simpa using hj);unfold wpOp;rw [hi];simp only [hw A hA,if_true];refine .inl ?_;unfold Oper.wp;rw [hy A hA];refine⟨hS,h _ ?_⟩;rw [hd];exact hA.put d v

theorem qv (i:Nat)(d:Nat)(v:Value)(hw:∀A,At n A f→Region.wanted (op ops i) (yielded ops A.tmps)=true)(hy:∀A,At n A f→(execOp A.eval (op ops i)).run P w=.ok (.value v) w)(hS:S w)(h:H P ops S Q n fuel (listed.setIfInBounds i true) (upd f d v) w)(hi:ops[i]? = some (op ops i):=by kernel_rfl)(hd:(op ops i).dst=some d:=by kernel_rfl)(hr:Region.ready .any ops listed=[i]:=by kernel_rfl):H P ops S Q n (fuel+1) listed f w:=H.solo i d v hi hd hr hw hy hS h
theorem H.make (i d:Nat)(v:Value)(w':World)(hi:ops[i]? = some (op ops i))(hd:(op ops i).dst=some d)(hr:Region.ready .any ops listed=[i])
    (hw:∀A,At n A f→Region.wanted (op ops i) (yielded ops A.tmps)=true)
    (hy:∀A,At n A f→(execOp A.eval (op ops i)).run P w=.ok (.value v) w')(hS:S w')
    (h:H P ops S Q n fuel (listed.setIfInBounds i true) (upd f d v) w'):H P ops S Q n (fuel+1) listed f w:=by
  intro A hA;refine wpAnyH_all hr (by simp) ?_;intro j hj;(obtain rfl:j=i:=by simpa using hj);unfold wpOp;rw [hi];simp only [hw A hA,if_true];refine .inl ?_;unfold Oper.wp;rw [hy A hA];refine⟨hS,h _ ?_⟩;rw [hd];exact hA.put d v

theorem qf (i:Nat)(d:Nat)(v:Value)(w':World)(hw:∀A,At n A f→Region.wanted (op ops i) (yielded ops A.tmps)=true)(hy:∀A,At n A f→(execOp A.eval (op ops i)).run P w=.ok (.value v) w')(hS:S w')(h:H P ops S Q n fuel (listed.setIfInBounds i true) (upd f d v) w')(hi:ops[i]? = some (op ops i):=by kernel_rfl)(hd:(op ops i).dst=some d:=by kernel_rfl)(hr:Region.ready .any ops listed=[i]:=by kernel_rfl):H P ops S Q n (fuel+1) listed f w:=H.make i d v w' hi hd hr hw hy hS h
theorem H.call (i d g:Nat)(xs:List Operand)(ts:Array TypeId)(hi:ops[i]? = some (op ops i))(hd:(op ops i).dst=some d)(hr:Region.ready .any ops listed=[i])
    (hw:∀A,At n A f→Region.wanted (op ops i) (yielded ops A.tmps)=true)
    (ad:(op ops i).op=.call { callee:=.value (.func g),args:=xs.toArray,argTypes:=ts })(hx:xs.all (inB n)=true)
    (ac:∀args w,(callFunc g args).run P w=.ok (.enter g args) w)
    (h:Calls P g (xs.map (ev f)).toArray w fun e w'=>∃v,e=.returned v∧S w'∧H P ops S Q n fuel (listed.setIfInBounds i true) (upd f d v) w') :
    H P ops S Q n (fuel+1) listed f w:=by
  intro A hA;refine wpAnyH_all hr (by simp) ?_;intro j hj;(obtain rfl:j=i:=by simpa using hj);unfold wpOp;rw [hi];simp only [hw A hA,if_true];refine .inl ?_;have aa:#[] ++ xs.toArray.map A.eval ++ #[]=(xs.map (ev f)).toArray:=by
   simp only [Array.empty_append,Array.append_empty,List.map_toArray];congr 1;apply List.map_congr_left;intro x ae;exact hA.ev x (List.all_eq_true.1 hx x ae)
  have ab:(execOp A.eval (op ops j)).run P w=.ok (.enter g (xs.map (ev f)).toArray) w:=by
   have e:execOp A.eval (op ops j)=callFunc g (#[] ++ xs.toArray.map A.eval ++ #[]):=by
    unfold execOp;rw [ad];rfl
   rw [e,aa];exact ac _ _
  unfold Oper.wp;rw [ab];refine h.mono ?_;rintro e w' ⟨v,rfl,hS,hh⟩;refine⟨hS,hh _ ?_⟩;rw [hd];exact hA.put d v

theorem qc (i:Nat)(d:Nat)(g:Nat)(xs:List Operand)(ts:Array TypeId)(hw:∀A,At n A f→Region.wanted (op ops i) (yielded ops A.tmps)=true)(hfn:∀args w,(callFunc g args).run P w=.ok (.enter g args) w)(h:Calls P g (xs.map (ev f)).toArray w fun e w'=>∃v,e=.returned v∧S w'∧H P ops S Q n fuel (listed.setIfInBounds i true) (upd f d v) w')(hi:ops[i]? = some (op ops i):=by kernel_rfl)(hd:(op ops i).dst=some d:=by kernel_rfl)(hr:Region.ready .any ops listed=[i]:=by kernel_rfl)(hop:(op ops i).op=.call { callee:=.value (.func g),args:=xs.toArray,argTypes:=ts }:=by kernel_rfl)(hx:xs.all (inB n)=true:=by decide):H P ops S Q n (fuel+1) listed f w:=H.call i d g xs ts hi hd hr hw hop hx hfn h
theorem free (i:Nat)(h:(op ops i).guard=none):∀A,At n A f→Region.wanted (op ops i) (yielded ops A.tmps)=true:=by
 intro A _;simp [Region.wanted,h]

theorem q0 {i:Nat}(h:(op ops i).guard=none:=by kernel_rfl):∀A,At n A f→Region.wanted (op ops i) (yielded ops A.tmps)=true:=free i h
theorem guarded (i j dj:Nat)(b:Bool)(h:(op ops i).guard=some (j,b))(hj:(ops[j]?).bind (·.dst)=some dj)(hn:dj<n)(hv:f dj=.bool b) :
    ∀A,At n A f→Region.wanted (op ops i) (yielded ops A.tmps)=true:=by
  intro A hA;have hs:=hA.1;have h1:=hA.2.2 dj hn;have h2:A.tmps[dj]? = some (.bool b):=by
   rw [hv] at h1;(have aa:dj<A.tmps.size:=by omega);simp only [Array.getD,aa,dif_pos] at h1;rw [Array.getElem?_eq_getElem aa];exact congrArg some h1
  simp [Region.wanted,h,yielded,hj,h2]

theorem q3 {i:Nat}(j:Nat)(dj:Nat)(b:Bool)(h:(op ops i).guard=some (j,b):=by kernel_rfl)(hj:(ops[j]?).bind (·.dst)=some dj:=by kernel_rfl)(hn:dj<n:=by decide)(hv:f dj=.bool b:=by exact rfl):∀A,At n A f→Region.wanted (op ops i) (yielded ops A.tmps)=true:=guarded i j dj b h hj hn hv
theorem move (i:Nat)(x:Operand)(h:(op ops i).op=.move x)(hx:inB n x=true):∀A,At n A f→∀w,S w→(execOp A.eval (op ops i)).run P w=.ok (.value (ev f x)) w:=by
 intro A hA w _;rw [BigFrame.run_move x h,hA.ev x hx]

theorem q2 {i:Nat}(x:Operand)(h:(op ops i).op=.move x:=by kernel_rfl)(hx:inB n x=true:=by decide):∀A,At n A f→∀w,S w→(execOp A.eval (op ops i)).run P w=.ok (.value (ev f x)) w:=move i x h hx
theorem assign (i:Nat)(x:Operand)(h:(op ops i).op=.assign x)(hx:inB n x=true):∀A,At n A f→∀w,S w→(execOp A.eval (op ops i)).run P w=.ok (.value (ev f x)) w:=by
 intro A hA w _;rw [BigFrame.run_assign x h,hA.ev x hx]

theorem qm {i:Nat}(x:Operand)(h:(op ops i).op=.assign x:=by kernel_rfl)(hx:inB n x=true:=by decide):∀A,At n A f→∀w,S w→(execOp A.eval (op ops i)).run P w=.ok (.value (ev f x)) w:=assign i x h hx
theorem pick (i:Nat)(c x y:Operand)(h:(op ops i).op=.pick c x y)(hc:inB n c=true)(hx:inB n x=true)(hv:ev f c=.bool true) :
    ∀A,At n A f→∀w,S w→(execOp A.eval (op ops i)).run P w=.ok (.value (ev f x)) w:=by
  intro A hA w _;have e:execOp A.eval (op ops i)=(do pure (.value (if ← asBool (A.eval c) then A.eval x else A.eval y))):=by
   unfold execOp;rw [h]
  rw [e,hA.ev c hc,hv,hA.ev x hx];rfl

theorem qy {i:Nat}(c:Operand)(x:Operand)(y:Operand)(h:(op ops i).op=.pick c x y:=by kernel_rfl)(hc:inB n c=true:=by decide)(hx:inB n x=true:=by decide)(hv:ev f c=.bool true:=by exact rfl):∀A,At n A f→∀w,S w→(execOp A.eval (op ops i)).run P w=.ok (.value (ev f x)) w:=pick i c x y h hc hx hv
theorem conv (i:Nat)(src dst:TypeId)(x:Operand)(v:Value)(h:(op ops i).op=.convert src dst x)(hx:inB n x=true)(hv:∀w,S w→(convert src dst (ev f x)).run P w=.ok v w) :
    ∀A,At n A f→∀w,S w→(execOp A.eval (op ops i)).run P w=.ok (.value v) w:=by
  intro A hA w hS;have e:execOp A.eval (op ops i)=(do pure (.value (← convert src dst (A.eval x)))):=by
   unfold execOp;rw [h]
  rw [e,hA.ev x hx];simp [hv w hS]
theorem conv1 (i:Nat)(src dst:TypeId)(x:Operand)(v:Value)(h:(op ops i).op=.convert src dst x)(hx:inB n x=true)(hv:(convert src dst (ev f x)).run P w=.ok v w) :
    ∀A,At n A f→(execOp A.eval (op ops i)).run P w=.ok (.value v) w:=by
  intro A hA;have e:execOp A.eval (op ops i)=(do pure (.value (← convert src dst (A.eval x)))):=by
   unfold execOp;rw [h]
  rw [e,hA.ev x hx];simp [hv]
theorem slice (i:Nat)(t:TypeId)(x:Operand)(lo hi:Option Operand)(v:Value)(h:(op ops i).op=.slice t x lo hi none)(hx:inB n x=true)(hl:lo.all (inB n)=true)(hh:hi.all (inB n)=true)
    (hv:∀w,(Instr.sliceAt t (ev f x) (lo.map (ev f)) (hi.map (ev f)) none).run P w=.ok v w):∀A,At n A f→∀w,S w→(execOp A.eval (op ops i)).run P w=.ok (.value v) w:=by
  intro A hA w _;have e1:lo.map A.eval=lo.map (ev f):=by
   cases lo with
   | none=>rfl
   | some y=>exact congrArg some (hA.ev y (by simpa using hl))
  have e2:hi.map A.eval=hi.map (ev f):=by
   cases hi with
   | none=>rfl
   | some y=>exact congrArg some (hA.ev y (by simpa using hh))
  have e:execOp A.eval (op ops i)=(do pure (.value (← Instr.sliceAt t (A.eval x) (lo.map A.eval) (hi.map A.eval) none))):=by
   unfold execOp;rw [h];rfl
  rw [e,hA.ev x hx,e1,e2];simp [hv w]

theorem qo {i:Nat}{v:Value}(t:TypeId)(x:Operand)(lo:Option Operand)(hi:Option Operand)(hv:∀w,(Instr.sliceAt t (ev f x) (lo.map (ev f)) (hi.map (ev f)) none).run P w=.ok v w)(h:(op ops i).op=.slice t x lo hi none:=by kernel_rfl)(hx:inB n x=true:=by decide)(hl:lo.all (inB n)=true:=by decide)(hh:hi.all (inB n)=true:=by decide):∀A,At n A f→∀w,S w→(execOp A.eval (op ops i)).run P w=.ok (.value v) w:=slice i t x lo hi v h hx hl hh hv
theorem neg (i:Nat)(t:TypeId)(x:Operand)(b:Bool)(h:(op ops i).op=.unOp .not t x)(hx:inB n x=true)(hv:ev f x=.bool b) :
    ∀A,At n A f→∀w,S w→(execOp A.eval (op ops i)).run P w=.ok (.value (.bool (!b))) w:=by
  intro A hA w _;have e:execOp A.eval (op ops i)=(do pure (.value (← Op.unary .not (A.eval x)))):=by
   unfold execOp;rw [h]
  rw [e,hA.ev x hx,hv];rfl

theorem q_40 {i:Nat}(t:TypeId)(x:Operand)(b:Bool)(h:(op ops i).op=.unOp .not t x:=by kernel_rfl)(hx:inB n x=true:=by decide)(hv:ev f x=.bool b:=by exact rfl):∀A,At n A f→∀w,S w→(execOp A.eval (op ops i)).run P w=.ok (.value (.bool (!b))) w:=neg i t x b h hx hv
theorem index (i:Nat)(t:TypeId)(x y:Operand)(v:Value)(h:(op ops i).op=.indexAddr t x y)(hx:inB n x=true)(hy:inB n y=true)(hv:∀w,(Instr.indexAt t (ev f x) (ev f y)).run P w=.ok v w) :
    ∀A,At n A f→∀w,S w→(execOp A.eval (op ops i)).run P w=.ok (.value v) w:=by
  intro A hA w _;have e:execOp A.eval (op ops i)=(do pure (.value (← Instr.indexAt t (A.eval x) (A.eval y)))):=by
   unfold execOp;rw [h]
  rw [e,hA.ev x hx,hA.ev y hy];simp [hv w]

theorem qj {i:Nat}{v:Value}(t:TypeId)(x:Operand)(y:Operand)(hv:∀w,(Instr.indexAt t (ev f x) (ev f y)).run P w=.ok v w)(h:(op ops i).op=.indexAddr t x y:=by kernel_rfl)(hx:inB n x=true:=by decide)(hy:inB n y=true:=by decide):∀A,At n A f→∀w,S w→(execOp A.eval (op ops i)).run P w=.ok (.value v) w:=index i t x y v h hx hy hv
theorem load (i:Nat)(t:TypeId)(x:Operand)(v:Value)(h:(op ops i).op=.load t x)(hx:inB n x=true)(hv:∀w,S w→(Instr.loadAt t (ev f x)).run P w=.ok v w) :
    ∀A,At n A f→∀w,S w→(execOp A.eval (op ops i)).run P w=.ok (.value v) w:=by
  intro A hA w hS;have e:execOp A.eval (op ops i)=(do pure (.value (← Instr.loadAt t (A.eval x)))):=by
   unfold execOp;rw [h]
  rw [e,hA.ev x hx];simp [hv w hS]

theorem q6 {i:Nat}{v:Value}(t:TypeId)(x:Operand)(hv:∀w,S w→(Instr.loadAt t (ev f x)).run P w=.ok v w)(h:(op ops i).op=.load t x:=by kernel_rfl)(hx:inB n x=true:=by decide):∀A,At n A f→∀w,S w→(execOp A.eval (op ops i)).run P w=.ok (.value v) w:=load i t x v h hx hv
theorem bin (i:Nat)(b:BinOp)(t t':TypeId)(x y:Operand)(v:Value)(h:(op ops i).op=.binOp b t x y t')(hx:inB n x=true)(hy:inB n y=true)
    (hv:∀w,(do eqGuard b t x y (ev f x) (ev f y);binOp b t (ev f x) (ev f y):Sem Value).run P w=.ok v w) :
    ∀A,At n A f→∀w,S w→(execOp A.eval (op ops i)).run P w=.ok (.value v) w:=by
  intro A hA w _;have e:execOp A.eval (op ops i)=(do pure (.value (← (do eqGuard b t x y (A.eval x) (A.eval y);binOp b t (A.eval x) (A.eval y))))):=by
   unfold execOp;rw [h]
  rw [e,hA.ev x hx,hA.ev y hy];rw [Sem.run_bind,hv w];rfl
theorem one (i:Nat)(t:TypeId)(x:Operand)(v:Value)(w':World)(h:(op ops i).op=.buildSlice t 1 #[(0,x)])(hx:inB n x=true)(hv:(Instr.buildSlice t 1 #[(0,ev f x)]).run P w=.ok v w') :
    ∀A,At n A f→(execOp A.eval (op ops i)).run P w=.ok (.value v) w':=by
  intro A hA;have e:execOp A.eval (op ops i)=(do pure (.value (← Instr.buildSlice t 1 (Array.map (fun (p:Nat × Operand)=>(p.1,A.eval p.2)) #[(0,x)])))):=by
   unfold execOp;rw [h]
  rw [e];simp [hA.ev x hx,hv]

theorem qt {i:Nat}{v:Value}{w':World}(t:TypeId)(x:Operand)(hv:(Instr.buildSlice t 1 #[(0,ev f x)]).run P w=.ok v w')(h:(op ops i).op=.buildSlice t 1 #[(0,x)]:=by kernel_rfl)(hx:inB n x=true:=by decide):∀A,At n A f→(execOp A.eval (op ops i)).run P w=.ok (.value v) w':=one i t x v w' h hx hv
theorem H.skip (i d:Nat)(hi:ops[i]? = some (op ops i))(hd:(op ops i).dst=some d)(hc:first ops listed i=true)
    (hw:∀A,At n A f→Region.wanted (op ops i) (yielded ops A.tmps)=false)(hS:S w)
    (h:H P ops S Q n fuel (listed.setIfInBounds i true) (upd f d undef) w):H P ops S Q n (fuel+1) listed f w:=by
  intro A hA;simp only [first,Bool.and_eq_true] at hc;refine wpAnyH_take (i:=i) (oi:=op ops i) (v:=undef) hi hc.1.1 hc.1.2 hc.2 (fun _ _ _ h=>h) (.inr ⟨hw A hA,rfl⟩) hS (h _ ?_);rw [hd];exact hA.put d undef

theorem q5 (i:Nat)(d:Nat)(hw:∀A,At n A f→Region.wanted (op ops i) (yielded ops A.tmps)=false)(hS:S w)(h:H P ops S Q n fuel (listed.setIfInBounds i true) (upd f d undef) w)(hi:ops[i]? = some (op ops i):=by kernel_rfl)(hd:(op ops i).dst=some d:=by kernel_rfl)(hc:first ops listed i=true:=by kernel_rfl):H P ops S Q n (fuel+1) listed f w:=H.skip i d hi hd hc hw hS h
theorem unwanted (i j dj:Nat)(b:Bool)(h:(op ops i).guard=some (j,b))(hj:(ops[j]?).bind (·.dst)=some dj)(hn:dj<n)(hv:f dj=.bool (!b)) :
    ∀A,At n A f→Region.wanted (op ops i) (yielded ops A.tmps)=false:=by
  intro A hA;have hs:=hA.1;have h1:=hA.2.2 dj hn;have h2:A.tmps[dj]? = some (.bool (!b)):=by
   rw [hv] at h1;(have aa:dj<A.tmps.size:=by omega);simp only [Array.getD,aa,dif_pos] at h1;rw [Array.getElem?_eq_getElem aa];exact congrArg some h1
  cases b <;> simp [Region.wanted,h,yielded,hj,h2]

theorem qb {i:Nat}(j:Nat)(dj:Nat)(b:Bool)(h:(op ops i).guard=some (j,b):=by kernel_rfl)(hj:(ops[j]?).bind (·.dst)=some dj:=by kernel_rfl)(hn:dj<n:=by decide)(hv:f dj=.bool (!b):=by exact rfl):∀A,At n A f→Region.wanted (op ops i) (yielded ops A.tmps)=false:=unwanted i j dj b h hj hn hv
theorem pickF (i:Nat)(c x y:Operand)(h:(op ops i).op=.pick c x y)(hc:inB n c=true)(hy:inB n y=true)(hv:ev f c=.bool false) :
    ∀A,At n A f→∀w,S w→(execOp A.eval (op ops i)).run P w=.ok (.value (ev f y)) w:=by
  intro A hA w _;have e:execOp A.eval (op ops i)=(do pure (.value (if ← asBool (A.eval c) then A.eval x else A.eval y))):=by
   unfold execOp;rw [h]
  rw [e,hA.ev c hc,hv,hA.ev y hy];rfl

theorem qs {i:Nat}(c:Operand)(x:Operand)(y:Operand)(h:(op ops i).op=.pick c x y:=by kernel_rfl)(hc:inB n c=true:=by decide)(hy:inB n y=true:=by decide)(hv:ev f c=.bool false:=by exact rfl):∀A,At n A f→∀w,S w→(execOp A.eval (op ops i)).run P w=.ok (.value (ev f y)) w:=pickF i c x y h hc hy hv
theorem field (i:Nat)(t:TypeId)(x:Operand)(k:Nat)(v:Value)(h:(op ops i).op=.fieldAddr t x k)(hx:inB n x=true)(hv:∀w,(Instr.fieldAt t (ev f x) k).run P w=.ok v w) :
    ∀A,At n A f→∀w,S w→(execOp A.eval (op ops i)).run P w=.ok (.value v) w:=by
  intro A hA w _;have e:execOp A.eval (op ops i)=(do pure (.value (← Instr.fieldAt t (A.eval x) k))):=by
   unfold execOp;rw [h]
  rw [e,hA.ev x hx];simp [hv w]

theorem q4 {i:Nat}{v:Value}(t:TypeId)(x:Operand)(k:Nat)(hv:∀w,(Instr.fieldAt t (ev f x) k).run P w=.ok v w)(h:(op ops i).op=.fieldAddr t x k:=by kernel_rfl)(hx:inB n x=true:=by decide):∀A,At n A f→∀w,S w→(execOp A.eval (op ops i)).run P w=.ok (.value v) w:=field i t x k v h hx hv
theorem nilc (i:Nat)(x:Operand)(a:Addr)(h:(op ops i).op=.nilCheck x)(hx:inB n x=true)(hv:ev f x=.pointer (some a)) :
    ∀A,At n A f→∀w,S w→(execOp A.eval (op ops i)).run P w=.ok (.value (.pointer (some a))) w:=by
  intro A hA w _;unfold execOp;rw [h];simp only [hA.ev x hx,hv];rfl

theorem qg {i:Nat}{a:Addr}(x:Operand)(h:(op ops i).op=.nilCheck x:=by kernel_rfl)(hx:inB n x=true:=by decide)(hv:ev f x=.pointer (some a):=by exact rfl):∀A,At n A f→∀w,S w→(execOp A.eval (op ops i)).run P w=.ok (.value (.pointer (some a))) w:=nilc i x a h hx hv
theorem lenOf (i:Nat)(t:TypeId)(x:Operand)(v:Value)(h:(op ops i).op=.call { callee:=.builtin .len,args:=#[x],argTypes:=#[t] })(hx:inB n x=true)
    (hv:∀ty w,(Builtin.len_ #[t] ty #[ev f x]).run P w=.ok v w):∀A,At n A f→∀w,S w→(execOp A.eval (op ops i)).run P w=.ok (.value v) w:=by
  intro A hA w _;unfold execOp;rw [h];simp [resolve,invoke,builtin,hA.ev x hx,hv]

theorem qx {i:Nat}{v:Value}(t:TypeId)(x:Operand)(hv:∀ty w,(Builtin.len_ #[t] ty #[ev f x]).run P w=.ok v w)(h:(op ops i).op=.call { callee:=.builtin .len,args:=#[x],argTypes:=#[t] }:=by kernel_rfl)(hx:inB n x=true:=by decide):∀A,At n A f→∀w,S w→(execOp A.eval (op ops i)).run P w=.ok (.value v) w:=lenOf i t x v h hx hv
theorem binV (i:Nat)(b:BinOp)(t t':TypeId)(x y:Operand)(vx vy v:Value)(h:(op ops i).op=.binOp b t x y t')(hx:inB n x=true)(hy:inB n y=true)(h1:ev f x=vx)(h2:ev f y=vy)
    (hv:∀w,(do eqGuard b t x y vx vy;binOp b t vx vy:Sem Value).run P w=.ok v w) :
    ∀A,At n A f→∀w,S w→(execOp A.eval (op ops i)).run P w=.ok (.value v) w:=by
  subst h1;subst h2;exact bin i b t t' x y v h hx hy hv

theorem q9 {i:Nat}{v:Value}(b:BinOp)(t:TypeId)(t':TypeId)(x:Operand)(y:Operand)(vx:Value)(vy:Value)(hv:∀w,(do eqGuard b t x y vx vy;binOp b t vx vy:Sem Value).run P w=.ok v w)(h:(op ops i).op=.binOp b t x y t':=by kernel_rfl)(hx:inB n x=true:=by decide)(hy:inB n y=true:=by decide)(h1:ev f x=vx:=by exact rfl)(h2:ev f y=vy:=by exact rfl):∀A,At n A f→∀w,S w→(execOp A.eval (op ops i)).run P w=.ok (.value v) w:=binV i b t t' x y vx vy v h hx hy h1 h2 hv
theorem convV (i:Nat)(src dst:TypeId)(x:Operand)(vx v:Value)(h:(op ops i).op=.convert src dst x)(hx:inB n x=true)(h1:ev f x=vx)(hv:∀w,S w→(convert src dst vx).run P w=.ok v w) :
    ∀A,At n A f→∀w,S w→(execOp A.eval (op ops i)).run P w=.ok (.value v) w:=by
  subst h1;exact conv i src dst x v h hx hv
theorem qw {i:Nat}{v:Value}(src:TypeId)(dst:TypeId)(x:Operand)(vx:Value)(hv:∀w,S w→(convert src dst vx).run P w=.ok v w)(h:(op ops i).op=.convert src dst x:=by kernel_rfl)(hx:inB n x=true:=by decide)(h1:ev f x=vx:=by exact rfl):∀A,At n A f→∀w,S w→(execOp A.eval (op ops i)).run P w=.ok (.value v) w:=convV i src dst x vx v h hx h1 hv
end
theorem enters {P : Program} {fn : Func} (hf : P.funcs[g]? = some fn) (aa : (fn.name == "runtime.NumGoroutine") = false) (hb : fn.body.isNone = false) : ∀ args w, (callFunc g args).run P w = .ok (.enter g args) w := by
 intro args w;unfold callFunc;rw [Sem.run_bind,run_program];simp only [Result.andThen,hf,aa,hb];rfl

theorem ql {P : Program} {g : Nat} {fn : Func} (hf : P.funcs[g]? = some fn) (hname : (fn.name == "runtime.NumGoroutine") = false := by kernel_rfl) (hb : fn.body.isNone = false := by kernel_rfl) : ∀ args w, (callFunc g args).run P w = .ok (.enter g args) w := enters hf hname hb
theorem At.same {f:Nat→Value}(h:At n A f){d:Nat}(hv:f d=v):At n A (upd f d v):=by
 refine⟨h.1,h.2.1,fun e he=>?_⟩;rw [h.2.2 e he];unfold upd;split
 · rename_i hed;rw [hed,hv]
 · rfl
def find (id:Nat):Code→Array Oper
  | .region k ops _=>if k=id then ops else #[]
  | .seq a b=>find id a ++ find id b
  | .cond _ a b=>find id a ++ find id b
  | .block _ a=>find id a
  | .loop a=>find id a
  | .scope a=>find id a
  | _=>#[]
theorem region_is {P:Program}{Q:Exit→Act→World→Prop}{id:Nat}{l:Array Oper}{b:Bool}(h:l=ops)(hh:(Code.region id ops b).wp P Q A w):(Code.region id l b).wp P Q A w:=by
 subst h;exact hh

theorem q8 {P:Program}{Q:Exit→Act→World→Prop}{A:Act}{w:World}{id:Nat}{l ops:Array Oper}{b:Bool}(hh:(Code.region id ops b).wp P Q A w)(h:l=ops:=by kernel_rfl):(Code.region id l b).wp P Q A w:=region_is h hh
end Pl
namespace Pl
section
variable {P : Program} {ops : Array Oper} {S : World → Prop} {Q : Exit → Act → World → Prop} {n fuel : Nat} {listed : Array Bool} {f : Nat → Value} {w : World}
def HOp (P:Program) (ops:Array Oper) (S:World→Prop) (Q:Exit→Act→World→Prop) (n fuel:Nat) (listed:Array Bool) (f:Nat→Value) (w:World) (i:Nat):Prop:=
  ∀A,At n A f→wpOp P ops (NoPanic Q) i (fun a' w'=>S w'∧wpAnyH P .any ops (NoPanic Q) S fuel (listed.setIfInBounds i true) a' w') A w
theorem H.one (i:Nat)(hr:Region.ready .any ops listed=[i])(h:HOp P ops S Q n fuel listed f w i):H P ops S Q n (fuel+1) listed f w:=by
 intro A hA;refine wpAnyH_all hr (by simp) ?_;intro j hj;(obtain rfl:j=i:=by simpa using hj);exact h A hA

theorem qu (i:Nat)(h:HOp P ops S Q n fuel listed f w i)(hr:Region.ready .any ops listed=[i]:=by kernel_rfl):H P ops S Q n (fuel+1) listed f w:=H.one i hr h
theorem H.two (i k:Nat)(hr:Region.ready .any ops listed=[i,k])(h:HOp P ops S Q n fuel listed f w i)(h2:HOp P ops S Q n fuel listed f w k):H P ops S Q n (fuel+1) listed f w:=by
 intro A hA;refine wpAnyH_all hr (by simp) ?_;intro j hj;(have:j=i∨j=k:=by simpa using hj);rcases this with rfl | rfl
 · exact h A hA
 · exact h2 A hA

theorem qr (i:Nat)(k:Nat)(h:HOp P ops S Q n fuel listed f w i)(h2:HOp P ops S Q n fuel listed f w k)(hr:Region.ready .any ops listed=[i,k]:=by kernel_rfl):H P ops S Q n (fuel+1) listed f w:=H.two i k hr h h2
theorem HOp.value (i d:Nat)(v:Value)(w':World)(hi:ops[i]? = some (op ops i))(hd:(op ops i).dst=some d)(hg:(op ops i).guard=none)
    (hy:∀A,At n A f→(execOp A.eval (op ops i)).run P w=.ok (.value v) w')(hS:S w')
    (h:H P ops S Q n fuel (listed.setIfInBounds i true) (upd f d v) w'):HOp P ops S Q n fuel listed f w i:=by
  intro A hA;unfold wpOp;rw [hi];simp only [free (n:=n) (f:=f) i hg A hA,if_true];refine .inl ?_;unfold Oper.wp;rw [hy A hA];refine⟨hS,h _ ?_⟩;rw [hd];exact hA.put d v

theorem qe (i:Nat)(d:Nat)(v:Value)(w':World)(hy:∀A,At n A f→(execOp A.eval (op ops i)).run P w=.ok (.value v) w')(hS:S w')(h:H P ops S Q n fuel (listed.setIfInBounds i true) (upd f d v) w')(hi:ops[i]? = some (op ops i):=by kernel_rfl)(hd:(op ops i).dst=some d:=by kernel_rfl)(hg:(op ops i).guard=none:=by kernel_rfl):HOp P ops S Q n fuel listed f w i:=HOp.value i d v w' hi hd hg hy hS h
theorem HOp.call (i d g:Nat)(xs:List Operand)(ts:Array TypeId)(hi:ops[i]? = some (op ops i))(hd:(op ops i).dst=some d)(hg:(op ops i).guard=none)
    (ad:(op ops i).op=.call { callee:=.value (.func g),args:=xs.toArray,argTypes:=ts })(hx:xs.all (inB n)=true)
    (ac:∀args w,(callFunc g args).run P w=.ok (.enter g args) w)
    (h:Calls P g (xs.map (ev f)).toArray w fun e w'=>∃v,e=.returned v∧S w'∧H P ops S Q n fuel (listed.setIfInBounds i true) (upd f d v) w') :
    HOp P ops S Q n fuel listed f w i:=by
  intro A hA;unfold wpOp;rw [hi];simp only [free (n:=n) (f:=f) i hg A hA,if_true];refine .inl ?_;have aa:#[] ++ xs.toArray.map A.eval ++ #[]=(xs.map (ev f)).toArray:=by
   simp only [Array.empty_append,Array.append_empty,List.map_toArray];congr 1;apply List.map_congr_left;intro x ae;exact hA.ev x (List.all_eq_true.1 hx x ae)
  have ab:(execOp A.eval (op ops i)).run P w=.ok (.enter g (xs.map (ev f)).toArray) w:=by
   have e:execOp A.eval (op ops i)=callFunc g (#[] ++ xs.toArray.map A.eval ++ #[]):=by
    unfold execOp;rw [ad];rfl
   rw [e,aa];exact ac _ _
  unfold Oper.wp;rw [ab];refine h.mono ?_;rintro e w' ⟨v,rfl,hS,hh⟩;refine⟨hS,hh _ ?_⟩;rw [hd];exact hA.put d v

theorem q_37 (i:Nat)(d:Nat)(g:Nat)(xs:List Operand)(ts:Array TypeId)(hfn:∀args w,(callFunc g args).run P w=.ok (.enter g args) w)(h:Calls P g (xs.map (ev f)).toArray w fun e w'=>∃v,e=.returned v∧S w'∧H P ops S Q n fuel (listed.setIfInBounds i true) (upd f d v) w')(hi:ops[i]? = some (op ops i):=by kernel_rfl)(hd:(op ops i).dst=some d:=by kernel_rfl)(hg:(op ops i).guard=none:=by kernel_rfl)(hop:(op ops i).op=.call { callee:=.value (.func g),args:=xs.toArray,argTypes:=ts }:=by kernel_rfl)(hx:xs.all (inB n)=true:=by decide):HOp P ops S Q n fuel listed f w i:=HOp.call i d g xs ts hi hd hg hop hx hfn h
theorem load1 (i:Nat)(t:TypeId)(x:Operand)(v:Value)(h:(op ops i).op=.load t x)(hx:inB n x=true)(hv:(Instr.loadAt t (ev f x)).run P w=.ok v w) :
    ∀A,At n A f→(execOp A.eval (op ops i)).run P w=.ok (.value v) w:=by
  intro A hA;have e:execOp A.eval (op ops i)=(do pure (.value (← Instr.loadAt t (A.eval x)))):=by
   unfold execOp;rw [h]
  rw [e,hA.ev x hx];simp [hv]

theorem qp {i:Nat}{v:Value}(t:TypeId)(x:Operand)(hv:(Instr.loadAt t (ev f x)).run P w=.ok v w)(h:(op ops i).op=.load t x:=by kernel_rfl)(hx:inB n x=true:=by decide):∀A,At n A f→(execOp A.eval (op ops i)).run P w=.ok (.value v) w:=load1 i t x v h hx hv
theorem appT (i:Nat)(t ty:TypeId)(x y:Operand)(v:Value)(w':World)(h:(op ops i).op=.call { callee:=.builtin .append,args:=#[x,y],argTypes:=#[t,t] })(ht:(op ops i).type=ty)(hx:inB n x=true)(hy:inB n y=true)
    (hv:(Builtin.append_ #[t,t] ty #[ev f x,ev f y]).run P w=.ok v w') :
    ∀A,At n A f→(execOp A.eval (op ops i)).run P w=.ok (.value v) w':=by
  intro A hA;unfold execOp;rw [h];simp [resolve,invoke,builtin,hA.ev x hx,hA.ev y hy,ht,hv]

theorem qn {i:Nat}{v:Value}{w':World}(t:TypeId)(ty:TypeId)(x:Operand)(y:Operand)(hv:(Builtin.append_ #[t,t] ty #[ev f x,ev f y]).run P w=.ok v w')(h:(op ops i).op=.call { callee:=.builtin .append,args:=#[x,y],argTypes:=#[t,t] }:=by kernel_rfl)(ht:(op ops i).type=ty:=by kernel_rfl)(hx:inB n x=true:=by decide)(hy:inB n y=true:=by decide):∀A,At n A f→(execOp A.eval (op ops i)).run P w=.ok (.value v) w':=appT i t ty x y v w' h ht hx hy hv
theorem H.store (i:Nat)(w':World)(hi:ops[i]? = some (op ops i))(hd:(op ops i).dst=none)(hr:Region.ready .any ops listed=[i])
    (hw:∀A,At n A f→Region.wanted (op ops i) (yielded ops A.tmps)=true)
    (hy:∀A,At n A f→(execOp A.eval (op ops i)).run P w=.ok .skip w')(hS:S w')
    (h:H P ops S Q n fuel (listed.setIfInBounds i true) f w'):H P ops S Q n (fuel+1) listed f w:=by
  intro A hA;refine wpAnyH_all hr (by simp) ?_;intro j hj;(obtain rfl:j=i:=by simpa using hj);unfold wpOp;rw [hi];simp only [hw A hA,if_true];refine .inl ?_;unfold Oper.wp;rw [hy A hA];refine⟨hS,?_⟩;rw [hd];exact h A hA

theorem qd (i:Nat)(w':World)(hw:∀A,At n A f→Region.wanted (op ops i) (yielded ops A.tmps)=true)(hy:∀A,At n A f→(execOp A.eval (op ops i)).run P w=.ok .skip w')(hS:S w')(h:H P ops S Q n fuel (listed.setIfInBounds i true) f w')(hi:ops[i]? = some (op ops i):=by kernel_rfl)(hd:(op ops i).dst=none:=by kernel_rfl)(hr:Region.ready .any ops listed=[i]:=by kernel_rfl):H P ops S Q n (fuel+1) listed f w:=H.store i w' hi hd hr hw hy hS h
theorem storeV (i:Nat)(t:TypeId)(x y:Operand)(w':World)(h:(op ops i).op=.store t x y)(hx:inB n x=true)(hy:inB n y=true)(hv:(Instr.storeAt t (ev f x) (ev f y)).run P w=.ok () w') :
    ∀A,At n A f→(execOp A.eval (op ops i)).run P w=.ok .skip w':=by
  intro A hA;have e:execOp A.eval (op ops i)=(do Instr.storeAt t (A.eval x) (A.eval y);pure .skip):=by
   unfold execOp;rw [h]
  rw [e,hA.ev x hx,hA.ev y hy];simp [hv]

theorem qh {i:Nat}(t:TypeId)(x:Operand)(y:Operand)(w':World)(hv:(Instr.storeAt t (ev f x) (ev f y)).run P w=.ok () w')(h:(op ops i).op=.store t x y:=by kernel_rfl)(hx:inB n x=true:=by decide)(hy:inB n y=true:=by decide):∀A,At n A f→(execOp A.eval (op ops i)).run P w=.ok .skip w':=storeV i t x y w' h hx hy hv
theorem zero (i:Nat)(t:TypeId)(v:Value)(w':World)(h:(op ops i).op=.buildSlice t 0 #[])(hv:(Instr.buildSlice t 0 #[]).run P w=.ok v w') :
    ∀A,At n A f→(execOp A.eval (op ops i)).run P w=.ok (.value v) w':=by
  intro A hA;have e:execOp A.eval (op ops i)=(do pure (.value (← Instr.buildSlice t 0 (Array.map (fun (p:Nat × Operand)=>(p.1,A.eval p.2)) #[])))):=by
   unfold execOp;rw [h]
  rw [e];simp [hv]
theorem q_39 {i:Nat}{v:Value}{w':World}(t:TypeId)(hv:(Instr.buildSlice t 0 #[]).run P w=.ok v w')(h:(op ops i).op=.buildSlice t 0 #[]:=by kernel_rfl):∀A,At n A f→(execOp A.eval (op ops i)).run P w=.ok (.value v) w':=zero i t v w' h hv
end
theorem upd_comm (f:Nat→Value)(d e:Nat)(v u:Value)(h:d≠e):upd (upd f d v) e u=upd (upd f e u) d v:=by
 funext x;unfold upd;by_cases h1:x=d
 · subst h1;simp [h]
 · simp [h1]
theorem qi {f:Nat→Value}{v:Value}{u:Value}(d:Nat)(e:Nat)(h:d≠e:=by decide):upd (upd f d v) e u=upd (upd f e u) d v:=upd_comm f d e v u h
end Pl
theorem Zaf {a c:World}(h:Below a.heap.size a b)(k:Below b.heap.size b c):Below a.heap.size a c:=h.trans (k.mono h.size)
structure Sl where
  a:Option Addr
  len:Nat
  cap:Nat
def Sl.val (s:Sl):Value:=.slice s.a s.len s.cap
def Sl.nil:Sl:=⟨none,0,0⟩
def Sl.from_ (s:Sl) (k:Nat):Sl:=⟨fromA s.a s.cap k,s.len-k,s.cap-k⟩
theorem Zag (w:World)(a:Addr)(u:Value):(w.setCell a u).heap.size=w.heap.size:=by simp [World.setCell]
structure Frm (F:Nat→Prop) (w w':World):Prop where
  os:w'.os=w.os
  tape:w'.tape=w.tape
  output:w'.output=w.output
  size:w.heap.size≤w'.heap.size
  block:∀k,k<w.heap.size→¬F k→w'.heap[k]? = w.heap[k]?
theorem Frm.refl (F:Nat→Prop)(w:World):Frm F w w:=⟨rfl,rfl,rfl,Nat.le_refl _,fun _ _ _=>rfl⟩
theorem Frm.ofBelow {F:Nat→Prop}(h:Below w.heap.size w w'):Frm F w w':=⟨h.os,h.tape,h.output,h.size,fun k hk _=>h.block k hk⟩
theorem Frm.trans {F G:Nat→Prop}{a c:World}(h:Frm F a b)(k:Frm G b c)(hG:∀i,i<a.heap.size→G i→F i):Frm F a c:=
 ⟨k.os.trans h.os,k.tape.trans h.tape,k.output.trans h.output,Nat.le_trans h.size k.size,fun i hi hF=>(k.block i (Nat.lt_of_lt_of_le hi h.size) (fun g=>hF (hG i hi g))).trans (h.block i hi hF)⟩
theorem Frm.mono {F G:Nat→Prop}{a:World}(h:Frm F a b)(hG:∀i,i<a.heap.size→F i→G i):Frm G a b:=
 ⟨h.os,h.tape,h.output,h.size,fun i hi hF=>h.block i hi (fun f=>hF (hG i hi f))⟩
theorem Frm.below {F:Nat→Prop}(h:Frm F w w')(hB:B≤w.heap.size)(hF:∀k,F k→B≤k):Below B w w':=
 ⟨h.os,h.tape,h.output,h.size,fun k hk=>h.block k (Nat.lt_of_lt_of_le hk hB) (fun f=>by have:=hF k f;omega)⟩
theorem Frm.setCell {F:Nat→Prop}{a:World}(h:Frm F a w){p:Addr}(hp:F p.block)(u:Value):Frm F a (w.setCell p u):=
 ⟨h.os,h.tape,h.output,by have:=h.size;simpa [World.setCell] using this,fun k hk hF=>(Below.heap_setCell w p u k (fun e=>hF (by rw [e];exact hp))).trans (h.block k hk hF)⟩
theorem Frm.drew {F:Nat→Prop}{a:World}(h:Frm F a w):Frm F a w.drew:=⟨h.os,h.tape,h.output,h.size,h.block⟩
def Sl.blk (s:Sl):Option Nat:=s.a.map Addr.block
def Own (e:TypeId) (z:Nat) (w:World) (s:Sl) (vs:List Value):Prop:=
  vs.length=s.len*z∧((s=Sl.nil∧vs=[])∨∃g off cur,s.a=some ⟨g,off,none⟩∧w.heap[g]? = some (.cells cur e (0,0))∧off+s.cap*z≤cur.size∧s.len≤s.cap∧s.cap≤maxLen∧(cur.toList.drop off).take (s.len*z)=vs)
theorem Own.nil (e:TypeId)(z:Nat)(w:World):Own e z w Sl.nil []:=⟨by simp [Sl.nil],.inl ⟨rfl,rfl⟩⟩
theorem Own.frame {s:Sl}(h:Own e z w s vs)(hk:∀k,s.blk=some k→w'.heap[k]? = w.heap[k]?):Own e z w' s vs:=by
 refine⟨h.1,?_⟩;rcases h.2 with h0 | ⟨g,off,cur,ha,hg,r⟩
 · exact .inl h0
 · exact .inr ⟨g,off,cur,ha,(hk g (by rw [Sl.blk,ha];rfl)).trans hg,r⟩
theorem Own.lt {s:Sl}(h:Own e z w s vs)(hk:s.blk=some k):k<w.heap.size:=by
 rcases h.2 with ⟨h0,_⟩ | ⟨g,off,cur,ha,hg,r⟩
 · rw [h0] at hk;cases hk
 · rw [Sl.blk,ha] at hk;cases hk;exact(Array.getElem?_eq_some_iff.1 hg).1
theorem Own.kind {s:Sl}(h:Own e z w s vs)(hk:s.blk=some k):∃cur,w.heap[k]? = some (.cells cur e (0,0)):=by
 rcases h.2 with ⟨h0,_⟩ | ⟨g,off,cur,ha,hg,r⟩
 · rw [h0] at hk;cases hk
 · rw [Sl.blk,ha] at hk;cases hk;exact⟨cur,hg⟩
theorem Own.nilcap {s:Sl}(h:Own e z w s vs)(ha:s.a=none):s.cap=0:=by
 rcases h.2 with ⟨h0,_⟩ | ⟨g,off,cur,ha',_⟩
 · rw [h0];rfl
 · rw [ha'] at ha;cases ha
theorem Own.lecap {s:Sl}(h:Own e z w s vs):s.len≤s.cap:=by
 rcases h.2 with ⟨h0,_⟩ | ⟨g,off,cur,ha',_,_,h2,_⟩
 · rw [h0];exact Nat.le_refl _
 · exact h2
theorem Own.capmax {s:Sl}(h:Own e z w s vs):s.cap≤maxLen:=by
 rcases h.2 with ⟨h0,_⟩ | ⟨g,off,cur,ha',_,_,_,h2,_⟩
 · rw [h0];exact Nat.zero_le _
 · exact h2
theorem Own.cell {s:Sl}(h:Own e z w s vs){a:Addr}(ha:s.a=some a)(j:Nat)(u:Value)(hj:vs[j]? = some u):w.cell? (a.add j)=some u:=by
 rcases h.2 with ⟨h0,_⟩ | ⟨g,off,cur,ha',hg,_,_,_,ht⟩
 · rw [h0] at ha;cases ha
 · rw [ha'] at ha;cases ha;rw [Addr.add_lit,cell_of_row w g _ cur e (0,0) hg];rw [← ht,List.getElem?_take,List.getElem?_drop] at hj;split at hj
   · simpa using hj
   · cases hj
theorem Own.src {S:TypeId}{s:Sl}(h:Own e z w s vs)(hu:Tryz.prog.underlying S=some (.slice e))(h1:∀u∈vs,u.oneCell'=true):Src Tryz.prog z S s.val s.len vs w:=by
 rcases h.2 with ⟨h0,hv⟩ | ⟨g,off,cur,ha,_⟩
 · subst h0;subst hv;exact Src.ofNil w hu 0
 · unfold Sl.val;rw [ha];exact Src.ofSlice w hu ⟨g,off,none⟩ s.len s.cap vs h.1 (fun j u hj=>h.cell ha j u hj) h1
theorem Zn2 (l vs:List Value)(o n:Nat)(hl:o+n+vs.length≤l.length):((Zc7 l.toArray (o+n) vs).toList.drop o).take (n+vs.length)=(l.drop o).take n ++ vs:=by
 have h:=Ze0 vs l.toArray (o+n) (by simpa using hl);have e:((Zc7 l.toArray (o+n) vs).toList.drop o).take (n+vs.length)=((Zc7 l.toArray (o+n) vs).toList.take (o+n+vs.length)).drop o:=by
  rw [List.drop_take];congr 1;omega
 rw [e,h,List.drop_append_of_le_length (by simp;omega)];congr 1;simp [List.drop_take]
theorem Zbp {S:TypeId}{zv:Value}{bytes:Nat}(hu:Tryz.prog.underlying S=some (.slice e))(hi:(Tryz.prog.info? e).map (fun i=>(i.zero,i.size,i.bytes))=some (some zv,z,bytes))(hzc:zv.cells.size=z)(hby:bytes≤1000)
    (w:World)(s:Sl)(us:List Value)(hown:Own e z w s us)(h1u:∀u∈us,u.oneCell'=true)(x:Value)(n:Nat)(vs:List Value)(hs:Src Tryz.prog z S x n vs w)(hlen:s.len+n≤1000000)(ty:TypeId) :
    ∃s' w',(Builtin.append_ #[S,S] ty #[s.val,x]).run Tryz.prog w=.ok s'.val w'∧Own e z w' s' (us ++ vs)∧s'.len=s.len+n∧Frm (fun k=>s.blk=some k) w w'∧(s'.blk=s.blk∨(s'.blk=some w.heap.size∧w.heap.size<w'.heap.size)):=by
  obtain⟨i0,hi,hz0,hz1,hz2⟩:=info_parts hi
  have hvl:=hs.newsLen
  have hul:=hown.1
  rw [← hz1] at hs
  by_cases hr:s.len+n≤s.cap
  · rcases hown.2 with ⟨h0,hv⟩ | ⟨g,off,cur,ha,hg,hoc,hlc,hcm,ht⟩
    · subst h0;subst hv
      have hn0:n=0:=by simpa [Sl.nil] using hr
      subst hn0
      have hv0:vs=[]:=List.eq_nil_of_length_eq_zero (by rw [hvl];simp)
      subst hv0
      refine⟨Sl.nil,w,?_,Own.nil e z w,rfl,Frm.refl _ _,.inl rfl⟩
      simp [Builtin.append_,Sl.val,Sl.nil,run_underlying hu,sizeOf,typeInfo,hi,hs.len,hs.cells]
    · have hcell:∀j,j<vs.length→(w.cell? ⟨g,off+s.len*i0.size+j,none⟩).isSome=true:=by
       intro j hj
       have hle:off+s.len*z+j<cur.size:=by
        have:s.len*z+n*z≤s.cap*z:=by rw [← Nat.add_mul];exact Nat.mul_le_mul_right z hr
        omega
       rw [hz1,cell_of_row w g _ cur e (0,0) hg]
       simpa using hle
      have hfz:∀j,j<vs.length→w.frozen? ⟨g,off+s.len*i0.size+j,none⟩=false:=fun j _=>frozen_of_row w g _ cur e hg
      have hrun:=run_append_room_src (P:=Tryz.prog) w S S ty e i0 hu hi g off s.len s.cap x n vs hs hr hcell hfz
      refine⟨⟨s.a,s.len+n,s.cap⟩,_,by unfold Sl.val;simp only [ha];exact hrun,?_,rfl,⟨?_,?_,?_,?_,?_⟩,.inl rfl⟩
      · refine⟨by rw [List.length_append,hul,hvl];show _=(s.len+n)*z;rw [Nat.add_mul],.inr ⟨g,off,_,ha,ZdF g e vs _ cur w hg,by rw [Zez];exact hoc,hr,hcm,?_⟩⟩
        have hle:off+s.len*z+vs.length≤cur.toList.length:=by
         have:s.len*z+n*z≤s.cap*z:=by rw [← Nat.add_mul];exact Nat.mul_le_mul_right z hr
         simp only [Array.length_toList]
         omega
        have:=Zn2 cur.toList vs off (s.len*z) hle
        rw [Array.toArray_toList,ht,hvl] at this
        rw [hz1]
        show ((Zc7 cur (off+s.len*z) vs).toList.drop off).take ((s.len+n)*z)=_
        rw [Nat.add_mul]
        exact this
      · exact(Zbh (B:=0) (Nat.zero_le g) vs _ w w (Below.refl _ _)).os
      · exact(Zbh (B:=0) (Nat.zero_le g) vs _ w w (Below.refl _ _)).tape
      · exact(Zbh (B:=0) (Nat.zero_le g) vs _ w w (Below.refl _ _)).output
      · exact(Zbh (B:=0) (Nat.zero_le g) vs _ w w (Below.refl _ _)).size
      · intro k _ hF
        refine ZcK g k (fun e=>hF ?_) vs _ w
        rw [Sl.blk,ha,e];rfl
  · have hold:(Builtin.firstCells i0.size s.len (.slice s.a s.len s.cap)).run Tryz.prog w.drew=.ok us.toArray w.drew:=by
     rw [hz1]
     rcases hown.2 with ⟨h0,hv⟩ | ⟨g,off,cur,ha,hg,hoc,hlc,hcm,ht⟩
     · subst h0;subst hv
       exact run_firstCells_none w.drew z 0 0 0
     · rw [ha]
       exact run_firstCells_some w.drew z s.len ⟨g,off,none⟩ s.len s.cap us hul (fun j u hj=>by simpa using hown.cell ha j u hj)
    have hcl:=hown.lecap
    have hrun:=run_append_grow_src (P:=Tryz.prog) w S S ty e i0 zv hu hi hz0 s.a s.len s.cap us hold x n vs hs (by omega) (by omega)
     (growslice_fits (by omega) (by rw [hz2];have:(s.len+n)*bytes≤1000000*1000:=Nat.mul_le_mul hlen hby;omega))
    have hge:=grownCap_ge w (s.len+n) s.cap e
    have hcm:grownCap w (s.len+n) s.cap e≤maxLen:=grownCap_le_maxLen w _ s.cap e (by unfold maxLen;omega)
    refine⟨⟨some ⟨w.heap.size,0,none⟩,s.len+n,grownCap w (s.len+n) s.cap e⟩,_,hrun,?_,rfl,Frm.ofBelow (((Below.refl _ w).drew).alloc (Nat.le_refl _) _),.inr ⟨rfl,?_⟩⟩
    · refine⟨by rw [List.length_append,hul,hvl];show _=(s.len+n)*z;rw [Nat.add_mul],.inr ⟨w.heap.size,0,_,rfl,heap_alloc_new w.drew _,?_,hge,hcm,?_⟩⟩
      · simp only [Array.size_append,List.size_toArray,size_zeroCells,List.length_append,hul,hvl,hzc,Nat.zero_add]
        rw [← Nat.add_mul,← Nat.add_mul]
        exact Nat.mul_le_mul_right z (by omega)
      · rw [List.drop_zero,Array.toList_append]
        have hl:(us ++ vs).length=(s.len+n)*z:=by rw [List.length_append,hul,hvl,Nat.add_mul]
        show List.take ((s.len+n)*z) _=_
        rw [← hl]
        exact List.take_left
    · show w.heap.size<(w.heap.push _).size
      simp
theorem Own.from_ {s:Sl}(h:Own e 1 w s vs)(hk:k≤s.len):Own e 1 w (s.from_ k) (vs.drop k)∧(s.from_ k).blk=s.blk:=by
 have hl:=h.1;have hb:(s.from_ k).blk=s.blk:=by
  unfold Sl.blk Sl.from_ fromA;simp only;split
  · rfl
  · cases hs:s.a with
    | none=>rfl
    | some x =>
     obtain⟨b,o,sp⟩:=x;simp only [Option.map_some,Addr.add];split <;> rfl
 refine⟨⟨by rw [List.length_drop,hl];simp [Sl.from_],?_⟩,hb⟩;rcases h.2 with ⟨h0,hv⟩ | ⟨g,off,cur,ha,hg,ad,ac,ab,ht⟩
 · subst h0;subst hv;refine .inl ⟨?_,by simp⟩;unfold Sl.from_ Sl.nil fromA;simp
 · have hm:(s.from_ k).cap≤maxLen:=Nat.le_trans (Nat.sub_le _ _) ab;have aa:(s.from_ k).len≤(s.from_ k).cap:=Nat.sub_le_sub_right ac k;by_cases hc:s.cap=k
   · (have h0:s.len-k=0:=by omega);refine .inr ⟨g,off,cur,by simp [Sl.from_,fromA,hc,ha],hg,?_,aa,hm,?_⟩
     · show off+(s.cap-k)*1≤_;omega
     · show (cur.toList.drop off).take ((s.len-k)*1)=_;rw [h0];(have:vs.length≤k:=by rw [hl];omega);rw [List.drop_eq_nil_of_le this];simp
   · refine .inr ⟨g,off+k,cur,by simp [Sl.from_,fromA,hc,ha,Addr.add_lit],hg,?_,aa,hm,?_⟩
     · show off+k+(s.cap-k)*1≤_;omega
     · show (cur.toList.drop (off+k)).take ((s.len-k)*1)=_;rw [← ht,List.drop_take,List.drop_drop];simp
theorem Own.came {s:Sl}(h:Own 5 1 w s (vals xs))(hx:Bytes xs):Came w s.a s.len s.cap xs:=by
 (have hl:xs.length=s.len:=by have:=h.1;rw [Zao,Nat.mul_one] at this;exact this);refine⟨⟨hl,hx,fun i hi=>?_⟩,h.nilcap,h.lecap,by have:=h.capmax;have:=h.lecap;unfold maxLen at *;omega⟩;rcases h.2 with ⟨h0,_⟩ | ⟨g,off,cur,ha,_⟩
 · rw [h0] at hi;exact absurd hi (Nat.not_lt_zero _)
 · refine⟨g,off,ha,?_⟩;have:=h.cell ha i _ (ZbX (by omega:i<xs.length));rwa [Addr.add_lit] at this
theorem Came.src (h:Came w a len cap xs):Src Tryz.prog 1 32 (.slice a len cap) len (vals xs) w:=by
 have hl:=h.bs.1;cases a with
 | none =>
  have hc:=h.nil rfl;(have h0:len=0:=by have:=h.le;omega);subst hc;subst h0;have:xs=[]:=List.eq_nil_of_length_eq_zero hl;subst this;exact Src.ofNil w Tryz.underlying32 0
 | some ad =>
  refine Src.ofSlice w Tryz.underlying32 ad len cap (vals xs) (by rw [Zao,hl,Nat.mul_one]) (fun j u hj=>?_) (ZcF xs);have aa:j<xs.length:=by
   have:=(List.getElem?_eq_some_iff.1 hj).1;simpa [vals] using this
  obtain⟨b,off,e,hc⟩:=h.bs.2.2 j (by omega);obtain rfl:=Option.some.inj e;rw [Addr.add_lit,hc,← ZbX aa,hj]
def splice {α:Type} (xs:List α) (o:Nat) (ys:List α):List α:=xs.take o ++ ys ++ xs.drop (o+ys.length)
theorem Zbx {α:Type}(xs ys:List α)(o:Nat)(h:o+ys.length≤xs.length):(splice xs o ys).length=xs.length:=by
 unfold splice;simp only [List.length_append,List.length_take,List.length_drop];omega
theorem Zhr (xs ys:List Nat)(o:Nat):splice (vals xs) o (vals ys)=vals (splice xs o ys):=by
 simp [splice,vals,List.map_take,List.map_drop]
theorem Zfj {cur:Array Value}{t:TypeId}{fr:Nat × Nat}(hg:w.heap[g]? = some (.cells cur t fr))(C:Array Value):Frm (fun k=>k=g) w (w.setRow g C)∧(w.setRow g C).heap[g]? = some (.cells C t fr):=by
 refine⟨⟨rfl,rfl,rfl,by simp [World.setRow],fun k _ hk=>?_⟩,setRow_heap w g cur C t fr hg⟩;simp only [World.setRow,Array.getElem?_modify];rw [if_neg (fun e=>hk e.symm)]
theorem Zf8 (w:World)(s:Sl)(xs:List Nat)(aa:Own 5 1 w s (vals xs))(o:Nat)(a:Option Addr)(len cap:Nat)(ys zs:List Nat)(hy:Came w a len cap ys)(hz:zs=ys.take (s.len-o))(ho:o≤s.len)(ty:TypeId) :
    ∃n w',(Builtin.copy_ #[32,32] ty #[(s.from_ o).val,.slice a len cap]).run Tryz.prog w=.ok n w'∧Own 5 1 w' s (vals (splice xs o zs))∧Frm (fun k=>s.blk=some k) w w'∧w'.heap.size=w.heap.size:=by
  (have ab:(Tryz.prog.info? 5).map (·.size)=some 1:=by kernel_rfl);(have ar:xs.length=s.len:=by have:=aa.1;rw [Zao,Nat.mul_one] at this;exact this);have au:=hy.bs.1;(have ai:zs.length=min (s.len-o) len:=by rw [hz,List.length_take,au]);by_cases h0:zs.length=0
  · have av:zs=[]:=List.eq_nil_of_length_eq_zero h0;subst av;refine⟨_,w,run_copy_none w 32 32 ty 5 _ _ _ _ _ _ Tryz.underlying32 ab (by show min len (s.len-o)=0;rw [Nat.min_comm];exact ai.symm.trans h0),?_,Frm.refl _ _,rfl⟩;simpa [splice] using aa
  · obtain⟨ax,aj⟩:=aa.from_ ho;rcases aa.2 with ⟨hn,_⟩ | ⟨g,off,cur,ha,hg,ay,aq,ak,ht⟩
    · (have e:s.len=0:=by rw [hn];rfl);omega
    · (have al:s.cap≠o:=by omega);(have ao:(s.from_ o).a=some ⟨g,off+o,none⟩:=by simp [Sl.from_,fromA,al,ha,Addr.add_lit]);(have ae:0<len:=by omega);obtain⟨b,of',rfl,_⟩:=hy.bs.2.2 0 ae;have ag:∀j v,(vals zs)[j]? = some v→w.cell? ((⟨b,of',none⟩:Addr).add j)=some v:=by
       intro j v hj;have ap:j<zs.length:=by
        have:=(List.getElem?_eq_some_iff.1 hj).1;simpa [vals] using this
       rw [Addr.add_lit,hy.bs.at j (by omega)];rw [ZbX ap] at hj;rw [← hj,hz];(have ah:j<s.len-o:=by omega);simp [List.getD,ah]
      have ad:(vals zs).length=Nat.min len (s.from_ o).len:=by
       rw [Zao,ai,Nat.min_comm];rfl
      (have ac:off+o+(vals zs).length≤cur.size:=by rw [Zao];omega);have af:=run_copy_row (P:=Tryz.prog) w 32 32 ty 5 g (off+o) (s.from_ o).len (s.from_ o).cap ⟨b,of',none⟩ len cap cur 5 (vals zs) Tryz.underlying32 ab hg ad ag ac (ZcF zs);obtain⟨am,an⟩:=Zfj hg (cur.toList.take (off+o) ++ vals zs ++ cur.toList.drop (off+o+(vals zs).length)).toArray;refine⟨_,_,by unfold Sl.val;rw [ao];exact af,?_,am.mono (fun i _ e=>by rw [Sl.blk,ha,e];rfl),by simp [World.setRow]⟩;refine⟨by rw [Zao,Zbx _ _ _ (by omega),ar,Nat.mul_one],.inr ⟨g,off,_,ha,an,?_,aq,ak,?_⟩⟩
      · simp only [List.size_toArray,List.length_append,List.length_take,List.length_drop,Array.length_toList] at *;omega
      · rw [← Zhr,← ht];simp only [Nat.mul_one];apply List.ext_getElem?;intro j;simp only [splice,List.getElem?_append,List.getElem?_take,List.getElem?_drop,List.length_append,List.length_take,List.length_drop,Zao,Array.length_toList] at *;by_cases hj:j<s.len
        · by_cases aw:j<o
          · rw [if_pos hj,if_pos (by omega),if_pos (by omega),if_pos (by omega),if_pos (by omega),if_pos (by omega),if_pos (by omega),if_pos (by omega)]
          · by_cases ah:j<o+zs.length
            · rw [if_pos hj,if_pos (by omega),if_neg (by omega),if_pos (by omega),if_neg (by omega)];congr 1;omega
            · rw [if_pos hj,if_neg (by omega),if_neg (by omega),if_pos (by omega)];congr 1;omega
        · rw [if_neg hj,if_neg (by omega),if_neg (by omega)]
section
variable {ops : Array Oper} {rest : List Oper} {o : Oper} {a : Act} {Q : Exit → Act → World → Prop}
theorem Zb3 (w:World)(ab:o.guard=none)(v:Value)(w':World)(aa:(execOp a.eval o).run Tryz.prog w=.ok (.value v) w')(hK:wpList Tryz.prog ops Q rest (a.put o.dst v) w'):wpList Tryz.prog ops Q (o :: rest) a w:=by
 refine wpList_plain ab fun K hK'=>?_;unfold Oper.wp;rw [aa];exact hK' _ _ hK
theorem Zac (w:World)(ab:o.guard=none)(t:TypeId)(x:Operand)(ho:o.op=.load t x)(p v:Value)(hp:a.eval x=p)(aa:(Instr.loadAt t p).run Tryz.prog w=.ok v w)(hK:wpList Tryz.prog ops Q rest (a.put o.dst v) w):wpList Tryz.prog ops Q (o :: rest) a w:=by
 refine Zb3 w ab v w ?_ hK;have e:execOp a.eval o=(do pure (.value (← Instr.loadAt t (a.eval x)))):=by
  unfold execOp;rw [ho]
 rw [e,hp];simp [aa]
theorem Za2 (w:World)(ab:o.guard=none)(t:TypeId)(ho:o.op=.alloc t)(v:Value)(w':World)(aa:(Instr.alloc t true (.tuple #[])).run Tryz.prog w=.ok v w')(hK:wpList Tryz.prog ops Q rest (a.put o.dst v) w'):wpList Tryz.prog ops Q (o :: rest) a w:=by
 refine Zb3 w ab v w' ?_ hK;have e:execOp a.eval o=(do pure (.value (← Instr.alloc t true (.tuple #[])))):=by
  unfold execOp;rw [ho]
 rw [e];simp [aa]
theorem Zab (w:World)(ab:o.guard=none)(hd:o.dst=none)(t:TypeId)(x y:Operand)(ho:o.op=.store t x y)(p v:Value)(hp:a.eval x=p)(hv:a.eval y=v)(w':World)(aa:(Instr.storeAt t p v).run Tryz.prog w=.ok () w')(hK:wpList Tryz.prog ops Q rest a w'):wpList Tryz.prog ops Q (o :: rest) a w:=by
 refine wpList_plain ab fun K hK'=>?_;have e:(execOp a.eval o).run Tryz.prog w=.ok .skip w':=by
  have e:execOp a.eval o=(do Instr.storeAt t (a.eval x) (a.eval y);pure .skip):=by
   unfold execOp;rw [ho]
  rw [e,hp,hv];simp [aa]
 unfold Oper.wp;rw [e];obtain⟨dst,op,ty,pos,aft,gd⟩:=o;simp only at hd;subst hd;exact hK' _ _ hK
theorem ZeH (w:World)(ab:o.guard=none)(t:TypeId)(x y:Operand)(ho:o.op=.call { callee:=.builtin .copy,args:=#[x,y],argTypes:=#[t,t] })(v:Value)(w':World)(aa:∀ty,(Builtin.copy_ #[t,t] ty #[a.eval x,a.eval y]).run Tryz.prog w=.ok v w')(hK:wpList Tryz.prog ops Q rest (a.put o.dst v) w'):wpList Tryz.prog ops Q (o :: rest) a w:=by
 refine wpList_plain ab fun K hK'=>?_;unfold Oper.wp;simp [execOp,ho,resolve,invoke,builtin,aa,Result.andThen];exact hK' _ _ hK
end
namespace Pl
section
variable {P : Program} {ops : Array Oper} {S : World → Prop} {Q : Exit → Act → World → Prop} {n fuel : Nat} {listed : Array Bool} {f : Nat → Value} {w : World}
theorem extr (i:Nat)(x:Operand)(k:Nat)(v:Value)(h:(op ops i).op=.extract x k)(hx:inB n x=true)(hv:∀w,(Instr.extract (ev f x) k).run P w=.ok v w) :
    ∀A,At n A f→∀w,S w→(execOp A.eval (op ops i)).run P w=.ok (.value v) w:=by
  intro A hA w _;have e:execOp A.eval (op ops i)=(do pure (.value (← Instr.extract (A.eval x) k))):=by
   unfold execOp;rw [h]
  rw [e,hA.ev x hx];simp [hv w]
theorem qq {i:Nat}{v:Value}(x:Operand)(k:Nat)(hv:∀w,(Instr.extract (ev f x) k).run P w=.ok v w)(h:(op ops i).op=.extract x k:=by kernel_rfl)(hx:inB n x=true:=by decide):∀A,At n A f→∀w,S w→(execOp A.eval (op ops i)).run P w=.ok (.value v) w:=extr i x k v h hx hv
theorem allocV (i:Nat)(t:TypeId)(v:Value)(w':World)(h:(op ops i).op=.alloc t)(hv:(Instr.alloc t true (.tuple #[])).run P w=.ok v w') :
    ∀A,At n A f→(execOp A.eval (op ops i)).run P w=.ok (.value v) w':=by
  intro A _;have e:execOp A.eval (op ops i)=(do pure (.value (← Instr.alloc t true (.tuple #[])))):=by
   unfold execOp;rw [h]
  rw [e];simp [hv]

theorem q_41 {i:Nat}{v:Value}{w':World}(t:TypeId)(hv:(Instr.alloc t true (.tuple #[])).run P w=.ok v w')(h:(op ops i).op=.alloc t:=by kernel_rfl):∀A,At n A f→(execOp A.eval (op ops i)).run P w=.ok (.value v) w':=allocV i t v w' h hv
theorem buildV (i:Nat)(t:TypeId)(parts:List (Nat × Operand))(v:Value)(h:(op ops i).op=.build t parts.toArray)(hx:parts.all (fun p=>inB n p.2)=true)(hv:∀w,(Instr.build t (parts.map fun p=>(p.1,ev f p.2)).toArray).run P w=.ok v w) :
    ∀A,At n A f→∀w,S w→(execOp A.eval (op ops i)).run P w=.ok (.value v) w:=by
  intro A hA w _;have e:execOp A.eval (op ops i)=(do pure (.value (← Instr.build t (parts.toArray.map fun p=>(p.1,A.eval p.2))))):=by
   unfold execOp;rw [h]
  have hm:(parts.toArray.map fun p=>(p.1,A.eval p.2))=(parts.map fun p=>(p.1,ev f p.2)).toArray:=by
   simp only [List.map_toArray];congr 1;apply List.map_congr_left;intro p hp;rw [hA.ev p.2 (List.all_eq_true.1 hx p hp)]
  rw [e,hm];simp [hv w]
theorem q_38 {i:Nat}{v:Value}(t:TypeId)(parts:List (Nat × Operand))(hv:∀w,(Instr.build t (parts.map fun p=>(p.1,ev f p.2)).toArray).run P w=.ok v w)(h:(op ops i).op=.build t parts.toArray:=by kernel_rfl)(hx:parts.all (fun p=>inB n p.2)=true:=by decide):∀A,At n A f→∀w,S w→(execOp A.eval (op ops i)).run P w=.ok (.value v) w:=buildV i t parts v h hx hv
end
end Pl
end Go.Proofs.YtpnlebpnhmibfaaGreat
