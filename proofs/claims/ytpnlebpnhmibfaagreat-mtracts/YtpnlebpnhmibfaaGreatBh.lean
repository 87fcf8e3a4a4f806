/-
  Lemmas.
-/
import Derived.Test.YtpnlebpnhmibfaaGreatBg
import Derived.Test.YtpnlebpnhmibfaaGreatBd
import Derived.Lib.SmallJoins
import Derived.Laws.Cover2
import Derived.Deep.Slices
import Derived.Laws.MakeOwn
namespace Go.Proofs.YtpnlebpnhmibfaaGreat
open Go.RowKit
set_option linter.unusedVariables false
set_option maxRecDepth 100000
set_option maxHeartbeats 4000000
variable {n c:Nat}{P:Po}
open Go.ChangeShapes Go.WideShapes Go.ChangeAt Go.RowKit
section
variable {H : Type} {enc : TypeId × Value → H} {w : World} {base : Nat} {spare : Nat → Bool} {held : Bool}
theorem ZlN {a:Option Addr}{len cap:Nat}{y:DataW H × List MemPlace}(h:DataW.trod enc Tryz.prog w base spare held n 48 [.slice a len cap]=some y) :
    ∃bs,Pat w a len bs∧len≤9223372036854775807:=by
  (have hC:Tryz.prog.cellsOf 4=1:=by kernel_rfl);rcases Go.Deep.open_slice1 Tryz.underlying48 hC h with ⟨aa,_⟩ | ⟨x,l,c,m,k,V,D,Pl,aa,hb,hl,hm,ac,_,hx⟩
  · simp only [List.cons.injEq,Value.slice.injEq,and_true] at aa;obtain⟨rfl,rfl,rfl⟩:=aa;exact⟨[],⟨rfl,fun j hj=>by omega⟩,by omega⟩
  · simp only [List.cons.injEq,Value.slice.injEq,and_true] at aa;obtain⟨rfl,rfl,rfl⟩:=aa;(have ae:len≤m:=by rw [ac];split <;> omega);have ad:0<len→x.spot=none:=by
     intro h0;have:=World.cell?_spot (hx 0 (by omega)).1;simpa [Addr.add] using this
    have each:∀i,i<len→∃b:Bool,V i=.bool b:=by
     intro i hi;obtain⟨bb,e1,_⟩:=DataW.trod_bool (by kernel_rfl:Tryz.prog.underlying 4=some .bool) (hx i (by omega)).2;exact⟨bb,by simpa using e1⟩
    obtain⟨f,hf⟩:=@Go.Deep.choose_lt Bool ⟨false⟩ len _ each;refine⟨(List.range len).map f,⟨by simp,?_⟩,by unfold maxLen at hm;omega⟩;intro j hj;have hc:=(hx j (by omega)).1;obtain⟨b,off,spot⟩:=x;have ab:spot=none:=ad (by omega);subst ab;refine⟨b,off,rfl,?_⟩;rw [Addr.add_lit] at hc;rw [hc,hf j hj];simp [List.getD,hj]
end
theorem Pat.keep {w w':World}{a:Option Addr}{len:Nat}{bs:List Bool}(h:Pat w a len bs)(hb:Below w.heap.size w w'):Pat w' a len bs:=by
 refine⟨h.len_,fun i hi=>?_⟩;obtain⟨b,off,ha,hc⟩:=h.at_ i hi;exact⟨b,off,ha,(hb.cell (World.block_lt_of_cell? w _ hc)).trans hc⟩
def pageOf (b:List Nat):List Nat:=(List.range 512).map fun i=>if b.length=0 then 0 else b.getD (i % b.length) 0
theorem Za1 (b:List Nat):(pageOf b).length=512:=by simp [pageOf]
theorem Zd1 (b:List Nat)(i:Nat)(hi:i<512):(pageOf b)[i]? = some (if b.length=0 then 0 else b.getD (i % b.length) 0):=by
 unfold pageOf;rw [List.getElem?_map,List.getElem?_range hi];rfl
theorem ZdE (b:List Nat)(h:Bytes b):Bytes (pageOf b):=by
 intro x hx;obtain⟨i,_,rfl⟩:=List.mem_map.1 hx;split
 · omega
 · exact getD_lt h _
def Zb4 (b:List Nat) (j:Nat):List Nat:=(pageOf b).take j ++ List.replicate (512-j) 0
theorem Zgs (b:List Nat)(j:Nat)(hj:j<512)(h0:b.length≠0):(Zb4 b j).set j (b.getD (j % b.length) 0)=Zb4 b (j+1):=by
 unfold Zb4;(have hl:((pageOf b).take j).length=j:=by rw [List.length_take,Za1];omega);have hg:=Zd1 b j hj;rw [if_neg h0] at hg;(have aa:j<(pageOf b).length:=by rw [Za1];exact hj);(have e1:(pageOf b)[j]=b.getD (j % b.length) 0:=by rw [List.getElem?_eq_getElem aa] at hg;exact Option.some.inj hg);rw [List.set_append_right _ _ (by omega),hl,Nat.sub_self,show 512-j=(512-(j+1))+1 by omega,List.replicate_succ,List.set_cons_zero,List.take_succ_eq_append_getElem aa,e1,List.append_assoc];rfl
theorem ZlQ (w:World)(a:Option Addr)(len cap:Nat)(b:List Nat)(hb:Came w a len cap b):Calls Tryz.prog 40 #[.slice a len cap] w fun e w'=>Below w.heap.size w w'∧e=.returned (.slice (some ⟨w.heap.size,0,none⟩) 512 512)∧Came w' (some ⟨w.heap.size,0,none⟩) 512 512 (pageOf b):=by
 have HM:=hide (ZbJ 512 (by omega) w);obtain⟨C,hC⟩:∃C,C=(.cells (vals (List.replicate 512 0)).toArray 5:Obj):=⟨_,rfl⟩;rw [← hC] at HM;have HB:=hide (Zaa w C);have HO:Hid (Owns (w.alloc C) w.heap.size (.slice (some ⟨w.heap.size,0,none⟩) 512 512) (Zb4 b 0)):=by
  rw [hC];have:=Owns.lit w w.heap.size (List.replicate 512 0) (Nat.le_refl _) (by rw [List.length_replicate];omega);rw [List.length_replicate] at this;exact this
 have aq:=hide hb;have an:=hb.bs.1;have az:=hide an;have al:=hide (ZdE b hb.bs.2.1);have ag:=hide hb.big;clear hC hb;go_enter Tryz.func40,Tryz.ntmps40;go_wp2_with (refine ZeI _ rfl 32 (.const (.int .i64 512)) (.const (.int .i64 512)) rfl (.int .i64 512) (.int .i64 512) (.slice (some ⟨w.heap.size,0,none⟩) 512 512) rfl rfl (w.alloc C) HM.out ?_);go_loopw [4] (fun i wr=>∃j:Nat,j≤512∧i=.int .i64 j∧Hid (Owns wr w.heap.size (.slice (some ⟨w.heap.size,0,none⟩) 512 512) (Zb4 b j))∧Hid (Below w.heap.size w wr)) (fun i _=>512-(intOf i).toNat)
 case atStart=>exact ⟨0,by omega,rfl,HO,HB⟩
 case round =>
  obtain⟨j,hj,rfl,hO,hB⟩:=hrel;by_cases aw:j<512∧0<len
  · obtain⟨ax,af⟩:=aw;(have i1:(j:Int)<512:=by omega);(have i2:(0:Int)<(len:Int):=by omega);(have ae:(Zb4 b j).length=512:=by unfold Zb4;rw [List.length_append,List.length_take,Za1,List.length_replicate];omega);have aa:=hO.out.set (by rw [ae]) j (b.getD (j % len) 0);have aj:=Zgs b j ax (by omega);rw [an] at aj;rw [aj] at aa;have ac:=hide aa;have ad:Bytes (Zb4 b j):=by
     intro x hx;rcases List.mem_append.1 hx with h1 | h1
     · exact al.out x (List.mem_of_mem_take h1)
     · rw [(List.mem_replicate.1 h1).2];omega
    have ak:=hide (hB.out.setCell (p:=⟨w.heap.size,j,none⟩) (Nat.le_refl _) (.int .u8 ((b.getD (j % len) 0:Nat):Int)));have ao:=(hO.out.row ad).2;have au:=ao.at j (by omega);rw [Nat.zero_add] at au;have bd:wr.frozen? ⟨w.heap.size,j,none⟩=false:=by
     rcases hO.out.2 with ⟨h',_⟩ | ⟨g',cap',cur,h',ba,hg,be,bf,bc,bg⟩
     · simp at h'
     · simp only [Value.slice.injEq,Option.some.injEq,Addr.mk.injEq,and_true] at h';rw [h'.1];exact frozen_of_row wr g' _ _ 5 hg
    have ai:j % len<len:=Nat.mod_lt _ af;obtain⟨bb,oo,ha,av⟩:=(aq.out.bs.keep hB.out (Nat.le_refl _)).2.2 (j % len) ai;have ar:=ag.out;(have i3:((j % len:Nat):Int)<(len:Int):=by omega);(have i4:¬len=0:=by omega);subst ha;obtain⟨vv,ap⟩:∃vv,vv=b.getD (j % len) 0:=⟨_,rfl⟩;rw [← ap] at av ak ac;clear aa ao ae aj ad ap;go_wp2_with fail;go_roundw
    case rel=>exact ⟨j+1,by omega,by go_num,ac,ak⟩
    case measure=>simp only [intOf];omega
  · have ah:Hid (Zb4 b j=pageOf b):=by
     show _=_;unfold Zb4;by_cases h5:j=512
     · rw [h5,List.take_of_length_le (by rw [Za1];exact Nat.le_refl _)];simp
     · (have af:len=0:=by omega);apply List.ext_getElem?;intro t;(have am:b.length=0:=by omega);by_cases ht:t<512
       · rw [Zd1 b t ht,if_pos am];by_cases ay:t<j
         · rw [List.getElem?_append_left (by rw [List.length_take,Za1];omega),List.getElem?_take,if_pos ay,Zd1 b t ht,if_pos am]
         · rw [List.getElem?_append_right (by rw [List.length_take,Za1];omega),List.getElem?_replicate,if_pos (by rw [List.length_take,Za1];omega)]
       · rw [List.getElem?_eq_none (by rw [List.length_append,List.length_take,Za1,List.length_replicate];omega),List.getElem?_eq_none (by rw [Za1];omega)]
    have ab:Hid (Came wr (some ⟨w.heap.size,0,none⟩) 512 512 (pageOf b)):=by
     have e1:=hO.out;rw [ah.out] at e1;have h3:=(e1.row al.out).2;rw [Za1] at h3;exact⟨h3,(fun e=>by cases e),Nat.le_refl _,by omega⟩
    by_cases h5:j<512
    · (have af:len=0:=by omega);subst af;(have i1:(j:Int)<512:=by omega);go_wp2_with fail;go_ret;exact⟨hB.out,rfl,ab.out⟩
    · (obtain rfl:j=512:=by omega);go_wp2_with fail;go_ret;exact⟨hB.out,rfl,ab.out⟩
theorem ZeG (k:Nat)(h:k<1000000):(Lit.int .i64 (k:Int)).wf=true:=by
 simp only [Lit.wf,show IntKind.i64.min = -9223372036854775808 by decide,show IntKind.i64.max=9223372036854775807 by decide,Bool.and_eq_true,decide_eq_true_eq];omega
abbrev PoM:=World→Nat→Nat→Po→Dl→(Nat→Prop)→Prop
def ivals (l:List Nat):List Value:=l.map fun (k:Nat)=>.int .i64 ((k:Nat):Int)
structure ZgE (M:PoM) (w:World) (p d:Nat) (L:Dl) (X:Nat→Prop) (w':World) (Q:Po):Prop where
  ex:∃L' X',M w' p d Q L' X'∧∀k,X' k∨L'.F d k→(X k∨L.F d k)∨w.heap.size≤k
  frm:Frm (fun k=>X k∨L.F d k) w w'
structure Po.Fine (P:Po) (n c:Nat):Prop where
  ok:P.Ok n
  wet:P.Wet n c
  cap:c≤9000
  ss:P.D.ss.length≤65536
structure Zb5 (M:PoM):Prop where
  dev:∀{w p d P L X},M w p d P L X→DevM w d P.D L
  lt:∀{w p d P L X},M w p d P L X→∀k,X k→k<w.heap.size
  apart:∀{w p d P L X},M w p d P L X→∀k,X k→¬L.F d k
  frm:∀{w p d P L X w'} {F:Nat→Prop},M w p d P L X→Frm F w w'→(∀k,X k∨L.F d k→¬F k)→M w' p d P L X
  turn:∀{w p d P L X w' D' L'},M w p d P L X→Zaj w d L w' D' L'→M w' p d { P with D:=D' } L' X
  new:∀(w:World) (d:Nat) (D:Ds) (L:Dl) (n c f:Nat),DevM w d D L→D.Easy n c→D.ss.length≤65536→1≤f→f≤64→Calls Tryz.prog 38 #[at0 d,.int .i64 ((f:Nat):Int)] w fun e w'=>Below w.heap.size w w'∧∃p X,e=.returned (.tuple #[at0 p,.int .i64 0])∧M w' p d (Po.new D f) L X∧∀k,X k→w.heap.size≤k
  newBad:∀(w:World) (d:Nat) (D:Ds) (L:Dl) (n c:Nat) (f:Int),DevM w d D L→D.Easy n c→D.ss.length≤65536→¬(1≤f∧f≤64)→Calls Tryz.prog 38 #[at0 d,.int .i64 f] w fun e w'=>Below w.heap.size w w'∧e=.returned (.tuple #[.pointer none,.int .i64 1])
  newDead:∀(w:World) (v:Value),Dead w v→Calls Tryz.prog 38 #[v,.int .i64 1] w fun e w'=>Below w.heap.size w w'∧e=.returned (.tuple #[.pointer none,.int .i64 1])
  read:∀(w:World) (p d:Nat) (P:Po) (L:Dl) (X:Nat→Prop) (n c k:Nat),M w p d P L X→P.Fine n c→k<n→Calls Tryz.prog 68 #[at0 p,.int .i64 ((k:Nat):Int)] w fun e w'=>ZgE M w p d L X w' (P.letIn k)∧∃s:Sl,e=.returned (.tuple #[s.val,.int .i64 0])∧Own 5 1 w' s (vals ((P.letIn k).con k))∧s.len=512
  readNone:∀(w:World) (p d:Nat) (P:Po) (L:Dl) (X:Nat→Prop) (n c:Nat) (k:Int),M w p d P L X→P.Fine n c→¬(0≤k∧k<((n:Nat):Int))→Calls Tryz.prog 68 #[at0 p,.int .i64 k] w fun e w'=>Below w.heap.size w w'∧e=.returned (.tuple #[.slice none 0 0,.int .i64 3])
  put:∀(w:World) (p d:Nat) (P:Po) (L:Dl) (X:Nat→Prop) (n c k:Nat) (a:Option Addr) (cap:Nat) (ys:List Nat) (z:Int),M w p d P L X→P.Fine n c→k<n→Came w a 512 cap ys→Off (fun i=>X i∨L.F d i) a 512→(Lit.int .i64 z).wf=true→Calls Tryz.prog 87 #[at0 p,.int .i64 ((k:Nat):Int),.slice a 512 cap,.int .i64 z] w fun e w'=>ZgE M w p d L X w' (P.set k ys z)∧e=.returned (.int .i64 0)
  putNone:∀(w:World) (p d:Nat) (P:Po) (L:Dl) (X:Nat→Prop) (n c:Nat) (k:Int) (a:Option Addr) (len cap:Nat) (z:Int),M w p d P L X→P.Fine n c→¬(0≤k∧k<((n:Nat):Int))→Calls Tryz.prog 87 #[at0 p,.int .i64 k,.slice a len cap,.int .i64 z] w fun e w'=>Below w.heap.size w w'∧e=.returned (.int .i64 3)
  putArg:∀(w:World) (p d:Nat) (P:Po) (L:Dl) (X:Nat→Prop) (n c k:Nat) (a:Option Addr) (len cap:Nat) (z:Int),M w p d P L X→P.Fine n c→k<n→len≠512→len≤9223372036854775807→Calls Tryz.prog 87 #[at0 p,.int .i64 ((k:Nat):Int),.slice a len cap,.int .i64 z] w fun e w'=>Below w.heap.size w w'∧e=.returned (.int .i64 1)
  flush:∀(w:World) (p d:Nat) (P:Po) (L:Dl) (X:Nat→Prop) (n c:Nat),M w p d P L X→P.Fine n c→Calls Tryz.prog 59 #[at0 p] w fun e w'=>ZgE M w p d L X w' (P.flush n)∧e=.returned (.int .i64 (((P.dirty n).length:Nat):Int))
  evict:∀(w:World) (p d:Nat) (P:Po) (L:Dl) (X:Nat→Prop) (n c k:Nat),M w p d P L X→P.Fine n c→(P.m k).isSome=true→Calls Tryz.prog 63 #[at0 p,.int .i64 ((k:Nat):Int)] w fun e w'=>ZgE M w p d L X w' (P.evict k)∧e=.returned (.int .i64 0)
  evictNone:∀(w:World) (p d:Nat) (P:Po) (L:Dl) (X:Nat→Prop) (n c:Nat) (k:Int),M w p d P L X→P.Fine n c→¬(0≤k∧(P.m k.toNat).isSome=true)→(Lit.int .i64 k).wf=true→Calls Tryz.prog 63 #[at0 p,.int .i64 k] w fun e w'=>Below w.heap.size w w'∧e=.returned (.int .i64 3)
  synced:∀(w:World) (p d:Nat) (P:Po) (L:Dl) (X:Nat→Prop) (n c:Nat),M w p d P L X→P.Fine n c→Calls Tryz.prog 56 #[at0 p] w fun e w'=>ZgE M w p d L X w' P.synced∧e=.returned (.tuple #[])
  inn:∀(w:World) (p d:Nat) (P:Po) (L:Dl) (X:Nat→Prop) (n c:Nat),M w p d P L X→P.Fine n c→Calls Tryz.prog 111 #[at0 p] w fun e w'=>Below w.heap.size w w'∧∃s:Sl,e=.returned s.val∧Own 3 1 w' s (ivals (P.inn n))
  dirty:∀(w:World) (p d:Nat) (P:Po) (L:Dl) (X:Nat→Prop) (n c:Nat),M w p d P L X→P.Fine n c→Calls Tryz.prog 89 #[at0 p] w fun e w'=>Below w.heap.size w w'∧∃s:Sl,e=.returned s.val∧Own 3 1 w' s (ivals (P.dirty n))
section
variable {M : PoM} {w0 w : World} {p d : Nat} {P : Po} {n c : Nat}
def Po.evictAny (P:Po) (k:Int):Po:=if 0≤k∧(P.m k.toNat).isSome=true then P.evict k.toNat else P
end
theorem ZkP (P:Po)(z:Int):(P.ahead z).D.ss=P.D.ss:=by
 unfold Po.ahead;split
 · exact P.D.sync_sp.2.1
 · rfl
theorem write_ss (P:Po)(k:Nat):(P.write k).D.ss=P.D.ss:=by
 unfold Po.write;cases P.m k with
 | none=>rfl
 | some s =>
  simp only;split
  · show ((P.ahead s.place).D.write k s.b).ss=_;rw [((P.ahead s.place).D.write_ss k s.b).1,ZkP]
  · rfl
theorem Zf6 (P:Po)(k:Nat):(P.letIn k).D.ss=P.D.ss:=by
 have h1:∀(Q:Po) (z:Int),(Q.left z).D.ss=Q.D.ss:=fun Q z=>by
  unfold Po.left;split
  · exact write_ss Q _
  · rfl
 have h2:∀(Q:Po),(Q.fetch k).D.ss=Q.D.ss:=fun Q=>by
  unfold Po.fetch;split <;> rfl
 unfold Po.letIn;rw [h2,h1];rfl
theorem Zdw:∀(L:List Nat)(P:Po),(L.foldl Po.write P).D.ss=P.D.ss
 | [],P=>rfl
 | p :: L,P=>by rw [List.foldl_cons,Zdw L,write_ss]
theorem Po.Fine.letIn (h:P.Fine n c)(hc:c+4≤9000){k:Nat}(hk:k<n):(P.letIn k).Fine n (c+4):=⟨(h.ok.letIn hk).ok,h.wet.letIn hk,hc,by rw [Zf6];exact h.ss⟩
theorem Po.Fine.set (h:P.Fine n c)(hc:c+4≤9000){k:Nat}(hk:k<n){b:List Nat}(hb:b.length=512)(hx:Bytes b)(z:Int):(P.set k b z).Fine n (c+4):=⟨(h.ok.set hk hb z).1,h.wet.set hk hb hx z,hc,by show (P.letIn k).D.ss.length≤_;rw [Zf6];exact h.ss⟩
theorem Po.Fine.flush (h:P.Fine n c)(hc:c+4*n≤9000):(P.flush n).Fine n (c+4*n):=⟨h.ok.flush.1.ok,h.wet.flush,hc,by show ((P.dirty n).foldl Po.write P).D.ss.length≤_;rw [Zdw];exact h.ss⟩
theorem Po.Fine.more {c':Nat}(h:P.Fine n c)(h1:c≤c')(hc:c'≤9000):P.Fine n c':=⟨h.ok,h.wet.more h1,hc,h.ss⟩
theorem Po.Fine.evictAny (h:P.Fine n c)(hc:c+4≤9000)(k:Int):(P.evictAny k).Fine n (c+4)∧(∀i,i<n→(P.evictAny k).con i=P.con i)∧(P.evictAny k).l.length=P.l.length:=by
 unfold Po.evictAny;split
 · rename_i hk;obtain⟨e1,e2,e3,_⟩:=h.ok.evict hk.2;exact⟨⟨e1,h.wet.evict _,hc,by show ((P.write k.toNat).D.ss).length≤_;rw [write_ss];exact h.ss⟩,e2,e3⟩
 · exact⟨h.more (by omega) hc,fun _ _=>rfl,rfl⟩
theorem ZfR (x:Nat)(h:x<256):Bytes [x]:=fun y hy=>by rw [List.mem_singleton.1 hy];exact h
theorem ZkZ (w:World)(x:Nat)(h:x<256):Came (w.alloc (.cells #[.int .u8 (x:Int)] 5)) (some ⟨w.heap.size,0,none⟩) 1 1 [x]:=
 (ZhK w 1 (by omega) [x] rfl).came (ZfR x h)
theorem ZiA {w:World}{s:Sl}{xs:List Nat}(h:Own 5 1 w s (vals xs))(hl:s.len=512):xs.length=512∧∃g off cap,s=⟨some ⟨g,off,none⟩,512,cap⟩∧∀j,j<512→w.cell? ⟨g,off+j,none⟩=some (.int .u8 ((xs.getD j 0:Nat):Int)):=by
 (have aa:xs.length=512:=by have:=h.1;rw [Zao,hl] at this;omega);refine⟨aa,?_⟩;rcases h.2 with ⟨h0,_⟩ | ⟨g,off,cur,ha,_⟩
 · rw [h0] at hl;cases hl
 · obtain⟨a,l,k⟩:=s;simp only at ha hl;subst ha;subst hl;refine⟨g,off,k,rfl,fun j hj=>?_⟩;have:=h.cell (a:=⟨g,off,none⟩) rfl j (.int .u8 ((xs.getD j 0:Nat):Int)) (by simp [vals,List.getD,aa,hj]);simpa [Addr.add_lit] using this
end Go.Proofs.YtpnlebpnhmibfaaGreat
