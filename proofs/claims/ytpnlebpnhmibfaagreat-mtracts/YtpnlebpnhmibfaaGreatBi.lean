/-
  Lemmas.
-/
import Derived.Shelf.SlIterI.Sorted
import Derived.Shelf.SlIterI.Nil
import Derived.Shelf.SortM.Plain
import Derived.Shelf.SortM.SortNone
import Derived.Shelf.SlicesE.DeleteFunc
import Derived.Test.YtpnlebpnhmibfaaGreatRows
import Derived.Test.YtpnlebpnhmibfaaGreatBh
import Derived.Test.YtpnlebpnhmibfaaGreatBf
import Derived.Maps.OwnSet
namespace Go.Proofs.YtpnlebpnhmibfaaGreat
open Go.RowKit
set_option linter.unusedVariables false
set_option maxRecDepth 100000
set_option maxHeartbeats 4000000
variable {w w' w1:World}{p d mb b:Nat}{v:Sl}{h sy k:Int}{L:Dl}{P:Po}{D:DataW Value}
open Go.Shelf
def Zgk:Go.Shelf.Ren:=⟨fun | 7=>123 | 10=>134 | n=>n,fun | 23=>124 | 26=>3 | 3=>140 | 28=>172 | 0=>0 | 27=>171 | 33=>122 | 4=>4 | n=>n,fun | n=>n⟩
theorem Zog:Go.Proofs.SlLaysZI.n7 Tryz.prog Zgk:={
 mixed:=by kernel_rfl
 f7:=⟨Tryz.f123.name,by decide,Tryz.func123.trans (congrArg some (by kernel_rfl))⟩
 f10:=⟨Tryz.f134.name,by decide,Tryz.func134.trans (congrArg some (by kernel_rfl))⟩
 t0:=Tryz.underlying0
 a0:=Tryz.isAgg0
 z0:=Tryz.sizeOf0
 v0:=Tryz.zeroValue0
 t4:=Tryz.underlying4
 a4:=Tryz.isAgg4
 z4:=Tryz.sizeOf4
 v4:=Tryz.zeroValue4
 t23:=Tryz.underlying124
 a23:=Tryz.isAgg124
 z23:=Tryz.sizeOf124
 v23:=Tryz.zeroValue124
 t26:=Tryz.underlying3
 a26:=Tryz.isAgg3
 z26:=Tryz.sizeOf3
 v26:=Tryz.zeroValue3
 t27:=Tryz.underlying171
 a27:=Tryz.isAgg171
 z27:=Tryz.sizeOf171
 v27:=Tryz.zeroValue171
 t28:=Tryz.underlying172
 a28:=Tryz.isAgg172
 z28:=Tryz.sizeOf172
 v28:=Tryz.zeroValue172
 t33:=Tryz.underlying122
 a33:=Tryz.isAgg122
 z33:=Tryz.sizeOf122
 v33:=Tryz.zeroValue122 }
def Ze3:Go.Shelf.Ren:=⟨fun | 6=>122 | 8=>132 | 9=>133 | 11=>136 | 13=>138 | 12=>137 | 23=>148 | 24=>149 | 14=>139 | 15=>140 | 16=>141 | 17=>142 | 18=>143 | 19=>144 | 20=>145 | 21=>146 | 22=>147 | 25=>150 | 26=>151 | 27=>152 | 28=>153 | 29=>154 | 30=>155 | 31=>156 | n=>n,fun | 26=>3 | 28=>172 | 24=>46 | 0=>0 | 3=>3 | 37=>132 | 48=>157 | 50=>167 | 4=>4 | 40=>193 | 39=>192 | 45=>198 | 5=>5 | 9=>9 | 51=>202 | 55=>206 | 57=>208 | 58=>70 | 33=>122 | n=>n,fun | n=>n⟩
theorem Zn3:Go.Proofs.SlLaysZI.n6 Tryz.prog Ze3:={
 mixed:=by kernel_rfl
 f6:=⟨Tryz.f122.name,by decide,Tryz.func122.trans (congrArg some (by kernel_rfl))⟩
 f8:=⟨Tryz.f132.name,by decide,Tryz.func132.trans (congrArg some (by kernel_rfl))⟩
 f11:=⟨Tryz.f136.name,by decide,Tryz.func136.trans (congrArg some (by kernel_rfl))⟩
 t0:=Tryz.underlying0
 a0:=Tryz.isAgg0
 z0:=Tryz.sizeOf0
 v0:=Tryz.zeroValue0
 t24:=Tryz.underlying46
 a24:=Tryz.isAgg46
 z24:=Tryz.sizeOf46
 v24:=Tryz.zeroValue46
 t26:=Tryz.underlying3
 a26:=Tryz.isAgg3
 z26:=Tryz.sizeOf3
 v26:=Tryz.zeroValue3
 t28:=Tryz.underlying172
 a28:=Tryz.isAgg172
 z28:=Tryz.sizeOf172
 v28:=Tryz.zeroValue172
 i26:=by kernel_rfl }
def Zk9:Go.Shelf.Ren:=⟨fun | 5=>133 | 8=>138 | 7=>137 | 19=>148 | 20=>149 | 10=>139 | 11=>140 | 12=>141 | 13=>142 | 14=>143 | 15=>144 | 16=>145 | 17=>146 | 18=>147 | 30=>150 | 31=>151 | 32=>152 | 33=>153 | 34=>154 | 35=>155 | 40=>156 | n=>n,fun | 23=>46 | 25=>3 | 3=>3 | 32=>132 | 22=>46 | 0=>0 | 44=>157 | 46=>167 | 4=>4 | 36=>193 | 35=>192 | 41=>198 | 5=>5 | 9=>9 | 53=>202 | 57=>206 | 63=>208 | 64=>70 | n=>n,fun | n=>n⟩
theorem Zo7:Go.Proofs.SlLaysM.n5 Tryz.prog Zk9:={
 mixed:=by kernel_rfl
 f5:=⟨Tryz.f133.name,by decide,Tryz.func133.trans (congrArg some (by kernel_rfl))⟩
 f7:=⟨Tryz.f137.name,by decide,Tryz.func137.trans (congrArg some (by kernel_rfl))⟩
 f8:=Tryz.func138.trans (congrArg some (by kernel_rfl))
 f10:=⟨Tryz.f139.name,by decide,Tryz.func139.trans (congrArg some (by kernel_rfl))⟩
 f11:=⟨Tryz.f140.name,by decide,Tryz.func140.trans (congrArg some (by kernel_rfl))⟩
 f12:=⟨Tryz.f141.name,by decide,Tryz.func141.trans (congrArg some (by kernel_rfl))⟩
 f13:=⟨Tryz.f142.name,by decide,Tryz.func142.trans (congrArg some (by kernel_rfl))⟩
 f14:=⟨Tryz.f143.name,by decide,Tryz.func143.trans (congrArg some (by kernel_rfl))⟩
 f15:=⟨Tryz.f144.name,by decide,Tryz.func144.trans (congrArg some (by kernel_rfl))⟩
 f16:=⟨Tryz.f145.name,by decide,Tryz.func145.trans (congrArg some (by kernel_rfl))⟩
 f17:=⟨Tryz.f146.name,by decide,Tryz.func146.trans (congrArg some (by kernel_rfl))⟩
 f18:=⟨Tryz.f147.name,by decide,Tryz.func147.trans (congrArg some (by kernel_rfl))⟩
 f19:=Tryz.func148.trans (congrArg some (by kernel_rfl))
 f20:=Tryz.func149.trans (congrArg some (by kernel_rfl))
 f30:=⟨Tryz.f150.name,by decide,Tryz.func150.trans (congrArg some (by kernel_rfl))⟩
 f31:=Tryz.func151.trans (congrArg some (by kernel_rfl))
 f32:=Tryz.func152.trans (congrArg some (by kernel_rfl))
 f33:=⟨Tryz.f153.name,by decide,Tryz.func153.trans (congrArg some (by kernel_rfl))⟩
 f34:=⟨Tryz.f154.name,by decide,Tryz.func154.trans (congrArg some (by kernel_rfl))⟩
 f35:=⟨Tryz.f155.name,by decide,Tryz.func155.trans (congrArg some (by kernel_rfl))⟩
 f40:=⟨Tryz.f156.name,by decide,Tryz.func156.trans (congrArg some (by kernel_rfl))⟩
 t0:=Tryz.underlying0
 a0:=Tryz.isAgg0
 z0:=Tryz.sizeOf0
 v0:=Tryz.zeroValue0
 t3:=Tryz.underlying3
 a3:=Tryz.isAgg3
 z3:=Tryz.sizeOf3
 v3:=Tryz.zeroValue3
 t4:=Tryz.underlying4
 a4:=Tryz.isAgg4
 z4:=Tryz.sizeOf4
 v4:=Tryz.zeroValue4
 t5:=Tryz.underlying5
 a5:=Tryz.isAgg5
 z5:=Tryz.sizeOf5
 v5:=Tryz.zeroValue5
 t9:=Tryz.underlying9
 a9:=Tryz.isAgg9
 z9:=Tryz.sizeOf9
 v9:=Tryz.zeroValue9
 t22:=Tryz.underlying46
 a22:=Tryz.isAgg46
 z22:=Tryz.sizeOf46
 v22:=Tryz.zeroValue46
 t23:=Tryz.underlying46
 a23:=Tryz.isAgg46
 z23:=Tryz.sizeOf46
 v23:=Tryz.zeroValue46
 t25:=Tryz.underlying3
 a25:=Tryz.isAgg3
 z25:=Tryz.sizeOf3
 v25:=Tryz.zeroValue3
 t32:=Tryz.underlying132
 a32:=Tryz.isAgg132
 z32:=Tryz.sizeOf132
 v32:=Tryz.zeroValue132
 t35:=Tryz.underlying192
 a35:=Tryz.isAgg192
 z35:=Tryz.sizeOf192
 v35:=Tryz.zeroValue192
 t36:=Tryz.underlying193
 a36:=Tryz.isAgg193
 z36:=Tryz.sizeOf193
 v36:=Tryz.zeroValue193
 t41:=Tryz.underlying198
 a41:=Tryz.isAgg198
 z41:=Tryz.sizeOf198
 v41:=Tryz.zeroValue198
 t44:=Tryz.underlying157
 a44:=Tryz.isAgg157
 z44:=Tryz.sizeOf157
 v44:=Tryz.zeroValue157
 t46:=Tryz.underlying167
 a46:=Tryz.isAgg167
 z46:=Tryz.sizeOf167
 v46:=Tryz.zeroValue167
 t53:=Tryz.underlying202
 a53:=Tryz.isAgg202
 z53:=Tryz.sizeOf202
 v53:=Tryz.zeroValue202
 t57:=Tryz.underlying206
 a57:=Tryz.isAgg206
 z57:=Tryz.sizeOf206
 v57:=Tryz.zeroValue206
 t63:=Tryz.underlying208
 a63:=Tryz.isAgg208
 z63:=Tryz.sizeOf208
 v63:=Tryz.zeroValue208
 t64:=Tryz.underlying70
 a64:=Tryz.isAgg70
 z64:=Tryz.sizeOf70
 v64:=Tryz.zeroValue70 }
def Zlb:Go.Shelf.Ren:=⟨fun | 10=>110 | 6=>121 | n=>n,fun | 22=>46 | 23=>3 | 25=>122 | 3=>3 | 4=>4 | 0=>0 | n=>n,fun | n=>n⟩
theorem delA:Go.Proofs.SlLaysH.n10 Tryz.prog Zlb:={
 mixed:=by kernel_rfl
 f6:=⟨Tryz.f121.name,by decide,Tryz.func121.trans (congrArg some (by kernel_rfl))⟩
 f10:=⟨Tryz.f110.name,by decide,Tryz.func110.trans (congrArg some (by kernel_rfl))⟩
 t0:=Tryz.underlying0
 a0:=Tryz.isAgg0
 z0:=Tryz.sizeOf0
 v0:=Tryz.zeroValue0
 t3:=Tryz.underlying3
 a3:=Tryz.isAgg3
 z3:=Tryz.sizeOf3
 v3:=Tryz.zeroValue3
 t4:=Tryz.underlying4
 a4:=Tryz.isAgg4
 z4:=Tryz.sizeOf4
 v4:=Tryz.zeroValue4
 t22:=Tryz.underlying46
 a22:=Tryz.isAgg46
 z22:=Tryz.sizeOf46
 v22:=Tryz.zeroValue46
 a23:=Tryz.isAgg3
 z23:=Tryz.sizeOf3
 t25:=Tryz.underlying122
 a25:=Tryz.isAgg122
 z25:=Tryz.sizeOf122
 v25:=Tryz.zeroValue122 }
def RF (v:Value):Option (DataW Value × List MemPlace):=some (.held v,[])
def Zfp:Value:=.agg #[.slice none 0 0,.bool false,.int .i64 0]
theorem ZgD (w:World):(zeroValue 140).run Tryz.prog w=.ok Zfp w:=Tryz.zeroValue140 w
theorem mapT:Tryz.prog.underlying 124=some (.map 3 140):=Tryz.underlying124
theorem keyT:Go.Maps.Keyed Tryz.prog 3:=Go.Maps.int_keyed Tryz.underlying3
theorem ZhC (h:(Lit.int .i64 k).wf=true):keyOf Tryz.prog 3 (.int .i64 k)=some (.int .i64 k):=Go.Maps.keyOf_int_mk Tryz.underlying3 h
def AtIs (D:DataW Value) (f:Int→Option Value):Prop:=∀k:Int,∀z,D.atKey (.int .i64 k) z=(match f k with | none=>z | some v=>.held v)
structure MapIs (w:World) (b:Nat) (f:Int→Option Value):Prop where
  ex:∃D:DataW Value,w.ownsMap Tryz.prog 3 RF b (Maps.size D) D∧AtIs D f
  few:∀k,(f k).isSome=true→0≤k∧k<64
theorem Zff {n:Nat}(h:w.ownsMap Tryz.prog 3 RF b n D):w.ownsMap Tryz.prog 3 RF b (Maps.size D) D:=by
 obtain⟨es,clock,hb,F,hs,hD⟩:=h;refine⟨es,clock,hb,F,?_,hD⟩;rw [hD];simp [Maps.size,length_sorted]
theorem AtIs.has {f:Int→Option Value}(h:AtIs D f)(k:Int):Maps.has D (.int .i64 k)=(f k).isSome:=by
 cases e:f k with
 | none=>exact Maps.has_false_of_atKey (fun z=>by rw [h k z,e])
 | some v=>exact Maps.has_true_of_atKey (y:=.held v) (fun z=>by rw [h k z,e])
theorem MapIs.perm {f:Int→Option Value}(aa:w.ownsMap Tryz.prog 3 RF b (Maps.size D) D)(ab:AtIs D f)(n:Nat)(few:∀k,(f k).isSome=true→0≤k∧k<(n:Int)) :
    (((List.range n).filter fun (k:Nat)=>(f (k:Int)).isSome).map fun (k:Nat)=>(k:Int)).Perm (intKeys D):=by
  obtain⟨es,hD,ae,_⟩:=aa.entries keyT;obtain⟨es',hD',ac⟩:=aa.keysOf;(obtain rfl:es=es':=by rw [hD] at hD';simpa using hD');subst hD;refine perm_intKeys ae (fun p hp=>?_) ?_ (fun x=>?_)
  · obtain⟨v,hv⟩:=ac p hp;obtain⟨x,_,hx,_⟩:=Maps.keyOf_i64 Tryz.underlying3 hv;exact⟨x,hx⟩
  · refine List.pairwise_map.2 ((List.Pairwise.filter _ List.nodup_range).imp fun {a b} ad e=>ad ?_);omega
  · rw [ab.has x,List.mem_map];constructor
    · rintro ⟨k,hk,rfl⟩;exact(List.mem_filter.1 hk).2
    · intro hx;obtain⟨h0,h1⟩:=few x hx;refine⟨x.toNat,List.mem_filter.2 ⟨List.mem_range.2 (by omega),?_⟩,by omega⟩;rw [show (x.toNat:Int)=x by omega];exact hx
theorem MapIs.size {f:Int→Option Value}(aa:w.ownsMap Tryz.prog 3 RF b (Maps.size D) D)(ab:AtIs D f)(few:∀k,(f k).isSome=true→0≤k∧k<64):Maps.size D≤64:=by
 have hp:=MapIs.perm aa ab 64 few;have e:(intKeys D).length=Maps.size D:=by
  obtain⟨es,rfl⟩:=aa.isMap;simp [intKeys,Maps.size]
 rw [← e,← hp.length_eq,List.length_map];exact Nat.le_trans (List.length_filter_le _ _) (by simp)
theorem MapIs.lt {f:Int→Option Value}(h:MapIs w b f):b<w.heap.size:=by
 obtain⟨D,aa,_⟩:=h.ex;exact aa.lt
theorem MapIs.obj {f:Int→Option Value}(h:MapIs w b f):∃es c,w.heap[b]? = some (.map es c):=by
 obtain⟨D,⟨es,c,hb,_⟩,_⟩:=h.ex;exact⟨es,c,hb⟩
theorem MapIs.frm {f:Int→Option Value}(h:MapIs w b f)(hb:w'.heap[b]? = w.heap[b]?):MapIs w' b f:=by
 obtain⟨D,⟨es,c,h1,r⟩,aa⟩:=h.ex;exact⟨⟨D,⟨es,c,hb.trans h1,r⟩,aa⟩,h.few⟩
theorem MapIs.look {f:Int→Option Value}(h:MapIs w b f)(hk:(Lit.int .i64 k).wf=true):(Instr.lookup 124 (.map (some b)) (.int .i64 k) false).run Tryz.prog w=.ok ((f k).getD Zfp) w:=by
 obtain⟨D,aa,ac⟩:=h.ex;obtain⟨v,ps,ab,hv⟩:=aa.lookup keyT mapT (ZgD w) (zd:=.held Zfp) (zp:=[]) rfl (ZhC hk);rw [ac k] at hv;rw [ab];cases e:f k with
 | none=>rw [e] at hv;simp only [RF,Option.some.injEq,Prod.mk.injEq,DataW.held.injEq] at hv;rw [hv.1];rfl
 | some u=>rw [e] at hv;simp only [RF,Option.some.injEq,Prod.mk.injEq,DataW.held.injEq] at hv;rw [hv.1];rfl
theorem MapIs.lookOk {f:Int→Option Value}(h:MapIs w b f)(hk:(Lit.int .i64 k).wf=true):(Instr.lookup 124 (.map (some b)) (.int .i64 k) true).run Tryz.prog w=.ok (.tuple #[(f k).getD Zfp,.bool (f k).isSome]) w:=by
 obtain⟨D,aa,ac⟩:=h.ex;obtain⟨v,ps,ab,hv⟩:=aa.look_ok keyT mapT (ZgD w) (zd:=.held Zfp) (zp:=[]) rfl (ZhC hk);rw [ac k] at hv;rw [ab,ac.has k];cases e:f k with
 | none=>rw [e] at hv;simp only [RF,Option.some.injEq,Prod.mk.injEq,DataW.held.injEq] at hv;rw [hv.1];rfl
 | some u=>rw [e] at hv;simp only [RF,Option.some.injEq,Prod.mk.injEq,DataW.held.injEq] at hv;rw [hv.1];rfl
theorem Zfb (h:w.mapTurned w' b):Frm (fun k=>k=b) w w'∧w'.heap.size=w.heap.size:=by
 obtain⟨es,c,es',c',hb,rfl⟩:=h;exact⟨⟨rfl,rfl,rfl,by simp [Go.ChangeMaps.setBlock],fun k hk aa=>Go.ChangeMaps.heap_setBlock_other hb _ aa⟩,by simp [Go.ChangeMaps.setBlock]⟩
def putF (f:Int→Option Value) (k:Int) (o:Option Value):Int→Option Value:=fun j=>if j=k then o else f j
theorem MapIs.put {f:Int→Option Value}(h:MapIs w b f)(k:Nat)(hk:k<64)(v:Value):∃w',(Instr.mapUpdate 124 (.map (some b)) (.int .i64 (k:Int)) v).run Tryz.prog w=.ok () w'∧MapIs w' b (putF f (k:Int) (some v))∧Frm (fun i=>i=b) w w'∧w'.heap.size=w.heap.size:=by
 obtain⟨D,aa,ad⟩:=h.ex;have ae:=MapIs.size aa ad h.few;obtain⟨w',ac,ab,ht⟩:=aa.store keyT mapT (by unfold maxLen;omega) (ZhC (ZeG k (by omega))) (val:=v) (d:=.held v) (ps:=[]) rfl;obtain⟨f1,f2⟩:=Zfb ht;refine⟨w',ac,⟨⟨_,Zff ab,fun j z=>?_⟩,fun j hj=>?_⟩,f1,f2⟩
 · unfold putF;by_cases e:j=(k:Int)
   · rw [if_pos e,e,Maps.atKey_put_same aa.isMap (by simp [WideAt.IsKeyLit])]
   · rw [if_neg e,Maps.atKey_put_other (by simpa using e),ad j]
 · unfold putF at hj;by_cases e:j=(k:Int)
   · omega
   · rw [if_neg e] at hj;exact h.few j hj
theorem MapIs.del {f:Int→Option Value}(h:MapIs w b f)(hk:(Lit.int .i64 k).wf=true)(ty:TypeId):∃w',(Builtin.delete_ #[124,3] ty #[.map (some b),.int .i64 k]).run Tryz.prog w=.ok (.tuple #[]) w'∧MapIs w' b (putF f k none)∧Frm (fun i=>i=b) w w'∧w'.heap.size=w.heap.size:=by
 obtain⟨D,ab,ad⟩:=h.ex;obtain⟨w',ac,aa,ht⟩:=ab.drop keyT mapT (ZhC hk) ty;obtain⟨f1,f2⟩:=Zfb ht;refine⟨w',ac,⟨⟨_,Zff aa,fun j z=>?_⟩,fun j hj=>?_⟩,f1,f2⟩
 · unfold putF;by_cases e:j=k
   · rw [if_pos e,e,Maps.atKey_del_same]
   · rw [if_neg e,Maps.atKey_del_other (by simpa using e),ad j]
 · unfold putF at hj;by_cases e:j=k
   · rw [if_pos e] at hj;cases hj
   · rw [if_neg e] at hj;exact h.few j hj
theorem MapIs.made (w:World):MapIs (w.alloc (.map #[] 0)) w.heap.size (fun _=>none):=
 ⟨⟨.map [],World.ownsMap_made w Tryz.prog 3 RF,fun k z=>rfl⟩,fun k hk=>by cases hk⟩
def frV (s:Sl) (d:Bool) (z:Int):Value:=.agg #[s.val,.bool d,.int .i64 z]
def Zhb (d:Nat) (v:Sl) (h:Int) (mb:Nat) (sy:Int):Array Value:=#[at0 d,v.val,.int .i64 h,.map (some mb),.int .i64 sy]
def PoBlk (w:World) (p d:Nat) (v:Sl) (h:Int) (mb:Nat) (sy:Int):Prop:=w.heap[p]? = some (.cells (Zhb d v h mb sy) 126 (0,0))
theorem PoBlk.c0 (k:PoBlk w p d v h mb sy):w.cell? ⟨p,0,none⟩=some (.pointer (some ⟨d,0,none⟩)):=(Addr.cell0 k).trans rfl
theorem PoBlk.c1 (k:PoBlk w p d v h mb sy):w.cell? ⟨p,1,none⟩=some (.slice v.a v.len v.cap):=(Addr.cell0 k).trans rfl
theorem PoBlk.c2 (k:PoBlk w p d v h mb sy):w.cell? ⟨p,2,none⟩=some (.int .i64 h):=(Addr.cell0 k).trans rfl
theorem PoBlk.c3 (k:PoBlk w p d v h mb sy):w.cell? ⟨p,3,none⟩=some (.map (some mb)):=(Addr.cell0 k).trans rfl
theorem PoBlk.c4 (k:PoBlk w p d v h mb sy):w.cell? ⟨p,4,none⟩=some (.int .i64 sy):=(Addr.cell0 k).trans rfl
theorem PoBlk.fz (k:PoBlk w p d v h mb sy)(o:Nat):w.frozen? ⟨p,o,none⟩=false:=frozen_of_row w p _ _ 126 k
theorem PoBlk.lt (k:PoBlk w p d v h mb sy):p<w.heap.size:=(Array.getElem?_eq_some_iff.1 k).1
theorem PoBlk.keep (k:PoBlk w p d v h mb sy)(e:w'.heap[p]? = w.heap[p]?):PoBlk w' p d v h mb sy:=e.trans k
theorem Zn5 (k:PoBlk w p d v h mb sy)(v':Sl)(h':Int):∃W,(Instr.storeAt 40 (.pointer (some ⟨p,1,none⟩)) (ckV v' h')).run Tryz.prog w=.ok () W∧PoBlk W p d v' h' mb sy∧Frm (fun i=>i=p) w W∧W.heap.size=w.heap.size:=by
 have c1:=k.c1;have c2:=k.c2;have f1:=k.fz 1;have f2:=k.fz 2;refine⟨(w.setCell ⟨p,1,none⟩ v'.val).setCell ⟨p,2,none⟩ (.int .i64 h'),?_,?_,((Frm.refl (fun i=>i=p) w).setCell (p:=⟨p,1,none⟩) rfl _).setCell (p:=⟨p,2,none⟩) rfl _,by simp only [Zag]⟩
 · obtain⟨a,len,cap⟩:=v';unfold ckV Sl.val;simp [go_sem,Instr.storeAt,c1,c2,f1,f2]
 · have s1:=heap_setCell_same w p 1 _ 126 v'.val k;have s2:=heap_setCell_same _ p 2 _ 126 (.int .i64 h') s1;unfold PoBlk;rw [s2];simp [Zhb]
theorem stSy (k:PoBlk w p d v h mb sy)(z:Int):∃W,(Instr.storeAt 3 (.pointer (some ⟨p,4,none⟩)) (.int .i64 z)).run Tryz.prog w=.ok () W∧PoBlk W p d v h mb z∧Frm (fun i=>i=p) w W∧W.heap.size=w.heap.size:=by
 have c4:=k.c4;have f4:=k.fz 4;refine⟨w.setCell ⟨p,4,none⟩ (.int .i64 z),by simp [go_sem,Instr.storeAt,c4,f4],?_,(Frm.refl (fun i=>i=p) w).setCell (p:=⟨p,4,none⟩) rfl _,by simp only [Zag]⟩;have s4:=heap_setCell_same w p 4 _ 126 (.int .i64 z) k;unfold PoBlk;rw [s4];simp [Zhb]
structure ShIs (w:World) (Y:Nat→Prop) (s:Sh) (u:Value) (sl:Sl) (z:Int):Prop where
  val:u=frV sl s.dirty z
  place:s.dirty=true→z=s.place
  own:Own 5 1 w sl (vals s.b)
  len:sl.len=512
  home:∀i,sl.blk=some i→Y i
def ShAt (w:World) (Y:Nat→Prop) (o:Option Sh) (f:Option Value):Prop:=(o=none∧f=none)∨∃s u sl z,o=some s∧f=some u∧ShIs w Y s u sl z
theorem ShIs.frm {Y Z:Nat→Prop}{s:Sh}{u:Value}{sl:Sl}{z:Int}(h:ShIs w Y s u sl z)(hk:∀i,Y i→w'.heap[i]? = w.heap[i]?)(hZ:∀i,Y i→Z i):ShIs w' Z s u sl z:=
 ⟨h.val,h.place,h.own.frame fun k hk'=>hk k (h.home k hk'),h.len,fun i hi=>hZ i (h.home i hi)⟩
theorem ShAt.frm {Y Z:Nat→Prop}{o:Option Sh}{f:Option Value}(h:ShAt w Y o f)(hk:∀i,Y i→w'.heap[i]? = w.heap[i]?)(hZ:∀i,Y i→Z i):ShAt w' Z o f:=by
 rcases h with h | ⟨s,u,sl,z,h1,h2,h3⟩
 · exact .inl h
 · exact .inr ⟨s,u,sl,z,h1,h2,h3.frm hk hZ⟩
def TyB (w:World) (k:Nat):Prop:=∃C t fz,w.heap[k]? = some (.cells C t fz)∧(t=130∨t=5)
theorem TyB.frm {k:Nat}(h:TyB w k)(e:w'.heap[k]? = w.heap[k]?):TyB w' k:=by
 obtain⟨C,t,fz,hc,ht⟩:=h;exact⟨C,t,fz,e.trans hc,ht⟩
theorem TyB.lt {k:Nat}(h:TyB w k):k<w.heap.size:=by
 obtain⟨C,t,fz,hc,_⟩:=h;exact(Array.getElem?_eq_some_iff.1 hc).1
theorem frmG {Y Z:Nat→Prop}{l:List Sp}(h:Gs Y w v l)(hk:∀i,Y i→w'.heap[i]? = w.heap[i]?)(hZ:∀i,Y i→Z i):Gs Z w' v l:=by
 refine⟨h.len,h.nil,h.le,h.big,fun ad e hl=>hZ _ (h.home ad e hl),fun i hi=>?_,fun ad e hl=>by
  obtain⟨C,fz,hc⟩:=h.ty ad e hl;exact⟨C,fz,(hk _ (h.home ad e hl)).trans hc⟩⟩
 obtain⟨b,off,ha,c0,c1,c2⟩:=h.cell i hi;have hb:=hk b (h.home _ ha (by omega));(have hc:∀o,w'.cell? ⟨b,o,none⟩=w.cell? ⟨b,o,none⟩:=fun o=>by simp only [World.cell?,hb]);exact⟨b,off,ha,(hc _).trans c0,(hc _).trans c1,(hc _).trans c2⟩
structure PoIn (w:World) (p d:Nat) (P:Po) (L:Dl) (Y:Nat→Prop) (v:Sl) (mb:Nat) (f:Int→Option Value):Prop where
  dev:DevM w d P.D L
  blk:PoBlk w p d v P.h mb P.sy
  map:MapIs w mb f
  ck:Gs Y w v P.l
  sh:∀k:Nat,ShAt w Y (P.m k) (f ((k:Nat):Int))
  yp:¬Y p
  ym:¬Y mb
  pm:p≠mb
  lt:∀k,Y k→k<w.heap.size
  ap:∀k,(k=p∨k=mb∨Y k)→¬L.F d k
  ty:∀k,Y k→TyB w k
def poX (p mb:Nat) (Y:Nat→Prop) (k:Nat):Prop:=k=p∨k=mb∨Y k
def poM:PoM:=fun w p d P L X=>∃Y v mb f,PoIn w p d P L Y v mb f∧X=poX p mb Y
structure Did (w:World) (p d mb:Nat) (L:Dl) (Y:Nat→Prop) (w':World) (Q:Po):Prop where
  ex:∃L' Y' v' f',PoIn w' p d Q L' Y' v' mb f'∧(∀k,Y' k→Y k∨w.heap.size≤k)∧(∀k,L'.F d k→L.F d k∨w.heap.size≤k)
  frm:Frm (fun k=>k=p∨k=mb∨L.F d k) w w'
theorem PoIn.frm {Y:Nat→Prop}{f:Int→Option Value}{F:Nat→Prop}(h:PoIn w p d P L Y v mb f)(hf:Frm F w w')(hF:∀k,poX p mb Y k∨L.F d k→¬F k):PoIn w' p d P L Y v mb f:=by
 have hp:=hf.block p h.blk.lt (hF p (.inl (.inl rfl)));have hm:=hf.block mb h.map.lt (hF mb (.inl (.inr (.inl rfl))));have hy:∀i,Y i→w'.heap[i]? = w.heap[i]?:=fun i hi=>hf.block i (h.lt i hi) (hF i (.inl (.inr (.inr hi))));exact⟨h.dev.frm hf (fun k hk=>hF k (.inr hk)),h.blk.keep hp,h.map.frm hm,frmG h.ck hy (fun _ e=>e),fun k=>(h.sh k).frm hy (fun _ e=>e),h.yp,h.ym,h.pm,fun k hk=>Nat.lt_of_lt_of_le (h.lt k hk) hf.size,h.ap,fun k hk=>(h.ty k hk).frm (hy k hk)⟩
theorem PoIn.keep {Y:Nat→Prop}{f:Int→Option Value}(h:PoIn w p d P L Y v mb f)(hb:Below w.heap.size w w'):PoIn w' p d P L Y v mb f:=
 h.frm (F:=fun _=>False) (Frm.ofBelow hb) (fun _ _ e=>e)
theorem PoIn.turn {L':Dl}{D':Ds}{Y:Nat→Prop}{f:Int→Option Value}(h:PoIn w p d P L Y v mb f)(t:Zaj w d L w' D' L'):PoIn w' p d { P with D:=D' } L' Y v mb f:=by
 have hb:∀k,poX p mb Y k→k<w.heap.size→w'.heap[k]? = w.heap[k]?:=fun k hk hl=>t.frm.block k hl (h.ap k hk);have hy:∀i,Y i→w'.heap[i]? = w.heap[i]?:=fun i hi=>hb i (.inr (.inr hi)) (h.lt i hi);have hl:∀k,poX p mb Y k→k<w.heap.size:=fun k hk=>by
  rcases hk with rfl | rfl | hk
  · exact h.blk.lt
  · exact h.map.lt
  · exact h.lt k hk
 refine⟨t.dev,h.blk.keep (hb p (.inl rfl) h.blk.lt),h.map.frm (hb mb (.inr (.inl rfl)) h.map.lt),frmG h.ck hy (fun _ e=>e),fun k=>(h.sh k).frm hy (fun _ e=>e),h.yp,h.ym,h.pm,fun k hk=>Nat.lt_of_lt_of_le (h.lt k hk) t.frm.size,fun k hk hF=>?_,fun k hk=>(h.ty k hk).frm (hy k hk)⟩;rcases t.foot k hF with e | e
 · exact h.ap k hk e
 · have:=hl k hk;omega
theorem PoIn.same {Y:Nat→Prop}{f:Int→Option Value}(h:PoIn w p d P L Y v mb f)(hb:Below w.heap.size w w'):Did w p d mb L Y w' P:=
 ⟨⟨L,Y,v,f,h.keep hb,fun _ e=>.inl e,fun _ e=>.inl e⟩,Frm.ofBelow hb⟩
theorem Did.trans {w2:World}{Y:Nat→Prop}{Q R:Po}(h:Did w p d mb L Y w1 Q)(k:∀L' Y' v' f',PoIn w1 p d Q L' Y' v' mb f'→Did w1 p d mb L' Y' w2 R):Did w p d mb L Y w2 R:=by
 obtain⟨L',Y',v',f',hi,hy,hl⟩:=h.ex;obtain⟨L2,Y2,v2,f2,aa,ac,ab⟩:=(k L' Y' v' f' hi).ex;have fr:=(k L' Y' v' f' hi).frm;refine⟨⟨L2,Y2,v2,f2,aa,fun i e=>?_,fun i e=>?_⟩,h.frm.trans fr (fun i ad e=>?_)⟩
 · rcases ac i e with e | e
   · exact hy i e
   · exact .inr (Nat.le_trans h.frm.size e)
 · rcases ab i e with e | e
   · exact hl i e
   · exact .inr (Nat.le_trans h.frm.size e)
 · rcases e with e | e | e
   · exact .inl e
   · exact .inr (.inl e)
   · rcases hl i e with e | e
     · exact .inr (.inr e)
     · omega
theorem Did.acted {Y:Nat→Prop}{Q:Po}(h:Did w p d mb L Y w' Q):ZgE poM w p d L (poX p mb Y) w' Q:=by
 obtain⟨L',Y',v',f',hi,hy,hl⟩:=h.ex;refine⟨⟨L',_,⟨Y',v',mb,f',hi,rfl⟩,fun k hk=>?_⟩,h.frm.mono (fun i _ e=>?_)⟩
 · rcases hk with (e | e | e) | e
   · exact .inl (.inl (.inl e))
   · exact .inl (.inl (.inr (.inl e)))
   · rcases hy k e with e | e
     · exact .inl (.inl (.inr (.inr e)))
     · exact .inr e
   · rcases hl k e with e | e
     · exact .inl (.inr e)
     · exact .inr e
 · rcases e with e | e | e
   · exact .inl (.inl e)
   · exact .inl (.inr (.inl e))
   · exact .inr e
theorem PoIn.put {Y:Nat→Prop}{f:Int→Option Value}(h:PoIn w p d P L Y v mb f)(k:Nat)(o:Option Sh)(g:Int→Option Value)(hm:MapIs w1 mb g)(hg:∀j:Int,j≠(k:Int)→g j=f j)(hf:Frm (fun i=>i=mb) w w1)(ho:ShAt w1 Y o (g (k:Int))):PoIn w1 p d (P.put k o) L Y v mb g:=by
 have hb:∀i,i≠mb→i<w.heap.size→w1.heap[i]? = w.heap[i]?:=fun i hi hl=>hf.block i hl hi;have hy:∀i,Y i→w1.heap[i]? = w.heap[i]?:=fun i hi=>hb i (fun e=>h.ym (e ▸ hi)) (h.lt i hi);refine⟨h.dev.frm hf (fun i hi e=>h.ap mb (.inr (.inl rfl)) (e ▸ hi)),h.blk.keep (hb p h.pm h.blk.lt),hm,frmG h.ck hy (fun _ e=>e),fun j=>?_,h.yp,h.ym,h.pm,fun i hi=>Nat.lt_of_lt_of_le (h.lt i hi) hf.size,h.ap,fun i hi=>(h.ty i hi).frm (hy i hi)⟩;by_cases e:j=k
 · rw [e,Za9];exact ho
 · rw [Za4 _ _ e,hg _ (by omega)];exact(h.sh j).frm hy (fun _ e=>e)
theorem PoIn.widen {Y Z:Nat→Prop}{f:Int→Option Value}(h:PoIn w p d P L Y v mb f)(hz:∀i,Y i→Z i)(hp:¬Z p)(hm:¬Z mb)(hl:∀i,Z i→i<w.heap.size)(ha:∀i,Z i→¬L.F d i)(ht:∀i,Z i→TyB w i):PoIn w p d P L Z v mb f:=
 ⟨h.dev,h.blk,h.map,frmG h.ck (fun _ _=>rfl) hz,fun k=>(h.sh k).frm (fun _ _=>rfl) hz,hp,hm,h.pm,hl,fun k hk=>by
  rcases hk with e | e | e
  · exact h.ap k (.inl e)
  · exact h.ap k (.inr (.inl e))
  · exact ha k e,ht⟩
theorem PoIn.clock {Y:Nat→Prop}{f:Int→Option Value}(h:PoIn w p d P L Y v mb f)(v':Sl)(l:List Sp)(hh:Int)(hb:PoBlk w1 p d v' hh mb P.sy)(hf:Frm (fun i=>i=p) w w1)(hg:Gs Y w1 v' l):PoIn w1 p d (P.clock l hh) L Y v' mb f:=by
 have hk:∀i,i≠p→i<w.heap.size→w1.heap[i]? = w.heap[i]?:=fun i hi hl=>hf.block i hl hi;have hy:∀i,Y i→w1.heap[i]? = w.heap[i]?:=fun i hi=>hk i (fun e=>h.yp (e ▸ hi)) (h.lt i hi);exact⟨h.dev.frm hf (fun i hi e=>h.ap p (.inl rfl) (e ▸ hi)),hb,h.map.frm (hk mb (Ne.symm h.pm) h.map.lt),hg,fun j=>(h.sh j).frm hy (fun _ e=>e),h.yp,h.ym,h.pm,fun i hi=>Nat.lt_of_lt_of_le (h.lt i hi) hf.size,h.ap,fun i hi=>(h.ty i hi).frm (hy i hi)⟩
theorem PoIn.sync {Y:Nat→Prop}{f:Int→Option Value}(h:PoIn w p d P L Y v mb f)(z:Int)(hb:PoBlk w1 p d v P.h mb z)(hf:Frm (fun i=>i=p) w w1):PoIn w1 p d { P with sy:=z } L Y v mb f:=by
 have hk:∀i,i≠p→i<w.heap.size→w1.heap[i]? = w.heap[i]?:=fun i hi hl=>hf.block i hl hi;have hy:∀i,Y i→w1.heap[i]? = w.heap[i]?:=fun i hi=>hk i (fun e=>h.yp (e ▸ hi)) (h.lt i hi);exact⟨h.dev.frm hf (fun i hi e=>h.ap p (.inl rfl) (e ▸ hi)),hb,h.map.frm (hk mb (Ne.symm h.pm) h.map.lt),frmG h.ck hy (fun _ e=>e),fun j=>(h.sh j).frm hy (fun _ e=>e),h.yp,h.ym,h.pm,fun i hi=>Nat.lt_of_lt_of_le (h.lt i hi) hf.size,h.ap,fun i hi=>(h.ty i hi).frm (hy i hi)⟩
end Go.Proofs.YtpnlebpnhmibfaaGreat
