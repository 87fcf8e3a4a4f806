/-
  Lemmas.
-/
import Derived.Test.YtpnlebpnhmibfaaGreatBk
import Derived.Test.YtpnlebpnhmibfaaGreatBd
import Derived.Carry
namespace Go.Proofs.YtpnlebpnhmibfaaGreat
open Go.RowKit
set_option linter.unusedVariables false
set_option maxRecDepth 100000
set_option maxHeartbeats 4000000
variable {w:World}{p d mb g n:Nat}{P:Po}{L:Dl}{v:Sl}
open Go.RowKit Go.Maps Go.Sort Go.Shelf
theorem Zo8 (m:Nat):AnyZI.SortsIn Tryz.prog Ze3 Fence.wide m:=
 ⟨fun blk off cap ss W hH aa ab=>callsIn_wide.2 (AnyM.slices_Sort_int Zo7 blk off cap ss W hH aa ab),
  fun p cap W=>callsIn_wide.2 (AnyM.slices_Sort_int_none Zo7 p cap W)⟩
theorem ZoY (mb:Option Nat)(W:World):Calls Tryz.prog 123 #[.map mb] W fun e w'=>e=.returned (.func (.func 134) #[] #[.pointer (some ⟨W.heap.size,0,none⟩)])∧w'=W.alloc (.cells #[.map mb] 124):=
 (callsIn_wide (n:=5)).1 (AnyZI.keys_in Zog Fence.wide 5 trivial rfl mb W)
theorem Zn4 (w:World)(b:Nat)(f:Int→Option Value)(h:MapIs w b f)(n:Nat)(few:∀k,(f k).isSome=true→0≤k∧k<(n:Int)):Calls Tryz.prog 122 #[.func (.func 134) #[] #[.pointer (some ⟨w.heap.size,0,none⟩)]] (w.alloc (.cells #[.map (some b)] 124)) fun e w'=>∃v,e=.returned v∧(∃m,w'.ownsRow (w.alloc (.cells #[.map (some b)] 124)).heap.size 3 1 v m (ivals ((List.range n).filter fun (k:Nat)=>(f (k:Int)).isSome)))∧Below (w.alloc (.cells #[.map (some b)] 124)).heap.size (w.alloc (.cells #[.map (some b)] 124)) w':=by
 obtain⟨D,aa,ae⟩:=h.ex;have ah:=MapIs.size aa ae h.few;have ac:=MapIs.perm aa ae n few;have af:=aa.lt;have ad:SeqGives Fence.wide 2 Tryz.prog 134 #[.pointer (some ⟨w.heap.size,0,none⟩)] encZ (fun ss=>ss.Perm (intKeys D)) (Maps.size D) (w.alloc (.cells #[.map (some b)] 124)):=
  AnyZI.keys_gives (ρ:=Zgk) { Zog with } Fence.wide _ trivial rfl (by omega) w.heap.size b (Maps.size D) D _ (by simp) (by simp) (aa.alloc _)
 have cS:=AnyZI.sorted_in Zn3 Fence.wide 5 trivial trivial trivial trivial rfl (by omega) (Zo8 _) (enters_of Tryz.func133 (by kernel_rfl) rfl) 134 #[.pointer (some ⟨w.heap.size,0,none⟩)] trivial (enters_of Tryz.func134 (by kernel_rfl) rfl) _ _ (by unfold maxLen;omega) (by omega) _ ad;change CallsIn _ _ Tryz.prog 122 _ _ _ at cS;refine((callsIn_wide (n:=5)).1 cS).mono ?_;rintro e w' ⟨v,ss,rfl,hS,ab,_,hb⟩;refine⟨v,rfl,⟨ss.length,?_⟩,hb⟩;have e1:ss.mergeSort (fun x y=>decide (x≤y))=(((List.range n).filter fun (k:Nat)=>(f (k:Int)).isSome).map fun (k:Nat)=>(k:Int)):=by
  have h1:=mergeSort_of_perm_i (hS.trans ac.symm);(have tr:∀a b c:Int,leI a b=true→leI b c=true→leI a c=true:=fun a b c h1 h2=>by simp only [leI,decide_eq_true_eq] at *;exact Int.le_trans h1 h2);(have to:∀a b:Int,(leI a b || leI b a)=true:=fun a b=>by simp only [leI,Bool.or_eq_true,decide_eq_true_eq];exact Int.le_total a b);refine h1.trans ?_;refine List.Perm.eq_of_pairwise (le:=fun a b=>leI a b=true) (fun a b _ _ h1 h2=>?_) (List.pairwise_mergeSort tr to _) ?_ (List.mergeSort_perm _ leI)
  · simp only [leI,decide_eq_true_eq] at h1 h2;exact Int.le_antisymm h1 h2
  · refine List.pairwise_map.2 ((List.Pairwise.filter _ List.pairwise_lt_range).imp fun {a b} ag=>?_);simp only [leI,decide_eq_true_eq];omega
 rw [e1] at ab;have e2:(((List.range n).filter fun (k:Nat)=>(f (k:Int)).isSome).map fun (k:Nat)=>(k:Int)).map encZ=ivals ((List.range n).filter fun (k:Nat)=>(f (k:Int)).isSome):=by
  unfold ivals;rw [List.map_map];rfl
 rw [e2] at ab;exact ab
theorem Zi9 {base:Nat}{e:TypeId}{v:Value}{m:Nat}{xs:List Value}(h:w.ownsRow base e 1 v m xs):∃s:Sl,v=s.val∧Own e 1 w s xs∧s.len=m∧(s=Sl.nil∨∃g,s.a=some ⟨g,0,none⟩∧base≤g):=by
 obtain⟨hl,h⟩:=h;rcases h with ⟨rfl,rfl⟩ | ⟨g,cap,cur,rfl,hb,hg,h1,h2,h3,h4⟩
 · exact⟨Sl.nil,rfl,⟨by simpa [Sl.nil] using hl,.inl ⟨rfl,List.eq_nil_of_length_eq_zero (by simpa using hl)⟩⟩,rfl,.inl rfl⟩
 · exact⟨⟨some ⟨g,0,none⟩,m,cap⟩,rfl,⟨hl,.inr ⟨g,0,cur,rfl,hg,by simp [h3],h1,h2,by simpa using h4⟩⟩,rfl,.inr ⟨g,rfl,hb⟩⟩
structure Nums (w w':World) (s:Sl) (xs:List Nat):Prop where
  own:Own 3 1 w' s (ivals xs)
  home:s=Sl.nil∨∃g,s.a=some ⟨g,0,none⟩∧w.heap.size≤g
theorem ZhA {Y:Nat→Prop}{f:Int→Option Value}(h:PoIn w p d P L Y v mb f)(n:Nat)(ac:∀k s,P.m k=some s→k<n):Calls Tryz.prog 111 #[at0 p] w fun e w'=>Below w.heap.size w w'∧∃s:Sl,e=.returned s.val∧Nums w w' s (P.inn n):=by
 have few:∀k,(f k).isSome=true→0≤k∧k<(n:Int):=fun k hk=>by
  obtain⟨h0,_⟩:=h.map.few k hk;have hs:=h.sh k.toNat;rw [show (k.toNat:Int)=k by omega] at hs;rcases hs with ⟨_,e⟩ | ⟨s,_,_,_,e1,_⟩
  · rw [e] at hk;cases hk
  · have:=ac _ _ e1;omega
 have ab:((List.range n).filter fun (k:Nat)=>(f (k:Int)).isSome)=P.inn n:=by
  unfold Po.inn;refine List.filter_congr fun k _=>?_;rcases h.sh k with ⟨e1,e2⟩ | ⟨s,u,_,_,e1,e2,_⟩
  · rw [e1,e2];rfl
  · rw [e1,e2];rfl
 have HK:=hide (ZoY (some mb) w);have HS:=hide (Zn4 w mb f h.map n few);rw [ab] at HS;have HA:=hide (Zaa w (.cells #[.map (some mb)] 124));have c3:=h.blk.c3;clear h ac few ab;unfold at0;go_enter Tryz.func111,Tryz.ntmps111;go_wp2_with fail;refine HK.out.mono ?_;rintro e w1 ⟨rfl,ad⟩;subst ad;go_wp2_with fail;refine HS.out.mono ?_;rintro e w2 ⟨vv,rfl,⟨m,aa⟩,hb⟩;obtain⟨s,rfl,ho,_,hh⟩:=Zi9 aa;have HN:Hid (Nums w w2 s (P.inn n)):=⟨ho,hh.imp id (fun ⟨g,e1,e2⟩=>⟨g,e1,Nat.le_trans HA.out.size e2⟩)⟩;have HB:=hide (HA.out.trans (hb.mono HA.out.size));clear aa hb ho hh;go_wp2_with fail;go_ret;exact⟨HB.out,s,rfl,HN.out⟩
open Go.RowKit Go.Maps Go.Sort Go.Shelf
theorem Zly (w:World)(a:Option Addr)(c:Nat)(x:Value):Calls Tryz.prog 121 #[.slice a 0 c,x] w fun e w'=>e=.returned (.int .i64 (-1))∧w'=w:=by
 go_enter Tryz.func121,Tryz.ntmps121;go_wp2_with fail;go_loopw [8] (fun i wr=>i=.int .i64 0∧wr=w) (fun _ _=>0)
 case atStart=>exact ⟨rfl,rfl⟩
 case round =>
  obtain⟨rfl,rfl⟩:=hrel;go_wp2_with fail;go_ret;exact⟨rfl,rfl⟩
theorem Zjm (w:World)(a:Option Addr)(c:Nat)(x:Value):Calls Tryz.prog 110 #[.slice a 0 c,x] w fun e w'=>e=.returned (.slice a 0 c)∧w'=w:=by
 have HI:=hide (Zly w a c x);go_enter Tryz.func110,Tryz.ntmps110;go_wp2_with fail;refine HI.out.mono ?_;rintro e w' ⟨rfl,hw⟩;obtain rfl:=hw.symm;go_wp2_with fail;go_ret;exact⟨rfl,rfl⟩
def encF (x:Fin 64):Value:=.int .i64 ((x.val:Nat):Int)
def ofF (k:Nat):Fin 64:=⟨k % 64,Nat.mod_lt _ (by omega)⟩
theorem Zjq {k:Nat}(h:k<64):encF (ofF k)=.int .i64 (k:Int):=by
 show Value.int .i64 ((k % 64:Nat):Int)=_;rw [Nat.mod_eq_of_lt h]
def ZdB (P:Po) (x:Fin 64):Bool:=!P.isDirty x.val
theorem ZeX (W:World)(B p d:Nat)(P:Po)(L:Dl)(Y:Nat→Prop)(v:Sl)(mb:Nat)(f:Int→Option Value)(hB:W.cell? ⟨B,0,none⟩=some (.pointer (some ⟨p,0,none⟩)))(hp:W.cell? ⟨p,3,none⟩=some (.map (some mb)))(aa:∀k:Nat,k<64→∃(sl:Sl)(z:Int),(Instr.lookup 124 (.map (some mb)) (.int .i64 (k:Int)) false).run Tryz.prog W=.ok (.agg #[.slice sl.a sl.len sl.cap,.bool (P.isDirty k),.int .i64 z]) W)(x:Fin 64):FnGives Tryz.prog 112 #[.pointer (some ⟨B,0,none⟩)] #[encF x] (.bool (ZdB P x)) W:=by
 obtain⟨⟨sa,sl,sc⟩,z,hl⟩:=aa x.val x.isLt;show Calls Tryz.prog 112 #[.int .i64 (x.val:Int),.pointer (some ⟨B,0,none⟩)] W _;unfold ZdB;have ab:=ZmO;clear aa;simp only at hl;generalize P.isDirty x.val=b at *;generalize x.val=k at *;cases b
 · go_enter Tryz.func112,Tryz.ntmps112;go_wp2_with fail;go_ret;exact⟨rfl,0,rfl⟩
 · go_enter Tryz.func112,Tryz.ntmps112;go_wp2_with fail;go_ret;exact⟨rfl,0,rfl⟩
theorem ZkE (cur:Array Value)(ts:List (Fin 64))(m:Nat)(hm:m≤ts.length)(h:ts.length≤cur.size):(putCells encF 0 ts.toArray cur).toList.take m=(ts.take m).map encF:=by
 apply List.ext_getElem?;intro j;by_cases hj:j<m
 · rw [List.getElem?_take_of_lt hj,Array.getElem?_toList,List.getElem?_map,List.getElem?_take_of_lt hj];simp [putCells,show j<ts.length by omega,show j<cur.size by omega]
 · rw [List.getElem?_take_eq_none (by omega),List.getElem?_eq_none (by simp;omega)]
theorem ZjJ {cur:Array Value}{e:TypeId}{fr:Nat × Nat}(d:Array (Fin 64))(hb:w.heap[g]? = some (.cells cur e fr)):(putRow encF (Sort.ahead w n) g 0 d).heap[g]? = some (.cells (putCells encF 0 d cur) e fr):=by
 simp [putRow,mapBlock,Sort.ahead,Array.getElem?_modify,hb,onCells]
theorem Zc2 {i:Nat}(d:Array (Fin 64))(aa:i≠g):(putRow encF (Sort.ahead w n) g 0 d).heap[i]? = w.heap[i]?:=by
 have:g≠i:=fun e=>aa e.symm;simp [putRow,mapBlock,Sort.ahead,Array.getElem?_modify,this]
theorem Zix (P:Po)(xs:List Nat)(hx:∀k∈xs,k<64):((xs.map ofF).filter fun x=>!ZdB P x)=(xs.filter P.isDirty).map ofF:=by
 rw [List.filter_map];congr 1;refine List.filter_congr fun k hk=>?_;show (!ZdB P (ofF k))=P.isDirty k;unfold ZdB ofF;simp only [Bool.not_not];rw [Nat.mod_eq_of_lt (hx k hk)]
theorem Zne (xs:List Nat)(hx:∀k∈xs,k<64):(xs.map ofF).map encF=ivals xs:=by
 unfold ivals;rw [List.map_map];exact List.map_congr_left fun k hk=>Zjq (hx k hk)
theorem ZjC (w:World)(g n:Nat)(dk:Array (Fin 64))(os:Array Obj):Frm (fun i=>i=g) w (sortWorld encF w g 0 n dk os):=by
 unfold sortWorld;refine⟨rfl,rfl,rfl,by simp,fun i hi aa=>?_⟩;rw [heap_grow_old _ _ (by simpa using hi)];exact Zc2 dk aa
theorem ZoQ {w2:World}{B:Nat}{Y:Nat→Prop}{f:Int→Option Value}(h:PoIn w p d P L Y v mb f)(ab:Below w.heap.size w w2)(hB:w2.cell? ⟨B,0,none⟩=some (.pointer (some ⟨p,0,none⟩)))(ak:w.heap.size≤B)(s:Sl)(n:Nat)(hn:n≤64)(hs:Own 3 1 w2 s (ivals (P.inn n)))(hh:s=Sl.nil∨∃g,s.a=some ⟨g,0,none⟩∧w.heap.size≤g∧B<g):Calls Tryz.prog 110 #[s.val,.func (.func 112) #[] #[.pointer (some ⟨B,0,none⟩)]] w2 fun e w'=>Below w.heap.size w w'∧∃t:Sl,e=.returned t.val∧Nums w w' t (P.dirty n):=by
 have hx:∀k∈P.inn n,k<64:=fun k hk=>by
  have:=List.mem_range.1 (List.mem_filter.1 hk).1;omega
 rcases hh with rfl | ⟨g,ha,hg,aj⟩
 · refine(Zjm w2 none 0 _).mono ?_;rintro e w' ⟨rfl,rfl⟩;have h0:P.inn n=[]:=by
    have:=hs.1;simp [ivals,Sl.nil] at this;exact List.eq_nil_of_length_eq_zero (by simpa using this)
   refine⟨ab,Sl.nil,rfl,?_,.inl rfl⟩;rw [Zdc,h0];exact Own.nil _ _ _
 · obtain⟨sa,sl,sc⟩:=s;simp only at ha;subst ha;obtain⟨hl,hs⟩:=hs;rcases hs with ⟨e,_⟩ | ⟨g',off,cur,e,aa,h1,h2,h3,h4⟩
   · simp [Sl.nil] at e
   simp only [Option.some.injEq,Addr.mk.injEq,and_true] at e h1 h2 h3 h4 hl;obtain⟨rfl,rfl⟩:=e;have ad:(P.inn n).length=sl:=by
    have:=hl;simp [ivals] at this;exact this
   have af:=h.keep ab;have am:g<w2.heap.size:=(Array.getElem?_eq_some_iff.1 aa).1;have ag:∀i,poX p mb Y i∨L.F d i→¬i=g:=fun i e k=>by
    rcases e with (e | e | e) | e
    · have:=h.blk.lt;omega
    · have:=h.map.lt;omega
    · have:=h.lt i e;omega
    · have:=h.dev.lt e;omega
   have looks:∀W,PoIn W p d P L Y v mb f→∀k:Nat,k<64→∃(sl:Sl) (z:Int),(Instr.lookup 124 (.map (some mb)) (.int .i64 (k:Int)) false).run Tryz.prog W=.ok (.agg #[.slice sl.a sl.len sl.cap,.bool (P.isDirty k),.int .i64 z]) W:=fun W hW k hk=>by
    obtain⟨sl,z,hl,_⟩:=hW.looks k (by omega);exact⟨sl,z,hl⟩
   have ac:B<w2.heap.size:=World.block_lt_of_cell? w2 _ hB;have hp:PredAt Tryz.prog 112 #[.pointer (some ⟨B,0,none⟩)] encF (ZdB P) w2:=fun W x hb=>by
    have hW:=af.keep hb;exact ZeX W B p d P L Y v mb f ((hb.cell (p:=⟨B,0,none⟩) ac).trans hB) hW.blk.c3 (looks W hW) x
   have ah:PredOver Tryz.prog 112 #[.pointer (some ⟨B,0,none⟩)] encF (ZdB P) g 0 ((P.inn n).map ofF).toArray.size w2:=fun q os dk x _=>by
    have fr:=ZjC w2 g q dk os;have hW:=af.frm fr ag;refine ZeX _ B p d P L Y v mb f ?_ hW.blk.c3 (looks _ hW) x;have e:=fr.block B ac (by omega);simp only [World.cell?,e] at hB ⊢;exact hB
   (have ae:((P.inn n).map ofF).toArray.size=sl:=by simp [ad]);have hH:Holds encF w2 g 0 ((P.inn n).map ofF).toArray:=by
    intro j hj;(have hj':j<(P.inn n).length:=by simpa using hj);have hc:=congrArg (fun l=>l[j]?) h4;simp only [List.drop_zero,Nat.mul_one] at hc;rw [List.getElem?_take_of_lt (by omega)] at hc;refine⟨?_,frozen_of_row w2 g _ _ 3 aa⟩;rw [Nat.zero_add,Addr.cell0 aa,← Array.getElem?_toList,hc];simp only [ivals,List.getElem?_map,List.getElem?_eq_getElem hj',Option.map_some];rw [show ((P.inn n).map ofF).toArray[j]! = ofF (P.inn n)[j] by rw [getElem!_pos _ j hj];simp];rw [Zjq (hx _ (List.getElem_mem hj'))]
   have hc:=AnyE.slices_DeleteFunc delA encF (fun _=>rfl) (ZdB P) 112 #[.pointer (some ⟨B,0,none⟩)] (enters_of Tryz.func112 (by kernel_rfl) rfl) (ofF 0) Tryz.zeroValue3 g 0 sc ((P.inn n).map ofF).toArray w2 hp ah hH (by rw [ae];unfold maxLen at h3;omega) (by rw [ae];exact h2);rw [ae] at hc;simp only [Zix P (P.inn n) hx] at hc;rw [← Zdc] at hc;change Calls Tryz.prog 110 _ _ _ at hc;refine hc.mono ?_;rintro e w' ⟨rfl,q,rfl⟩;(have al:(P.dirty n).length≤sl:=by rw [← ad];exact Zld P n);have ai:∀k∈P.dirty n,k<64:=fun k hk=>by
    have:=List.mem_range.1 (List.mem_filter.1 hk).1;omega
   refine⟨⟨ab.os,ab.tape,ab.output,by simpa using ab.size,fun i hi=>(Zc2 _ (by omega)).trans (ab.block i hi)⟩,⟨some ⟨g,0,none⟩,(P.dirty n).length,sc⟩,by simp [Sl.val],⟨?_,?_⟩⟩
   · refine⟨by simp [ivals],.inr ⟨g,0,_,rfl,ZjJ _ aa,?_,?_,h3,?_⟩⟩
     · simp [putCells];simpa using h1
     · show (P.dirty n).length≤sc;omega
     · simp only [List.drop_zero,Nat.mul_one];rw [ZkE _ _ _ (by simp) (by simp;omega)];rw [List.take_append_of_le_length (by simp),List.take_of_length_le (by simp),Zne _ ai]
   · exact .inr ⟨g,rfl,hg⟩
theorem ZeY {Y:Nat→Prop}{f:Int→Option Value}(h:PoIn w p d P L Y v mb f)(n:Nat)(hn:n≤64)(ad:∀k s,P.m k=some s→k<n):Calls Tryz.prog 89 #[at0 p] w fun e w'=>Below w.heap.size w w'∧∃s:Sl,e=.returned s.val∧Nums w w' s (P.dirty n):=by
 have HA:=hide (Zaa w (.cells #[.pointer (some ⟨p,0,none⟩)] 81));have ah:=hide (ZhA (h.keep HA.out) n ad);have af:Hid ((w.alloc (.cells #[.pointer (some ⟨p,0,none⟩)] 81)).cell? ⟨w.heap.size,0,none⟩=some (.pointer (some ⟨p,0,none⟩))):=(Addr.cell0 (heap_alloc_new w _)).trans rfl;have HI:=hide h;have HN:=hide hn;have aj:∀(fn:Fn) (first cap:Array Value) (w:World),(Instr.makeFunc fn first cap).run Tryz.prog w=.ok (.func fn first cap) w:=fun _ _ _ _=>rfl;clear h ad hn;unfold at0 at *;go_enter Tryz.func89,Tryz.ntmps89;go_wp2_with fail;refine ah.out.mono ?_;rintro e w2 ⟨aa,s,rfl,hN⟩;(have ae:w.heap.size<(w.alloc (.cells #[.pointer (some ⟨p,0,none⟩)] 81)).heap.size:=by simp);have HD:=hide (ZoQ (B:=w.heap.size) HI.out (HA.out.trans (aa.mono HA.out.size)) ((aa.cell (p:=⟨w.heap.size,0,none⟩) ae).trans af.out) (Nat.le_refl _) s n HN.out hN.own (hN.home.imp id (fun ⟨g,e1,e2⟩=>⟨g,e1,by omega,by omega⟩)));clear aa hN ae;obtain⟨sa,sl,sc⟩:=s;simp only [Sl.val] at *;go_wp2_with fail;refine HD.out.mono ?_;rintro e w3 ⟨ac,⟨ta,tl,tc⟩,rfl,ab⟩;have ag:=hide ac;have ai:=hide ab;clear ac ab;simp only at *;go_wp2_with fail;go_ret;exact⟨ag.out,⟨ta,tl,tc⟩,rfl,ai.out⟩
theorem ZfL (Q:Po)(k i:Nat)(h:i≠k):(Q.write k).m i=Q.m i:=by
 unfold Po.write;cases e:Q.m k with
 | none=>rfl
 | some s =>
  simp only;split
  · rw [ZcY,if_neg h]
  · rfl
theorem ZcO:∀(l:List Nat)(Q:Po)(i:Nat),i ∉ l→(l.foldl Po.write Q).m i=Q.m i
 | [],_,_,_=>rfl
 | k :: l,Q,i,h=>by
  rw [List.foldl_cons,ZcO l _ i (fun e=>h (List.mem_cons_of_mem _ e)),ZfL _ _ _ (fun e=>h (by rw [e];exact List.mem_cons_self))]
theorem Zlc (P:Po)(n j:Nat)(hj:j<(P.dirty n).length):∃s,P.m (P.dirty n)[j]=some s∧s.dirty=true∧(((P.dirty n).take j).foldl Po.write P).m (P.dirty n)[j]=some s:=by
 have hm:=(List.mem_filter.1 (List.getElem_mem hj)).2;unfold Po.isDirty at hm;have hp:(P.dirty n).Pairwise (· < ·):=List.Pairwise.filter _ List.pairwise_lt_range;cases e:P.m (P.dirty n)[j] with
 | none=>rw [e] at hm;cases hm
 | some s =>
  rw [e] at hm;refine⟨s,rfl,hm,?_⟩;rw [ZcO _ _ _ (fun aa=>?_),e];obtain⟨i,hi,he⟩:=List.mem_iff_getElem.1 aa;rw [List.length_take] at hi;rw [List.getElem_take] at he;have:=List.pairwise_iff_getElem.1 hp i j (by omega) hj (by omega);omega
theorem ZlH {w':World}{s:Sl}{xs:List Nat}(h:Nums w w' s xs):s.len=xs.length:=by
 have:=h.own.1;simp [ivals] at this;exact this.symm
theorem Znm {w w' : World} {g len cap : Nat} {xs : List Nat} (h : Own 3 1 w' ⟨some ⟨g, 0, none⟩, len, cap⟩ (ivals xs)) (j : Nat) (hj : j < xs.length) : w'.cell? ⟨g, j, none⟩ = some (.int .i64 ((xs[j] : Nat) : Int)) := by
  have := h.cell (a := ⟨g, 0, none⟩) rfl j (.int .i64 ((xs[j] : Nat) : Int)) (by simp [ivals, hj])
  simpa [Addr.add_lit] using this
theorem Zi0 {Y:Nat→Prop}{f:Int→Option Value}(h:PoIn w p d P L Y v mb f){c:Nat}(hF:P.Fine n c):Calls Tryz.prog 59 #[at0 p] w fun e w'=>Did w p d mb L Y w' (P.flush n)∧e=.returned (.int .i64 (((P.dirty n).length:Nat):Int)):=by
 have aa:=hF.wet.dev.n2;have HD:=hide (ZeY h n aa (fun k s hk=>(hF.wet.sh k s hk).1));have bc:(P.dirty n).length≤n:=Nat.le_trans (List.length_filter_le _ _) (by simp);have HI:=hide h;have HF:=hide hF;have HN:=hide aa;(have bb:(P.dirty n).length≤64:=by omega);have aw:Hid (P.flush n=((P.dirty n).take (P.dirty n).length).foldl Po.write P):=by
  show P.flush n=_;rw [List.take_length];rfl
 have ar:=hide (Zlc P n);rw [aw.out];clear h hF aa bc;generalize bf:P.dirty n=xs at *;clear bf;unfold at0 at *;go_enter Tryz.func59,Tryz.ntmps59;go_wp2_with fail;refine HD.out.mono ?_;rintro e w1 ⟨af,s,rfl,ae⟩;have ap:=ZlH ae;have ad:=hide ae;have au:=hide af;have ay:=hide (HI.out.keep af);clear af ae;obtain⟨sa,sl,sc⟩:=s;simp only at ap;subst ap;simp only [Sl.val];go_wp2_with fail;go_loopw [10] (fun i wr=>∃j:Nat,j≤xs.length∧i=.int .i64 j∧Hid (Did w1 p d mb L Y wr ((xs.take j).foldl Po.write P))) (fun i _=>xs.length-(intOf i).toNat)
 case atStart=>exact ⟨0,by omega,rfl,hide (ay.out.same (Below.refl _ _))⟩
 case round =>
  obtain⟨j,hj,rfl,ac⟩:=hrel;by_cases ah:j<xs.length
  · (have i1:(j:Int)<(xs.length:Int):=by omega);obtain⟨s,e1,e2,e3⟩:=ar.out j ah;obtain⟨L2,Y2,v2,f2,al,aq,ao⟩:=ac.out.ex;have ag:=ac.out.frm;have hg:∃g,sa=some ⟨g,0,none⟩∧w.heap.size≤g:=by
     rcases ad.out.home with e | ⟨g,e,k⟩
     · simp only [Sl.nil,Sl.mk.injEq] at e;omega
     · exact⟨g,e,k⟩
    obtain⟨g,rfl,bd⟩:=hg;have ab:Own 3 1 wr ⟨some ⟨g,0,none⟩,xs.length,sc⟩ (ivals xs):=ad.out.own.frame (fun k hk=>by
     (have be:k=g:=by simpa [Sl.blk] using hk.symm);refine ag.block k (ad.out.own.lt hk) (fun e=>?_);rw [be] at e;exact(HI.out.new bd).1 e)
    have am:=Znm (w:=w) ab j ah;have hW:((xs.take j).foldl Po.write P).Lite n (c+4*j):=by
     have h1:=Po.Wet.writes (xs.take j) P c HF.out.wet;rw [List.length_take,Nat.min_eq_left hj] at h1;refine⟨h1,?_,?_⟩
     · have:=HF.out.cap;omega
     · rw [Zdw];exact HF.out.ss
    have ai:=Zfn al hW xs[j] s e3 e2;rw [← ZcX _ _ _ e3 e2] at ai;have HT:Hid ((xs.take (j+1)).foldl Po.write P=((xs.take j).foldl Po.write P).write xs[j]):=by
     show _=_;rw [List.take_succ_eq_append_getElem ah,List.foldl_append];rfl
    have aj:=hide ai;have ax:=hide ag;have ba:=hide aq;have az:=hide ao;generalize xs[j]=xj at *;unfold at0 at aj;clear ab hW ai e1 e2 e3 al aq ao ag;go_wp2_with fail;refine aj.out.mono ?_;rintro e w3 ⟨ak,rfl⟩;have av:Hid (Did w1 p d mb L Y w3 ((xs.take (j+1)).foldl Po.write P)):=by
     rw [HT.out];exact hide (Did.after ax.out ba.out az.out ak)
    clear ak;go_wp2_with fail;go_roundw
    case rel=>exact ⟨j+1,by omega,by go_num,av⟩
    case measure=>simp only [intOf];omega
  · (have an:j=xs.length:=by omega);(have i1:¬(j:Int)<(xs.length:Int):=by omega);have HE:Hid (Did w p d mb L Y wr ((xs.take xs.length).foldl Po.write P)):=by
     rw [an] at ac;exact hide (Did.after (Frm.ofBelow au.out) (fun _ e=>.inl e) (fun _ e=>.inl e) ac.out)
    clear an;go_wp2_with fail;go_ret;have hE:=HE.out;rw [List.take_length] at hE;exact⟨hE,rfl⟩
theorem ZlG (w:World)(d:Nat)(D:Ds)(L:Dl)(n c f:Nat)(h:DevM w d D L)(hE:D.Easy n c)(ax:D.ss.length≤65536)(h1:1≤f)(h2:f≤64):Calls Tryz.prog 38 #[at0 d,.int .i64 (f:Int)] w fun e w'=>Below w.heap.size w w'∧∃p X,e=.returned (.tuple #[at0 p,.int .i64 0])∧poM w' p d (Po.new D f) L X∧∀k,X k→w.heap.size≤k:=by
 have bl:=hE.n1;have HP:=hide (Zci w d D L h n hE.sp hE.n2);(have bm:((n:Int) == 0)=false:=by simp;omega);have bc:=hide (Zor f h1 h2 w);have HI:=hide h;have HE:=hide hE;have be:=hide ax;have bk:∀w:World,(Instr.makeMap 124 none).run Tryz.prog w=.ok (.map (some w.heap.size)) (w.alloc (.map #[] 0)):=fun w=>run_makeMap _ w;clear h hE ax h1 h2;unfold at0 at *;go_enter Tryz.func38,Tryz.ntmps38;go_wp2_with fail;refine HP.out.mono ?_;rintro e w' ⟨rfl,hw'⟩;obtain rfl:=hw'.symm;clear hw';go_wp2_with fail;refine bc.out.mono ?_;rintro e w1 ⟨aj,⟨sa,sl,sc⟩,rfl,av⟩;simp only [ckV,Sl.val];have al:=Zaa w1 (.cells #[.slice sa sl sc,.int .i64 0] 40);have am:=aj.trans (al.mono aj.size);have ar:=HI.out.keep am;have ay:=ZbM _ d D L ar n HE.out.sp HE.out.n2 HE.out.n1 (by have:=be.out;omega);have bf:=hide ay;have ak:=hide av;have ba:=hide aj;have aq:=hide am;have bb:Hid ((w1.alloc (.cells #[.slice sa sl sc,.int .i64 0] 40)).heap[w1.heap.size]? = some (.cells #[.slice sa sl sc,.int .i64 0] 40 (0,0))):=heap_alloc_new w1 _;have az:=hide al;clear av aj al am ar ay;go_wp2_with fail;refine bf.out.mono ?_;rintro e w3 ⟨ac,⟨ta,tl,tc⟩,rfl,_,_,_⟩;simp only;have ao:w3.heap[w1.heap.size]? = some (.cells #[.slice sa sl sc,.int .i64 0] 40 (0,0)):=(ac.block _ (by simp)).trans bb.out;have c0:w3.cell? ⟨w1.heap.size,0,none⟩=some (.slice sa sl sc):=(Addr.cell0 ao).trans rfl;have c1:w3.cell? ⟨w1.heap.size,1,none⟩=some (.int .i64 0):=(Addr.cell0 ao).trans rfl;have ah:=aq.out.trans (ac.mono aq.out.size);have ag:=Zaa w3 (.map #[] 0);have ai:=ah.trans (ag.mono ah.size);obtain⟨w4,ae⟩:∃w4,w4=w3.alloc (.map #[] 0):=⟨_,rfl⟩;rw [← ae] at ag ai;(have bi:w4.heap.size=w3.heap.size+1:=by rw [ae];simp);have ab:=Zaa w4 (.cells #[.pointer (some ⟨d,0,none⟩),.slice sa sl sc,.int .i64 0,.map (some w3.heap.size),.int .i64 (D.sb:Int)] 126);obtain⟨w5,af⟩:∃w5,w5=w4.alloc (.cells #[.pointer (some ⟨d,0,none⟩),.slice sa sl sc,.int .i64 0,.map (some w3.heap.size),.int .i64 (D.sb:Int)] 126):=⟨_,rfl⟩;rw [← af] at ab;have an:=ai.trans (ab.mono ai.size);(have bn:w5.heap.size=w4.heap.size+1:=by rw [af];simp);have ad:PoBlk w5 w4.heap.size d ⟨sa,sl,sc⟩ 0 w3.heap.size (D.sb:Int):=by
  rw [af];exact heap_alloc_new w4 _
 have aw:MapIs w5 w3.heap.size (fun _=>none):=(show MapIs w4 w3.heap.size (fun _=>none) by rw [ae];exact MapIs.made w3).frm (ab.block _ (by omega));have bj:w1.heap.size<w3.heap.size:=by
  have:=ac.size;simp at this;omega
 have au:PoIn w5 w4.heap.size d (Po.new D f) L (more (fun _=>False) ⟨sa,sl,sc⟩) ⟨sa,sl,sc⟩ w3.heap.size (fun _=>none):=by
  have b15:∀i,i<w1.heap.size→w5.heap[i]? = w1.heap[i]?:=fun i hi=>by
   rw [ab.block i (by omega),ag.block i (by omega),ac.block i (by simp;omega),az.out.block i hi]
  have bo:=ba.out.size;have ap:∀k,more (fun _=>False) ⟨sa,sl,sc⟩ k→w.heap.size≤k∧TyB w1 k:=fun k e=>e.elim (fun e=>e.elim) (fun e=>ZdD ak.out k e.1 e.2);have aa:∀k,more (fun _=>False) ⟨sa,sl,sc⟩ k→w.heap.size≤k∧k<w1.heap.size:=fun k e=>⟨(ap k e).1,(ap k e).2.lt⟩;refine⟨HI.out.keep an,?_,aw,frmG (Zlv _ ak.out) (fun i hi=>b15 i (aa i hi).2) (fun _ e=>e),fun k=>.inl ⟨rfl,rfl⟩,fun e=>by have:=aa _ e;omega,fun e=>by have:=aa _ e;omega,by omega,fun k hk=>by have:=aa _ hk;omega,fun k hk hF=>?_,fun k hk=>(ap k hk).2.frm (b15 k (aa k hk).2)⟩
  · show PoBlk w5 w4.heap.size d ⟨sa,sl,sc⟩ 0 w3.heap.size (D.sb:Int);exact ad
  · have:=HI.out.lt hF;rcases hk with e | e | e
    · omega
    · omega
    · have:=aa _ e;omega
 have bd:Hid (Below w.heap.size w w5∧∃X,poM w5 (w3.heap.size+1) d (Po.new D f) L X∧∀k,X k→w.heap.size≤k):=by
  rw [← bi];refine⟨an,poX w4.heap.size w3.heap.size _,⟨_,_,_,_,au,rfl⟩,fun k hk=>?_⟩;have h3:=ah.size;rcases hk with e | e | e
  · omega
  · omega
  · exact e.elim (fun e=>e.elim) (fun e=>(ZdD ak.out k e.1 e.2).1)
 have bg:=hide ae;have bh:=hide af;clear ao ah ag ai ab an ad aw au ac ae af;go_wp2_with fail;rw [← bg.out,← bh.out];go_ret2;obtain⟨hb,X,hM,hX⟩:=bd.out;exact⟨hb,_,rfl,X,hM,hX⟩
theorem ZgY (w:World)(d:Nat)(D:Ds)(L:Dl)(n c:Nat)(f:Int)(h:DevM w d D L)(hE:D.Easy n c)(hf:¬(1≤f∧f≤64)):Calls Tryz.prog 38 #[at0 d,.int .i64 f] w fun e w'=>Below w.heap.size w w'∧e=.returned (.tuple #[.pointer none,.int .i64 1]):=by
 have ae:=hE.n1;have HP:=hide (Zci w d D L h n hE.sp hE.n2);(have af:((n:Int) == 0)=false:=by simp;omega);have ad:=hide (Znl f (by omega) w);clear h hE hf;unfold at0 at *;go_enter Tryz.func38,Tryz.ntmps38;go_wp2_with fail;refine HP.out.mono ?_;rintro e w' ⟨rfl,hw'⟩;obtain rfl:=hw'.symm;clear hw';go_wp2_with fail;refine ad.out.mono ?_;rintro e w1 ⟨aa,rfl⟩;simp only [ckV,Sl.val,Sl.nil];have ab:=Zaa w1 (.cells #[.slice none 0 0,.int .i64 0] 40);have ac:=hide (aa.trans (ab.mono aa.size));clear aa ab;go_wp2_with fail;go_ret2;exact⟨ac.out,rfl⟩
theorem Zgn (w:World)(v:Value)(h:Dead w v):Calls Tryz.prog 38 #[v,.int .i64 1] w fun e w'=>Below w.heap.size w w'∧e=.returned (.tuple #[.pointer none,.int .i64 1]):=by
 have HP:=hide (Zir w v h);have HB:=hide (Below.refl w.heap.size w);clear h;go_enter Tryz.func38,Tryz.ntmps38;go_wp2_with fail;refine HP.out.mono ?_;rintro e w' ⟨rfl,hw'⟩;obtain rfl:=hw'.symm;clear hw';go_wp2_with fail;go_ret2;exact⟨HB.out,rfl⟩
theorem Zai:Zb5 poM:=by
 refine⟨?_,?_,?_,?_,?_,?_,?_,?_,?_,?_,?_,?_,?_,?_,?_,?_,?_,?_,?_⟩
 · rintro w p d P L X ⟨Y,v,mb,f,h,rfl⟩;exact h.dev
 · rintro w p d P L X ⟨Y,v,mb,f,h,rfl⟩ k hk;rcases hk with e | e | e
   · have:=h.blk.lt;omega
   · have:=h.map.lt;omega
   · exact h.lt k e
 · rintro w p d P L X ⟨Y,v,mb,f,h,rfl⟩ k hk;exact h.ap k hk
 · rintro w p d P L X w' F ⟨Y,v,mb,f,h,rfl⟩ hf hF;exact⟨Y,v,mb,f,h.frm hf hF,rfl⟩
 · rintro w p d P L X w' D' L' ⟨Y,v,mb,f,h,rfl⟩ ht;exact⟨Y,v,mb,f,h.turn ht,rfl⟩
 · intro w d D L n c f h hE ab h1 h2;exact ZlG w d D L n c f h hE ab h1 h2
 · intro w d D L n c f h hE ab hf;exact ZgY w d D L n c f h hE hf
 · intro w v h;exact Zgn w v h
 · rintro w p d P L X n c k ⟨Y,v,mb,f,h,rfl⟩ hF hk;refine(Zku h hF k hk).mono ?_;rintro e w' ⟨hD,r⟩;exact⟨hD.acted,r⟩
 · rintro w p d P L X n c k ⟨Y,v,mb,f,h,rfl⟩ hF hk;exact ZfF h hF k hk
 · rintro w p d P L X n c k a cap ys z ⟨Y,v,mb,f,h,rfl⟩ hF hk hy aa _;refine(ZlT h hF k hk a cap ys z hy aa).mono ?_;rintro e w' ⟨hD,r⟩;exact⟨hD.acted,r⟩
 · rintro w p d P L X n c k a len cap z ⟨Y,v,mb,f,h,rfl⟩ hF hk;exact Zgu h hF k _ _ hk
 · rintro w p d P L X n c k a len cap z ⟨Y,v,mb,f,h,rfl⟩ hF hk hl _;exact Zhd h hF k hk a len cap _ hl
 · rintro w p d P L X n c ⟨Y,v,mb,f,h,rfl⟩ hF;refine(Zi0 h hF).mono ?_;rintro e w' ⟨hD,r⟩;exact⟨hD.acted,r⟩
 · rintro w p d P L X n c k ⟨Y,v,mb,f,h,rfl⟩ hF hk;refine(Ziv h hF k hk).mono ?_;rintro e w' ⟨hD,r⟩;exact⟨hD.acted,r⟩
 · rintro w p d P L X n c k ⟨Y,v,mb,f,h,rfl⟩ hF hk hw;exact ZeK h k hk hw
 · rintro w p d P L X n c ⟨Y,v,mb,f,h,rfl⟩ hF;refine(ZeC h hF.wet.dev hF.ss).mono ?_;rintro e w' ⟨r,hI,hf⟩;exact⟨(Did.acted ⟨⟨L,Y,v,f,hI,fun _ e=>.inl e,fun _ e=>.inl e⟩,hf.mono (fun i _ e=>.inl e)⟩),r⟩
 · rintro w p d P L X n c ⟨Y,v,mb,f,h,rfl⟩ hF;refine(ZhA h n (fun k s hk=>(hF.wet.sh k s hk).1)).mono ?_;rintro e w' ⟨hb,s,r,hN⟩;exact⟨hb,s,r,hN.own⟩
 · rintro w p d P L X n c ⟨Y,v,mb,f,h,rfl⟩ hF;refine(ZeY h n hF.wet.dev.n2 (fun k s hk=>(hF.wet.sh k s hk).1)).mono ?_;rintro e w' ⟨hb,s,r,hN⟩;exact⟨hb,s,r,hN.own⟩
theorem Zov {X:Nat→Prop}(h:poM w p d P L X){k:Nat}(hk:X k){C:Array Value}{t:TypeId}{fz:Nat × Nat}(hc:w.heap[k]? = some (.cells C t fz)):t=126∨t=130∨t=5:=by
 obtain⟨Y,v,mb,f,h,rfl⟩:=h;rcases hk with e | e | e
 · subst e;have:=h.blk;unfold PoBlk at this;rw [hc] at this;simp only [Option.some.injEq,Obj.cells.injEq] at this;exact .inl this.2.1
 · subst e;obtain⟨es,c,hm⟩:=h.map.obj;rw [hc] at hm;cases hm
 · obtain⟨C',t',fz',hc',ht⟩:=h.ty k e;rw [hc] at hc';simp only [Option.some.injEq,Obj.cells.injEq] at hc';rw [hc'.2.1];exact .inr ht
end Go.Proofs.YtpnlebpnhmibfaaGreat
