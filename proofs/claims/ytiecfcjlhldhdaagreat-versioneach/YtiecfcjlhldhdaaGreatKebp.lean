/-
  Lemmas.
-/
import Derived.Test.YtiecfcjlhldhdaaGreatKebo
import Derived.Test.YtiecfcjlhldhdaaGreatKebm
import Derived.Test.YtiecfcjlhldhdaaGreatKeab
import Derived.Test.YtiecfcjlhldhdaaGreatKebh
namespace Go.Proofs.YtiecfcjlhldhdaaGreat
open Go.RowKit
set_option linter.unusedVariables false
set_option linter.unusedSimpArgs false
set_option maxRecDepth 100000
set_option maxHeartbeats 4000000
variable {w w0:World}{b bA bR:Nat}{s:Sl}
open Go.RowKit Go.Sort Go.Lib
theorem ZkS (w0 W:World)(blk off m cap:Nat)(d:Array Int)(h:Sq w0 blk off m W d)(hm:m<1000000) :
    Calls Tryz.prog 142 #[.slice (some ⟨blk,off,none⟩) m cap] W (SoS w0 blk off m 0 m d):=by
  have aa:Hid (∀V,Calls Tryz.prog 92 #[.int .u64 (m:Nat)] V fun e w'=>e=.returned (.int .i64 (Lib.bitLen m:Nat))∧w'=V):=by
   intro V;have hc:=Go.Proofs.Any.bits_Len (SlLaysF0.n15.bits (P:=Tryz.prog) (ρ:=ZaY) { ZkT with }) (m:Int) V (by omega) (by omega);rwa [Int.toNat_natCast] at hc
  have ac:Lib.bitLen m<1000000:=Nat.lt_of_le_of_lt (Lib.bitLen_le m 62 (by omega) (by omega)) (by omega);have HC:=hide (Zmm w0 blk off m cap hm m W 0 m (Lib.bitLen m) d (by omega) h (Nat.zero_le _) (Nat.le_refl _) ac (.inl rfl));have ab:Hid (Calls Tryz.prog 172 #[.slice (some ⟨blk,off,none⟩) m cap,.int .i64 0,.int .i64 (m:Nat),.int .i64 (Lib.bitLen m:Nat)] W (SoS w0 blk off m 0 m d)):=HC;(have wr:IntKind.u64.wrap (m:Int)=m:=by simp [IntKind.wrap,IntKind.bits,IntKind.signed];omega);clear h HC ac;generalize Lib.bitLen m=bl at *;go_enter Tryz.func142,Tryz.ntmps142;go_wp2_with fail;refine(aa.out _).mono ?_;rintro e w' ⟨rfl,hw⟩;obtain rfl:=hw.symm;go_wp2_with fail;refine ab.out.mono ?_;rintro e w1 ⟨rfl,ad⟩;have HS:=hide ad;clear ad ab;go_wp2_with fail;go_end0;exact⟨rfl,HS.out⟩
theorem ZiB (W:World):Calls Tryz.prog 142 #[.slice none 0 0] W fun e w'=>e=.returned (.tuple #[])∧w'=W:=by
 have aa:Hid (∀V,Calls Tryz.prog 92 #[.int .u64 0] V fun e w'=>e=.returned (.int .i64 0)∧w'=V):=by
  intro V;have hc:=Go.Proofs.Any.bits_Len (SlLaysF0.n15.bits (P:=Tryz.prog) (ρ:=ZaY) { ZkT with }) 0 V (by omega) (by omega);exact hc
 have hI:Hid (∀V,Calls Tryz.prog 189 #[.slice none 0 0,.int .i64 0,.int .i64 0] V fun e w'=>e=.returned (.tuple #[])∧w'=V):=by
  intro V;go_enter Tryz.func189,Tryz.ntmps189;go_wp2_with fail;refine wp_loop_rounds 1 ?_;rw [rounds_succ];go_wp2_with fail;go_end0;exact⟨rfl,rfl⟩
 have hP:Hid (∀V,Calls Tryz.prog 172 #[.slice none 0 0,.int .i64 0,.int .i64 0,.int .i64 0] V fun e w'=>e=.returned (.tuple #[])∧w'=V):=by
  intro V;go_enter Tryz.func172,Tryz.ntmps172;go_wp2_with fail;refine wp_loop_rounds 1 ?_;rw [rounds_succ];go_wp2_with fail;refine(hI.out _).mono ?_;rintro e w' ⟨rfl,hw⟩;obtain rfl:=hw.symm;go_wp2_with fail;(try simp only [Exit.inBlock,Exit.then]);refine bodyPost_ret (results_none rfl _ _ _) rfl ?_;exact⟨rfl,rfl⟩
 go_enter Tryz.func142,Tryz.ntmps142;go_wp2_with fail;refine(aa.out _).mono ?_;rintro e w' ⟨rfl,hw⟩;obtain rfl:=hw.symm;go_wp2_with fail;refine(hP.out _).mono ?_;rintro e w1 ⟨rfl,hw⟩;obtain rfl:=hw.symm;go_wp2_with fail;go_end0;exact⟨rfl,rfl⟩
theorem Zhg (d:List Int)(j:Nat)(h0:0<j)(hj:j<d.length):keeps d.toArray j=true↔d[j]≠d[j-1]'(by omega):=by
 unfold keeps;rw [decide_eq_true_eq,getElem!_pos d.toArray j (by simpa using hj),getElem!_pos d.toArray (j-1) (by simp;omega)];simp only [List.getElem_toArray];constructor
 · rintro (h | h)
   · omega
   · exact h
 · exact .inr
theorem Zfy (D ks:List Int)(hp:D.Perm ks)(ac:∀i j (ad:i<j)(hj:j<D.length),D[i]'(by omega)≤D[j]):decide ((compactUpTo D.toArray D.toArray.size).length<ks.length) = !decide ks.Nodup:=by
 have ab:=hp.length_eq;(have ae:D.toArray.size=ks.length:=by simp [ab]);rw [ae];by_cases aa:∀j,j<ks.length→keeps D.toArray j=true
 · have hn:ks.Nodup:=by
    rw [← hp.nodup_iff];refine List.pairwise_iff_getElem.2 fun i j hi hj ad=>?_;have hk:=(Zhg D j (by omega) hj).1 (aa j (by rw [← ab];exact hj));have h2:=ac (j-1) j (by omega) hj;by_cases e:i=j-1
    · subst e;exact fun h=>hk h.symm
    · have h1:=ac i (j-1) (by omega) (by omega);intro h;omega
   rw [compactUpTo_all _ _ aa];simp [hn]
 · have hn:¬ks.Nodup:=by
    intro hn;apply aa;intro j hj;rcases Nat.eq_zero_or_pos j with rfl | h0
    · exact keeps_lt_one _ 0 (by omega)
    · rw [Zhg D j h0 (by rw [ab];exact hj)];have:=List.pairwise_iff_getElem.1 (hp.nodup_iff.2 hn) (j-1) j (by omega) (by omega) (by omega);exact fun h=>this h.symm
   have hl:(compactUpTo D.toArray ks.length).length<ks.length:=by
    unfold compactUpTo;rw [List.length_map];have:((List.range ks.length).filter (keeps D.toArray)).length<(List.range ks.length).length:=by
     rw [List.length_filter_lt_length_iff_exists];have:∃j,¬(j<ks.length→keeps D.toArray j=true):=Classical.not_forall.1 aa;obtain⟨j,hj⟩:=this;rw [Classical.not_imp] at hj;exact⟨j,List.mem_range.2 hj.1,hj.2⟩
    simpa using this
   rw [decide_eq_true hl,decide_eq_false hn];rfl
theorem Zfz {g off n:Nat}(d:Array Int):Frm (fun k=>k=g) w (putRow uE (Sort.ahead w n) g off d):=by
 refine⟨rfl,rfl,rfl,by simp [putRow,mapBlock,Sort.ahead],fun k _ hk=>?_⟩;simp only [putRow,mapBlock,Sort.ahead,Array.getElem?_modify];rw [if_neg (fun e=>hk e.symm)]
def uVals (ks:List Int):List Value:=ks.map (.int .u64)
theorem Zfd (ks:List Int):(uVals ks).length=ks.length:=by simp [uVals]
theorem ZmP (w:World)(s:Sl)(ks:List Int)(h:Own 88 1 w s (uVals ks))(hl:ks.length<1000000) :
    Calls Tryz.prog 108 #[s.val] w fun e w'=>e=.returned (.bool (!decide ks.Nodup))∧Frm (fun k=>s.blk=some k) w w':=by
  (have af:ks.length=s.len:=by have:=h.1;rw [Zfd,Nat.mul_one] at this;exact this);rcases h.2 with ⟨rfl,h0⟩ | ⟨g,off,cur,ha,hg,aw,au,av,ht⟩
  · have:ks=[]:=by
     have:=congrArg List.length h0;rw [Zfd] at this;exact List.eq_nil_of_length_eq_zero this
    subst this;have HS:=hide (ZiB w);have HC:Hid (Calls Tryz.prog 143 #[.slice none 0 0] w fun e w'=>e=.returned (.slice none 0 0)∧w'=w):=by
     clear h hl af h0 HS;go_enter Tryz.func143,Tryz.ntmps143;go_wp2_with fail;go_ret;exact⟨rfl,rfl⟩
    rw [show (!decide ([]:List Int).Nodup)=false by decide];unfold Sl.nil Sl.val;clear h hl af h0;go_enter Tryz.func108,Tryz.ntmps108;go_wp2_with fail;refine HS.out.mono ?_;rintro e w' ⟨rfl,hw⟩;obtain rfl:=hw.symm;go_wp2_with fail;refine HC.out.mono ?_;rintro e w' ⟨rfl,hw⟩;obtain rfl:=hw.symm;go_wp2_with fail;go_ret;exact⟨rfl,Frm.refl _ _⟩
  · obtain⟨sa,sn,sc⟩:=s;simp only at ha af aw au av ht;subst ha;(have ax:ks.toArray.size=sn:=by simp [af]);have hH:Holds uE w g off ks.toArray:=by
     intro j hj;(have hj':j<ks.length:=by simpa using hj);refine⟨?_,frozen_of_row w g _ _ _ hg⟩;have ae:=h.cell rfl j (.int .u64 ks[j]) (by simp [uVals,hj']);rw [Addr.add_lit] at ae;rw [ae,getElem!_pos ks.toArray j hj];simp [uE]
    have ao:Hid (Sq w g off sn w ks.toArray):=⟨ax,hH,Frm.refl _ _⟩;have HS:=hide (ZkS w w g off sn sc ks.toArray ao.out (by omega));have ay:sn≤sc:=au;clear h hg aw au av ht hH;unfold Sl.val Sl.blk;simp only [Option.map_some,Option.some.injEq];by_cases am:ks.Nodup
    · rw [show (!decide ks.Nodup)=false by simp [am]];go_enter Tryz.func108,Tryz.ntmps108;go_wp2_with fail;refine HS.out.mono ?_;rintro e w1 ⟨rfl,d',aa,ab,ad⟩;have ap:d'.size=sn:=ad.size;have ak:d'.toList.Perm ks:=by
       have:=aa.2.2;rw [Array.extract_eq_self_of_le (by omega),Array.extract_eq_self_of_le (by omega)] at this;simpa using this
      have ac:=Zfy d'.toList ks ak (fun i j ar hj=>by
       (have hj':j<d'.size:=by simpa using hj);have:=ab i j (Nat.zero_le _) ar (by omega);rw [getElem!_pos d' j hj',getElem!_pos d' i (by omega)] at this;unfold ltInt at this;simp only [decide_eq_false_iff_not,Int.not_lt] at this;simpa using this)
      rw [show (!decide ks.Nodup)=false by simp [am],Array.toArray_toList] at ac;have hc:=Go.Proofs.AnyE.slices_Compact ZiZ uE (fun _=>rfl) (EqlAt.intD _ _ .u64) (NeqAt.intD _ _ .u64) 0 Tryz.zeroValue88 g off sc d' w1 ad.holds (by omega) (by omega);change Calls Tryz.prog 143 _ _ _ at hc;rw [ap] at hc ac;(have aj:¬(compactUpTo d' sn).length<sn:=by rw [← af];rw [← af] at ac;simpa using ac);have HC:=hide hc;have ai:=ad.frm;have ag:=hide ai;generalize compactUpTo d' sn=cu at *;clear hc ac ad ab aa ak ao HS ai;obtain⟨cn,ah⟩:∃cn,cn=cu.length:=⟨_,rfl⟩;rw [← ah] at aj HC;(have aq:¬(cn:Int)<(sn:Int):=by omega);clear ah aj;go_wp2_with fail;refine HC.out.mono ?_;rintro e w2 ⟨rfl,q,al⟩;(have an:Hid (Frm (fun k=>k=g) w w2):=by show Frm _ _ _;rw [al];exact ag.out.trans (Zfz _) (fun _ _ e=>e));clear al HC ag;go_wp2_with fail;go_ret;exact⟨by simp;omega,an.out.mono (fun i _ e=>e.symm)⟩
    · rw [show (!decide ks.Nodup)=true by simp [am]];go_enter Tryz.func108,Tryz.ntmps108;go_wp2_with fail;refine HS.out.mono ?_;rintro e w1 ⟨rfl,d',aa,ab,ad⟩;have ap:d'.size=sn:=ad.size;have ak:d'.toList.Perm ks:=by
       have:=aa.2.2;rw [Array.extract_eq_self_of_le (by omega),Array.extract_eq_self_of_le (by omega)] at this;simpa using this
      have ac:=Zfy d'.toList ks ak (fun i j ar hj=>by
       (have hj':j<d'.size:=by simpa using hj);have:=ab i j (Nat.zero_le _) ar (by omega);rw [getElem!_pos d' j hj',getElem!_pos d' i (by omega)] at this;unfold ltInt at this;simp only [decide_eq_false_iff_not,Int.not_lt] at this;simpa using this)
      rw [show (!decide ks.Nodup)=true by simp [am],Array.toArray_toList] at ac;have hc:=Go.Proofs.AnyE.slices_Compact ZiZ uE (fun _=>rfl) (EqlAt.intD _ _ .u64) (NeqAt.intD _ _ .u64) 0 Tryz.zeroValue88 g off sc d' w1 ad.holds (by omega) (by omega);change Calls Tryz.prog 143 _ _ _ at hc;rw [ap] at hc ac;(have aj:(compactUpTo d' sn).length<sn:=by rw [← af];rw [← af] at ac;simpa using ac);have HC:=hide hc;have ai:=ad.frm;have ag:=hide ai;generalize compactUpTo d' sn=cu at *;clear hc ac ad ab aa ak ao HS ai;obtain⟨cn,ah⟩:∃cn,cn=cu.length:=⟨_,rfl⟩;rw [← ah] at aj HC;(have aq:(cn:Int)<(sn:Int):=by omega);clear ah aj;go_wp2_with fail;refine HC.out.mono ?_;rintro e w2 ⟨rfl,q,al⟩;(have an:Hid (Frm (fun k=>k=g) w w2):=by show Frm _ _ _;rw [al];exact ag.out.trans (Zfz _) (fun _ _ e=>e));clear al HC ag;go_wp2_with fail;go_ret;exact⟨by simp,an.out.mono (fun i _ e=>e.symm)⟩
structure Sx where
  i:Nat
  k:Nat
  x:Rx
def Sx.hr (y:Sx):Hr:=⟨y.x.r,y.i,y.k⟩
def Sx.cells (y:Sx):List Value:=[.int .i64 (y.i:Nat),.int .i64 (y.k:Nat),.float .f64 y.x.r.key,.bool y.x.r.dead,.slice y.x.a y.x.n y.x.c,.int .i64 y.x.r.wr,.int .i64 y.x.r.cell,.int .i64 y.x.r.no]
def Sx.val (y:Sx):Value:=.agg #[.int .i64 (y.i:Nat),.int .i64 (y.k:Nat),.float .f64 y.x.r.key,.bool y.x.r.dead,.slice y.x.a y.x.n y.x.c,.int .i64 y.x.r.wr,.int .i64 y.x.r.cell,.int .i64 y.x.r.no]
def Sx.zero:Sx:=⟨0,0,Rx.zero⟩
def ZaF (l:List Sx):List Value:=l.flatMap Sx.cells
theorem Zcv:∀l:List Sx,(ZaF l).length=l.length*8
 | []=>rfl
 | y :: l=>by
  have e:ZaF (y :: l)=y.cells ++ ZaF l:=rfl
  rw [e,List.length_append,Zcv l,List.length_cons]
  have:y.cells.length=8:=rfl
  omega
theorem ZfW (l m:List Sx):ZaF (l ++ m)=ZaF l ++ ZaF m:=by simp [ZaF]
theorem Zfr (l:List Sx):∀u∈ZaF l,u.oneCell'=true:=by
 intro u hu;obtain⟨y,_,hy⟩:=List.mem_flatMap.1 hu;simp only [Sx.cells,List.mem_cons,List.not_mem_nil,or_false] at hy;rcases hy with rfl | rfl | rfl | rfl | rfl | rfl | rfl | rfl <;> rfl
theorem Zfq:∀(l:List Sx)(j t:Nat),j<l.length→t<8→(ZaF l)[j*8+t]? = (l.getD j Sx.zero).cells[t]?
 | [],j,t,hj,_=>by simp at hj
 | y :: l,0,t,_,ht=>by
  have e:ZaF (y :: l)=y.cells ++ ZaF l:=rfl
  have hl:y.cells.length=8:=rfl
  rw [e,Nat.zero_mul,Nat.zero_add,List.getElem?_append_left (by omega)]
  rfl
 | y :: l,j+1,t,hj,ht=>by
  have e:ZaF (y :: l)=y.cells ++ ZaF l:=rfl
  have hl:y.cells.length=8:=rfl
  rw [e,List.getElem?_append_right (by omega),hl,show (j+1)*8+t-8=j*8+t by omega]
  exact Zfq l j t (by simpa using hj) ht
theorem Zqn:(Tryz.prog.info? 118).map (fun i=>(i.zero,i.size,i.bytes))=some (some (.agg #[.int .i64 0,.int .i64 0,.float .f64 0,.bool false,.slice none 0 0,.int .i64 0,.int .i64 0,.int .i64 0]),8,80):=by kernel_rfl
theorem ZoZ:(Tryz.prog.info? 88).map (fun i=>(i.zero,i.size,i.bytes))=some (some (.int .u64 0),1,8):=by kernel_rfl
def rkS (l:List Sx):List Int:=l.map fun y=>((Fl.rk y.x.r.key:Nat):Int)
structure Stk (w0 w:World) (bA bR:Nat) (S:List Sx):Prop where
  ex:∃sA sR:Sl,w.heap[bA]? = some (.cells #[sA.val] 114 (0,0))∧w.heap[bR]? = some (.cells #[sR.val] 154 (0,0))∧Own 118 8 w sA (ZaF S)∧Own 88 1 w sR (uVals (rkS S))∧(∀k,sA.blk=some k→w0.heap.size≤k)∧(∀k,sR.blk=some k→w0.heap.size≤k)
  newA:w0.heap.size≤bA
  newR:w0.heap.size≤bR
  below:Below w0.heap.size w0 w
  flt:∀y∈S,ColF w y.x
  fits:∀y∈S,y.x.r.fits
theorem Stk.keep {w':World}{S:List Sx}(h:Stk w0 w bA bR S)(hb:Below w.heap.size w w'):Stk w0 w' bA bR S:=by
 obtain⟨sA,sR,h1,h2,h3,h4,h5,h6⟩:=h.ex;refine⟨⟨sA,sR,(hb.block _ (Array.getElem?_eq_some_iff.1 h1).1).trans h1,(hb.block _ (Array.getElem?_eq_some_iff.1 h2).1).trans h2,Own.frame h3 (fun k hk=>hb.block k (Own.lt h3 hk)),Own.frame h4 (fun k hk=>hb.block k (Own.lt h4 hk)),h5,h6⟩,h.newA,h.newR,h.below.trans (hb.mono h.below.size),fun y hy=>(h.flt y hy).keep hb,h.fits⟩
theorem Ze3 (v:Int)(w:World):(Instr.buildSlice 154 1 #[(0,.int .u64 v)]).run Tryz.prog w=.ok (.slice (some ⟨w.heap.size,0,none⟩) 1 1) (w.alloc (.cells #[.int .u64 v] 88)):=by
 simp [go_sem,Instr.buildSlice]
theorem ZqP (w:World)(y:Sx):Src Tryz.prog 8 114 (.slice (some ⟨w.heap.size,0,none⟩) 1 1) 1 (ZaF [y]) (w.alloc (.cells y.cells.toArray 118)):=by
 refine Src.ofSlice _ Tryz.underlying114 ⟨w.heap.size,0,none⟩ 1 1 (ZaF [y]) rfl (fun j u hj=>?_) (Zfr _);have hb:(w.alloc (.cells y.cells.toArray 118)).heap[w.heap.size]? = some (.cells y.cells.toArray 118 (0,0)):=heap_alloc_new w _;rw [Addr.add_lit,cell_of_row _ _ _ _ _ _ hb];simpa [ZaF,Sx.cells] using hj
theorem ZpA (w:World)(v:Int):Src Tryz.prog 1 154 (.slice (some ⟨w.heap.size,0,none⟩) 1 1) 1 (uVals [v]) (w.alloc (.cells #[.int .u64 v] 88)):=by
 refine Src.ofSlice _ Tryz.underlying154 ⟨w.heap.size,0,none⟩ 1 1 (uVals [v]) rfl (fun j u hj=>?_) (by intro u hu;simp [uVals] at hu;subst hu;rfl);have hb:(w.alloc (.cells #[.int .u64 v] 88)).heap[w.heap.size]? = some (.cells #[.int .u64 v] 88 (0,0)):=heap_alloc_new w _;rw [Addr.add_lit,cell_of_row _ _ _ _ _ _ hb];simpa [uVals] using hj
theorem Zlk {t:TypeId}{v:Value}(h:w.heap[b]? = some (.cells #[v] t (0,0)))(u:Value):(w.setCell ⟨b,0,none⟩ u).heap[b]? = some (.cells #[u] t (0,0))∧Frm (fun k=>k=b) w (w.setCell ⟨b,0,none⟩ u):=by
 refine⟨?_,Frm.setCell (F:=fun k=>k=b) (Frm.refl _ w) rfl u⟩;simp only [World.setCell];rw [Array.getElem?_modify,if_pos rfl,h];rfl
theorem Zbj {t:TypeId}{v:Value}(h:w.heap[b]? = some (.cells #[v] t (0,0))):w.cell? ⟨b,0,none⟩=some v∧w.frozen? ⟨b,0,none⟩=false:=by
 refine⟨?_,frozen_of_row w b 0 _ t h⟩;rw [cell_of_row _ _ _ _ _ _ h];rfl
theorem Stk.all {S:List Sx}(h:Stk w0 w bA bR S)(y:Sx)(hl:S.length+1≤100000) :
    ∃(sA s':Sl) (W:World),w.heap[bA]? = some (.cells #[sA.val] 114 (0,0))∧(∀ty,(Builtin.append_ #[114,114] ty #[sA.val,.slice (some ⟨w.heap.size,0,none⟩) 1 1]).run Tryz.prog (w.alloc (.cells y.cells.toArray 118))=.ok s'.val W)∧W.heap[bA]? = some (.cells #[sA.val] 114 (0,0)) ∧
     (∃sR:Sl,(W.setCell ⟨bA,0,none⟩ s'.val).heap[bA]? = some (.cells #[s'.val] 114 (0,0))∧(W.setCell ⟨bA,0,none⟩ s'.val).heap[bR]? = some (.cells #[sR.val] 154 (0,0))∧Own 118 8 (W.setCell ⟨bA,0,none⟩ s'.val) s' (ZaF (S ++ [y]))∧Own 88 1 (W.setCell ⟨bA,0,none⟩ s'.val) sR (uVals (rkS S))∧(∀k,s'.blk=some k→w0.heap.size≤k)∧(∀k,sR.blk=some k→w0.heap.size≤k)) ∧
     Below w0.heap.size w0 (W.setCell ⟨bA,0,none⟩ s'.val)∧(∀k,k<w.heap.size→(∃(C:Array Value) (fr:Nat × Nat),w.heap[k]? = some (Obj.cells C 32 fr)∨w.heap[k]? = some (Obj.cells C 39 fr)∨w.heap[k]? = some (Obj.cells C 67 fr))→(W.setCell ⟨bA,0,none⟩ s'.val).heap[k]? = w.heap[k]?)∧w.heap.size≤W.heap.size:=by
 obtain⟨sA,sR,h1,h2,h3,h4,h5,h6⟩:=h.ex;have hB:=Zaa w (.cells y.cells.toArray 118);have h3':Own 118 8 (w.alloc (.cells y.cells.toArray 118)) sA (ZaF S):=Own.frame h3 (fun k hk=>hB.block k (Own.lt h3 hk));(have ak:S.length=sA.len:=by have:=h3.1;rw [Zcv] at this;omega);obtain⟨s',W,ag,ho,ai,ae,ah⟩:=Zax Tryz.underlying114 Zqn rfl (by decide) _ sA (ZaF S) h3' (Zfr S) _ 1 (ZaF [y]) (ZqP w y) (by omega) 0;have l1:=(Array.getElem?_eq_some_iff.1 h1).1;have l2:=(Array.getElem?_eq_some_iff.1 h2).1;have ad:∀(k:Nat) (C:Array Value) (t:TypeId) (fr:Nat × Nat),w.heap[k]? = some (Obj.cells C t fr)→t≠118→W.heap[k]? = w.heap[k]?:=by
  intro k C t fr hk ht;have af:=(Array.getElem?_eq_some_iff.1 hk).1;refine(ae.block k (Nat.lt_of_lt_of_le af hB.size) (fun e=>?_)).trans (hB.block k af);obtain⟨cur,ab⟩:=Own.kind h3' e;rw [hB.block k af,hk] at ab;simp only [Option.some.injEq,Obj.cells.injEq] at ab;exact ht ab.2.1
 have h1':=(ad bA _ _ _ h1 (by decide)).trans h1;have h2':=(ad bR _ _ _ h2 (by decide)).trans h2;obtain⟨b1,f1⟩:=Zlk h1' s'.val;have aj:bR≠bA:=by
  intro e;rw [e,h1] at h2;simp only [Option.some.injEq,Obj.cells.injEq] at h2;exact absurd h2.2.1 (by decide)
 have l1W:bA<W.heap.size:=(Array.getElem?_eq_some_iff.1 h1').1;have ac:Below w0.heap.size w0 W:=(Zac h.below hB).trans (ae.below (Zac h.below hB).size (fun k hk=>h5 k hk));have aa:∀k:Nat,(∃(C:Array Value) (t:TypeId) (fr:Nat × Nat),W.heap[k]? = some (Obj.cells C t fr)∧t≠114)→(W.setCell ⟨bA,0,none⟩ s'.val).heap[k]? = W.heap[k]?:=by
  rintro k ⟨C,t,fr,hk,ht⟩;refine f1.block k (Array.getElem?_eq_some_iff.1 hk).1 (fun e=>?_);rw [e,h1'] at hk;simp only [Option.some.injEq,Obj.cells.injEq] at hk;exact ht hk.2.1.symm
 refine⟨sA,s',W,h1,fun ty=>ag,h1',⟨sR,b1,?_,?_,?_,fun k hk=>?_,h6⟩,ac.trans (f1.below ac.size (fun k hk=>by rw [hk];exact h.newA)),?_,Nat.le_trans hB.size ae.size⟩
 · exact(aa bR ⟨_,_,_,h2',by decide⟩).trans h2'
 · (have ho':Own 118 8 W s' (ZaF (S ++ [y])):=by rw [ZfW];exact ho);exact Own.frame ho' (fun k hk=>by
    obtain⟨cur,ab⟩:=Own.kind ho' hk;exact aa k ⟨_,_,_,ab,by decide⟩)
 · refine Own.frame h4 (fun k hk=>?_);obtain⟨cur,ab⟩:=Own.kind h4 hk;have e:=ad k _ _ _ ab (by decide);exact(aa k ⟨_,_,_,e.trans ab,by decide⟩).trans e
 · rcases ah with e | ⟨e,_⟩
   · exact h5 k (by rw [← e];exact hk)
   · rw [e] at hk;cases hk;have:=h.below.size;rw [Zae];omega
 · rintro k hk ⟨C,fr,hc | hc | hc⟩
   · have e:=ad k _ _ _ hc (by decide);exact(aa k ⟨_,_,_,e.trans hc,by decide⟩).trans e
   · have e:=ad k _ _ _ hc (by decide);exact(aa k ⟨_,_,_,e.trans hc,by decide⟩).trans e
   · have e:=ad k _ _ _ hc (by decide);exact(aa k ⟨_,_,_,e.trans hc,by decide⟩).trans e
theorem Zji:∀args w,(callFunc 107 args).run Tryz.prog w=.ok (.enter 107 args) w:=Pl.qi Tryz.func107
theorem ZoR (p:Nat)(w:World):(Instr.fieldAt 39 (.pointer (some ⟨p,0,none⟩)) 0).run Tryz.prog w=.ok (.pointer (some ⟨p,0,none⟩)) w:=by simp [go_sem,Instr.fieldAt]
theorem Zqq {p:Nat}{r:Rw}{c:Value}(h:RwBlk w p r c):(Instr.loadAt 32 (.pointer (some ⟨p,0,none⟩))).run Tryz.prog w=.ok (.float .f64 r.key) w:=by
 have c0:=h.c0;simp [go_sem,c0]
theorem Zih (h:w.heap[b]? = some (.cells #[s.val] 154 (0,0))):(Instr.loadAt 154 (.pointer (some ⟨b,0,none⟩))).run Tryz.prog w=.ok s.val w:=by
 have c0:=(Zbj h).1;unfold Sl.val at *;simp [go_sem,c0]
theorem ZpD (h:w.heap[b]? = some (.cells #[s.val] 154 (0,0)))(u:Sl):(Instr.storeAt 154 (.pointer (some ⟨b,0,none⟩)) u.val).run Tryz.prog w=.ok () (w.setCell ⟨b,0,none⟩ u.val):=by
 have c0:=(Zbj h).1;have f0:=(Zbj h).2;unfold Sl.val at *;simp [go_sem,c0,f0]
structure RkEnd (w w':World) (bR:Nat) (sR:Sl) (us:List Int):Prop where
  ex:∃s':Sl,w'.heap[bR]? = some (.cells #[s'.val] 154 (0,0))∧Own 88 1 w' s' (uVals us)∧(s'.blk=sR.blk∨∀k,s'.blk=some k→w.heap.size≤k)
  frm:Frm (fun k=>k=bR∨sR.blk=some k) w w'
theorem Zr7 (w:World)(p bR:Nat)(r:Rw)(c:Value)(sR:Sl)(us:List Int)(hx:RwBlk w p r c)(hb:w.heap[bR]? = some (.cells #[sR.val] 154 (0,0)))(ho:Own 88 1 w sR (uVals us))(hk:r.key<18446744073709551616)(hl:us.length+1≤100000)
    {Q:Exit→Act→World→Prop}{A:Act}(ba:A.tmps.size=18)(aw:A.defers=[])(s3:A.tmps.getD 3 undef=.pointer (some ⟨bR,0,none⟩))(s5:A.tmps.getD 5 undef=.pointer (some ⟨p,0,none⟩))
    (hend:∀(u:Nat→Value) w',RkEnd w w' bR sR (us ++ [((Fl.rk r.key:Nat):Int)])→Q .normal ((((((A.put (some 13) (u 13)).put (some 14) (u 14)).put (some 12) (u 12)).put (some 15) (u 15)).put (some 16) (u 16)).put (some 17) (u 17)) w') :
    (Code.region 2 (Pl.find 2 ((Tryz.f106.body).getD .skip)) true).wp Tryz.prog Q A w:=by
  obtain⟨v,hv⟩:∃v:Int,v=((Fl.rk r.key:Nat):Int):=⟨_,rfl⟩;(have ar:∀w,Calls Tryz.prog 107 #[.float .f64 r.key] w fun e w'=>e=.returned (.int .u64 v)∧w'=w:=fun w=>by rw [hv];exact ZnW r.key hk w);rw [← hv] at hend;have af:=Zaa w.drew (.cells #[.int .u64 v] 88);have ah:w.drew.heap[bR]? = some (.cells #[sR.val] 154 (0,0)):=hb;have ap:Own 88 1 w.drew sR (uVals us):=ho;have aj:(w.drew.alloc (.cells #[.int .u64 v] 88)).heap[bR]? = some (.cells #[sR.val] 154 (0,0)):=(af.block _ (Array.getElem?_eq_some_iff.1 ah).1).trans ah;have aq:Own 88 1 (w.drew.alloc (.cells #[.int .u64 v] 88)) sR (uVals us):=Own.frame ap (fun k hk=>af.block k (Own.lt ap hk));(have bb:us.length=sR.len:=by have:=ho.1;rw [Zfd,Nat.mul_one] at this;exact this);obtain⟨s',w2,ac,az,ax,an,av⟩:=Zax Tryz.underlying154 ZoZ rfl (by decide) _ sR (uVals us) aq (by intro u hu;obtain ⟨q,_,rfl⟩:=List.mem_map.1 hu;rfl) _ 1 (uVals [v]) (ZpA w.drew v) (by omega) 154;have ab:RwBlk w.drew p r c:=hx;have ad:RwBlk (w.drew.alloc (.cells #[.int .u64 v] 88)) p r c:=ab.keep af;have ao:∀(k:Nat) (C:Array Value) (t:TypeId) (fr:Nat × Nat),(w.drew.alloc (.cells #[.int .u64 v] 88)).heap[k]? = some (Obj.cells C t fr)→t≠88→w2.heap[k]? = (w.drew.alloc (.cells #[.int .u64 v] 88)).heap[k]?:=by
   intro k C t fr hk ht;refine an.block k (Array.getElem?_eq_some_iff.1 hk).1 (fun e=>?_);obtain⟨cur,aa⟩:=Own.kind aq e;rw [hk] at aa;simp only [Option.some.injEq,Obj.cells.injEq] at aa;exact ht aa.2.1
  have ae:RwBlk w2 p r c:=(ao p _ _ _ ad (by decide)).trans ad;have ak:w2.heap[bR]? = some (.cells #[sR.val] 154 (0,0)):=(ao bR _ _ _ aj (by decide)).trans aj;obtain⟨au,al⟩:=Zlk ak s'.val;have am:=ZpD ak s';have ay:p≠bR:=by
   intro e;have h1:w.heap[p]? = some (.cells _ 39 (0,0)):=hx;rw [e,hb] at h1;simp only [Option.some.injEq,Obj.cells.injEq] at h1;exact absurd h1.2.1 (by decide)
  have ai:RwBlk (w2.setCell ⟨bR,0,none⟩ s'.val) p r c:=(al.block p (Array.getElem?_eq_some_iff.1 ae).1 ay).trans ae;have hE:RkEnd w (w2.setCell ⟨bR,0,none⟩ s'.val) bR sR (us ++ [v]):=by
   refine⟨⟨s',au,?_,?_⟩,?_⟩
   · (have ag:Own 88 1 w2 s' (uVals (us ++ [v])):=by unfold uVals at *;rw [List.map_append];exact az);exact Own.frame ag (fun k hk=>by
      obtain⟨cur,aa⟩:=Own.kind ag hk;refine al.block k (Array.getElem?_eq_some_iff.1 aa).1 (fun e=>?_);rw [e,ak] at aa;simp only [Option.some.injEq,Obj.cells.injEq] at aa;exact absurd aa.2.1 (by decide))
   · rcases av with e | ⟨e,_⟩
     · exact .inl e
     · refine .inr fun k hk=>?_;rw [e] at hk;cases hk;exact af.size
   · have f0:Frm (fun k=>k=bR∨sR.blk=some k) w w.drew:=(Frm.refl _ w).drew;have f1:Frm (fun k=>k=bR∨sR.blk=some k) w.drew (w.drew.alloc (.cells #[.int .u64 v] 88)):=Frm.ofBelow af;have f2:Frm (fun k=>k=bR∨sR.blk=some k) (w.drew.alloc (.cells #[.int .u64 v] 88)) w2:=an.mono (fun _ _ e=>.inr e);have f3:Frm (fun k=>k=bR∨sR.blk=some k) w2 (w2.setCell ⟨bR,0,none⟩ s'.val):=al.mono (fun _ _ e=>.inl e);exact((f0.trans f1 (fun _ _ e=>e)).trans f2 (fun _ _ e=>e)).trans f3 (fun _ _ e=>e)
  have hA:=Pl.At.same (v:=.pointer (some ⟨p,0,none⟩)) (d:=5) (Pl.At.same (v:=.pointer (some ⟨bR,0,none⟩)) (d:=3) (Pl.At.here ba aw) s3) s5;refine Pl.qa (S:=fun w'=>RwBlk w' p r c) hA ab ?_;rw [show (Pl.find 2 ((Tryz.f106.body).getD .skip)).size=7 by kernel_rfl];refine Pl.q0 1 13 (.pointer (some ⟨p,0,none⟩)) (Pl.q1) (Pl.q5 39 (.tmp 5) 0 (ZoR p)) ab ?_;refine Pl.q0 2 14 (.float .f64 r.key) (Pl.q1) (Pl.q4 32 (.tmp 13) (fun w' hS=>Zqq hS)) ab ?_;refine Pl.qs 0 3 ?_ ?_
  · refine Pl.qm 0 12 sR.val w.drew (Pl.q_48 154 (.tmp 3) (Zih ah)) ab ?_;refine Pl.q_44 3 ?_;refine Pl.qz 3 15 107 [(.tmp 14)] #[32] Zji (Calls.mono (ar w.drew) ?_);rintro e w' ⟨rfl,hw⟩;subst hw;refine⟨.int .u64 v,rfl,ab,?_⟩;refine Pl.q_44 4 ?_;refine Pl.qm 4 16 (.slice (some ⟨w.drew.heap.size,0,none⟩) 1 1) (w.drew.alloc (.cells #[.int .u64 v] 88)) (Pl.qy 154 (.tmp 15) (Ze3 v w.drew)) ad ?_;refine Pl.qh 5 17 s'.val w2 (Pl.q1) (Pl.q_49 154 154 (.tmp 12) (.tmp 16) ac) ae ?_;refine Pl.qj 6 (w2.setCell ⟨bR,0,none⟩ s'.val) (Pl.q1) (Pl.qk 154 (.tmp 3) (.tmp 17) am) ai ?_;refine Pl.q8 (fun A' hA'=>?_);rw [Pl.At.ext hA' ((((((hA.put 13 _).put 14 _).put 12 _).put 15 _).put 16 _).put 17 _)];exact hend hA'.fn _ hE
  · refine Pl.qz 3 15 107 [(.tmp 14)] #[32] Zji (Calls.mono (ar w.drew) ?_);rintro e w' ⟨rfl,hw⟩;subst hw;refine⟨.int .u64 v,rfl,ab,?_⟩;refine Pl.qs 0 4 ?_ ?_
    · refine Pl.qm 0 12 sR.val w.drew (Pl.q_48 154 (.tmp 3) (Zih ah)) ab ?_;rw [Pl.qg 15 12];refine Pl.q_44 4 ?_;refine Pl.qm 4 16 (.slice (some ⟨w.drew.heap.size,0,none⟩) 1 1) (w.drew.alloc (.cells #[.int .u64 v] 88)) (Pl.qy 154 (.tmp 15) (Ze3 v w.drew)) ad ?_;refine Pl.qh 5 17 s'.val w2 (Pl.q1) (Pl.q_49 154 154 (.tmp 12) (.tmp 16) ac) ae ?_;refine Pl.qj 6 (w2.setCell ⟨bR,0,none⟩ s'.val) (Pl.q1) (Pl.qk 154 (.tmp 3) (.tmp 17) am) ai ?_;refine Pl.q8 (fun A' hA'=>?_);rw [Pl.At.ext hA' ((((((hA.put 13 _).put 14 _).put 12 _).put 15 _).put 16 _).put 17 _)];exact hend hA'.fn _ hE
    · refine Pl.qm 4 16 (.slice (some ⟨w.drew.heap.size,0,none⟩) 1 1) (w.drew.alloc (.cells #[.int .u64 v] 88)) (Pl.qy 154 (.tmp 15) (Ze3 v w.drew)) ad ?_;refine Pl.q_44 0 ?_;refine Pl.qm 0 12 sR.val (w.drew.alloc (.cells #[.int .u64 v] 88)) (Pl.q_48 154 (.tmp 3) (Zih aj)) ad ?_;rw [Pl.qg 16 12];rw [Pl.qg 15 12];refine Pl.qh 5 17 s'.val w2 (Pl.q1) (Pl.q_49 154 154 (.tmp 12) (.tmp 16) ac) ae ?_;refine Pl.qj 6 (w2.setCell ⟨bR,0,none⟩ s'.val) (Pl.q1) (Pl.qk 154 (.tmp 3) (.tmp 17) am) ai ?_;refine Pl.q8 (fun A' hA'=>?_);rw [Pl.At.ext hA' ((((((hA.put 13 _).put 14 _).put 12 _).put 15 _).put 16 _).put 17 _)];exact hend hA'.fn _ hE
theorem ZnT {S:List Sx}(h:Stk w0 w bA bR S)(y:Sx)(hc:ColF w y.x)(hf:y.x.r.fits)(hl:S.length+1≤100000) :
    Calls Tryz.prog 106 #[btV ((y.i:Nat),(y.k:Nat)),y.x.val,.pointer (some ⟨bA,0,none⟩),.pointer (some ⟨bR,0,none⟩)] w fun e w'=>e=.returned (.tuple #[])∧Stk w0 w' bA bR (S ++ [y]):=by
  have bn:∀(w:World) (a:Addr) (m:Mode) (x:Nat),(store a (.float .f64 x) m).run Tryz.prog w=stored Tryz.prog w a (.float .f64 x) m:=fun w a m x=>run_store Tryz.prog w a _ m rfl;obtain⟨i,k,r,a,n,cp⟩:=y;obtain⟨Y,hY⟩:∃Y:Sx,Y=⟨i,k,r,a,n,cp⟩:=⟨_,rfl⟩;have ap:=Zaa w (.cells #[.int .i64 (i:Nat),.int .i64 (k:Nat)] 67);have ak:=Zaa (w.alloc (.cells #[.int .i64 (i:Nat),.int .i64 (k:Nat)] 67)) (.cells #[.float .f64 r.key,.bool r.dead,.slice a n cp,.int .i64 r.wr,.int .i64 r.cell,.int .i64 r.no] 39);have hq:=(Zbq w ((i:Nat),(k:Nat))).keep ak;have hp:=Zai (w.alloc (.cells #[.int .i64 (i:Nat),.int .i64 (k:Nat)] 67)) r (.slice a n cp);rw [Zae] at hp;have al:=(h.keep ap).keep ak;have aw:=(hc.keep ap).keep ak;(have az:Y.x.r.fits:=by rw [hY];exact hf);have ba:r.key<18446744073709551616:=hf.key;(have bc:Y.cells=[.int .i64 (i:Nat),.int .i64 (k:Nat),.float .f64 r.key,.bool r.dead,.slice a n cp,.int .i64 r.wr,.int .i64 r.cell,.int .i64 r.no]:=by rw [hY];rfl);(have aj:((Fl.rk Y.x.r.key:Nat):Int)=((Fl.rk r.key:Nat):Int):=by rw [hY]);have bk:Hid ((w.alloc (.cells #[.int .i64 (i:Nat),.int .i64 (k:Nat)] 67)).alloc (.cells #[.float .f64 r.key,.bool r.dead,.slice a n cp,.int .i64 r.wr,.int .i64 r.cell,.int .i64 r.no] 39)=(w.alloc (.cells #[.int .i64 (i:Nat),.int .i64 (k:Nat)] 67)).alloc (.cells #[.float .f64 r.key,.bool r.dead,.slice a n cp,.int .i64 r.wr,.int .i64 r.cell,.int .i64 r.no] 39)):=rfl;obtain⟨W1,aq⟩:∃W1,W1=(w.alloc (.cells #[.int .i64 (i:Nat),.int .i64 (k:Nat)] 67)).alloc (.cells #[.float .f64 r.key,.bool r.dead,.slice a n cp,.int .i64 r.wr,.int .i64 r.cell,.int .i64 r.no] 39):=⟨_,rfl⟩;rw [← aq] at hq hp al aw;(have ay:ColF W1 Y.x:=by rw [hY];exact aw);have bj:=hide aq;clear bk ap ak aq;show Calls Tryz.prog 106 #[btV ((i:Nat),(k:Nat)),(⟨r,a,n,cp⟩:Rx).val,.pointer (some ⟨bA,0,none⟩),.pointer (some ⟨bR,0,none⟩)] w fun e w'=>e=.returned (.tuple #[])∧Stk w0 w' bA bR (S ++ [⟨i,k,r,a,n,cp⟩]);rw [show (⟨i,k,r,a,n,cp⟩:Sx)=Y from hY.symm];obtain⟨sA,s',W,au,ag,av,⟨sR,e1,e2,e3,e4,e5,e6⟩,ac,ab,bl⟩:=al.all Y hl;rw [bc] at ag;obtain⟨W2,ar⟩:∃W2,W2=W.setCell ⟨bA,0,none⟩ s'.val:=⟨_,rfl⟩;rw [← ar] at e1 e2 e3 e4 ac ab;have ax:=hide ar;have bb:=ab _ (Array.getElem?_eq_some_iff.1 hp).1 ⟨_,_,.inr (.inl hp)⟩;have bh:Hid (RwBlk W2 (w.heap.size+1) r (.slice a n cp)):=bb.trans hp;have am:Hid (∀y∈S ++ [Y],ColF W2 y.x):=by
   intro y hy;have af:ColF W1 y.x:=by
    rcases List.mem_append.1 hy with hy | hy
    · exact al.flt y hy
    · rw [List.mem_singleton.1 hy];exact ay
   have aa:∀b off,y.x.a=some ⟨b,off,none⟩→0<y.x.n→W2.heap[b]? = W1.heap[b]?:=by
    intro b off ha hn;obtain⟨C,fr,hk⟩:=af.home b off ha hn;exact ab b (Array.getElem?_eq_some_iff.1 hk).1 ⟨C,fr,.inl hk⟩
   refine⟨af.fs.same aa,fun b off ha hn=>?_⟩;obtain⟨C,fr,hk⟩:=af.home b off ha hn;exact⟨C,fr,(aa b off ha hn).trans hk⟩
  have ao:Hid (∀y∈S ++ [Y],y.x.r.fits):=by
   intro y hy;rcases List.mem_append.1 hy with hy | hy
   · exact h.fits y hy
   · rw [List.mem_singleton.1 hy];exact az
  (have bi:Hid ((rkS S).length+1≤100000):=by show _≤_;unfold rkS;rw [List.length_map];exact hl);have bf:Hid (∀w',RkEnd W2 w' bR sR (rkS S ++ [((Fl.rk r.key:Nat):Int)])→Stk w0 w' bA bR (S ++ [Y])):=by
   rintro w' ⟨⟨s2,g1,g2,g3⟩,gf⟩;have ae:∀(b:Nat) (C:Array Value) (t:TypeId) (fr:Nat × Nat),W2.heap[b]? = some (Obj.cells C t fr)→t≠88→t≠154→w'.heap[b]? = W2.heap[b]?:=by
    intro b C t fr hb h1 h2;refine gf.block b (Array.getElem?_eq_some_iff.1 hb).1 ?_;rintro (e | e)
    · rw [e,e2] at hb;simp only [Option.some.injEq,Obj.cells.injEq] at hb;exact h2 hb.2.1.symm
    · obtain⟨cur,ad⟩:=Own.kind e4 e;rw [hb] at ad;simp only [Option.some.injEq,Obj.cells.injEq] at ad;exact h1 ad.2.1
   have ai:Below w0.heap.size w0 w':=ac.trans (gf.below ac.size (fun k hk=>by
    rcases hk with rfl | hk
    · exact h.newR
    · exact e6 k hk))
   refine⟨⟨s',s2,(ae bA _ _ _ e1 (by decide) (by decide)).trans e1,g1,Own.frame e3 (fun b hb=>?_),?_,e5,fun b hb=>?_⟩,h.newA,h.newR,ai,fun y hy=>?_,ao.out⟩
   · obtain⟨cur,ad⟩:=Own.kind e3 hb;exact ae b _ _ _ ad (by decide) (by decide)
   · (have:rkS (S ++ [Y])=rkS S ++ [((Fl.rk r.key:Nat):Int)]:=by unfold rkS;rw [List.map_append,List.map_cons,aj];rfl);rw [this];exact g2
   · rcases g3 with e | e
     · exact e6 b (by rw [← e];exact hb)
     · exact Nat.le_trans ac.size (e b hb)
   · have af:=am.out y hy;have aa:∀b off,y.x.a=some ⟨b,off,none⟩→0<y.x.n→w'.heap[b]? = W2.heap[b]?:=by
      intro b off ha hn;obtain⟨C,fr,hk⟩:=af.home b off ha hn;exact ae b _ _ _ hk (by decide) (by decide)
     refine⟨af.fs.same aa,fun b off ha hn=>?_⟩;obtain⟨C,fr,hk⟩:=af.home b off ha hn;exact⟨C,fr,(aa b off ha hn).trans hk⟩
  have ah:=hide ag;have bd:=hide e2;have be:=hide e4;have bg:=hide ba;have q0:=hq.c0;have q1:=hq.c1;have p0:=hp.c0;have p1:=hp.c1;have p2:=hp.c2;have p3:=hp.c3;have p4:=hp.c4;have p5:=hp.c5;have a0:=(Zbj au).1;have aw0:=(Zbj av).1;have aw1:=(Zbj av).2;have bm:=(Array.getElem?_eq_some_iff.1 au).1;unfold Sl.val at ah a0 aw0 ax

  unfold btV Rx.val Rw.val;simp only;clear h hc hf hq hp al aw ay az ba bc aj hY au ag av e1 e2 e3 e4 e5 e6 ac ab bl bb ar;go_enter Tryz.func106,Tryz.ntmps106;go_upto_region 1 with fail;rw [← bj.out];go_upto_region 2 with (at_builtin;refine Zaq _ rfl 114 (.tmp 6) (.tmp 10) rfl (.slice sA.a sA.len sA.cap) (.slice (some ⟨W1.heap.size,0,none⟩) 1 1) (.slice s'.a s'.len s'.cap) rfl rfl W ah.out ?_);rw [← ax.out];refine Pl.q9 (ops:=Pl.find 2 ((Tryz.f106.body).getD .skip)) ?_;refine Zr7 W2 (w.heap.size+1) bR r (.slice a n cp) sR (rkS S) bh.out bd.out be.out bg.out bi.out (by rfl) (by rfl) (by rfl) (by rfl) ?_;intro u w' hend;have an:=hide (bf.out w' hend);clear hend;simp only [Pl.pu,List.foldl,Act.put,List.setIfInBounds_toArray,List.set_cons_zero,List.set_cons_succ];go_end0;exact⟨rfl,an.out⟩
def Zfj (l:List Lf):Prop:=∀f∈l,∀x∈f.slots,x ≠ []→decH x≠none
def ZpM (w0:World) (bA bR:Nat) (l:List Lf) (e:Ending) (w':World):Prop:=
  (Zfj l∧e=.returned (.bool true)∧∃S,Stk w0 w' bA bR S∧S.map Sx.hr=allH l)∨(¬Zfj l∧e=.returned (.bool false)∧Below w0.heap.size w0 w')
theorem ZbG:∀(l:List Lf)(i:Nat),(∀f∈l,f.slots.length≤64)→(rowsH l i).length≤l.length*64
 | [],_,_=>by simp [rowsH]
 | f :: l,i,h=>by
  have h1:=ZbG l (i+1) (fun g hg=>h g (List.mem_cons_of_mem _ hg))
  have h2:=Zdo i f.slots 0
  have h3:=h f (List.mem_cons_self ..)
  simp only [rowsH,List.length_append,List.length_cons]
  omega
theorem Zm7 {l:List Lf}(h:∀a,a<l.length→∀b,b<(lf l a).slots.length→sl (lf l a).slots b ≠ []→decH (sl (lf l a).slots b)≠none):Zfj l:=by
 intro f hf x hx hn;obtain⟨a,ha,rfl⟩:=List.getElem_of_mem hf;obtain⟨b,hb,rfl⟩:=List.getElem_of_mem hx;have:=h a ha b (by rw [ZdX ha];exact hb);rw [ZdX ha,Zee hb] at this;exact this hn
theorem Zm8 {l:List Lf}{a:Nat}(ha:a<l.length)(hb:b<(lf l a).slots.length)(hn:sl (lf l a).slots b ≠ [])(hd:decH (sl (lf l a).slots b)=none):¬Zfj l:=by
 intro h;refine h (lf l a) (Zc6 ha) (sl (lf l a).slots b) ?_ hn hd;rw [Zee hb];exact List.getElem_mem hb
theorem ZnB (w:World)(x:Sl):Calls Tryz.prog 139 #[x.val] w fun e w'=>e=.returned (.bool (decide (x.len=0)))∧w'=w:=by
 obtain⟨a,n,c⟩:=x;unfold Sl.val;simp only;by_cases h:n=0
 · subst h;go_enter Tryz.func139,Tryz.ntmps139;go_wp2_with fail;go_ret;exact⟨rfl,rfl⟩
 · (have i1:¬(n:Int)=0:=by omega);(have i2:((n:Int) == 0)=false:=by simp [h]);rw [decide_eq_false h];go_enter Tryz.func139,Tryz.ntmps139;go_wp2_with fail;go_ret;exact⟨by simp,rfl⟩
theorem Znt (w0 w:World)(s:Sl)(L:List Lb)(bA bR:Nat)(h:Gl (fun _=>True) w0 s L)(hm:∀f∈lfs L,MayL f)(bm:s.len≤62)(hS:Stk w0 w bA bR []) :
    Calls Tryz.prog 105 #[s.val,.func (.func 106) #[] #[.pointer (some ⟨bA,0,none⟩),.pointer (some ⟨bR,0,none⟩)]] w (ZpM w0 bA bR (lfs L)):=by
  obtain⟨a,len,cap⟩:=s;have cp:∀(w:World) (a:Addr) (m:Mode) (x:Nat),(store a (.float .f64 x) m).run Tryz.prog w=stored Tryz.prog w a (.float .f64 x) m:=fun w a m x=>run_store Tryz.prog w a _ m rfl;have H:=hide h;have HS:=hide hS;have cd:len≤62:=bm;have HL:Hid (L.length=len):=h.len;have ak:Hid (∀f∈lfs L,f.slots.length≤64):=fun f hf=>(hm f hf).slots.1;clear h hm bm hS;unfold Sl.val;simp only;go_enter Tryz.func105,Tryz.ntmps105;go_wp2_with fail;go_loopw [13] (fun iv wr=>∃(i:Nat) (S:List Sx),i≤len∧iv=.int .i64 (i:Nat)∧Hid (Stk w0 wr bA bR S)∧Hid (S.map Sx.hr=rowsH ((lfs L).take i) 0)∧Hid (∀p,p<i→∀b,b<(lf (lfs L) p).slots.length→sl (lf (lfs L) p).slots b ≠ []→decH (sl (lf (lfs L) p).slots b)≠none)) (fun iv _=>len-(intOf iv).toNat)
  case atStart=>exact ⟨0,[],Nat.zero_le _,rfl,HS,rfl,fun p hp=>absurd hp (Nat.not_lt_zero _)⟩
  case round =>
   clear HS;obtain⟨i,S,hi,rfl,hI,ad,aw⟩:=hrel;rcases Nat.lt_or_ge i len with bq | cn
   · (have j1:(i:Int)<(len:Int):=by omega);have be:=H.out.below hI.out.below (Nat.le_refl _);have ag:i<(Sl.mk a len cap).len:=bq;obtain⟨b,off,ha,c0,c1⟩:=be.cell i ag;replace ha:a=some ⟨b,off,none⟩:=ha;subst ha;have av:=(be.at ag).2;have bg:=Zf1 L i;have bp:lf (lfs L) i∈lfs L:=Zc6 (by rw [Zbe,HL.out];exact bq);have az:=ak.out _ bp;obtain⟨x,hx⟩:∃x,x=L.getD i Lb.zero:=⟨_,rfl⟩;rw [← hx] at c0 c1 av bg;obtain⟨xu,⟨va,vn,vc⟩,xt,xl⟩:=x;have bv:xl.length=vn:=av.len;have bx:Hid (Gb (fun _=>True) wr ⟨va,vn,vc⟩ xl):=av;have bz:Hid (∀wx,Below w0.heap.size w0 wx→Gb (fun _=>True) wx ⟨va,vn,vc⟩ xl):=fun wx hb=>by
      have:=((H.out.below hb (Nat.le_refl _)).at ag).2;rw [← hx] at this;exact this
     (have aj:Hid ((lf (lfs L) i).slots=bss xl):=by show _=_;rw [bg];rfl);(have al:Hid ((bss xl).length=vn):=by show _=_;rw [Zaj];exact bv);(have cl:vn≤64:=by rw [aj.out,al.out] at az;exact az);have ax:=hide (ZdC (b:=b) (o:=off+i*2) c0 c1);have af:=Zaa wr (.cells #[xu.val,.slice va vn vc] 101);have bw:=hide (bx.out.below af (Nat.le_refl _));have bk:=hide (hI.out.keep af);have ca:Hid (S.map Sx.hr=rowsH ((lfs L).take i) 0 ++ rowsS i ((bss xl).take 0) 0):=by
      show _=_;rw [List.take_zero];unfold rowsS;rw [List.append_nil];exact ad.out
     have cc:Hid ((rowsH ((lfs L).take i) 0).length≤62*64):=by
      show _≤_;have h1:=ZbG ((lfs L).take i) 0 (fun f hf=>ak.out f (List.mem_of_mem_take hf));rw [List.length_take] at h1;have:min i (lfs L).length*64≤62*64:=Nat.mul_le_mul_right _ (by omega);omega
     have ci:=HL.out;(have bl:Hid (i<(lfs L).length):=by show _<_;rw [Zbe];omega);unfold lfV Sl.val at ax;unfold Sl.val at af bw bk;simp only at ax;clear be av hx hI c0 c1 bv bg bp az ad ci;go_upto_block 2 with (refine Zah _ rfl 101 (.tmp 16) rfl (.pointer (some ⟨b,off+i*2,none⟩)) (.agg #[.slice xu.a xu.len xu.cap,.slice va vn vc]) rfl ax.out ?_);go_wp2_with fail;generalize cm:wr.alloc (.cells #[.slice xu.a xu.len xu.cap,.slice va vn vc] 101)=WB at *;go_loopw [21] (fun kv wr2=>∃(k:Nat) (S:List Sx),k≤vn∧kv=.int .i64 (k:Nat)∧Hid (Stk w0 wr2 bA bR S)∧Hid (S.map Sx.hr=rowsH ((lfs L).take i) 0 ++ rowsS i ((bss xl).take k) 0)∧Hid (∀b,b<k→sl (bss xl) b ≠ []→decH (sl (bss xl) b)≠none)) (fun kv _=>vn-(intOf kv).toNat)
     case atStart=>exact ⟨0,S,Nat.zero_le _,rfl,bk,ca,fun b hb=>absurd hb (Nat.not_lt_zero _)⟩
     case round =>
      rename World=>wr2;obtain⟨k,S,hk,rfl,am,ae,ab⟩:=hrel;rcases Nat.lt_or_ge k vn with bf | co
      · (have j2:(k:Int)<(vn:Int):=by omega);have bd:=bz.out wr2 am.out.below;have ao:k<(Sl.mk va vn vc).len:=bf;obtain⟨vb,vo,bj,e0⟩:=bd.cell k ao;replace bj:va=some ⟨vb,vo,none⟩:=bj;subst bj;have au:=(bd.at ao).1;obtain⟨⟨sa,sn,sc⟩,bt⟩:∃s,s=(xl.getD k Sb.zero).s:=⟨_,rfl⟩;rw [← bt] at e0 au;have bu:(sl (bss xl) k).length=sn:=au.came.bs.1;have hD:=hide (Zm3 sa sn sc (sl (bss xl) k) wr2 au.came);have hE:=hide (ZnB wr2 ⟨sa,sn,sc⟩);unfold Sl.val at e0 hE;simp only at e0 hE;have aq:=ZfF (i:=i) (s:=bss xl) (k:=k) (by rw [al.out];exact bf);have aa:=hide aq;have ac:=hide bu;clear bd au bt aq bu;by_cases hz:sn=0
        · have ah:sl (bss xl) k=[]:=List.length_eq_zero_iff.1 (by rw [ac.out];exact hz);have hN:Hid (S.map Sx.hr=rowsH ((lfs L).take i) 0 ++ rowsS i ((bss xl).take (k+1)) 0):=by
           show _=_;rw [aa.out,ah,show decH []=none by kernel_rfl];simp only [List.append_nil];exact ae.out
          have ai:Hid (∀b,b<k+1→sl (bss xl) b ≠ []→decH (sl (bss xl) b)≠none):=by
           intro b hb hn;rcases Nat.lt_or_ge b k with h | h
           · exact ab.out b h hn
           · exact absurd (by rw [show b=k by omega];exact ah) hn
          have an:decide (sn=0)=true:=decide_eq_true hz;rw [an] at hE;clear ah aa ac ae ab hD hz an;go_wp2_with fail;refine hE.out.mono ?_;rintro e w1 ⟨rfl,hw⟩;subst hw;go_wp2_with fail;go_roundw
          case rel=>exact ⟨k+1,S,by omega,by go_num,am,hN,ai⟩
          case measure=>simp only [intOf];omega
        · have an:decide (sn=0)=false:=decide_eq_false hz;rw [an] at hE;have cj:sl (bss xl) k ≠ []:=fun h=>hz (by rw [← ac.out,h];rfl);(have bb:Hid (k<(lf (lfs L) i).slots.length):=by show _<_;rw [aj.out,al.out];exact bf);clear an ac;go_wp2_with fail;refine hE.out.mono ?_;rintro e w1 ⟨rfl,hw⟩;subst hw;go_wp2_with fail;refine hD.out.mono ?_;intro e w3 ht;have ar:Hid (Stk w0 w3 bA bR S):=am.out.keep ht.1;cases hd:decH (sl (bss xl) k) with
          | none =>
           have bh:=ht.2.1 hd;subst bh;have hA:=Zaa w3 (.cells #[.float .f64 0,.bool false,.slice none 0 0,.int .i64 0,.int .i64 0,.int .i64 0] 39);have cf:Hid (¬Zfj (lfs L)):=Zm8 bl.out bb.out (by rw [aj.out];exact cj) (by rw [aj.out];exact hd);have ce:=hide ((ar.out.keep hA).below);clear ht hd hD hA e0 ar ae ab aa bb;unfold Zdw;go_wp2_with fail;go_ret;exact .inr ⟨cf.out,rfl,ce.out⟩
          | some r =>
           obtain⟨br,ra,rl,rc,bh,bo,ap⟩:=ht.2.2 r hd;subst bh;rw [hd] at aa;simp only at aa;have hA:=Zaa w3 (.cells #[.float .f64 r.key,.bool r.dead,.slice ra rl rc,.int .i64 r.wr,.int .i64 r.cell,.int .i64 r.no] 39);have hX:=Zai w3 r (.slice ra rl rc);have ba:=ar.out.keep hA;have bc:ColF (w3.alloc (.cells #[.float .f64 r.key,.bool r.dead,.slice ra rl rc,.int .i64 r.wr,.int .i64 r.cell,.int .i64 r.no] 39)) ⟨r,ra,rl,rc⟩:=(ColF.owns ap bo).keep hA;have hN:Hid ((S ++ [(⟨i,k,⟨r,ra,rl,rc⟩⟩:Sx)]).map Sx.hr=rowsH ((lfs L).take i) 0 ++ rowsS i ((bss xl).take (k+1)) 0):=by
            show _=_;rw [aa.out,← List.append_assoc,← ae.out,List.map_append];rfl
           have ai:Hid (∀b,b<k+1→sl (bss xl) b ≠ []→decH (sl (bss xl) b)≠none):=by
            intro b hb hn;rcases Nat.lt_or_ge b k with h | h
            · exact ab.out b h hn
            · rw [show b=k by omega,hd];exact (fun h=>by cases h)
           have bn:S.length+1≤100000:=by
            have h1:=congrArg List.length ae.out;rw [List.length_map,List.length_append] at h1;have h2:=cc.out;have h3:=Zdo i ((bss xl).take k) 0;rw [List.length_take] at h3;omega
           unfold Rw.val;have bi:=Zcl r.key r.dead ra rl rc r.wr r.cell r.no w3;generalize ch:w3.alloc (.cells #[.float .f64 r.key,.bool r.dead,.slice ra rl rc,.int .i64 r.wr,.int .i64 r.cell,.int .i64 r.no] 39)=W4 at hX ba bc bi;have HP:=hide (ZnT ba ⟨i,k,⟨r,ra,rl,rc⟩⟩ bc br bn);have x0:=hX.c0;have x1:=hX.c1;have x2:=hX.c2;have x3:=hX.c3;have x4:=hX.c4;have x5:=hX.c5;have cb:=hide bi;clear ht hd hD ar hA e0 hX ba bc bo ap aa bn br ch bi ae ab bb am hE;unfold Rx.val btV at HP;simp only at HP;go_wp2_with (first | refine Zad _ rfl rfl 39 (.tmp 9) (.tmp 31) rfl (.pointer (some ⟨w3.heap.size,0,none⟩)) (.agg #[.float .f64 r.key,.bool r.dead,.slice ra rl rc,.int .i64 r.wr,.int .i64 r.cell,.int .i64 r.no]) rfl rfl W4 cb.out ?_);refine HP.out.mono ?_;rintro e w5 ⟨rfl,cg⟩;go_wp2_with fail;go_roundw
           case rel=>exact ⟨k+1,S ++ [(⟨i,k,⟨r,ra,rl,rc⟩⟩:Sx)],by omega,by go_num,hide cg,hN,ai⟩
           case measure=>simp only [intOf];omega
      · (have j2:¬(k:Int)<(vn:Int):=by omega);(have e0:k=vn:=by omega);have HN:Hid (S.map Sx.hr=rowsH ((lfs L).take (i+1)) 0):=by
         have:=ae.out;rw [e0,List.take_of_length_le (l:=bss xl) (by rw [al.out];exact Nat.le_refl _),← aj.out] at this;show _=_;rw [ZfD bl.out];exact this
        have ay:Hid (∀p,p<i+1→∀b,b<(lf (lfs L) p).slots.length→sl (lf (lfs L) p).slots b ≠ []→decH (sl (lf (lfs L) p).slots b)≠none):=by
         intro p hp b hb hn;rcases Nat.lt_or_ge p i with h | h
         · exact aw.out p h b hb hn
         · (have ck:p=i:=by omega);subst ck;rw [aj.out] at hb hn ⊢;exact ab.out b (by rw [al.out] at hb;omega) hn
        clear ae ab aw e0;go_wp2_with fail;go_roundw
        case rel=>exact ⟨i+1,S,by omega,by go_num,am,HN,ay⟩
        case measure=>simp only [intOf];omega
   · (have j1:¬(i:Int)<(len:Int):=by omega);(have e0:i=len:=by omega);have HT:Hid (S.map Sx.hr=allH (lfs L)):=by
      have:=ad.out;rw [e0,List.take_of_length_le (by rw [Zbe,HL.out];exact Nat.le_refl _)] at this;exact this
     have ay:Hid (Zfj (lfs L)):=Zm7 (fun p hp=>aw.out p (by rw [Zbe,HL.out] at hp;omega));clear ad aw e0;go_wp2_with fail;go_ret;exact .inl ⟨ay.out,rfl,S,hI.out,HT.out⟩
structure Std (w0 w:World) (s:Sl) (S:List Sx):Prop where
  own:Own 118 8 w s (ZaF S)
  new:∀k,s.blk=some k→w0.heap.size≤k
  below:Below w0.heap.size w0 w
  flt:∀y∈S,ColF w y.x
  fits:∀y∈S,y.x.r.fits
theorem Std.keep {w':World}{S:List Sx}(h:Std w0 w s S)(hb:Below w.heap.size w w'):Std w0 w' s S:=
 ⟨Own.frame h.own (fun k hk=>hb.block k (Own.lt h.own hk)),h.new,h.below.trans (hb.mono h.below.size),fun y hy=>(h.flt y hy).keep hb,h.fits⟩
def ZfO (w0:World) (l:List Lf) (e:Ending) (w':World):Prop:=
  (MayH l∧∃s S,e=.returned (.tuple #[s.val,.int .i64 0])∧Std w0 w' s S∧S.map Sx.hr=allH l)∨(¬MayH l∧e=.returned (.tuple #[.slice none 0 0,.int .i64 1])∧Below w0.heap.size w0 w')
theorem Zh2 {S:List Sx}{l:List Hr}(h:S.map Sx.hr=l)(hg:∀g∈l,Zeh g.r):(rkS S).Nodup↔ZbE l:=by
 subst h;unfold ZbE rkS List.Nodup;rw [List.pairwise_map,List.pairwise_map];refine List.Pairwise.iff_of_mem (fun {a b} ha hb=>?_);have ga:=hg _ (List.mem_map_of_mem ha);have gb:=hg _ (List.mem_map_of_mem hb);constructor
 · intro aa he;exact aa (by simp only [Sx.hr] at he;rw [he])
 · intro aa he;exact aa (Zo9 ga.fit gb.fit ga.key gb.key (by simp only [Sx.hr];omega))
theorem ZmJ (w:World):Stk w ((w.alloc (.cells #[.slice none 0 0] 114)).alloc (.cells #[.slice none 0 0] 154)) w.heap.size (w.heap.size+1) []:=by
 have h1:=Zaa w (.cells #[.slice none 0 0] 114);have h2:=Zaa (w.alloc (.cells #[.slice none 0 0] 114)) (.cells #[.slice none 0 0] 154);have e1:=heap_alloc_new w (.cells #[.slice none 0 0] 114);have e2:=heap_alloc_new (w.alloc (.cells #[.slice none 0 0] 114)) (.cells #[.slice none 0 0] 154);rw [Zae] at e2;refine⟨⟨⟨none,0,0⟩,⟨none,0,0⟩,(h2.block _ (by rw [Zae];omega)).trans e1,e2,⟨rfl,.inl ⟨rfl,rfl⟩⟩,⟨rfl,.inl ⟨rfl,rfl⟩⟩,?_,?_⟩,Nat.le_refl _,by omega,Zac h1 h2,?_,?_⟩
 · intro k hk;cases hk
 · intro k hk;cases hk
 · intro y hy;cases hy
 · intro y hy;cases hy
theorem Zgu (w:World)(s:Sl)(L:List Lb)(h:Gl (fun _=>True) w s L) :
    Calls Tryz.prog 66 #[s.val] w (ZfO w (lfs L)):=by
  have ay:∀(w:World) (a:Addr) (m:Mode) (x:Nat),(store a (.float .f64 x) m).run Tryz.prog w=stored Tryz.prog w a (.float .f64 x) m:=fun w a m x=>run_store Tryz.prog w a _ m rfl;obtain⟨a,len,cap⟩:=s;have HG:=hide h;(have HL:Hid ((lfs L).length=len):=by show _=_;rw [Zbe];exact h.len);have aw:len≤900:=h.big;have HX:=hide (ZjR w ⟨a,len,cap⟩ L h);have aq:=hide h.good;clear h;unfold Sl.val at *;simp only at *;rcases Nat.lt_or_ge len 1 with h1 | h1
  · (have i1:(len:Int)<1:=by omega);(have ad:Hid (¬MayH (lfs L)):=fun hm=>by have:=hm.pos;rw [HL.out] at this;omega);have d1:=decide_eq_true i1;go_enter Tryz.func66,Tryz.ntmps66;go_wp2_with fail;go_ret2;exact .inr ⟨ad.out,rfl,Below.refl _ _⟩
  · (have i1:¬(len:Int)<1:=by omega);have d1:=decide_eq_false i1;rcases Nat.lt_or_ge 62 len with h2 | h2
    · (have i2:(62:Int)<(len:Int):=by omega);have d2:=decide_eq_true i2;(have ad:Hid (¬MayH (lfs L)):=fun hm=>by have:=hm.few;rw [HL.out] at this;omega);go_enter Tryz.func66,Tryz.ntmps66;go_wp2_with fail;go_ret2;exact .inr ⟨ad.out,rfl,Below.refl _ _⟩
    · (have i2:¬(62:Int)<(len:Int):=by omega);have d2:=decide_eq_false i2;go_enter Tryz.func66,Tryz.ntmps66;go_wp2_with fail;refine HX.out.mono ?_;rintro e w1 ⟨hx,hb⟩;rcases hx with ⟨hm,rfl⟩ | ⟨hm,rfl⟩
      · have am:=hide (ZmJ w1);have ah:=HG.out.below hb (Nat.le_refl _);have ai:=hide (Znt w1 _ ⟨a,len,cap⟩ L w1.heap.size (w1.heap.size+1) ah hm h2 am.out);have HB:=hide hb;have HM:=hide hm;clear hb hm ah;unfold Sl.val at ai;simp only at ai;go_wp2_with fail;refine ai.out.mono ?_;rintro e w2 ax;rcases ax with ⟨ao,rfl,S,hS,ab⟩ | ⟨an,rfl,ag⟩
        · obtain⟨⟨sa,sn,sc⟩,⟨ra,rn,rc⟩,e1,e2,o1,o2,n1,n2⟩:=hS.ex;have av:(rkS S).length≤62*64:=by
           unfold rkS;have:=congrArg List.length ab;rw [List.length_map] at this ⊢;rw [this];have h3:=ZbG (lfs L) 0 (fun f hf=>(HM.out f hf).slots.1);rw [HL.out] at h3;have:len*64≤62*64:=Nat.mul_le_mul_right _ h2;exact Nat.le_trans h3 this
          have ae:=hide (ZmP w2 ⟨ra,rn,rc⟩ (rkS S) o2 (by omega));have c5:=(Zbj e2).1;have aj:Hid (∀w3,Frm (fun k=>(Sl.mk ra rn rc).blk=some k) w2 w3→w3.cell? ⟨w1.heap.size,0,none⟩=some (.slice sa sn sc)∧Std w w3 ⟨sa,sn,sc⟩ S):=by
           intro w3 hf;have hk:∀(k:Nat) (C:Array Value) (t:TypeId) (fr:Nat × Nat),w2.heap[k]? = some (Obj.cells C t fr)→t≠88→w3.heap[k]? = w2.heap[k]?:=by
            intro k C t fr hk ht;refine hf.block k (Array.getElem?_eq_some_iff.1 hk).1 (fun e=>?_);obtain⟨cur,aa⟩:=Own.kind o2 e;rw [hk] at aa;simp only [Option.some.injEq,Obj.cells.injEq] at aa;exact ht aa.2.1
           have f1:=(hk _ _ _ _ e1 (by decide)).trans e1;refine⟨(Zbj f1).1,Own.frame o1 (fun k hh=>?_),fun k hh=>Nat.le_trans HB.out.size (n1 k hh),?_,fun y hy=>(hS.flt y hy).frm hf (fun k hh C fr hc=>?_),hS.fits⟩
           · obtain⟨cur,aa⟩:=Own.kind o1 hh;exact hk _ _ _ _ aa (by decide)
           · have ag:=Zac HB.out hS.below;exact ag.trans (hf.below ag.size (fun k hh=>Nat.le_trans HB.out.size (n2 k hh)))
           · obtain⟨cur,aa⟩:=Own.kind o2 hh;rw [hc] at aa;simp only [Option.some.injEq,Obj.cells.injEq] at aa;exact absurd aa.2.1 (by decide)
          have al:=hide (Zh2 ab aq.out);have au:=hide ab;have ar:=hide ao;clear hS e1 e2 o1 o2 n1 n2 av ab ao ai am;unfold Sl.val at ae c5;simp only at ae c5;by_cases hk:ZbE (allH (lfs L))
          · have ak:Hid (MayH (lfs L)):=⟨HM.out,ar.out,hk,by rw [HL.out];exact h1,by rw [HL.out];exact h2⟩;(have hd:(!decide (rkS S).Nodup)=false:=by rw [decide_eq_true (al.out.2 hk)];rfl);rw [hd] at ae;clear hk hd;go_wp2_with fail;refine ae.out.mono ?_;rintro e w3 ⟨rfl,hf⟩;obtain⟨c4,ac⟩:=aj.out w3 hf;have af:=hide ac;clear hf ac aj ae;go_wp2_with fail;go_ret2;exact .inl ⟨ak.out,⟨sa,sn,sc⟩,S,rfl,af.out,au.out⟩
          · have ad:Hid (¬MayH (lfs L)):=fun hh=>hk hh.keys;(have hd:(!decide (rkS S).Nodup)=true:=by rw [decide_eq_false (fun h=>hk (al.out.1 h))];rfl);rw [hd] at ae;clear hk hd;go_wp2_with fail;refine ae.out.mono ?_;rintro e w3 ⟨rfl,hf⟩;obtain⟨c4,ac⟩:=aj.out w3 hf;have af:=hide ac;clear hf ac aj ae;go_wp2_with fail;go_ret2;exact .inr ⟨ad.out,rfl,af.out.below⟩
        · have ad:Hid (¬MayH (lfs L)):=fun hh=>an hh.rows;have ap:=hide (Zac HB.out ag);clear an ag;go_wp2_with fail;go_ret2;exact .inr ⟨ad.out,rfl,ap.out⟩
      · have ad:Hid (¬MayH (lfs L)):=fun hh=>hm hh.leaf;have HB:=hide hb;clear hb hm;go_wp2_with fail;go_ret2;exact .inr ⟨ad.out,rfl,HB.out⟩
end Go.Proofs.YtiecfcjlhldhdaaGreat
