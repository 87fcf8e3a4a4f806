/-
  Lemmas.
-/
import Derived.Test.YtiecfcjlhldhdaaGreatKebr
import Derived.Test.YtiecfcjlhldhdaaGreatKebq
import Derived.Test.YtiecfcjlhldhdaaGreatKebl
import Derived.Test.YtiecfcjlhldhdaaGreatKebk
import Derived.Test.YtiecfcjlhldhdaaGreatKebi
namespace Go.Proofs.YtiecfcjlhldhdaaGreat
open Go.RowKit
set_option linter.unusedVariables false
set_option linter.unusedSimpArgs false
set_option maxRecDepth 100000
set_option maxHeartbeats 4000000
variable {w w0 wr w':World}{R X:List Rx}{s rs vs so q p:Sl}{g i off n:Nat}{z:Bz}{v:Vw}{S:List Sx}{o:Option Rw × List Int × Int}{y:Rx}
open Go.RowKit Go.Sort Go.Lib
theorem Zms {os:Array Obj}(d:Array Int)(hs:s.blk=some g):Frm (fun k=>s.blk=some k) w (grow (putRow (Value.int .i64) (Sort.ahead w n) g off d) os):=by
 refine⟨rfl,rfl,rfl,by simp,fun k hk hn=>?_⟩;rw [heap_grow_old _ _ (by simp;omega)];have:g≠k:=fun e=>hn (by rw [hs,e]);simp [putRow,mapBlock,Sort.ahead,Array.getElem?_modify,this]
theorem ZmI (w:World)(s:Sl)(t:List Int)(h:Hd w0 w s t)(hl:s.len≤1000000) :
    Calls Tryz.prog 44 #[s.val] w fun e w'=>e=.returned (.tuple #[])∧Hd w0 w' s (srtV t)∧Frm (fun k=>s.blk=some k) w w':=by
  obtain⟨a,len,cap⟩:=s
  have hlen:t.length=len:=h.len
  rcases h.at_ with ⟨h1,h2⟩ | ⟨g,off,ha,hg,hgl,hh⟩
  · obtain rfl:a=none:=h1
    obtain rfl:cap=0:=h2
    have hle:len≤0:=h.le
    obtain rfl:len=0:=by omega
    obtain rfl:t=[]:=List.eq_nil_of_length_eq_zero hlen
    have hs:=Go.Proofs.AnyM.slices_Sort_int_none Zof none 0 w
    change Calls Tryz.prog 44 _ _ _ at hs
    refine hs.mono ?_
    rintro e w' ⟨rfl,rfl⟩
    exact⟨rfl,⟨Zj3 [],Nat.le_refl _,h.below,.inl ⟨rfl,rfl⟩⟩,Frm.refl _ _⟩
  · obtain rfl:a=some ⟨g,off,none⟩:=ha
    subst hlen
    have hs:=Go.Proofs.AnyM.slices_Sort_int Zof g off cap t w hh hgl (by have:t.length≤1000000:=hl;omega)
    change Calls Tryz.prog 44 _ _ _ at hs
    refine hs.mono ?_
    rintro e w' ⟨rfl,n,os,rfl⟩
    have hb:=Zhx (n:=n) (os:=os) (off:=off) (srtV t).toArray hg h.below
    refine⟨rfl,⟨Zj3 t,h.le,hb,.inr ⟨g,off,rfl,hg,?_,?_⟩⟩,Zms _ rfl⟩
    · show g<(grow _ os).heap.size
      simp
      omega
    · exact holds_grow _ _ _ _ _ _ (by simpa using hgl) (holds_putRow _ _ _ _ t.toArray _ (holds_ahead _ _ _ _ _ _ hh) (by simp))
theorem ZgG (w:World)(s:Sl)(t:List Int)(h:Hd w0 w s t)(hl:s.len≤1000000) :
    Calls Tryz.prog 45 #[s.val] w fun e w'=>∃s',e=.returned s'.val∧s'.len≤s.len∧Hd w0 w' s' (cmpct t)∧Frm (fun k=>s.blk=some k) w w':=by
  obtain⟨a,len,cap⟩:=s
  have hlen:t.length=len:=h.len
  rcases h.at_ with ⟨h1,h2⟩ | ⟨g,off,ha,hg,hgl,hh⟩
  · obtain rfl:a=none:=h1
    obtain rfl:cap=0:=h2
    have hle:len≤0:=h.le
    obtain rfl:len=0:=by omega
    obtain rfl:t=[]:=List.eq_nil_of_length_eq_zero hlen
    have HB:Hid (Hd w0 w Sl.nil (cmpct [])):=⟨rfl,Nat.le_refl _,h.below,.inl ⟨rfl,rfl⟩⟩
    clear h hlen hl hle
    unfold Sl.val
    simp only
    go_enter Tryz.func45,Tryz.ntmps45
    go_wp2_with fail
    go_ret
    exact⟨Sl.nil,rfl,Nat.le_refl _,HB.out,Frm.refl _ _⟩
  · obtain rfl:a=some ⟨g,off,none⟩:=ha
    subst hlen
    have hle:t.length≤cap:=h.le
    have hsz:t.toArray.size=t.length:=by simp
    have hc:=Go.Proofs.AnyE.slices_Compact Zja (Value.int .i64) (fun _=>rfl) (EqlAt.intD _ _ .i64) (NeqAt.intD _ _ .i64) 0 Tryz.zeroValue3 g off cap t.toArray w hh (by rw [hsz];have:t.length≤1000000:=hl;omega) (by rw [hsz];exact hle)
    change Calls Tryz.prog 45 _ _ _ at hc
    rw [hsz] at hc
    refine hc.mono ?_
    rintro e w' ⟨rfl,q,rfl⟩
    have hcl:=Zlo t
    have hb:=Zhx (n:=q) (os:=#[]) (off:=off) (cmpct t ++ List.replicate (t.length-(cmpct t).length) 0).toArray hg h.below
    have hfm:=Zms (s:=⟨some ⟨g,off,none⟩,t.length,cap⟩) (w:=w) (off:=off) (n:=q) (os:=#[]) (cmpct t ++ List.replicate (t.length-(cmpct t).length) 0).toArray rfl
    rw [grow_empty] at hb hfm
    refine⟨⟨some ⟨g,off,none⟩,(cmpct t).length,cap⟩,rfl,hcl,⟨rfl,by show (cmpct t).length≤cap;omega,hb,.inr ⟨g,off,rfl,hg,?_,fun j hj=>?_⟩⟩,hfm⟩
    · have:=hb.size
      simp [putRow,mapBlock,Sort.ahead]
      omega
    · have hj':j<(cmpct t).length:=by simpa using hj
      have hp:=holds_putRow (Value.int .i64) _ g off t.toArray (cmpct t ++ List.replicate (t.length-(cmpct t).length) 0).toArray (holds_ahead _ _ q _ _ _ hh) (by simp;omega)
      have:=hp j (by simp;omega)
      refine⟨this.1.trans ?_,this.2⟩
      rw [getElem!_pos _ j (by simp;omega),getElem!_pos (cmpct t).toArray j hj]
      simp [hj']
open Go.RowKit Go.Sort Go.Lib Go.Shelf
structure Ry where
  val:Rx
  fit:val.r.key<18446744073709551616
instance:Inhabited Ry:=⟨⟨Rx.zero,by decide⟩⟩
def Ry.enc (y:Ry):List Value:=y.1.cells
def Ry.cf (x y:Ry):Int:=cmp x.1.r.key y.1.r.key
theorem Ry.lt (x y:Ry):ltOf Ry.cf x y=decide (Fl.rk x.1.r.key<Fl.rk y.1.r.key):=by
 have h1:=Zgm x.2 y.2;unfold ltOf Ry.cf cmp;by_cases c1:Fl.less x.1.r.key y.1.r.key=true
 · rw [if_pos c1,decide_eq_true (h1.1 c1)];rfl
 · rw [if_neg c1,decide_eq_false (fun h=>c1 (h1.2 h))];split <;> rfl
theorem Ry.swo:SWO (ltOf Ry.cf) where
 irrefl x:=by rw [Ry.lt];simp
 trans x y z h1 h2:=by rw [Ry.lt] at *;simp at *;omega
 ntrans x y z h1 h2:=by rw [Ry.lt] at *;simp at *;omega
theorem ZkL (x y:Rx)(hx:x.r.key<18446744073709551616)(hy:y.r.key<18446744073709551616)(W:World) :
    Calls Tryz.prog 89 #[x.val,y.val] W fun e w'=>e=.returned (.int .i64 (cmp x.r.key y.r.key))∧∃q os',w'=grow (W.drewN q) os':=by
  have HC:=hide (fun w=>Ze5 x.r.key y.r.key hx hy w);have ab:=Zaa W (.cells #[.float .f64 x.r.key,.bool x.r.dead,.slice x.a x.n x.c,.int .i64 x.r.wr,.int .i64 x.r.cell,.int .i64 x.r.no] 39);have aa:=Zaa (W.alloc (.cells #[.float .f64 x.r.key,.bool x.r.dead,.slice x.a x.n x.c,.int .i64 x.r.wr,.int .i64 x.r.cell,.int .i64 x.r.no] 39)) (.cells #[.float .f64 y.r.key,.bool y.r.dead,.slice y.a y.n y.c,.int .i64 y.r.wr,.int .i64 y.r.cell,.int .i64 y.r.no] 39);have c0:=((Zai W x.r (.slice x.a x.n x.c)).keep aa).c0;have hY:=Zai (W.alloc (.cells #[.float .f64 x.r.key,.bool x.r.dead,.slice x.a x.n x.c,.int .i64 x.r.wr,.int .i64 x.r.cell,.int .i64 x.r.no] 39)) y.r (.slice y.a y.n y.c);rw [Zae] at hY;have d0:=hY.c0;clear ab aa hY;generalize cmp x.r.key y.r.key=z at *;unfold Rx.val Rw.val;go_enter Tryz.func89,Tryz.ntmps89;go_wp2_with fail;refine(HC.out _).mono ?_;rintro e w1 ⟨rfl,hw⟩;obtain rfl:=hw.symm;go_wp2_with fail;go_ret;exact⟨rfl,0,_,by rw [alloc_eq_grow,alloc_eq_grow,grow_grow];rfl⟩
theorem ZkK (blk off size:Nat)(w:World):CmpLays Tryz.prog 89 #[] Ry.enc 6 Ry.cf blk off size w:=
 fun _ _ _ _ x y=>ZkL x.1 y.1 x.2 y.2 _
theorem ZqJ (w:World):(isAgg (ZaY.t 24)).run Tryz.prog w=.ok true w:=by
 show (isAgg 39).run Tryz.prog w=.ok true w;simp [go_sem]
theorem Zp7 (w:World):(Go.sizeOf (ZaY.t 24)).run Tryz.prog w=.ok 6 w:=by
 show (Go.sizeOf 39).run Tryz.prog w=.ok 6 w;simp [go_sem]
theorem Zfg (d:Array Ry)(os:Array Obj):Frm (fun k=>k=g) w (sortWorldK Ry.enc 6 w g off n d os):=by
 refine⟨rfl,rfl,rfl,size_sortWorldK_c _ _ _ _ _ _ _ _,fun k hk aa=>?_⟩;simp only [sortWorldK,grow,putRowK,putRow,mapBlock,Sort.ahead];rw [Array.getElem?_append_left (by simpa using hk),Array.getElem?_modify];rw [if_neg (fun e=>aa e.symm)]
structure ZmY (w w':World) (s:Sl) (R R':List Rx):Prop where
  perm:R'.Perm R
  up:R'.Pairwise fun x y=>Fl.rk x.r.key≤Fl.rk y.r.key
  at':∀j,j<R'.length→∃b off,s.a=some ⟨b,off,none⟩∧RwAt w' b (off+j*6) (R'.getD j Rx.zero)
  frm:Frm (fun k=>s.blk=some k) w w'
theorem ZhE (w:World)(s:Sl)(R:List Rx)(h:Own 39 6 w s (Zau R))(hk:∀x∈R,x.r.key<18446744073709551616)(hl:R.length<1000000) :
    Calls Tryz.prog 88 #[s.val,.func (.func 89) #[] #[]] w fun e w'=>e=.returned (.tuple #[])∧∃R',ZmY w w' s R R':=by
  (have ae:R.length=s.len:=by have:=h.1;rw [Zbn] at this;omega);rcases h.2 with ⟨rfl,h0⟩ | ⟨g,off,cur,ha,hg,ar,aq,an,ht⟩
  · have hR:R=[]:=by
     have:=congrArg List.length h0;rw [Zbn] at this;exact List.eq_nil_of_length_eq_zero (by simp at this;omega)
    subst hR;have hc:=Go.Proofs.AnyF.slices_SortFunc_none (P:=Tryz.prog) (ρ:=ZaY) { ZkT with } none 0 (.func (.func 89) #[] #[]) w;refine Calls.mono hc ?_;rintro e w' ⟨rfl,hw⟩;subst hw;exact⟨rfl,[],.refl _,List.Pairwise.nil,(fun j hj=>absurd hj (Nat.not_lt_zero _)),Frm.refl _ _⟩
  · obtain⟨sa,sn,sc⟩:=s;simp only at ha ae ar aq an ht;subst ha;obtain⟨D,hD⟩:∃D:List Ry,D.map Ry.val=R:=⟨R.attach.map (fun x=>(⟨x.1,hk x.1 x.2⟩:Ry)),by rw [List.map_map];exact List.attach_map_subtype_val R⟩;(have ah:D.length=sn:=by rw [← ae,← hD,List.length_map]);have ak:g<w.heap.size:=(Array.getElem?_eq_some_iff.1 hg).1;have ac:∀(E:List Ry) (i:Nat),i<E.length→(E.map Ry.val).getD i Rx.zero=(E.toArray[i]!).1:=by
     intro E i hi;rw [getElem!_pos E.toArray i (by simpa using hi)];simp [List.getD,hi]
    have hH:HoldsK Ry.enc 6 w g off D.toArray:=by
     intro t ag;rw [size_flatK] at ag;(have aw:t<D.length*6:=by simpa using ag);rw [get_flatK _ _ _ _ ag];refine⟨?_,frozen_of_row w g _ _ _ hg⟩;(have hj:t / 6<R.length:=by rw [ae,← ah];omega);have hm:t % 6<6:=Nat.mod_lt _ (by decide);have aa:=Zcu R (t / 6) (t % 6) hj hm;(have e:t / 6*6+t % 6=t:=by omega);rw [e] at aa;have ad:=ac D (t / 6) (by omega);rw [hD] at ad;rw [ad] at aa;have am:((D.toArray[t / 6]!).1.cells)[t % 6]? = some (((D.toArray[t / 6]!).1.cells)[t % 6]!):=by
      have al:t % 6<((D.toArray[t / 6]!).1.cells).length:=hm;rw [getElem!_pos ((D.toArray[t / 6]!).1.cells) (t % 6) al];exact List.getElem?_eq_getElem al
     rw [am] at aa;have ab:=h.cell rfl t _ aa;rw [Addr.add_lit] at ab;exact ab
    have eg:∀args w,(callFunc 89 args).run Tryz.prog w=.ok (.enter 89 args) w:=Pl.qi Tryz.func89;have hc:=Go.Proofs.AnyQ.slices_SortFunc (P:=Tryz.prog) (ρ:=ZaY) ZkT 6 ZqJ Zp7 Ry.enc (fun _=>rfl) (fun x v hv=>Zbo [x.1] v (by unfold Ry.enc at hv;simpa [Zau] using hv)) Ry.cf Ry.swo 89 #[] g off sc D.toArray w eg (ZkK g off _ w) hH ak (by simp;omega);(have af:D.toArray.size=sn:=by simpa using ah);rw [af] at hc;refine Calls.mono hc ?_;rintro e w' ⟨rfl,d',n,os,hp,hs,hw⟩;(have ao:d'.size=sn:=by rw [hp.1,af]);have au:d'.toList.Perm D:=by
     have:=hp.2.2;rw [Array.extract_eq_self_of_le (by omega),Array.extract_eq_self_of_le (by omega)] at this;simpa using this
    refine⟨rfl,d'.toList.map Ry.val,?_,?_,?_,?_⟩
    · rw [← hD];exact au.map _
    · rw [List.pairwise_map];refine List.pairwise_iff_getElem.2 fun i j hi hj ap=>?_;(have hj':j<d'.size:=by simpa using hj);have:=hs i j (Nat.zero_le _) ap (by omega);rw [getElem!_pos d' j hj',getElem!_pos d' i (by omega),Ry.lt,decide_eq_false_iff_not] at this;simp only [Array.getElem_toList];omega
    · intro j hj;(have aj:j<d'.toList.length:=by simpa using hj);(have av:j<d'.size:=by simpa using aj);have ai:=holdsK_sortWorldK_c Ry.enc 6 w g off D.toArray d' n os hH ak (by rw [ao,af]);rw [← hw] at ai;have ad:=ac d'.toList j aj;rw [Array.toArray_toList] at ad;refine⟨g,off,rfl,?_⟩;rw [ad];have hc:∀t,t<6→w'.cell? ⟨g,off+(j*6+t),none⟩=some ((d'[j]!).1.cells[t]!):=by
       intro t ht;have h1:=(ai (j*6+t) (by rw [size_flatK];omega)).1;rw [get_flatK _ _ _ _ (by omega),show (j*6+t) / 6=j by omega,show (j*6+t) % 6=t by omega] at h1;exact h1
      exact⟨hc 0 (by omega),hc 1 (by omega),hc 2 (by omega),hc 3 (by omega),hc 4 (by omega),hc 5 (by omega)⟩
    · rw [hw];exact(Zfg d' os).mono (fun k _ e=>by rw [e];rfl)
def inP (lo hi:Nat) (y:Sx):Bool:=!Fl.less y.x.r.key lo && Fl.less y.x.r.key hi
theorem ZkO {lo hi:Nat}{l:List Hr}(e:S.map Sx.hr=l)(hg:∀g∈l,Zeh g.r)(ho:ZbE l){R':List Rx}(hp:R'.Perm ((S.filter (inP lo hi)).map Sx.x))(hu:R'.Pairwise fun x y=>Fl.rk x.r.key≤Fl.rk y.r.key):rws R'=Zay lo hi l:=by
 obtain⟨p1,p2,p3⟩:=Zhy (lo:=lo) (hi:=hi) hg ho;refine ZmQ ?_ p1 (fun z=>?_)
 · have hS:S.Pairwise fun a b=>Fl.rk a.x.r.key≠Fl.rk b.x.r.key:=by
    have:=(Zh2 e hg).2 ho;unfold rkS List.Nodup at this;rw [List.pairwise_map] at this;exact this.imp (fun h h2=>h (by rw [h2]))
   have ab:R'.Pairwise fun a b=>Fl.rk a.r.key≠Fl.rk b.r.key:=by
    refine(hp.pairwise_iff (fun h=>h.symm)).2 ?_;rw [List.pairwise_map];exact hS.filter _
   unfold rws;rw [List.pairwise_map];refine(hu.and ab).imp (fun h=>?_);show Fl.rk _<Fl.rk _;omega
 · rw [p3];unfold rws;constructor
   · intro hz;obtain⟨x,hx,rfl⟩:=List.mem_map.1 hz;obtain⟨y,hy,rfl⟩:=List.mem_map.1 (hp.mem_iff.1 hx);obtain⟨ac,aa⟩:=List.mem_filter.1 hy;unfold inP at aa;simp only [Bool.and_eq_true,Bool.not_eq_true'] at aa;exact⟨y.hr,by rw [← e];exact List.mem_map_of_mem ac,rfl,aa⟩
   · rintro ⟨h,hh,rfl,h1,h2⟩;rw [← e] at hh;obtain⟨y,hy,rfl⟩:=List.mem_map.1 hh;refine List.mem_map.2 ⟨y.x,hp.mem_iff.2 (List.mem_map.2 ⟨y,List.mem_filter.2 ⟨hy,?_⟩,rfl⟩),rfl⟩;unfold inP;simp only [Sx.hr] at h1 h2;rw [h1,h2];rfl
theorem Std.frm {F:Nat→Prop}(h:Std w0 w s S)(f:Frm F w w')(hk:∀k,F k→∃cur,w.heap[k]? = some (.cells cur 39 (0,0)))(hn:∀k,F k→w0.heap.size≤k):Std w0 w' s S:=by
 refine⟨Own.frame h.own (fun k hh=>?_),h.new,h.below.trans (f.below h.below.size hn),fun y hy=>(h.flt y hy).frm f (fun k hh C fr hc=>?_),h.fits⟩
 · obtain⟨cur,ab⟩:=Own.kind h.own hh;refine f.block k (Array.getElem?_eq_some_iff.1 ab).1 (fun e=>?_);obtain⟨c2,aa⟩:=hk k e;rw [ab] at aa;simp only [Option.some.injEq,Obj.cells.injEq] at aa;exact absurd aa.2.1 (by decide)
 · obtain⟨c2,aa⟩:=hk k hh;rw [hc] at aa;simp only [Option.some.injEq,Obj.cells.injEq] at aa;exact absurd aa.2.1 (by decide)
structure RwI (w0 w:World) (s sR:Sl) (S:List Sx) (R:List Rx):Prop where
  st:Std w0 w s S
  rq:Rq w0 w sR R
  flt:∀x∈R,ColF w x
theorem RwI.keep {sR:Sl}(h:RwI w0 w s sR S R)(hb:Below w.heap.size w w'):RwI w0 w' s sR S R:=⟨h.st.keep hb,h.rq.keep hb,fun x hx=>(h.flt x hx).keep hb⟩
theorem RwI.one {sR:Sl}(h:RwI w0 w s sR S R)(x:Rx)(hx:ColF w x)(hf:x.r.fits)(hl:R.length+1≤1000000) :
    ∃s' W,(∀ty,(Builtin.append_ #[49,49] ty #[sR.val,.slice (some ⟨w.heap.size,0,none⟩) 1 1]).run Tryz.prog (w.alloc (.cells #[.float .f64 x.r.key,.bool x.r.dead,.slice x.a x.n x.c,.int .i64 x.r.wr,.int .i64 x.r.cell,.int .i64 x.r.no] 39))=.ok s'.val W)∧RwI w0 W s s' S (R ++ [x]):=by
  obtain⟨s',W,ac,hq,ab⟩:=h.rq.one x (hx.colR w0) hf hl;have hK:∀k,sR.blk=some k→∃cur,w.heap[k]? = some (.cells cur 39 (0,0)):=fun k hk=>h.rq.own.kind hk;have hF:∀k,sR.blk=some k→∀C fr,w.heap[k]? ≠ some (Obj.cells C 32 fr):=by
   intro k hk C fr hc;obtain⟨cur,aa⟩:=hK k hk;rw [hc] at aa;simp only [Option.some.injEq,Obj.cells.injEq] at aa;exact absurd aa.2.1 (by decide)
  refine⟨s',W,ac,h.st.frm ab hK h.rq.new,hq,fun y hy=>?_⟩;rcases List.mem_append.1 hy with hy | hy
  · exact(h.flt y hy).frm ab hF
  · rw [List.mem_singleton.1 hy];exact hx.frm ab hF
def ZkZ (w:World) (l:List Lf) (lo hi:Nat) (e:Ending) (w':World):Prop:=
  (MayH l∧Zej w (Zay lo hi (allH l)) e w')∨(¬MayH l∧Zej w [] e w')
theorem ZlF (w:World)(s:Sl)(L:List Lb)(h:Gl (fun _=>True) w s L)(lo hi:Nat)(bl:lo<18446744073709551616)(bj:hi<18446744073709551616) :
    Calls Tryz.prog 43 #[s.val,.float .f64 lo,.float .f64 hi] w (ZkZ w (lfs L) lo hi):=by
  have bo:∀(w:World) (a:Addr) (m:Mode) (x:Nat),(store a (.float .f64 x) m).run Tryz.prog w=stored Tryz.prog w a (.float .f64 x) m:=fun w a m x=>run_store Tryz.prog w a _ m rfl;have HO:=hide (Zgu w s L h);have bh:=hide h.good;obtain⟨a,len,cap⟩:=s;clear h;unfold Sl.val at *;simp only at *;go_enter Tryz.func43,Tryz.ntmps43;go_wp2_with fail;refine HO.out.mono ?_;intro e w1 ho;obtain⟨⟨sa,sn,sc⟩,S,k,rfl,hs,hk⟩:=ho.one;have HK:Hid ((MayH (lfs L)∧S.map Sx.hr=allH (lfs L))∨(¬MayH (lfs L)∧S=[])):=by
   rcases hk with ⟨h1,_,h2⟩ | ⟨h1,_,h2⟩
   · exact .inl ⟨h1,h2⟩
   · exact .inr ⟨h1,h2⟩
  have az:Hid (S.length≤62*64):=by
   rcases HK.out with ⟨h1,h2⟩ | ⟨h1,h2⟩
   · exact h1.len h2
   · rw [h2];exact Nat.zero_le _
  have ar:Hid (S.length=sn):=hs.len;(have bp:sn≤62*64:=by rw [← ar.out];exact az.out);have ax:Hid (RwI w w1 ⟨sa,sn,sc⟩ ⟨none,0,0⟩ S (((S.take 0).filter (inP lo hi)).map Sx.x)):=
   ⟨hs,⟨⟨rfl,.inl ⟨rfl,rfl⟩⟩,(fun k hk=>by cases hk),hs.below,(fun x hx=>by cases hx),fun x hx=>by cases hx⟩,fun x hx=>by cases hx⟩
  clear ho hs hk HO;unfold Sl.val;simp only;go_wp2_with fail;go_loopw [9,19] (fun v9 iv wr=>∃(i:Nat) (sR:Sl),i≤sn∧iv=.int .i64 (i:Nat)∧v9=.slice sR.a sR.len sR.cap∧Hid (RwI w wr ⟨sa,sn,sc⟩ sR S (((S.take i).filter (inP lo hi)).map Sx.x))) (fun _ iv _=>sn-(intOf iv).toNat)
  case atStart=>exact ⟨0,⟨none,0,0⟩,Nat.zero_le _,rfl,rfl,ax⟩
  case round =>
   clear ax;obtain⟨i,sR,bk,rfl,rfl,hI⟩:=hrel;rcases Nat.lt_or_ge i sn with bf | an
   · (have j1:(i:Int)<(sn:Int):=by omega);(have ao:i<S.length:=by rw [ar.out];exact bf);obtain⟨b,o,ha,c0⟩:=hI.out.st.cell ao;replace ha:sa=some ⟨b,o,none⟩:=ha;subst ha;(have an:S.getD i Sx.zero=S[i]:=by simp [List.getD,ao]);rw [an] at c0;have ay:=hide (Zij c0);have bm:=hide (Zgf b o sn sc i bf);have ae:S[i]∈S:=List.getElem_mem ao;have ad:=hI.out.st.fits _ ae;have ai:=hI.out.st.flt _ ae;have bg:S.take (i+1)=S.take i ++ [S[i]]:=List.take_succ_eq_append_getElem ao;have am:=hide bg;generalize S[i]=y at *;have au:=Zaa wr (.cells y.cells.toArray 118);have av:=hI.out.keep au;have bd:=ai.keep au;have aw:=SxBlk.new wr y;have ag:=hide (Zj4 y wr);generalize bc:wr.alloc (.cells y.cells.toArray 118)=W4 at *;have bn:=hide bc;have x2:=aw.c2;have ab:=hide (ZbD wr.heap.size 2 y.x W4 aw.rw);have ah:(((S.take i).filter (inP lo hi)).map Sx.x).length+1≤1000000:=by
      rw [List.length_map];have h1:=List.length_filter_le (inP lo hi) (S.take i);rw [List.length_take] at h1;omega
     obtain⟨s',W5,aa,ba⟩:=av.one y.x bd ad ah;have aq:=hide aa;have af:=hide (fun w=>ZhS y.x.r.key lo hi ad.key bl bj w);have HP:Hid ((!Fl.less y.x.r.key lo && Fl.less y.x.r.key hi)=inP lo hi y):=rfl;rw [HP.out] at af;have bi:=hide av;have ap:=hide ba;clear c0 an ae ad ai bg au av bd aw bc ah aa ba HP;unfold Sl.val at aq;cases hp:inP lo hi y with
     | false =>
      rw [hp] at af;have HN:Hid (RwI w W4 ⟨some ⟨b,o,none⟩,sn,sc⟩ sR S (((S.take (i+1)).filter (inP lo hi)).map Sx.x)):=by
       show RwI _ _ _ _ _ _;rw [am.out,List.filter_append,List.filter_cons,hp];simpa using bi.out
      clear hp am ap aq ab;go_wp2_with (first | refine Zah _ rfl 118 (.tmp 21) rfl (.pointer (some ⟨b,o+i*8,none⟩)) _ rfl ay.out ?_ | refine Zad _ rfl rfl 118 (.tmp 11) (.tmp 22) rfl (.pointer (some ⟨wr.heap.size,0,none⟩)) _ rfl rfl W4 ag.out ?_);refine(af.out _).mono ?_;rintro e w3 ⟨rfl,hw⟩;obtain rfl:=hw.symm;go_wp2_with fail;go_roundw
      case rel=>exact ⟨i+1,sR,by omega,by go_num,rfl,HN⟩
      case measure=>simp only [intOf];omega
     | true =>
      rw [hp] at af;have HN:Hid (RwI w W5 ⟨some ⟨b,o,none⟩,sn,sc⟩ s' S (((S.take (i+1)).filter (inP lo hi)).map Sx.x)):=by
       show RwI _ _ _ _ _ _;rw [am.out,List.filter_append,List.filter_cons,hp,List.map_append];exact ap.out
      clear hp am ap;unfold Rx.val Rw.val at ab;go_wp2_with (first | refine Zah _ rfl 118 (.tmp 21) rfl (.pointer (some ⟨b,o+i*8,none⟩)) _ rfl ay.out ?_ | refine Zad _ rfl rfl 118 (.tmp 11) (.tmp 22) rfl (.pointer (some ⟨wr.heap.size,0,none⟩)) _ rfl rfl W4 ag.out ?_);refine(af.out _).mono ?_;rintro e w3 ⟨rfl,hw⟩;obtain rfl:=hw.symm;go_wp2_with (first | refine Zah _ rfl 39 (.tmp 30) rfl (.pointer (some ⟨wr.heap.size,2,none⟩)) _ rfl ab.out ?_ | (at_builtin;refine Zaq _ rfl 49 (.tmp 29) (.tmp 32) rfl (.slice sR.a sR.len sR.cap) (.slice (some ⟨W4.heap.size,0,none⟩) 1 1) (.slice s'.a s'.len s'.cap) rfl rfl W5 aq.out ?_));go_roundw
      case rel=>exact ⟨i+1,s',by omega,by go_num,rfl,HN⟩
      case measure=>simp only [intOf];omega
   · (have j1:¬(i:Int)<(sn:Int):=by omega);have HT:Hid (RwI w wr ⟨sa,sn,sc⟩ sR S ((S.filter (inP lo hi)).map Sx.x)):=by
      have:=hI.out;rw [List.take_of_length_le (by rw [ar.out];exact an)] at this;exact this
     clear hI;obtain⟨ra,rn,rc⟩:=sR;have ah:((S.filter (inP lo hi)).map Sx.x).length<1000000:=by
      rw [List.length_map];have h1:=List.length_filter_le (inP lo hi) S;have:=az.out;omega
     have al:=hide (ZhE wr ⟨ra,rn,rc⟩ _ HT.out.rq.own (fun x hx=>(HT.out.rq.fits x hx).key) ah);clear ah;unfold Sl.val at al;simp only at al;go_wp2_with fail;refine al.out.mono ?_;rintro e w3 ⟨rfl,R',hR⟩;have HR':=hide hR;clear hR al;go_wp2_with fail;go_ret;have be:=HR'.out.frm;have hB:Below w.heap.size w w3:=HT.out.rq.below.trans (be.below HT.out.rq.below.size HT.out.rq.new);have hF:∀k,(Sl.mk ra rn rc).blk=some k→∀C fr,wr.heap[k]? ≠ some (Obj.cells C 32 fr):=by
      intro k hk C fr hc;obtain⟨cur,ac⟩:=HT.out.rq.own.kind hk;rw [hc] at ac;simp only [Option.some.injEq,Obj.cells.injEq] at ac;exact absurd ac.2.1 (by decide)
     have aj:∀x∈R',ColF w3 x:=fun x hx=>(HT.out.flt x (HR'.out.perm.mem_iff.1 hx)).frm be hF;(have ak:R'.length=rn:=by rw [HR'.out.perm.length_eq];exact HT.out.rq.len);have bb:ZaA w3 ⟨ra,rn,rc⟩ R':=⟨⟨ak,fun j hj=>HR'.out.at' j (by rw [ak];exact hj),fun x hx=>(aj x hx).fs,fun x hx=>HT.out.rq.fits x (HR'.out.perm.mem_iff.1 hx)⟩,HT.out.rq.own.lecap,fun e=>HT.out.rq.own.nilcap e,aj⟩;rcases HK.out with ⟨hm,he⟩ | ⟨hm,he⟩
     · exact .inl ⟨hm,hB,⟨ra,rn,rc⟩,R',rfl,bb,ZkO he bh.out hm.keys HR'.out.perm HR'.out.up⟩
     · refine .inr ⟨hm,hB,⟨ra,rn,rc⟩,R',rfl,bb,?_⟩;have:=HR'.out.perm;rw [he] at this;rw [List.Perm.eq_nil this];rfl
theorem ZqK (w:World)(g k:Nat)(z:Bz)(v:Vw)(s:Sl)(a b:Int)(hg:BsBlk w g z)(hk:ZaR w k v s)(hC:∀W,Below w.heap.size w W→Calls Tryz.prog 10 #[z.val] W fun e w'=>e=.returned (.int .i64 a)∧Below W.heap.size W w')(hV:∀W,Below w.heap.size w W→Calls Tryz.prog 30 #[vwV v s] W fun e w'=>e=.returned (.int .i64 b)∧Below W.heap.size W w')
    {Q:Exit→Act→World→Prop}{A:Act}(aj:A.tmps.size=69)(ai:A.defers=[])(s4:A.tmps.getD 4 undef=.pointer (some ⟨g,0,none⟩))(s5:A.tmps.getD 5 undef=.pointer (some ⟨k,0,none⟩))
    (hend:∀(u:Nat→Value) w',Below w.heap.size w w'→Q .normal ((Pl.pu A u [18,20,19,21,22,23]).put (some 11) (.int .i64 (orN [a,b]))) w') :
    (Code.region 1 (Pl.find 1 ((Tryz.f16.body).getD .skip)) true).wp Tryz.prog Q A w:=by
  have aa:Below w.heap.size w w.drew:=Zab w;have hA:=Pl.At.same (v:=.pointer (some ⟨k,0,none⟩)) (d:=5) (Pl.At.same (v:=.pointer (some ⟨g,0,none⟩)) (d:=4) (Pl.At.here aj ai) s4) s5;refine Pl.qa (S:=fun w'=>Below w.heap.size w w') hA aa ?_;rw [show (Pl.find 1 ((Tryz.f16.body).getD .skip)).size=7 by kernel_rfl];refine Pl.q0 0 18 (z.val) (Pl.q1) (Pl.q4 28 (.tmp 4) (fun w' hS=>Zgn (hg.keep hS))) aa ?_;refine Pl.q0 2 20 (vwV v s) (Pl.q1) (Pl.q4 31 (.tmp 5) (fun w' hS=>Zpj (hk.keep hS))) aa ?_;refine Pl.qd 1 19 10 [(.tmp 18)] #[28] (Pl.q1) Zo1 (Calls.mono (hC _ aa) ?_);rintro e w1 ⟨rfl,af⟩;have ab:Below w.heap.size w w1:=Zac aa af;refine⟨.int .i64 a,rfl,ab,?_⟩;refine Pl.qd 3 21 30 [(.tmp 20)] #[31] (Pl.q1) Zo2 (Calls.mono (hV _ ab) ?_);rintro e w3 ⟨rfl,ag⟩;have ac:Below w.heap.size w w3:=Zac ab ag;refine⟨.int .i64 b,rfl,ac,?_⟩;have ae:Below w.heap.size w (w3.alloc (.cells #[.int .i64 a,.int .i64 b] 40)):=Zac ac (Zaa w3 _);refine Pl.qh 4 22 (.slice (some ⟨w3.heap.size,0,none⟩) 2 2) (w3.alloc (.cells #[.int .i64 a,.int .i64 b] 40)) (Pl.q1) (Pl.bsV 4 112 2 [(0,.tmp 19),(1,.tmp 21)] _ _ (by kernel_rfl) (by decide) (Zqs w3 a b)) ae ?_;refine Pl.qd 5 23 29 [(.tmp 22)] #[112] (Pl.q1) Zly (Calls.mono (Zgv w3 a b) ?_);rintro e w5 ⟨rfl,ah⟩;have ad:Below w.heap.size w w5:=Zac ac ah;refine⟨.int .i64 (orN [a,b]),rfl,ad,?_⟩;refine Pl.q0 6 11 (.int .i64 (orN [a,b])) (Pl.q1) (Pl.qe (.tmp 23)) ad ?_;refine Pl.q8 (fun A' hA'=>?_);rw [Pl.At.ext hA' (((((((hA.put 18 _).put 20 _).put 19 _).put 21 _).put 22 _).put 23 _).put 11 _)];exact hend hA'.fn _ ad
theorem Zpx {c t:Int}(hc:c=0∨c=13)(ht:t=0∨t=13):orN [c,t]=if t=0 then c else 13:=by
 rcases hc with rfl | rfl <;> rcases ht with rfl | rfl <;> rfl
theorem Nq.appB {t:List Int}(h:Nq w0 w s t){x:Value}{u:List Int}(hs:Src Tryz.prog 1 29 x n (Zan u) w)(hl:s.len+n≤1000000) :
    ∃s' w',(∀ty,(Builtin.append_ #[29,29] ty #[s.val,x]).run Tryz.prog w=.ok s'.val w')∧Nq w0 w' s' (t ++ u)∧Frm (fun k=>s.blk=some k) w w'∧(s'.blk=s.blk∨∀k,s'.blk=some k→w.heap.size≤k):=by
  obtain⟨s',w',aa,hq,hf,_⟩:=h.app hs hl;obtain⟨s2,W2,ab,_,_,_,ac⟩:=Zax Tryz.underlying29 Zgg rfl (by decide) w s (Zan t) h.own (Zd2 t) x n (Zan u) hs hl 0;have e:=(aa 0).symm.trans ab;injection e with e1 e2;have e3:=Sl.val_inj e1;subst e3;refine⟨s',w',aa,hq,hf,ac.imp id (fun e k hk=>?_)⟩;rw [e.1] at hk;cases hk;exact Nat.le_refl _
theorem Rq.frmI {W:World}{F:Nat→Prop}{l:List Rx}(h:Rq w0 w s l)(hf:Frm F w W)(hF:∀k,F k→w0.heap.size≤k∧∃cs,w.heap[k]? = some (Obj.cells cs 3 (0,0))):Rq w0 W s l:=by
 have hB:Below w0.heap.size w0 W:=h.below.trans (hf.below h.below.size (fun k hk=>(hF k hk).1));refine⟨Own.frame h.own (fun k hk=>hf.block k (Own.lt h.own hk) (fun e=>?_)),h.new,hB,fun x hx=>(h.cols x hx).frm hf (fun k hk=>?_),h.fits⟩
 · obtain⟨_,cs,hc⟩:=hF k e;obtain⟨c,aa⟩:=Own.kind h.own hk;rw [hc] at aa;simp only [Option.some.injEq,Obj.cells.injEq] at aa;exact absurd aa.2.1 (by decide)
 · obtain⟨h1,cs,hc⟩:=hF k hk;exact⟨h1,cs,_,hc,by decide⟩
theorem ZjF (m:List Int):cmpct (srtV m)=allN m:=Zlh (Znn (ZoD m)) (fun x=>by rw [ZjP (ZoD m)];exact (ZhF m).mem_iff)
theorem ZmB {l:List Lf}(h:MayH l)(h8:l.length≤8)(lo hi:Nat):(Zay lo hi (allH l)).length≤512:=by
 have h1:=Zf5 lo hi (allH l);have h2:(allH l).length≤l.length*64:=ZbG l 0 (fun f hf=>(h.leaf f hf).slots.1);omega
theorem ZfG (h:ZaA w rs R){b:Nat}(ha:rs.a=some ⟨b,off,none⟩)(hn:0<rs.len):b<w.heap.size:=by
 obtain⟨b2,off2,aa,ab⟩:=h.rz.at' 0 hn;rw [ha] at aa;cases aa;exact World.block_lt_of_cell? _ _ ab.c0
structure ZcI (w wr:World) (z:Bz) (v:Vw) (vs:Sl) (rs:Sl) (R:List Rx) (i:Nat) (so q:Sl) (X:List Rx):Prop where
  bs:BsBlk wr w.heap.size z
  vw:ZaR wr (w.heap.size+1) v vs
  rows:ZaA wr rs R
  ot:Rq w wr so X
  oeq:rws X=(vnB (uns z.ux) v).rows ((rws R).take i)
  ap1:∀k,so.blk=some k→∀b off,rs.a=some ⟨b,off,none⟩→0<rs.len→b≠k
  ap2:∀k,q.blk=some k→∀b off,rs.a=some ⟨b,off,none⟩→0<rs.len→b≠k
  nq:Nq w wr q ((vnB (uns z.ux) v).whoc ((rws R).take i))
theorem ZcI.keep (h:ZcI w wr z v vs rs R i so q X)(hb:Below wr.heap.size wr w'):ZcI w w' z v vs rs R i so q X:=
 ⟨h.bs.keep hb,h.vw.keep hb,h.rows.keep hb,h.ot.keep hb,h.oeq,h.ap1,h.ap2,h.nq.keep hb⟩
theorem ZcI.xlen (h:ZcI w wr z v vs rs R i so q X):X.length≤R.length:=by
 have h1:=congrArg List.length h.oeq;rw [ZaX] at h1;rw [h1];refine Nat.le_trans (List.length_filterMap_le _ _) ?_;rw [List.length_take,ZaX];exact Nat.min_le_right _ _
structure ZcJ (w wr:World) (z:Bz) (v:Vw) (vs:Sl) (rs:Sl) (R:List Rx) (i:Nat) (so q:Sl) (X:List Rx) (o:Option Rw × List Int × Int) (g:Nat) (y:Rx) (p:Sl):Prop where
  i:ZcI w wr z v vs rs R i so q X
  row:LkBlk wr g y o.1.isSome p o.2.2
  col:ColR w wr y
  fit:y.r.fits
  yr:y.r=o.1.getD zeroR
  who:Gi (fun k=>¬so.blk=some k∧¬q.blk=some k) wr p o.2.1
structure ZcK (w wr:World) (z:Bz) (v:Vw) (vs:Sl) (rs:Sl) (R:List Rx) (i:Nat) (so q:Sl) (X:List Rx) (o:Option Rw × List Int × Int) (g:Nat) (y:Rx) (p:Sl):Prop where
  row:LkBlk wr g y o.1.isSome p o.2.2
  bs:BsBlk wr w.heap.size z
  vw:ZaR wr (w.heap.size+1) v vs
  rows:ZaA wr rs R
  ot:Rq w wr so X
  oeq:rws X=(vnB (uns z.ux) v).rows ((rws R).take (i+1))
  ap1:∀k,so.blk=some k→∀b off,rs.a=some ⟨b,off,none⟩→0<rs.len→b≠k
  ap2:∀k,q.blk=some k→∀b off,rs.a=some ⟨b,off,none⟩→0<rs.len→b≠k
  nq:Nq w wr q ((vnB (uns z.ux) v).whoc ((rws R).take i))
  who:Gi (fun k=>¬q.blk=some k) wr p o.2.1
theorem ZcJ.skip (h:ZcJ w wr z v vs rs R i so q X o g y p)(hi:i<(rws R).length)(ho:o=Vn.cut ((vnB (uns z.ux) v).look 400 ((rws R)[i]'hi)))(hn:o.1=none):ZcK w wr z v vs rs R i so q X o g y p:=by
 refine⟨h.row,h.i.bs,h.i.vw,h.i.rows,h.i.ot,?_,h.i.ap1,h.i.ap2,h.i.nq,h.who.wide (fun _ h=>h.2)⟩;rw [(vnB (uns z.ux) v).rows_take hi,show ((vnB (uns z.ux) v).look 400 ((rws R)[i]'hi)).1=o.1 by rw [ho];rfl,hn,h.i.oeq];simp
theorem ZcJ.some_ (h:ZcJ w wr z v vs rs R i so q X o g y p)(hi:i<(rws R).length)(ho:o=Vn.cut ((vnB (uns z.ux) v).look 400 ((rws R)[i]'hi))){r:Rw}(hn:o.1=some r)(hl:R.length≤900000) :
    ∃so' W,(∀ty,(Builtin.append_ #[49,49] ty #[so.val,.slice (some ⟨wr.heap.size,0,none⟩) 1 1]).run Tryz.prog (wr.alloc (.cells #[.float .f64 y.r.key,.bool y.r.dead,.slice y.a y.n y.c,.int .i64 y.r.wr,.int .i64 y.r.cell,.int .i64 y.r.no] 39))=.ok so'.val W)∧ZcK w W z v vs rs R i so' q (X ++ [y]) o g y p:=by
  have hx:=h.i.xlen;obtain⟨so',W,ac,hq,aa,ad⟩:=h.i.ot.oneB y h.col h.fit (by omega);(have hT:∀k,so.blk=some k→∃cs,wr.heap[k]? = some (Obj.cells cs 39 (0,0)):=fun k hk=>by obtain ⟨c,hc⟩:=Own.kind h.i.ot.own hk;exact ⟨c,hc⟩);refine⟨so',W,ac,⟨h.row.frm aa ?_,h.i.bs.frm aa ?_,h.i.vw.frm aa ?_,h.i.rows.frm aa ?_ ?_,hq,?_,?_,h.i.ap2,?_,?_⟩⟩
  · intro e;obtain⟨c,hc⟩:=hT _ e;have h2:=h.row;unfold LkBlk at h2;rw [hc] at h2;simp only [Option.some.injEq,Obj.cells.injEq] at h2;exact absurd h2.2.1 (by decide)
  · intro e;obtain⟨c,hc⟩:=hT _ e;have h2:=h.i.bs;unfold BsBlk at h2;rw [hc] at h2;simp only [Option.some.injEq,Obj.cells.injEq] at h2;exact absurd h2.2.1 (by decide)
  · intro e;obtain⟨c,hc⟩:=hT _ e;have h2:=h.i.vw;unfold ZaR at h2;rw [hc] at h2;simp only [Option.some.injEq,Obj.cells.injEq] at h2;exact absurd h2.2.1 (by decide)
  · exact fun b off ha hn e=>h.i.ap1 b e b off ha hn rfl
  · intro k hk C fr e;obtain⟨c,hc⟩:=hT k hk;rw [hc] at e;simp only [Option.some.injEq,Obj.cells.injEq] at e;exact absurd e.2.1 (by decide)
  · rw [(vnB (uns z.ux) v).rows_take hi,show ((vnB (uns z.ux) v).look 400 ((rws R)[i]'hi)).1=o.1 by rw [ho];rfl,hn,← h.i.oeq];(have e:y.r=r:=by rw [h.yr,hn];rfl);unfold rws;rw [List.map_append];simp [e]
  · intro k hk b off ha hn;rcases ad with e | e
    · exact h.i.ap1 k (by rw [← e];exact hk) b off ha hn
    · have h1:=e k hk;have:=ZfG h.i.rows ha hn;omega
  · refine⟨Own.frame h.i.nq.own (fun k hk=>aa.block k (Own.lt h.i.nq.own hk) (fun e=>?_)),h.i.nq.home,hq.below⟩;obtain⟨c,hc⟩:=hT k e;obtain⟨c2,ab⟩:=Own.kind h.i.nq.own hk;rw [hc] at ab;simp only [Option.some.injEq,Obj.cells.injEq] at ab;exact absurd ab.2.1 (by decide)
  · exact(h.who.keep (Kept.frm aa (fun k hk=>hk.1))).wide (fun _ h=>h.2)
theorem ZcK.app (h:ZcK w wr z v vs rs R i so q X o g y p)(hi:i<(rws R).length)(ho:o=Vn.cut ((vnB (uns z.ux) v).look 400 ((rws R)[i]'hi)))(hl:(rws R).length≤512) :
    ∃q' W,(∀ty,(Builtin.append_ #[29,29] ty #[q.val,p.val]).run Tryz.prog wr=.ok q'.val W)∧ZcI w W z v vs rs R (i+1) so q' X∧LkBlk W g y o.1.isSome p o.2.2:=by
  have ag:=OwnN.len h.nq.own;have ai:=(vnB (uns z.ux) v).whoc_le ((rws R).take i);(have ah:((rws R).take i).length≤512:=by rw [List.length_take];omega);have af:=h.who.len;(have ae:o.2.1.length≤400:=by rw [ho];exact List.length_take_le _ _);obtain⟨q',W,ab,ad,aa,ac⟩:=h.nq.appB (h.who.src) (by omega);have hT:∀k,q.blk=some k→w.heap.size≤k∧∃cs,wr.heap[k]? = some (Obj.cells cs 3 (0,0)):=fun k hk=>⟨h.nq.home k hk,by obtain ⟨c,hc⟩:=Own.kind h.nq.own hk;exact ⟨c,hc⟩⟩;refine⟨q',W,ab,⟨h.bs.frm aa (h.nq.not h.bs (by decide)),h.vw.frm aa (h.nq.not h.vw (by decide)),h.rows.frm aa (fun b off ha hn e=>h.ap2 b e b off ha hn rfl) (fun k hk C fr e=>?_),h.ot.frmI aa hT,h.oeq,h.ap1,fun k hk b off ha hn=>?_,?_⟩,h.row.frm aa (h.nq.not h.row (by decide))⟩
  · obtain⟨_,c,hc⟩:=hT k hk;rw [hc] at e;simp only [Option.some.injEq,Obj.cells.injEq] at e;exact absurd e.2.1 (by decide)
  · rcases ac with e | e
    · exact h.ap2 k (by rw [← e];exact hk) b off ha hn
    · have h1:=e k hk;have:=ZfG h.rows ha hn;omega
  · rw [(vnB (uns z.ux) v).whoc_take hi,show ((vnB (uns z.ux) v).look 400 ((rws R)[i]'hi)).2.1.take 400=o.2.1 by rw [ho];rfl];exact ad
theorem ZmV (w:World)(z:Bz)(h:Bin w z)(h8:z.ls.len≤8)(v:Vw)(s:Sl)(hv:Gi (fun _=>True) w s v.act)(aa:s.len≤200)(lo hi:Nat)(ao:lo<18446744073709551616)(an:hi<18446744073709551616)(hm:¬(MayBs z.b∧MayV v)) :
    Calls Tryz.prog 16 #[z.val,vwV v s,.float .f64 lo,.float .f64 hi] w fun e w'=>(∃(a b:Option Addr) (c d:Nat),e=.returned (.tuple #[.slice a 0 c,.slice b 0 d,.int .i64 1]))∧Below w.heap.size w w':=by
  obtain⟨Wa,W0,ha,hb,am,ap,hA⟩:=Zfc w z v s;have ak:=hide ha;have al:=hide hb;have ae:=hide am;have ah:=hide ap;have HA:=hide hA;have HH:=hide h;have HV:=hide hv;have ax:=hide ao;have aw:=hide an;obtain⟨cb,ac⟩:∃c:Bool,c=true↔MayBs z.b:=by
   by_cases hm:MayBs z.b
   · exact⟨true,fun _=>hm,fun _=>rfl⟩
   · exact⟨false,fun e=>(by cases e),fun e=>absurd e hm⟩
  have af:Hid (∀W,Below W0.heap.size W0 W→Calls Tryz.prog 10 #[z.val] W fun e w'=>e=.returned (.int .i64 (chk cb))∧Below W.heap.size W w'):=fun W hW=>(Zbv W z (h.keep (Zac hA hW))).mono fun e w' k=>by
   refine⟨?_,k.2⟩;rcases k.1 with ⟨k1,k2⟩ | ⟨k1,k2⟩
   · rw [k2,ac.2 k1];rfl
   · cases cb with
     | false=>exact k2
     | true=>exact absurd (ac.1 rfl) k1
  have ag:Hid (∀W,Below W0.heap.size W0 W→_):=fun W hW=>ZbJ W s v (hv.below (Zac hA hW) (Nat.le_refl _)) aa;obtain⟨av,ai⟩:∃a,a=chk cb:=⟨_,rfl⟩;obtain⟨bv,aj⟩:∃b,b=errV (decide (MayV v)):=⟨_,rfl⟩;(have ad:orN [av,bv]=errV (cb && decide (MayV v)):=by rw [ai,aj,Zes]);rw [← ai] at af;rw [← aj] at ag;clear ai aj;have hz:(cb && decide (MayV v))=false:=by
   rw [Bool.eq_false_iff];intro e;rw [Bool.and_eq_true] at e;exact hm ⟨ac.1 e.1,of_decide_eq_true e.2⟩
  (replace ad:orN [av,bv]=1:=by rw [ad,hz];rfl);clear hz hm;clear h hv ha hb am ap hA ao an ac;unfold vwV Bz.val;go_enter Tryz.func16,Tryz.ntmps16;go_wp2_with fail;rw [ak.out,al.out];clear ak al;refine Pl.q9 (ops:=Pl.find 1 ((Tryz.f16.body).getD .skip)) ?_;refine ZqK W0 w.heap.size (w.heap.size+1) z v s av bv ae.out ah.out af.out ag.out (by rfl) rfl (by rfl) (by rfl) ?_;intro u1 w1 ab;simp only [Pl.pu,List.foldl,Act.put,List.setIfInBounds_toArray,List.set_cons_zero,List.set_cons_succ];rw [ad];have aq:=hide (Zac HA.out ab);have ar:=hide (ae.out.keep ab);have au:=hide (ah.out.keep ab);clear ab af ag ae ah ad;obtain⟨sa,sn,sc⟩:=s;obtain⟨vs,vn,vt⟩:=v;(try simp only [Sl.val] at *);go_wp2_with fail;go_ret3;exact⟨⟨none,none,0,0,rfl⟩,aq.out⟩
theorem ZmU (w:World)(z:Bz)(h:Bin w z)(h8:z.ls.len≤8)(v:Vw)(s:Sl)(hv:Gi (fun _=>True) w s v.act)(hs200:s.len≤200)(lo hi:Nat)(hlo:lo<18446744073709551616)(hhi:hi<18446744073709551616)(hmb:MayBs z.b)(hmv:MayV v) :
    Calls Tryz.prog 16 #[z.val,vwV v s,.float .f64 lo,.float .f64 hi] w (Zek w (scanB (uns z.ux) (lfs z.lb) v lo hi)):=by
  obtain⟨Wa,W0,ha,hb,hbs,hvw,hA⟩:=Zfc w z v s
  have HWA:=hide ha
  have HWB:=hide hb
  have HBS:=hide hbs
  have HVW:=hide hvw
  have HA:=hide hA
  have HH:=hide h
  have HV:=hide hv
  have HLO:=hide hlo
  have HHI:=hide hhi
  obtain⟨cb,hcb⟩:∃c:Bool,c=true↔MayBs z.b:=by
   by_cases hm:MayBs z.b
   · exact⟨true,fun _=>hm,fun _=>rfl⟩
   · exact⟨false,fun e=>(by cases e),fun e=>absurd e hm⟩
  have HCK:Hid (∀W,Below W0.heap.size W0 W→Calls Tryz.prog 10 #[z.val] W fun e w'=>e=.returned (.int .i64 (chk cb))∧Below W.heap.size W w'):=fun W hW=>(Zbv W z (h.keep (Zac hA hW))).mono fun e w' k=>by
   refine⟨?_,k.2⟩
   rcases k.1 with ⟨k1,k2⟩ | ⟨k1,k2⟩
   · rw [k2,hcb.2 k1];rfl
   · cases cb with
     | false=>exact k2
     | true=>exact absurd (hcb.1 rfl) k1
  have HVC:Hid (∀W,Below W0.heap.size W0 W→_):=fun W hW=>ZbJ W s v (hv.below (Zac hA hW) (Nat.le_refl _)) hs200
  obtain⟨av,hav⟩:∃a,a=chk cb:=⟨_,rfl⟩
  obtain⟨bv,hbv⟩:∃b,b=errV (decide (MayV v)):=⟨_,rfl⟩
  have hor:orN [av,bv]=errV (cb && decide (MayV v)):=by rw [hav,hbv,Zes]
  rw [← hav] at HCK
  rw [← hbv] at HVC
  clear hav hbv
  obtain⟨o,ho⟩:∃o,o=scanB (uns z.ux) (lfs z.lb) v lo hi:=⟨_,rfl⟩
  rw [← ho]
  have HO:=hide ho
  replace hor:orN [av,bv]=0:=by rw [hor,hcb.2 hmb,decide_eq_true hmv];rfl
  have HMB:=hide hmb
  have HMV:=hide hmv
  clear ho hmb hmv
  clear h hv ha hb hbs hvw hA hlo hhi hcb
  unfold vwV Bz.val
  go_enter Tryz.func16,Tryz.ntmps16
  go_wp2_with fail
  rw [HWA.out,HWB.out]
  clear HWA HWB
  refine Pl.q9 (ops:=Pl.find 1 ((Tryz.f16.body).getD .skip)) ?_
  refine ZqK W0 w.heap.size (w.heap.size+1) z v s av bv HBS.out HVW.out HCK.out HVC.out (by rfl) rfl (by rfl) (by rfl) ?_
  intro u1 w1 hb1
  simp only [Pl.pu,List.foldl,Act.put,List.setIfInBounds_toArray,List.set_cons_zero,List.set_cons_succ]
  rw [hor]
  have HB1:=hide (Zac HA.out hb1)
  have HBS1:=hide (HBS.out.keep hb1)
  have HVW1:=hide (HVW.out.keep hb1)
  clear hb1 HCK HVC HBS HVW hor
  obtain⟨sa,sn,sc⟩:=s
  obtain⟨vs,vn,vt⟩:=v
  try simp only [Sl.val] at *
  have z5:=HBS1.out.c5
  have HRO:=hide (ZlF w1 z.ls z.lb (HH.out.keep HB1.out).ls lo hi HLO.out HHI.out)
  unfold Sl.val at HRO
  try simp only [Sl.val] at z5
  go_wp2_with fail
  refine HRO.out.mono ?_
  rintro e w3 (⟨_,hb3,⟨ra,rn,rc⟩,R,rfl,hRI,hRR⟩ | ⟨hno,_⟩)
  rotate_left
  · exact absurd HMB.out.l hno
  simp only
  have HRR:=hide hRR
  have hrl:rn=(rws R).length:=by rw [ZaX];exact hRI.rz.len.symm
  have HB3:=hide (Zac HB1.out hb3)
  have hlen8:(lfs z.lb).length≤8:=by rw [show (lfs z.lb).length=z.lb.length from List.length_map ..,HH.out.ls.len];exact h8
  have hrn5:(rws R).length≤512:=by rw [hRR];exact ZmB HMB.out.l hlen8 lo hi
  have HRN:=hide hrn5
  have hrn:rn≤512:=by rw [hrl];exact hrn5
  have HRL:=hide hrl
  have HSI:Hid (ZcI w w3 z ⟨vs,vn,vt⟩ ⟨sa,sn,sc⟩ ⟨ra,rn,rc⟩ R 0 Sl.nil Sl.nil []):=
   ⟨HBS1.out.keep hb3,HVW1.out.keep hb3,hRI,Rq.nil w w3 HB3.out,rfl,(fun k hk=>by cases hk),(fun k hk=>by cases hk),Nq.nil0 HB3.out⟩
  have HCD0:Hid ((0:Int)=(vnB (uns z.ux) ⟨vs,vn,vt⟩).code ((rws R).take 0)):=rfl
  clear hb3 hRI hRR hrl HRO z5 HBS1 HVW1 HB1 hlen8 hrn5
  go_wp2_with fail
  go_loopw [12,13,14,33] (fun ov nv cv iv wr=>∃(i:Nat) (so q:Sl) (X:List Rx) (c:Int),i≤rn∧ov=so.val∧nv=q.val∧cv=.int .i64 c∧iv=.int .i64 (i:Nat)∧Hid (c=(vnB (uns z.ux) ⟨vs,vn,vt⟩).code ((rws R).take i))∧Hid (ZcI w wr z ⟨vs,vn,vt⟩ ⟨sa,sn,sc⟩ ⟨ra,rn,rc⟩ R i so q X)) (fun _ _ _ iv _=>rn-(intOf iv).toNat)
  case atStart=>exact ⟨0,Sl.nil,Sl.nil,[],0,Nat.zero_le _,rfl,rfl,rfl,rfl,HCD0,HSI⟩
  case round =>
   clear HSI HCD0
   obtain⟨i,⟨oa,on,oc⟩,⟨qa,qn,qc⟩,X,c,hile,rfl,rfl,rfl,rfl,hcd,hsi⟩:=hrel
   simp only [Sl.val]
   rcases Nat.lt_or_ge i rn with hlt | hge
   · have i1:(i:Int)<(rn:Int):=by omega
     have hir:i<(rws R).length:=by rw [← HRL.out];exact hlt
     obtain⟨b,off,hra,hxa⟩:=hsi.out.rows.rz.at' i hlt
     replace hra:ra=some ⟨b,off,none⟩:=hra
     subst hra
     have hxm:=hsi.out.rows.rz.mem hlt
     have hxf:=hsi.out.rows.rz.fits _ hxm
     have hxc:=hsi.out.rows.flt _ hxm
     have hri:(rws R)[i]=(R.getD i Rx.zero).r:=by
      rw [← ZcF]
      simp [List.getD,hir]
     obtain⟨x,hx⟩:∃x,x=R.getD i Rx.zero:=⟨_,rfl⟩
     rw [← hx] at hxa hxf hxc hri
     obtain⟨t,ht⟩:∃t,t=Vn.cut ((vnB (uns z.ux) ⟨vs,vn,vt⟩).look 400 x.r):=⟨_,rfl⟩
     have HIR:=hide hir
     have HT:Hid (t=Vn.cut ((vnB (uns z.ux) ⟨vs,vn,vt⟩).look 400 ((rws R)[i]'HIR.out))):=by show _=_;rw [ht,hri]
     have HCN:Hid (orN [c,t.2.2]=(vnB (uns z.ux) ⟨vs,vn,vt⟩).code ((rws R).take (i+1))):=by
      show _=_
      have e:((vnB (uns z.ux) ⟨vs,vn,vt⟩).look 400 ((rws R)[i]'HIR.out)).2.2=t.2.2:=by rw [HT.out];rfl
      rw [(vnB (uns z.ux) ⟨vs,vn,vt⟩).code_take HIR.out,e,← hcd.out]
      refine Zpx ?_ ?_
      · rw [hcd.out];exact (vnB (uns z.ux) ⟨vs,vn,vt⟩).code_two _
      · rw [ht];exact (vnB (uns z.ux) ⟨vs,vn,vt⟩).look_code 400 x.r
     have HLD:=hide (ZbD b (off+i*6) x wr hxa)
     obtain⟨W1,hst1,hr1,hb1⟩:=Zl7 wr x
     have hsi1:=hsi.out.keep hb1
     have HSI1:=hide hsi1
     have HST1:=hide hst1
     have k4:=hsi1.bs.c4
     have g0:=hsi1.vw.c0
     have g1:=hsi1.vw.c1
     have g2:=hsi1.vw.c2
     have r0:=hr1.c0
     have r1:=hr1.c1
     have r2:=hr1.c2
     have r3:=hr1.c3
     have r4:=hr1.c4
     have r5:=hr1.c5
     have HSE:=hide (ZhL w W1 hsi1.nq.below z HH.out HMB.out.u ⟨vs,vn,vt⟩ ⟨sa,sn,sc⟩ (HV.out.below hsi1.nq.below (Nat.le_refl _)) (by show sn≤200;omega) HMV.out x ((hxc.keep hb1).colR w) hxf)
     rw [← ht] at HSE
     unfold vwV Rx.val Rw.val at HSE
     unfold Rx.val Rw.val at HLD
     try simp only [Sl.val] at HSE g0 g1 g2
     clear hir hxa hxm hxf hxc hx ht hri hst1 hr1 hb1 hsi1 hsi hcd
     go_wp2_with (first | refine Zah _ rfl 39 (.tmp 35) rfl (.pointer (some ⟨b,off+i*6,none⟩)) (.agg #[.float .f64 x.r.key,.bool x.r.dead,.slice x.a x.n x.c,.int .i64 x.r.wr,.int .i64 x.r.cell,.int .i64 x.r.no]) rfl HLD.out ?_ | refine Zad _ rfl rfl 39 (.tmp 16) (.tmp 36) rfl (.pointer (some ⟨wr.heap.size,0,none⟩)) (.agg #[.float .f64 x.r.key,.bool x.r.dead,.slice x.a x.n x.c,.int .i64 x.r.wr,.int .i64 x.r.cell,.int .i64 x.r.no]) rfl rfl W1 HST1.out ?_)
     refine HSE.out.mono ?_
     rintro e w2 ⟨hb2,y,⟨pa,pn,pc⟩,rfl,hyr,hyc,hyf,hyq⟩
     obtain⟨W3,hst3,hr3,hb3⟩:=Zoy w2 y t.1.isSome ⟨pa,pn,pc⟩ t.2.2
     have hb23:=Zac hb2 hb3
     have HST3:=hide hst3
     have HSJ:Hid (ZcJ w W3 z ⟨vs,vn,vt⟩ ⟨sa,sn,sc⟩ ⟨some ⟨b,off,none⟩,rn,rc⟩ R i ⟨oa,on,oc⟩ ⟨qa,qn,qc⟩ X t w2.heap.size y ⟨pa,pn,pc⟩):=
      ⟨HSI1.out.keep hb23,hr3,hyc.keep hb3,hyf,hyr,(hyq.below hb3 (Nat.le_refl _)).wide (fun k hk=>⟨fun e=>by have:=Own.lt HSI1.out.ot.own e;omega,fun e=>by have:=Own.lt HSI1.out.nq.own e;omega⟩)⟩
     clear hb2 hb3 hb23 hst3 hr3 hyr hyc hyf hyq HSE HSI1 k4 g0 g1 g2 r0 r1 r2 r3 r4 r5 HST1 HLD
     obtain⟨⟨tr,tw,tc⟩,htt⟩:∃t',t'=t:=⟨_,rfl⟩
     subst htt
     unfold lkV
     simp only [lkV] at HST3
     simp only at HCN ⊢
     cases tr with
     | none =>
      simp only [Option.isSome_none] at HST3 ⊢
      have y6:W3.cell? ⟨w2.heap.size,6,none⟩=some (.bool false):=HSJ.out.row.c6
      have hsk:=HSJ.out.skip HIR.out HT.out rfl
      have y7:W3.cell? ⟨w2.heap.size,7,none⟩=some (.slice pa pn pc):=hsk.row.c7
      obtain⟨⟨q3a,q3n,q3c⟩,W5,hrun5,hzi,hlk5⟩:=hsk.app HIR.out HT.out HRN.out
      have y8:W5.cell? ⟨w2.heap.size,8,none⟩=some (.int .i64 tc):=hlk5.c8
      have HRUN5:=hide hrun5
      have HZI:=hide hzi
      simp only [Sl.val] at HRUN5
      clear hrun5 hzi hsk hlk5 HSJ
      go_wp2_with (first | refine Zad _ rfl rfl 75 (.tmp 17) (.tmp 41) rfl (.pointer (some ⟨w2.heap.size,0,none⟩)) (.agg #[.float .f64 y.r.key,.bool y.r.dead,.slice y.a y.n y.c,.int .i64 y.r.wr,.int .i64 y.r.cell,.int .i64 y.r.no,.bool false,.slice pa pn pc,.int .i64 tc]) rfl rfl W3 HST3.out ?_ | refine Zc2 _ rfl 29 (.tmp 49) (.tmp 51) rfl (.slice qa qn qc) (.slice pa pn pc) rfl rfl _ W5 HRUN5.out ?_)
      refine(Zgv W5 c tc).mono ?_
      rintro e w6 ⟨rfl,hb6⟩
      have HZ6:=hide (HZI.out.keep hb6)
      clear hb6 HZI
      go_wp2_with fail
      go_roundw
      case rel=>exact ⟨i+1,⟨oa,on,oc⟩,⟨q3a,q3n,q3c⟩,_,_,by omega,rfl,rfl,rfl,by go_num,HCN,HZ6⟩
      case measure=>simp only [intOf];omega
     | some r =>
      simp only [Option.isSome_some] at HST3 ⊢
      have y6:W3.cell? ⟨w2.heap.size,6,none⟩=some (.bool true):=HSJ.out.row.c6
      obtain⟨⟨o2a,o2n,o2c⟩,W4,hrun,hsk⟩:=HSJ.out.some_ HIR.out HT.out rfl (by have:=HRL.out;rw [ZaX] at this;omega)
      have y0:=HSJ.out.row.c0
      have y1:=HSJ.out.row.c1
      have y2:=HSJ.out.row.c2
      have y3:=HSJ.out.row.c3
      have y4:=HSJ.out.row.c4
      have y5:=HSJ.out.row.c5
      have HRUN:=hide hrun
      simp only [Sl.val] at HRUN
      clear hrun
      have y7:W4.cell? ⟨w2.heap.size,7,none⟩=some (.slice pa pn pc):=hsk.row.c7
      obtain⟨⟨q3a,q3n,q3c⟩,W5,hrun5,hzi,hlk5⟩:=hsk.app HIR.out HT.out HRN.out
      have y8:W5.cell? ⟨w2.heap.size,8,none⟩=some (.int .i64 tc):=hlk5.c8
      have HRUN5:=hide hrun5
      have HZI:=hide hzi
      simp only [Sl.val] at HRUN5
      clear hrun5 hzi hsk hlk5 HSJ
      go_wp2_with (first | refine Zad _ rfl rfl 75 (.tmp 17) (.tmp 41) rfl (.pointer (some ⟨w2.heap.size,0,none⟩)) (.agg #[.float .f64 y.r.key,.bool y.r.dead,.slice y.a y.n y.c,.int .i64 y.r.wr,.int .i64 y.r.cell,.int .i64 y.r.no,.bool true,.slice pa pn pc,.int .i64 tc]) rfl rfl W3 HST3.out ?_ | refine Zc2 _ rfl 29 (.tmp 49) (.tmp 51) rfl (.slice qa qn qc) (.slice pa pn pc) rfl rfl _ W5 HRUN5.out ?_ | refine Zc2 _ rfl 49 (.tmp 44) (.tmp 47) rfl (.slice oa on oc) (.slice (some ⟨W3.heap.size,0,none⟩) 1 1) rfl rfl _ W4 HRUN.out ?_)
      refine(Zgv W5 c tc).mono ?_
      rintro e w6 ⟨rfl,hb6⟩
      have HZ6:=hide (HZI.out.keep hb6)
      clear hb6 HZI
      go_wp2_with fail
      go_roundw
      case rel=>exact ⟨i+1,⟨o2a,o2n,o2c⟩,⟨q3a,q3n,q3c⟩,_,_,by omega,rfl,rfl,rfl,by go_num,HCN,HZ6⟩
      case measure=>simp only [intOf];omega
   · have i1:¬(i:Int)<(rn:Int):=by omega
     have HTK:Hid ((rws R).take i=rws R):=List.take_of_length_le (by rw [← HRL.out];exact hge)
     have HOO:Hid (o=(vnB (uns z.ux) ⟨vs,vn,vt⟩).scan (rws R)):=by show _=_;rw [HO.out,HRR.out];rfl
     have HCV:Hid (c=(vnB (uns z.ux) ⟨vs,vn,vt⟩).code (rws R)):=by show _=_;rw [hcd.out,HTK.out]
     have HWC:Hid (allN ((vnB (uns z.ux) ⟨vs,vn,vt⟩).whoc (rws R))=allN ((vnB (uns z.ux) ⟨vs,vn,vt⟩).whos (rws R))):=Zoq (((Zdi _).1 HMB.out.u).hi) _ _
     have hnq:=hsi.out.nq
     rw [HTK.out] at hnq
     have hqn:qn≤1000000:=by
      have h1:((vnB (uns z.ux) ⟨vs,vn,vt⟩).whoc (rws R)).length=qn:=OwnN.len hnq.own
      have h2:=(vnB (uns z.ux) ⟨vs,vn,vt⟩).whoc_le (rws R)
      have h3:=HRN.out
      omega
     have HXR:Hid (rws X=(vnB (uns z.ux) ⟨vs,vn,vt⟩).rows (rws R)):=by show _=_;rw [hsi.out.oeq,HTK.out]
     have HRQ:=hide hsi.out.ot
     have HTY:Hid (∀k,(⟨qa,qn,qc⟩:Sl).blk=some k→w.heap.size≤k∧∃cs,wr.heap[k]? = some (Obj.cells cs 3 (0,0))):=fun k hk=>⟨hnq.home k hk,by obtain ⟨c2,hc2⟩:=Own.kind hnq.own hk;exact ⟨c2,hc2⟩⟩
     have HSO:=hide (ZmI wr ⟨qa,qn,qc⟩ _ hnq.hd hqn)
     unfold Sl.val at HSO
     clear hsi hcd hnq
     go_wp2_with fail
     refine HSO.out.mono ?_
     rintro e w4 ⟨rfl,hhd,hfr4⟩
     have HF4:=hide hfr4
     have HCO:=hide (ZgG w4 ⟨qa,qn,qc⟩ _ hhd hqn)
     unfold Sl.val at HCO
     clear hhd hfr4 HSO
     go_wp2_with fail
     refine HCO.out.mono ?_
     rintro e w5 ⟨⟨ta,tn,tc⟩,rfl,hln,hhd5,hfr5⟩
     have hfr:=HF4.out.trans hfr5 (fun _ _ h=>h)
     have HRZ:=hide (HRQ.out.frmI hfr HTY.out).rzs
     have HBW:=hide hhd5.below
     have hgi:=(hhd5.gi (by show tn≤_;have h3:tn≤qn:=hln;omega)).wide (E:=fun _=>True) (fun _ _=>trivial)
     rw [ZjF,HWC.out] at hgi
     have HGQ:=hide hgi
     simp only
     clear hgi hhd5 hfr5 hfr hln HCO HF4 HTY HRQ
     rcases (vnB (uns z.ux) ⟨vs,vn,vt⟩).code_two (rws R) with h0 | h0
     · have HS:Hid (Zek w o (.returned (.tuple #[.slice oa on oc,.slice ta tn tc,.int .i64 0])) w5):=by
        refine⟨HBW.out,⟨oa,on,oc⟩,⟨ta,tn,tc⟩,X,?_,HRZ.out,?_,?_⟩
        · rw [HOO.out];show _=Ending.returned (.tuple #[_,_,.int .i64 ((vnB (uns z.ux) ⟨vs,vn,vt⟩).code (rws R))]);rw [h0];rfl
        · rw [HOO.out,HXR.out];show _=if (vnB (uns z.ux) ⟨vs,vn,vt⟩).code (rws R)=0 then _ else _;rw [if_pos h0]
        · rw [HOO.out];exact HGQ.out
       obtain rfl:c=0:=by rw [HCV.out,h0]
       clear HCV h0
       go_wp2_with fail
       go_ret3
       exact HS.out
     · have HS:Hid (Zek w o (.returned (.tuple #[.slice none 0 0,.slice ta tn tc,.int .i64 13])) w5):=by
        refine⟨HBW.out,Sl.nil,⟨ta,tn,tc⟩,[],?_,RzS.none _,?_,?_⟩
        · rw [HOO.out];show _=Ending.returned (.tuple #[_,_,.int .i64 ((vnB (uns z.ux) ⟨vs,vn,vt⟩).code (rws R))]);rw [h0];rfl
        · rw [HOO.out];show _=if (vnB (uns z.ux) ⟨vs,vn,vt⟩).code (rws R)=0 then _ else _;rw [if_neg (by rw [h0];decide)];rfl
        · rw [HOO.out];exact HGQ.out
       obtain rfl:c=13:=by rw [HCV.out,h0]
       clear HCV h0
       go_wp2_with fail
       go_ret3
       exact HS.out
theorem ZmX:ZfP True:=
 ⟨Zbv,fun w0 w z v s key hw h hv hs hk hb hm=>ZmS w0 w hw z h v s hv hs key hk hb hm,
  fun w z v s key h hv hs hk hm=>ZmT w w (Below.refl _ _) z h v s hv hs key hk hm,
  fun _ w z v s lo hi h h8 hv hs hl hh hb hm=>ZmU w z h h8 v s hv hs lo hi hl hh hb hm,
  fun _ w z v s lo hi h h8 hv hs hl hh hm=>ZmV w z h h8 v s hv hs lo hi hl hh hm⟩
end Go.Proofs.YtiecfcjlhldhdaaGreat
