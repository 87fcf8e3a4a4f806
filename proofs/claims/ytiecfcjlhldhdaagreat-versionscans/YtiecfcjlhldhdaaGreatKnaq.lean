/-
  Lemmas.
-/
import Derived.Test.YtiecfcjlhldhdaaGreatKnan
import Derived.Test.YtiecfcjlhldhdaaGreatKnap
import Derived.Test.YtiecfcjlhldhdaaGreatKnam
namespace Go.Proofs.YtiecfcjlhldhdaaGreat
open Go.RowKit Go.Proofs.Tryz
set_option linter.unusedVariables false
set_option linter.unusedSimpArgs false
set_option maxRecDepth 100000
set_option maxHeartbeats 4000000
variable {w wr:World}{rs vs so q p:Sl}{R X:List Rx}{z:Bz}{v:Vw}{i g:Nat}{o:Option Rw × List Int × Int}{y:Rx}
theorem Zrw (w:World)(g k:Nat)(z:Bz)(v:Vw)(s:Sl)(a b:Int)(hg:BsBlk w g z)(hk:ZaG w k v s)(hC:∀W,Bl w W→Calls prog 10 #[z.val] W fun e w'=>e=.returned (.int .i64 a)∧Bl W w')(hV:∀W,Bl w W→Calls prog 30 #[vwV v s] W fun e w'=>e=.returned (.int .i64 b)∧Bl W w')
    {Q:Exit→Act→World→Prop}{A:Act}(aj:A.tmps.size=69)(ai:A.defers=[])(s4:A.tmps.getD 4 undef=.pointer (some ⟨g,0,none⟩))(s5:A.tmps.getD 5 undef=.pointer (some ⟨k,0,none⟩))
    (hend:∀(u:Nat→Value) w',Bl w w'→Q .normal ((Pl.pu A u [18,20,19,21,22,23]).put (some 11) (.int .i64 (orN [a,b]))) w') :
    Pl.rg prog 1 f16 Q A w:=by
  have aa:Bl w w.drew:=Zaa w;have hA:=Pl.At.same (v:=.pointer (some ⟨k,0,none⟩)) (d:=5) (Pl.At.same (v:=.pointer (some ⟨g,0,none⟩)) (d:=4) (Pl.At.here aj ai) s4) s5;refine Pl.qb (S:=fun w'=>Bl w w') hA aa ?_;rw [show (Pl.fd 1 f16).size=7 by kernel_rfl];refine Pl.q0 0 18 (z.val) (Pl.q1) (Pl.q4 28 (.tmp 4) (fun w' hS=>Zg4 (hg.keep hS))) aa ?_;refine Pl.q0 2 20 (vwV v s) (Pl.q1) (Pl.q4 31 (.tmp 5) (fun w' hS=>ZpD (hk.keep hS))) aa ?_;refine Pl.qe 1 19 10 [(.tmp 18)] #[28] (Pl.q1) ZoR (Calls.mono (hC _ aa) ?_);rintro e w1 ⟨rfl,af⟩;have ab:Bl w w1:=Zac aa af;refine⟨.int .i64 a,rfl,ab,?_⟩;refine Pl.qe 3 21 30 [(.tmp 20)] #[31] (Pl.q1) ZoS (Calls.mono (hV _ ab) ?_);rintro e w3 ⟨rfl,ag⟩;have ac:Bl w w3:=Zac ab ag;refine⟨.int .i64 b,rfl,ac,?_⟩;have ae:Bl w (w3.alloc (.cells #[.int .i64 a,.int .i64 b] 40)):=Zac ac (Zab w3 _);refine Pl.qf 4 22 (.slice (some ⟨w3.heap.size,0,none⟩) 2 2) (w3.alloc (.cells #[.int .i64 a,.int .i64 b] 40)) (Pl.q1) (Pl.bsV 4 112 2 [(0,.tmp 19),(1,.tmp 21)] _ _ (by kernel_rfl) (by decide) (ZqU w3 a b)) ae ?_;refine Pl.qe 5 23 29 [(.tmp 22)] #[112] (Pl.q1) ZlK (Calls.mono (ZgD w3 a b) ?_);rintro e w5 ⟨rfl,ah⟩;have ad:Bl w w5:=Zac ac ah;refine⟨.int .i64 (orN [a,b]),rfl,ad,?_⟩;refine Pl.q0 6 11 (.int .i64 (orN [a,b])) (Pl.q1) (Pl.qd (.tmp 23)) ad ?_;refine Pl.q8 (fun A' hA'=>?_);exact Pl.en hA' hA [18,20,19,21,22,23,11] (hend hA'.fn _ ad)
theorem ZpS {c t:Int}(hc:c=0∨c=13)(ht:t=0∨t=13):orN [c,t]=if t=0 then c else 13:=by
 rcases hc with rfl | rfl <;> rcases ht with rfl | rfl <;> rfl
theorem Nq.appB {w0:World}{s:Sl}{t:List Int}(h:Nq w0 w s t){x:Value}{n:Nat}{u:List Int}(hs:Src prog 1 29 x n (Zan u) w)(hl:s.len+n≤1000000) :
    ∃s' w',(∀ty,(Builtin.append_ #[29,29] ty #[s.val,x]).run prog w=.ok s'.val w')∧Nq w0 w' s' (t ++ u)∧Frm (fun k=>s.blk=some k) w w'∧(s'.blk=s.blk∨∀k,s'.blk=some k→w.heap.size≤k):=by
  obtain⟨s',w',aa,hq,hf,_⟩:=h.app hs hl;obtain⟨s2,W2,ab,_,_,_,ac⟩:=Zaz underlying29 ZeO rfl (by decide) w s (Zan t) h.own (Zd8 t) x n (Zan u) hs hl 0;have e:=(aa 0).symm.trans ab;injection e with e1 e2;have e3:=Sl.val_inj e1;subst e3;refine⟨s',w',aa,hq,hf,ac.imp id (fun e k hk=>?_)⟩;rw [e.1] at hk;cases hk;exact Nat.le_refl _
theorem Rq.frmI {w0 W:World}{F:Nat→Prop}{s:Sl}{l:List Rx}(h:Rq w0 w s l)(hf:Frm F w W)(hF:∀k,F k→w0.heap.size≤k∧∃cs,w.heap[k]? = some (Obj.cells cs 3 (0,0))):Rq w0 W s l:=by
 have hB:Bl w0 W:=h.below.trans (hf.below h.below.size (fun k hk=>(hF k hk).1));refine⟨Own.frame h.own (fun k hk=>hf.block k (Own.lt h.own hk) (fun e=>?_)),h.new,hB,fun x hx=>(h.cols x hx).frm hf (fun k hk=>?_),h.fits⟩
 · obtain⟨_,cs,hc⟩:=hF k e;obtain⟨c,aa⟩:=Own.kind h.own hk;rw [hc] at aa;simp only [Option.some.injEq,Obj.cells.injEq] at aa;exact absurd aa.2.1 (by decide)
 · obtain⟨h1,cs,hc⟩:=hF k hk;exact⟨h1,cs,_,hc,by decide⟩
theorem ZjV (m:List Int):cmpct (srtV m)=allN m:=Zl1 (Zn8 (Zpg m)) (fun x=>by rw [Zkf (Zpg m)];exact (ZhX m).mem_iff)
theorem ZmW {l:List Lf}(h:MayH l)(h8:l.length≤8)(lo hi:Nat):(Zax lo hi (allH l)).length≤512:=by
 have h1:=ZdK lo hi (allH l);have h2:(allH l).length≤l.length*64:=ZbI l 0 (fun f hf=>(h.leaf f hf).slots.1);omega
theorem ZfW (h:Za9 w rs R){b off:Nat}(ha:rs.a=some ⟨b,off,none⟩)(hn:0<rs.len):b<w.heap.size:=by
 obtain⟨b2,off2,aa,ab⟩:=h.rz.at' 0 hn;rw [ha] at aa;cases aa;exact World.block_lt_of_cell? _ _ ab.c0
structure ZcI (w wr:World) (z:Bz) (v:Vw) (vs:Sl) (rs:Sl) (R:List Rx) (i:Nat) (so q:Sl) (X:List Rx):Prop where
  bs:BsBlk wr w.heap.size z
  vw:ZaG wr (w.heap.size+1) v vs
  rows:Za9 wr rs R
  ot:Rq w wr so X
  oeq:rws X=(vnB (uns z.ux) v).rows ((rws R).take i)
  ap1:∀k,so.blk=some k→∀b off,rs.a=some ⟨b,off,none⟩→0<rs.len→b≠k
  ap2:∀k,q.blk=some k→∀b off,rs.a=some ⟨b,off,none⟩→0<rs.len→b≠k
  nq:Nq w wr q ((vnB (uns z.ux) v).whoc ((rws R).take i))
theorem ZcI.keep {w':World}(h:ZcI w wr z v vs rs R i so q X)(hb:Bl wr w'):ZcI w w' z v vs rs R i so q X:=
 ⟨h.bs.keep hb,h.vw.keep hb,h.rows.keep hb,h.ot.keep hb,h.oeq,h.ap1,h.ap2,h.nq.keep hb⟩
theorem ZcI.xlen (h:ZcI w wr z v vs rs R i so q X):X.length≤R.length:=by
 have h1:=congrArg List.length h.oeq;rw [ZaR] at h1;rw [h1];refine Nat.le_trans (List.length_filterMap_le _ _) ?_;rw [List.length_take,ZaR];exact Nat.min_le_right _ _
structure ZcJ (w wr:World) (z:Bz) (v:Vw) (vs:Sl) (rs:Sl) (R:List Rx) (i:Nat) (so q:Sl) (X:List Rx) (o:Option Rw × List Int × Int) (g:Nat) (y:Rx) (p:Sl):Prop where
  i:ZcI w wr z v vs rs R i so q X
  row:LkBlk wr g y o.1.isSome p o.2.2
  col:ColR w wr y
  fit:y.r.fits
  yr:y.r=o.1.getD zeroR
  who:Gi (fun k=>¬so.blk=some k∧¬q.blk=some k) wr p o.2.1
structure ZcK (w wr:World) (z:Bz) (v:Vw) (vs:Sl) (rs:Sl) (R:List Rx) (i:Nat) (so q:Sl) (X:List Rx) (o:Option Rw × List Int × Int) (g:Nat) (y:Rx) (p:Sl):Prop where
  row:LkBlk wr g y o.1.isSome p o.2.2
  bs:BsBlk wr w.heap.size z
  vw:ZaG wr (w.heap.size+1) v vs
  rows:Za9 wr rs R
  ot:Rq w wr so X
  oeq:rws X=(vnB (uns z.ux) v).rows ((rws R).take (i+1))
  ap1:∀k,so.blk=some k→∀b off,rs.a=some ⟨b,off,none⟩→0<rs.len→b≠k
  ap2:∀k,q.blk=some k→∀b off,rs.a=some ⟨b,off,none⟩→0<rs.len→b≠k
  nq:Nq w wr q ((vnB (uns z.ux) v).whoc ((rws R).take i))
  who:Gi (fun k=>¬q.blk=some k) wr p o.2.1
theorem ZcJ.skip (h:ZcJ w wr z v vs rs R i so q X o g y p)(hi:i<(rws R).length)(ho:o=Vn.cut ((vnB (uns z.ux) v).look 400 ((rws R)[i]'hi)))(hn:o.1=none):ZcK w wr z v vs rs R i so q X o g y p:=by
 refine⟨h.row,h.i.bs,h.i.vw,h.i.rows,h.i.ot,?_,h.i.ap1,h.i.ap2,h.i.nq,h.who.wide (fun _ h=>h.2)⟩;rw [(vnB (uns z.ux) v).rows_take hi,show ((vnB (uns z.ux) v).look 400 ((rws R)[i]'hi)).1=o.1 by rw [ho];rfl,hn,h.i.oeq];simp
theorem ZcJ.some_ (h:ZcJ w wr z v vs rs R i so q X o g y p)(hi:i<(rws R).length)(ho:o=Vn.cut ((vnB (uns z.ux) v).look 400 ((rws R)[i]'hi))){r:Rw}(hn:o.1=some r)(hl:R.length≤900000) :
    ∃so' W,(∀ty,(Builtin.append_ #[49,49] ty #[so.val,.slice (some ⟨wr.heap.size,0,none⟩) 1 1]).run prog (wr.alloc (.cells #[.float .f64 y.r.key,.bool y.r.dead,.slice y.a y.n y.c,.int .i64 y.r.wr,.int .i64 y.r.cell,.int .i64 y.r.no] 39))=.ok so'.val W)∧ZcK w W z v vs rs R i so' q (X ++ [y]) o g y p:=by
  have hx:=h.i.xlen;obtain⟨so',W,ac,hq,aa,ad⟩:=h.i.ot.oneB y h.col h.fit (by omega);(have hT:∀k,so.blk=some k→∃cs,wr.heap[k]? = some (Obj.cells cs 39 (0,0)):=fun k hk=>by obtain ⟨c,hc⟩:=Own.kind h.i.ot.own hk;exact ⟨c,hc⟩);refine⟨so',W,ac,⟨h.row.frm aa ?_,h.i.bs.frm aa ?_,h.i.vw.frm aa ?_,h.i.rows.frm aa ?_ ?_,hq,?_,?_,h.i.ap2,?_,?_⟩⟩
  · intro e;obtain⟨c,hc⟩:=hT _ e;have h2:=h.row;unfold LkBlk at h2;rw [hc] at h2;simp only [Option.some.injEq,Obj.cells.injEq] at h2;exact absurd h2.2.1 (by decide)
  · intro e;obtain⟨c,hc⟩:=hT _ e;have h2:=h.i.bs;unfold BsBlk at h2;rw [hc] at h2;simp only [Option.some.injEq,Obj.cells.injEq] at h2;exact absurd h2.2.1 (by decide)
  · intro e;obtain⟨c,hc⟩:=hT _ e;have h2:=h.i.vw;unfold ZaG at h2;rw [hc] at h2;simp only [Option.some.injEq,Obj.cells.injEq] at h2;exact absurd h2.2.1 (by decide)
  · exact fun b off ha hn e=>h.i.ap1 b e b off ha hn rfl
  · intro k hk C fr e;obtain⟨c,hc⟩:=hT k hk;rw [hc] at e;simp only [Option.some.injEq,Obj.cells.injEq] at e;exact absurd e.2.1 (by decide)
  · rw [(vnB (uns z.ux) v).rows_take hi,show ((vnB (uns z.ux) v).look 400 ((rws R)[i]'hi)).1=o.1 by rw [ho];rfl,hn,← h.i.oeq];(have e:y.r=r:=by rw [h.yr,hn];rfl);unfold rws;rw [List.map_append];simp [e]
  · intro k hk b off ha hn;rcases ad with e | e
    · exact h.i.ap1 k (by rw [← e];exact hk) b off ha hn
    · have h1:=e k hk;have:=ZfW h.i.rows ha hn;omega
  · refine⟨Own.frame h.i.nq.own (fun k hk=>aa.block k (Own.lt h.i.nq.own hk) (fun e=>?_)),h.i.nq.home,hq.below⟩;obtain⟨c,hc⟩:=hT k e;obtain⟨c2,ab⟩:=Own.kind h.i.nq.own hk;rw [hc] at ab;simp only [Option.some.injEq,Obj.cells.injEq] at ab;exact absurd ab.2.1 (by decide)
  · exact(h.who.keep (Kept.frm aa (fun k hk=>hk.1))).wide (fun _ h=>h.2)
theorem ZcK.app (h:ZcK w wr z v vs rs R i so q X o g y p)(hi:i<(rws R).length)(ho:o=Vn.cut ((vnB (uns z.ux) v).look 400 ((rws R)[i]'hi)))(hl:(rws R).length≤512) :
    ∃q' W,(∀ty,(Builtin.append_ #[29,29] ty #[q.val,p.val]).run prog wr=.ok q'.val W)∧ZcI w W z v vs rs R (i+1) so q' X∧LkBlk W g y o.1.isSome p o.2.2:=by
  have ag:=OwnN.len h.nq.own;have ai:=(vnB (uns z.ux) v).whoc_le ((rws R).take i);(have ah:((rws R).take i).length≤512:=by rw [List.length_take];omega);have af:=h.who.len;(have ae:o.2.1.length≤400:=by rw [ho];exact List.length_take_le _ _);obtain⟨q',W,ab,ad,aa,ac⟩:=h.nq.appB (h.who.src) (by omega);have hT:∀k,q.blk=some k→w.heap.size≤k∧∃cs,wr.heap[k]? = some (Obj.cells cs 3 (0,0)):=fun k hk=>⟨h.nq.home k hk,by obtain ⟨c,hc⟩:=Own.kind h.nq.own hk;exact ⟨c,hc⟩⟩;refine⟨q',W,ab,⟨h.bs.frm aa (h.nq.not h.bs (by decide)),h.vw.frm aa (h.nq.not h.vw (by decide)),h.rows.frm aa (fun b off ha hn e=>h.ap2 b e b off ha hn rfl) (fun k hk C fr e=>?_),h.ot.frmI aa hT,h.oeq,h.ap1,fun k hk b off ha hn=>?_,?_⟩,h.row.frm aa (h.nq.not h.row (by decide))⟩
  · obtain⟨_,c,hc⟩:=hT k hk;rw [hc] at e;simp only [Option.some.injEq,Obj.cells.injEq] at e;exact absurd e.2.1 (by decide)
  · rcases ac with e | e
    · exact h.ap2 k (by rw [← e];exact hk) b off ha hn
    · have h1:=e k hk;have:=ZfW h.rows ha hn;omega
  · rw [(vnB (uns z.ux) v).whoc_take hi,show ((vnB (uns z.ux) v).look 400 ((rws R)[i]'hi)).2.1.take 400=o.2.1 by rw [ho];rfl];exact ad
theorem Znq (w:World)(z:Bz)(h:Bin w z)(h8:z.ls.len≤8)(v:Vw)(s:Sl)(hv:Gi (fun _=>True) w s v.act)(aa:s.len≤200)(lo hi:Nat)(ao:lo<18446744073709551616)(an:hi<18446744073709551616)(hm:¬(MayBs z.b∧MayV v)) :
    Calls prog 16 #[z.val,vwV v s,.float .f64 lo,.float .f64 hi] w fun e w'=>(∃(a b:Option Addr) (c d:Nat),e=.returned (.tuple #[.slice a 0 c,.slice b 0 d,.int .i64 1]))∧Bl w w':=by
  obtain⟨Wa,W0,ha,hb,am,ap,hA⟩:=Zfq w z v s;have ak:=Zh ha;have al:=Zh hb;have ae:=Zh am;have ah:=Zh ap;have HA:=Zh hA;have HH:=Zh h;have HV:=Zh hv;have ax:=Zh ao;have aw:=Zh an;obtain⟨cb,ac⟩:∃c:Bool,c=true↔MayBs z.b:=by
   by_cases hm:MayBs z.b
   · exact⟨true,fun _=>hm,fun _=>rfl⟩
   · exact⟨false,fun e=>(by cases e),fun e=>absurd e hm⟩
  have af:Hi (∀W,Bl W0 W→Calls prog 10 #[z.val] W fun e w'=>e=.returned (.int .i64 (chk cb))∧Bl W w'):=fun W hW=>(Zb0 W z (h.keep (Zac hA hW))).mono fun e w' k=>by
   refine⟨?_,k.2⟩;rcases k.1 with ⟨k1,k2⟩ | ⟨k1,k2⟩
   · rw [k2,ac.2 k1];rfl
   · cases cb with
     | false=>exact k2
     | true=>exact absurd (ac.1 rfl) k1
  have ag:Hi (∀W,Bl W0 W→Calls prog 30 #[vwV v s] W fun e w'=>e=.returned (.int .i64 (errV (decide (MayV v))))∧Bl W w'):=fun W hW=>ZbL W s v (hv.below (Zac hA hW) (Nat.le_refl _)) aa;obtain⟨av,ai⟩:∃a,a=chk cb:=⟨_,rfl⟩;obtain⟨bv,aj⟩:∃b,b=errV (decide (MayV v)):=⟨_,rfl⟩;(have ad:orN [av,bv]=errV (cb && decide (MayV v)):=by rw [ai,aj,Ze0]);rw [← ai] at af;rw [← aj] at ag;clear ai aj;have hz:(cb && decide (MayV v))=false:=by
   rw [Bool.eq_false_iff];intro e;rw [Bool.and_eq_true] at e;exact hm ⟨ac.1 e.1,of_decide_eq_true e.2⟩
  (replace ad:orN [av,bv]=1:=by rw [ad,hz];rfl);clear hz hm;clear h hv ha hb am ap hA ao an ac;unfold vwV Bz.val;go_enter func16,ntmps16;go_wp2_with fail;rw [ak.o,al.o];clear ak al;refine Pl.q9 (ops:=Pl.fd 1 f16) ?_;refine Zrw W0 w.heap.size (w.heap.size+1) z v s av bv ae.o ah.o af.o ag.o (by rfl) rfl (by rfl) (by rfl) ?_;intro u1 w1 ab;simp only [Pl.pu,List.foldl,Act.put,List.setIfInBounds_toArray,List.set];rw [ad];have aq:=Zh (Zac HA.o ab);have ar:=Zh (ae.o.keep ab);have au:=Zh (ah.o.keep ab);clear ab af ag ae ah ad;obtain⟨sa,sn,sc⟩:=s;obtain⟨vs,vn,vt⟩:=v;(try simp only [Sl.val] at *);go_wp2;go_ret3;exact⟨⟨none,none,0,0,rfl⟩,aq.o⟩
theorem Znp (w:World)(z:Bz)(h:Bin w z)(h8:z.ls.len≤8)(v:Vw)(s:Sl)(hv:Gi (fun _=>True) w s v.act)(hs200:s.len≤200)(lo hi:Nat)(hlo:lo<18446744073709551616)(hhi:hi<18446744073709551616)(hmb:MayBs z.b)(hmv:MayV v) :
    Calls prog 16 #[z.val,vwV v s,.float .f64 lo,.float .f64 hi] w (Zb2 w (scanB (uns z.ux) (lfs z.lb) v lo hi)):=by
  obtain⟨Wa,W0,ha,hb,hbs,hvw,hA⟩:=Zfq w z v s
  have HWA:=Zh ha
  have HWB:=Zh hb
  have HBS:=Zh hbs
  have HVW:=Zh hvw
  have HA:=Zh hA
  have HH:=Zh h
  have HV:=Zh hv
  have HLO:=Zh hlo
  have HHI:=Zh hhi
  obtain⟨cb,hcb⟩:∃c:Bool,c=true↔MayBs z.b:=by
   by_cases hm:MayBs z.b
   · exact⟨true,fun _=>hm,fun _=>rfl⟩
   · exact⟨false,fun e=>(by cases e),fun e=>absurd e hm⟩
  have HCK:Hi (∀W,Bl W0 W→Calls prog 10 #[z.val] W fun e w'=>e=.returned (.int .i64 (chk cb))∧Bl W w'):=fun W hW=>(Zb0 W z (h.keep (Zac hA hW))).mono fun e w' k=>by
   refine⟨?_,k.2⟩
   rcases k.1 with ⟨k1,k2⟩ | ⟨k1,k2⟩
   · rw [k2,hcb.2 k1];rfl
   · cases cb with
     | false=>exact k2
     | true=>exact absurd (hcb.1 rfl) k1
  have HVC:Hi (∀W,Bl W0 W→Calls prog 30 #[vwV v s] W fun e w'=>e=.returned (.int .i64 (errV (decide (MayV v))))∧Bl W w'):=fun W hW=>ZbL W s v (hv.below (Zac hA hW) (Nat.le_refl _)) hs200
  obtain⟨av,hav⟩:∃a,a=chk cb:=⟨_,rfl⟩
  obtain⟨bv,hbv⟩:∃b,b=errV (decide (MayV v)):=⟨_,rfl⟩
  have hor:orN [av,bv]=errV (cb && decide (MayV v)):=by rw [hav,hbv,Ze0]
  rw [← hav] at HCK
  rw [← hbv] at HVC
  clear hav hbv
  obtain⟨o,ho⟩:∃o,o=scanB (uns z.ux) (lfs z.lb) v lo hi:=⟨_,rfl⟩
  rw [← ho]
  have HO:=Zh ho
  replace hor:orN [av,bv]=0:=by rw [hor,hcb.2 hmb,decide_eq_true hmv];rfl
  have HMB:=Zh hmb
  have HMV:=Zh hmv
  clear ho hmb hmv
  clear h hv ha hb hbs hvw hA hlo hhi hcb
  unfold vwV Bz.val
  go_enter func16,ntmps16
  go_wp2_with fail
  rw [HWA.o,HWB.o]
  clear HWA HWB
  refine Pl.q9 (ops:=Pl.find 1 ((f16.body).getD .skip)) ?_
  refine Zrw W0 w.heap.size (w.heap.size+1) z v s av bv HBS.o HVW.o HCK.o HVC.o (by rfl) rfl (by rfl) (by rfl) ?_
  intro u1 w1 hb1
  simp only [Pl.pu,List.foldl,Act.put,List.setIfInBounds_toArray,List.set_cons_zero,List.set_cons_succ]
  rw [hor]
  have HB1:=Zh (Zac HA.o hb1)
  have HBS1:=Zh (HBS.o.keep hb1)
  have HVW1:=Zh (HVW.o.keep hb1)
  clear hb1 HCK HVC HBS HVW hor
  obtain⟨sa,sn,sc⟩:=s
  obtain⟨vs,vn,vt⟩:=v
  try simp only [Sl.val] at *
  have z5:=HBS1.o.c5
  have HRO:=Zh (ZlY w1 z.ls z.lb (HH.o.keep HB1.o).ls lo hi HLO.o HHI.o)
  unfold Sl.val at HRO
  try simp only [Sl.val] at z5
  go_wp2_with fail
  refine HRO.o.mono ?_
  rintro e w3 (⟨_,hb3,⟨ra,rn,rc⟩,R,rfl,hRI,hRR⟩ | ⟨hno,_⟩)
  rotate_left
  · exact absurd HMB.o.l hno
  simp only
  have HRR:=Zh hRR
  have hrl:rn=(rws R).length:=by rw [ZaR];exact hRI.rz.len.symm
  have HB3:=Zh (Zac HB1.o hb3)
  have hlen8:(lfs z.lb).length≤8:=by rw [show (lfs z.lb).length=z.lb.length from List.length_map ..,HH.o.ls.len];exact h8
  have hrn5:(rws R).length≤512:=by rw [hRR];exact ZmW HMB.o.l hlen8 lo hi
  have HRN:=Zh hrn5
  have hrn:rn≤512:=by rw [hrl];exact hrn5
  have HRL:=Zh hrl
  have HSI:Hi (ZcI w w3 z ⟨vs,vn,vt⟩ ⟨sa,sn,sc⟩ ⟨ra,rn,rc⟩ R 0 Sl.nil Sl.nil []):=
   ⟨HBS1.o.keep hb3,HVW1.o.keep hb3,hRI,Rq.nil w w3 HB3.o,rfl,(fun k hk=>by cases hk),(fun k hk=>by cases hk),Nq.nil0 HB3.o⟩
  have HCD0:Hi ((0:Int)=(vnB (uns z.ux) ⟨vs,vn,vt⟩).code ((rws R).take 0)):=rfl
  clear hb3 hRI hRR hrl HRO z5 HBS1 HVW1 HB1 hlen8 hrn5
  go_wp2_with fail
  go_loopw [12,13,14,33] (fun ov nv cv iv wr=>∃(i:Nat) (so q:Sl) (X:List Rx) (c:Int),i≤rn∧ov=so.val∧nv=q.val∧cv=.int .i64 c∧iv=.int .i64 (i:Nat)∧Hi (c=(vnB (uns z.ux) ⟨vs,vn,vt⟩).code ((rws R).take i))∧Hi (ZcI w wr z ⟨vs,vn,vt⟩ ⟨sa,sn,sc⟩ ⟨ra,rn,rc⟩ R i so q X)) (fun _ _ _ iv _=>rn-(intOf iv).toNat)
  case atStart=>exact ⟨0,Sl.nil,Sl.nil,[],0,Nat.zero_le _,rfl,rfl,rfl,rfl,HCD0,HSI⟩
  case round =>
   clear HSI HCD0
   obtain⟨i,⟨oa,on,oc⟩,⟨qa,qn,qc⟩,X,c,hile,rfl,rfl,rfl,rfl,hcd,hsi⟩:=hrel
   simp only [Sl.val]
   rcases Nat.lt_or_ge i rn with hlt | hge
   · have i1:(i:Int)<(rn:Int):=by omega
     have hir:i<(rws R).length:=by rw [← HRL.o];exact hlt
     obtain⟨b,off,hra,hxa⟩:=hsi.o.rows.rz.at' i hlt
     replace hra:ra=some ⟨b,off,none⟩:=hra
     subst hra
     have hxm:=hsi.o.rows.rz.mem hlt
     have hxf:=hsi.o.rows.rz.fits _ hxm
     have hxc:=hsi.o.rows.flt _ hxm
     have hri:(rws R)[i]=(R.getD i Rx.zero).r:=by
      rw [← ZcL]
      simp [List.getD,hir]
     obtain⟨x,hx⟩:∃x,x=R.getD i Rx.zero:=⟨_,rfl⟩
     rw [← hx] at hxa hxf hxc hri
     obtain⟨t,ht⟩:∃t,t=Vn.cut ((vnB (uns z.ux) ⟨vs,vn,vt⟩).look 400 x.r):=⟨_,rfl⟩
     have HIR:=Zh hir
     have HT:Hi (t=Vn.cut ((vnB (uns z.ux) ⟨vs,vn,vt⟩).look 400 ((rws R)[i]'HIR.o))):=by show _=_;rw [ht,hri]
     have HCN:Hi (orN [c,t.2.2]=(vnB (uns z.ux) ⟨vs,vn,vt⟩).code ((rws R).take (i+1))):=by
      show _=_
      have e:((vnB (uns z.ux) ⟨vs,vn,vt⟩).look 400 ((rws R)[i]'HIR.o)).2.2=t.2.2:=by rw [HT.o];rfl
      rw [(vnB (uns z.ux) ⟨vs,vn,vt⟩).code_take HIR.o,e,← hcd.o]
      refine ZpS ?_ ?_
      · rw [hcd.o];exact (vnB (uns z.ux) ⟨vs,vn,vt⟩).code_two _
      · rw [ht];exact (vnB (uns z.ux) ⟨vs,vn,vt⟩).look_code 400 x.r
     have HLD:=Zh (Zbl b (off+i*6) x wr hxa)
     obtain⟨W1,hst1,hr1,hb1⟩:=ZlQ wr x
     have hsi1:=hsi.o.keep hb1
     have HSI1:=Zh hsi1
     have HST1:=Zh hst1
     have k4:=hsi1.bs.c4
     have g0:=hsi1.vw.c0
     have g1:=hsi1.vw.c1
     have g2:=hsi1.vw.c2
     have r0:=hr1.c0
     have r1:=hr1.c1
     have r2:=hr1.c2
     have r3:=hr1.c3
     have r4:=hr1.c4
     have r5:=hr1.c5
     have HSE:=Zh (Zid w W1 hsi1.nq.below z HH.o HMB.o.u ⟨vs,vn,vt⟩ ⟨sa,sn,sc⟩ (HV.o.below hsi1.nq.below (Nat.le_refl _)) (by show sn≤200;omega) HMV.o x ((hxc.keep hb1).colR w) hxf)
     rw [← ht] at HSE
     unfold vwV Rx.val Rw.val at HSE
     unfold Rx.val Rw.val at HLD
     try simp only [Sl.val] at HSE g0 g1 g2
     clear hir hxa hxm hxf hxc hx ht hri hst1 hr1 hb1 hsi1 hsi hcd
     go_wp2_with (first | refine Zah _ rfl 39 (.tmp 35) rfl (.pointer (some ⟨b,off+i*6,none⟩)) (.agg #[.float .f64 x.r.key,.bool x.r.dead,.slice x.a x.n x.c,.int .i64 x.r.wr,.int .i64 x.r.cell,.int .i64 x.r.no]) rfl HLD.o ?_ | refine Zad _ rfl rfl 39 (.tmp 16) (.tmp 36) rfl (.pointer (some ⟨wr.heap.size,0,none⟩)) (.agg #[.float .f64 x.r.key,.bool x.r.dead,.slice x.a x.n x.c,.int .i64 x.r.wr,.int .i64 x.r.cell,.int .i64 x.r.no]) rfl rfl W1 HST1.o ?_)
     refine HSE.o.mono ?_
     rintro e w2 ⟨hb2,y,⟨pa,pn,pc⟩,rfl,hyr,hyc,hyf,hyq⟩
     obtain⟨W3,hst3,hr3,hb3⟩:=ZoO w2 y t.1.isSome ⟨pa,pn,pc⟩ t.2.2
     have hb23:=Zac hb2 hb3
     have HST3:=Zh hst3
     have HSJ:Hi (ZcJ w W3 z ⟨vs,vn,vt⟩ ⟨sa,sn,sc⟩ ⟨some ⟨b,off,none⟩,rn,rc⟩ R i ⟨oa,on,oc⟩ ⟨qa,qn,qc⟩ X t w2.heap.size y ⟨pa,pn,pc⟩):=
      ⟨HSI1.o.keep hb23,hr3,hyc.keep hb3,hyf,hyr,(hyq.below hb3 (Nat.le_refl _)).wide (fun k hk=>⟨fun e=>by have:=Own.lt HSI1.o.ot.own e;omega,fun e=>by have:=Own.lt HSI1.o.nq.own e;omega⟩)⟩
     clear hb2 hb3 hb23 hst3 hr3 hyr hyc hyf hyq HSE HSI1 k4 g0 g1 g2 r0 r1 r2 r3 r4 r5 HST1 HLD
     obtain⟨⟨tr,tw,tc⟩,htt⟩:∃t',t'=t:=⟨_,rfl⟩
     subst htt
     unfold lkV
     simp only [lkV] at HST3
     simp only at HCN ⊢
     cases tr with
     | none =>
      simp only [Option.isSome_none] at HST3 ⊢
      have y6:W3.cell? ⟨w2.heap.size,6,none⟩=some (.bool false):=HSJ.o.row.c6
      have hsk:=HSJ.o.skip HIR.o HT.o rfl
      have y7:W3.cell? ⟨w2.heap.size,7,none⟩=some (.slice pa pn pc):=hsk.row.c7
      obtain⟨⟨q3a,q3n,q3c⟩,W5,hrun5,hzi,hlk5⟩:=hsk.app HIR.o HT.o HRN.o
      have y8:W5.cell? ⟨w2.heap.size,8,none⟩=some (.int .i64 tc):=hlk5.c8
      have HRUN5:=Zh hrun5
      have HZI:=Zh hzi
      simp only [Sl.val] at HRUN5
      clear hrun5 hzi hsk hlk5 HSJ
      go_wp2_with (first | refine Zad _ rfl rfl 75 (.tmp 17) (.tmp 41) rfl (.pointer (some ⟨w2.heap.size,0,none⟩)) (.agg #[.float .f64 y.r.key,.bool y.r.dead,.slice y.a y.n y.c,.int .i64 y.r.wr,.int .i64 y.r.cell,.int .i64 y.r.no,.bool false,.slice pa pn pc,.int .i64 tc]) rfl rfl W3 HST3.o ?_ | refine Zbu _ rfl 29 (.tmp 49) (.tmp 51) rfl (.slice qa qn qc) (.slice pa pn pc) rfl rfl _ W5 HRUN5.o ?_)
      refine(ZgD W5 c tc).mono ?_
      rintro e w6 ⟨rfl,hb6⟩
      have HZ6:=Zh (HZI.o.keep hb6)
      clear hb6 HZI
      go_wp2_with fail
      go_roundw
      case rel=>exact ⟨i+1,⟨oa,on,oc⟩,⟨q3a,q3n,q3c⟩,_,_,by omega,rfl,rfl,rfl,by go_num,HCN,HZ6⟩
      case measure=>simp only [intOf];omega
     | some r =>
      simp only [Option.isSome_some] at HST3 ⊢
      have y6:W3.cell? ⟨w2.heap.size,6,none⟩=some (.bool true):=HSJ.o.row.c6
      obtain⟨⟨o2a,o2n,o2c⟩,W4,hrun,hsk⟩:=HSJ.o.some_ HIR.o HT.o rfl (by have:=HRL.o;rw [ZaR] at this;omega)
      have y0:=HSJ.o.row.c0
      have y1:=HSJ.o.row.c1
      have y2:=HSJ.o.row.c2
      have y3:=HSJ.o.row.c3
      have y4:=HSJ.o.row.c4
      have y5:=HSJ.o.row.c5
      have HRUN:=Zh hrun
      simp only [Sl.val] at HRUN
      clear hrun
      have y7:W4.cell? ⟨w2.heap.size,7,none⟩=some (.slice pa pn pc):=hsk.row.c7
      obtain⟨⟨q3a,q3n,q3c⟩,W5,hrun5,hzi,hlk5⟩:=hsk.app HIR.o HT.o HRN.o
      have y8:W5.cell? ⟨w2.heap.size,8,none⟩=some (.int .i64 tc):=hlk5.c8
      have HRUN5:=Zh hrun5
      have HZI:=Zh hzi
      simp only [Sl.val] at HRUN5
      clear hrun5 hzi hsk hlk5 HSJ
      go_wp2_with (first | refine Zad _ rfl rfl 75 (.tmp 17) (.tmp 41) rfl (.pointer (some ⟨w2.heap.size,0,none⟩)) (.agg #[.float .f64 y.r.key,.bool y.r.dead,.slice y.a y.n y.c,.int .i64 y.r.wr,.int .i64 y.r.cell,.int .i64 y.r.no,.bool true,.slice pa pn pc,.int .i64 tc]) rfl rfl W3 HST3.o ?_ | refine Zbu _ rfl 29 (.tmp 49) (.tmp 51) rfl (.slice qa qn qc) (.slice pa pn pc) rfl rfl _ W5 HRUN5.o ?_ | refine Zbu _ rfl 49 (.tmp 44) (.tmp 47) rfl (.slice oa on oc) (.slice (some ⟨W3.heap.size,0,none⟩) 1 1) rfl rfl _ W4 HRUN.o ?_)
      refine(ZgD W5 c tc).mono ?_
      rintro e w6 ⟨rfl,hb6⟩
      have HZ6:=Zh (HZI.o.keep hb6)
      clear hb6 HZI
      go_wp2_with fail
      go_roundw
      case rel=>exact ⟨i+1,⟨o2a,o2n,o2c⟩,⟨q3a,q3n,q3c⟩,_,_,by omega,rfl,rfl,rfl,by go_num,HCN,HZ6⟩
      case measure=>simp only [intOf];omega
   · have i1:¬(i:Int)<(rn:Int):=by omega
     have HTK:Hi ((rws R).take i=rws R):=List.take_of_length_le (by rw [← HRL.o];exact hge)
     have HOO:Hi (o=(vnB (uns z.ux) ⟨vs,vn,vt⟩).scan (rws R)):=by show _=_;rw [HO.o,HRR.o];rfl
     have HCV:Hi (c=(vnB (uns z.ux) ⟨vs,vn,vt⟩).code (rws R)):=by show _=_;rw [hcd.o,HTK.o]
     have HWC:Hi (allN ((vnB (uns z.ux) ⟨vs,vn,vt⟩).whoc (rws R))=allN ((vnB (uns z.ux) ⟨vs,vn,vt⟩).whos (rws R))):=ZoD (((Zdo _).1 HMB.o.u).hi) _ _
     have hnq:=hsi.o.nq
     rw [HTK.o] at hnq
     have hqn:qn≤1000000:=by
      have h1:((vnB (uns z.ux) ⟨vs,vn,vt⟩).whoc (rws R)).length=qn:=OwnN.len hnq.own
      have h2:=(vnB (uns z.ux) ⟨vs,vn,vt⟩).whoc_le (rws R)
      have h3:=HRN.o
      omega
     have HXR:Hi (rws X=(vnB (uns z.ux) ⟨vs,vn,vt⟩).rows (rws R)):=by show _=_;rw [hsi.o.oeq,HTK.o]
     have HRQ:=Zh hsi.o.ot
     have HTY:Hi (∀k,(⟨qa,qn,qc⟩:Sl).blk=some k→w.heap.size≤k∧∃cs,wr.heap[k]? = some (Obj.cells cs 3 (0,0))):=fun k hk=>⟨hnq.home k hk,by obtain ⟨c2,hc2⟩:=Own.kind hnq.own hk;exact ⟨c2,hc2⟩⟩
     have HSO:=Zh (Znd wr ⟨qa,qn,qc⟩ _ hnq.hd hqn)
     unfold Sl.val at HSO
     clear hsi hcd hnq
     go_wp2_with fail
     refine HSO.o.mono ?_
     rintro e w4 ⟨rfl,hhd,hfr4⟩
     have HF4:=Zh hfr4
     have HCO:=Zh (ZgW w4 ⟨qa,qn,qc⟩ _ hhd hqn)
     unfold Sl.val at HCO
     clear hhd hfr4 HSO
     go_wp2_with fail
     refine HCO.o.mono ?_
     rintro e w5 ⟨⟨ta,tn,tc⟩,rfl,hln,hhd5,hfr5⟩
     have hfr:=HF4.o.trans hfr5 (fun _ _ h=>h)
     have HRZ:=Zh (HRQ.o.frmI hfr HTY.o).rzs
     have HBW:=Zh hhd5.below
     have hgi:=(hhd5.gi (by show tn≤_;have h3:tn≤qn:=hln;omega)).wide (E:=fun _=>True) (fun _ _=>trivial)
     rw [ZjV,HWC.o] at hgi
     have HGQ:=Zh hgi
     simp only
     clear hgi hhd5 hfr5 hfr hln HCO HF4 HTY HRQ
     rcases (vnB (uns z.ux) ⟨vs,vn,vt⟩).code_two (rws R) with h0 | h0
     · have HS:Hi (Zb2 w o (.returned (.tuple #[.slice oa on oc,.slice ta tn tc,.int .i64 0])) w5):=by
        refine⟨HBW.o,⟨oa,on,oc⟩,⟨ta,tn,tc⟩,X,?_,HRZ.o,?_,?_⟩
        · rw [HOO.o];show _=Ending.returned (.tuple #[_,_,.int .i64 ((vnB (uns z.ux) ⟨vs,vn,vt⟩).code (rws R))]);rw [h0];rfl
        · rw [HOO.o,HXR.o];show _=if (vnB (uns z.ux) ⟨vs,vn,vt⟩).code (rws R)=0 then _ else _;rw [if_pos h0]
        · rw [HOO.o];exact HGQ.o
       obtain rfl:c=0:=by rw [HCV.o,h0]
       clear HCV h0
       go_wp2_with fail
       go_ret3
       exact HS.o
     · have HS:Hi (Zb2 w o (.returned (.tuple #[.slice none 0 0,.slice ta tn tc,.int .i64 13])) w5):=by
        refine⟨HBW.o,Sl.nil,⟨ta,tn,tc⟩,[],?_,RzS.none _,?_,?_⟩
        · rw [HOO.o];show _=Ending.returned (.tuple #[_,_,.int .i64 ((vnB (uns z.ux) ⟨vs,vn,vt⟩).code (rws R))]);rw [h0];rfl
        · rw [HOO.o];show _=if (vnB (uns z.ux) ⟨vs,vn,vt⟩).code (rws R)=0 then _ else _;rw [if_neg (by rw [h0];decide)];rfl
        · rw [HOO.o];exact HGQ.o
       obtain rfl:c=13:=by rw [HCV.o,h0]
       clear HCV h0
       go_wp2_with fail
       go_ret3
       exact HS.o
theorem Zns:Zgf True:=
 ⟨Zb0,fun w0 w z v s key hw h hv hs hk hb hm=>Znn w0 w hw z h v s hv hs key hk hb hm,
  fun w z v s key h hv hs hk hm=>Zno w w (Below.refl _ _) z h v s hv hs key hk hm,
  fun _ w z v s lo hi h h8 hv hs hl hh hb hm=>Znp w z h h8 v s hv hs lo hi hl hh hb hm,
  fun _ w z v s lo hi h h8 hv hs hl hh hm=>Znq w z h h8 v s hv hs lo hi hl hh hm⟩
end Go.Proofs.YtiecfcjlhldhdaaGreat
