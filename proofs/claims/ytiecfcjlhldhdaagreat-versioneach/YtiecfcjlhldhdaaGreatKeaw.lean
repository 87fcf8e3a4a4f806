/-
  Lemmas.
-/
import Derived.Test.YtiecfcjlhldhdaaGreatKeas
import Derived.Test.YtiecfcjlhldhdaaGreatKeav
namespace Go.Proofs.YtiecfcjlhldhdaaGreat
open Go.RowKit
set_option linter.unusedVariables false
set_option linter.unusedSimpArgs false
set_option maxRecDepth 100000
set_option maxHeartbeats 4000000
variable {w w' w0:World}{R:List Rx}{x:Bt}{s s4 s5:Sl}{p b i o:Nat}{B:List Bt}
structure Lb where
  u:Sl
  v:Sl
  t:List Int
  l:List Sb
def Lb.zero:Lb:=⟨Sl.nil,Sl.nil,[],[]⟩
def Lb.lf (x:Lb):Lf:=⟨x.t,bss x.l⟩
def lfs (L:List Lb):List Lf:=L.map Lb.lf
theorem Zbe (L:List Lb):(lfs L).length=L.length:=by simp [lfs]
theorem Zf1 (L:List Lb)(i:Nat):lf (lfs L) i=(L.getD i Lb.zero).lf:=by
 unfold lf lfs;by_cases h:i<L.length
 · simp [List.getD,h]
 · have h':L.length≤i:=Nat.le_of_not_lt h;simp [List.getD,h',Lb.zero,Lb.lf,Lf.zero,bss]
theorem Zpk (L:List Lb)(i:Nat)(x:Lb):lfs (L.set i x)=(lfs L).set i x.lf:=by simp [lfs,List.map_set]
structure Gl (D:Nat→Prop) (w:World) (s:Sl) (L:List Lb):Prop where
  len:L.length=s.len
  nil:s.a=none→s.cap=0
  le:s.len≤s.cap
  big:s.len≤900
  home:∀ad,s.a=some ad→0<s.len→D ad.block
  cell:∀i,i<s.len→∃b off,s.a=some ⟨b,off,none⟩∧w.cell? ⟨b,off+i*2,none⟩=some (L.getD i Lb.zero).u.val∧w.cell? ⟨b,off+i*2+1,none⟩=some (L.getD i Lb.zero).v.val
  it:∀x∈L,Gi D w x.u x.t∧Gb D w x.v x.l
theorem ZgX {L:List Lb}(h:i<L.length):L.getD i Lb.zero∈L:=by simp [List.getD,h]
theorem Gl.keep {D:Nat→Prop}{L:List Lb}(h:Gl D w s L)(hk:Kept D w w'):Gl D w' s L:=by
 refine⟨h.len,h.nil,h.le,h.big,h.home,fun i hi=>?_,fun x hx=>⟨(h.it x hx).1.keep hk,(h.it x hx).2.keep hk⟩⟩;obtain⟨b,off,ha,c0,c1⟩:=h.cell i hi;have hD:=h.home _ ha (by omega);exact⟨b,off,ha,hk.cell c0 hD,hk.cell c1 hD⟩
theorem Gl.below {D:Nat→Prop}{B:Nat}{L:List Lb}(h:Gl D w s L)(hb:Below B w w')(hB:w.heap.size≤B):Gl D w' s L:=h.keep (Kept.all hb hB)
theorem Gl.wide {D E:Nat→Prop}{L:List Lb}(h:Gl D w s L)(hE:∀k,D k→E k):Gl E w s L:=
 ⟨h.len,h.nil,h.le,h.big,fun ad ha hl=>hE _ (h.home ad ha hl),h.cell,fun x hx=>⟨(h.it x hx).1.wide hE,(h.it x hx).2.wide hE⟩⟩
theorem Gl.at {D:Nat→Prop}{L:List Lb}(h:Gl D w s L)(hi:i<s.len):Gi D w (L.getD i Lb.zero).u (L.getD i Lb.zero).t∧Gb D w (L.getD i Lb.zero).v (L.getD i Lb.zero).l:=
 h.it _ (ZgX (by rw [h.len];exact hi))
theorem Zda (b o len cap k:Nat)(hk:k<len)(w:World):(Instr.indexAt 26 (.slice (some ⟨b,o,none⟩) len cap) (.int .i64 (k:Nat))).run Tryz.prog w=.ok (.pointer (some ⟨b,o+k*2,none⟩)) w:=by
 (have aa:Tryz.prog.underlying 26=some (.slice (Tryz.prog.elem 26)):=by kernel_rfl);(have h1:(0:Int)≤(k:Int):=by omega);simp [go_sem,Instr.indexAt,run_underlying aa,h1,Addr.add_lit];omega
theorem ZdC {u v:Sl}(c0:w.cell? ⟨b,o,none⟩=some u.val)(c1:w.cell? ⟨b,o+1,none⟩=some v.val):(Instr.loadAt 101 (.pointer (some ⟨b,o,none⟩))).run Tryz.prog w=.ok (lfV u v) w:=by
 unfold Sl.val at c0 c1;simp [go_sem,c0,c1,lfV,Sl.val]
structure ColF (w:World) (x:Rx):Prop where
  fs:Fs w x.a x.n x.c x.r.xs
  home:∀b off,x.a=some ⟨b,off,none⟩→0<x.n→∃C fr,w.heap[b]? = some (Obj.cells C 32 fr)
theorem ColF.colR {x:Rx}(h:ColF w x)(w0:World):ColR w0 w x:=⟨h.fs,fun b off ha hn=>.inr (h.home b off ha hn)⟩
theorem ColF.frm {F:Nat→Prop}{W:World}{x:Rx}(h:ColF w x)(f:Frm F w W)(hF:∀k,F k→∀C fr,w.heap[k]? ≠ some (Obj.cells C 32 fr)):ColF W x:=by
 have aa:∀b off,x.a=some ⟨b,off,none⟩→0<x.n→W.heap[b]? = w.heap[b]?:=by
  intro b off ha hn;obtain⟨C,fr,hk⟩:=h.home b off ha hn;exact f.block b (Array.getElem?_eq_some_iff.1 hk).1 (fun e=>hF b e C fr hk)
 refine⟨h.fs.same aa,fun b off ha hn=>?_⟩;obtain⟨C,fr,hk⟩:=h.home b off ha hn;exact⟨C,fr,(aa b off ha hn).trans hk⟩
theorem ColF.keep {W:World}{x:Rx}(h:ColF w x)(hb:Below w.heap.size w W):ColF W x:=h.frm (F:=fun _=>False) (Frm.ofBelow hb) (fun _ h=>h.elim)
theorem ColF.owns {base:Nat}{u:Rw}{a:Option Addr}{n c:Nat}(h:OwnsV 32 w base (.slice a n c) (fVals u.xs))(hf:Fs w a n c u.xs):ColF w ⟨u,a,n,c⟩:=by
 refine⟨hf,fun b off ha hn=>?_⟩;rcases h.2 with ⟨hv,h0⟩ | ⟨g,cp,cur,hv,_,hg,_⟩
 · simp only [Value.slice.injEq] at hv;simp only at ha;rw [hv.1] at ha;cases ha
 · simp only [Value.slice.injEq] at hv;simp only at ha;rw [hv.1] at ha;cases ha;exact⟨_,_,hg⟩
structure AllI (w0 w:World) (s4 s5:Sl) (R:List Rx) (B:List Bt):Prop where
  rows:Rq w0 w s4 R
  bts:Zc8 w s5 B
  new:∀k,s5.blk=some k→w0.heap.size≤k
  below:Below w0.heap.size w0 w
  flt:∀x∈R,ColF w x
theorem AllI.start (w:World):AllI w ((w.alloc (.cells #[] 39)).alloc (.cells #[] 67)) ⟨some ⟨w.heap.size,0,none⟩,0,0⟩ ⟨some ⟨(w.alloc (.cells #[] 39)).heap.size,0,none⟩,0,0⟩ [] []:=by
 have h1:=Zaa w (.cells #[] 39);have h2:=Zaa (w.alloc (.cells #[] 39)) (.cells #[] 67);refine⟨(Rq.new0 w w (Below.refl _ _)).keep h2,Zc8.new0 _,fun k hk=>?_,Zac h1 h2,fun x hx=>by cases hx⟩;have e:some (w.alloc (.cells #[] 39)).heap.size=some k:=hk;cases e;exact h1.size
theorem AllI.keep (h:AllI w0 w s4 s5 R B)(hb:Below w.heap.size w w'):AllI w0 w' s4 s5 R B:=
 ⟨h.rows.keep hb,Own.frame h.bts (fun k hk=>hb.block k (Own.lt h.bts hk)),h.new,Zac h.below hb,fun x hx=>(h.flt x hx).keep hb⟩
theorem AllI.row (h:AllI w0 w s4 s5 R B)(x:Rx)(hx:ColF w x)(hf:x.r.fits)(hl:R.length+1≤1000000) :
    ∃s' W,(∀ty,(Builtin.append_ #[49,49] ty #[s4.val,.slice (some ⟨w.heap.size,0,none⟩) 1 1]).run Tryz.prog (w.alloc (.cells #[.float .f64 x.r.key,.bool x.r.dead,.slice x.a x.n x.c,.int .i64 x.r.wr,.int .i64 x.r.cell,.int .i64 x.r.no] 39))=.ok s'.val W)∧AllI w0 W s' s5 (R ++ [x]) B:=by
  obtain⟨s',W,ac,hq,ab⟩:=h.rows.one x (hx.colR w0) hf hl;have hF:∀k,s4.blk=some k→∀C fr,w.heap[k]? ≠ some (Obj.cells C 32 fr):=by
   intro k hk C fr hc;obtain⟨cur,aa⟩:=h.rows.own.kind hk;rw [hc] at aa;simp only [Option.some.injEq,Obj.cells.injEq] at aa;exact absurd aa.2.1 (by decide)
  refine⟨s',W,ac,hq,Own.frame h.bts (fun k hk=>ab.block k (Own.lt h.bts hk) (fun e=>Own.apart h.rows.own h.bts (by decide) k e hk)),h.new,hq.below,fun y hy=>?_⟩;rcases List.mem_append.1 hy with hy | hy
  · exact(h.flt y hy).frm ab hF
  · rw [List.mem_singleton.1 hy];exact hx.frm ab hF
theorem AllI.bt (h:AllI w0 w s4 s5 R B)(x:Bt)(hl:B.length+1≤1000000) :
    ∃s' W,(∀ty,(Builtin.append_ #[84,84] ty #[s5.val,.slice (some ⟨w.heap.size,0,none⟩) 1 1]).run Tryz.prog (w.alloc (.cells #[.int .i64 x.1,.int .i64 x.2] 67))=.ok s'.val W)∧AllI w0 W s4 s' R (B ++ [x]):=by
  obtain⟨s',W,ac,ho,ab,ad⟩:=Zc8.one h.bts x hl;have hb:Below w0.heap.size w0 W:=h.below.trans (ab.below h.below.size (fun k e=>h.new k e));have hF:∀k,s5.blk=some k→∀C fr,w.heap[k]? ≠ some (Obj.cells C 32 fr):=by
   intro k hk C fr hc;obtain⟨cur,aa⟩:=Own.kind h.bts hk;rw [hc] at aa;simp only [Option.some.injEq,Obj.cells.injEq] at aa;exact absurd aa.2.1 (by decide)
  refine⟨s',W,ac,⟨Own.frame h.rows.own (fun k hk=>ab.block k (h.rows.own.lt hk) (fun e=>Own.apart h.rows.own h.bts (by decide) k hk e)),h.rows.new,hb,fun y hy=>((h.flt y hy).frm ab hF).colR w0,h.rows.fits⟩,ho,fun k hk=>?_,hb,fun y hy=>(h.flt y hy).frm ab hF⟩;rcases ad with e | e
  · exact h.new k (by rw [← e];exact hk)
  · exact Nat.le_trans h.below.size (e k hk)
def hrsR (l:List Hr):List Rw:=l.map Hr.r
def hrsB (l:List Hr):List Bt:=l.map fun h=>((h.i:Int),(h.k:Int))
structure Zbb (w w':World) (s4 s5:Sl) (R:List Rx) (l:List Hr):Prop where
  i:AllI w w' s4 s5 R (hrsB l)
  r:rws R=hrsR l
def ZoE (w:World) (l:List Hr) (e:Ending) (w':World):Prop:=∃(s4 s5:Sl) (R:List Rx),e=.returned (.tuple #[.slice s4.a s4.len s4.cap,.slice s5.a s5.len s5.cap])∧Zbb w w' s4 s5 R l
theorem Zdo (i:Nat):∀(s:List (List Nat))(k:Nat),(rowsS i s k).length≤s.length
 | [],_=>by simp [rowsS]
 | x :: s,k=>by
  have:=Zdo i s (k+1)
  simp only [rowsS,List.length_append,List.length_cons]
  cases decH x <;> simp only [List.length_nil,List.length_cons] <;> omega
theorem Zeu:∀(l:List Lf)(i:Nat),(∀f∈l,f.slots.length≤1000)→(rowsH l i).length≤l.length*1000
 | [],_,_=>by simp [rowsH]
 | f :: l,i,h=>by
  have h1:=Zeu l (i+1) (fun g hg=>h g (List.mem_cons_of_mem _ hg))
  have h2:=Zdo i f.slots 0
  have h3:=h f (List.mem_cons_self ..)
  simp only [rowsH,List.length_append,List.length_cons]
  omega
theorem Gl.few {D:Nat→Prop}{L:List Lb}(h:Gl D w s L)(i k:Nat)(hi:i≤s.len):(rowsH ((lfs L).take i) 0 ++ rowsS i ((L.getD i Lb.zero).lf.slots.take k) 0).length≤901000:=by
 have hs:∀f∈lfs L,f.slots.length≤1000:=by
  intro f hf;obtain⟨x,hx,rfl⟩:=List.mem_map.1 hf;have:=(h.it x hx).2;show (bss x.l).length≤1000;rw [Zaj,this.len];exact this.big
 have h1:=Zeu ((lfs L).take i) 0 (fun f hf=>hs f (List.mem_of_mem_take hf));have h2:=Zdo i ((L.getD i Lb.zero).lf.slots.take k) 0;have h3:(L.getD i Lb.zero).lf.slots.length≤1000:=by
  rw [← Zf1];rcases Nat.lt_or_ge i (lfs L).length with ab | aa
  · exact hs _ (Zc6 ab)
  · (have e:lf (lfs L) i=Lf.zero:=by simp [lf,List.getD,List.getElem?_eq_none aa]);rw [e];exact Nat.zero_le _
 have h4:=h.big;rw [List.length_append];rw [List.length_take] at h1 h2;have h5:min i (lfs L).length*1000≤900*1000:=Nat.mul_le_mul_right _ (by omega);omega
theorem Zgy {D:Nat→Prop}(w:World)(s:Sl)(L:List Lb)(h:Gl D w s L) :
    Calls Tryz.prog 46 #[s.val] w (ZoE w (allH (lfs L))):=by
  obtain⟨a,len,cap⟩:=s;have cc:∀(w:World) (a:Addr) (m:Mode) (x:Nat),(store a (.float .f64 x) m).run Tryz.prog w=stored Tryz.prog w a (.float .f64 x) m:=fun w a m x=>run_store Tryz.prog w a _ m rfl;have HS:=hide (AllI.start w);have H:=hide h;have bu:len≤900:=h.big;have HL:Hid (L.length=len):=h.len;clear h;rw [Zae] at HS;unfold Sl.val;simp only;go_enter Tryz.func46,Tryz.ntmps46;go_wp2_with fail;generalize (w.alloc (.cells #[] 39)).alloc (.cells #[] 67)=W0 at *;go_loopw [4,5,6] (fun v4 v5 iv wr=>∃(i:Nat) (s4 s5:Sl) (R:List Rx),i≤len∧iv=.int .i64 (i:Nat)∧v4=.slice s4.a s4.len s4.cap∧v5=.slice s5.a s5.len s5.cap∧Hid (Zbb w wr s4 s5 R (rowsH ((lfs L).take i) 0))) (fun _ _ iv _=>len-(intOf iv).toNat)
  case atStart=>exact ⟨0,_,_,[],Nat.zero_le _,rfl,rfl,rfl,⟨HS.out,rfl⟩⟩
  case round =>
   obtain⟨i,s4,s5,R,hi,rfl,rfl,rfl,hI⟩:=hrel;rcases Nat.lt_or_ge i len with bi | ca
   · (have j1:(i:Int)<(len:Int):=by omega);have al:=H.out;have af:i<(Sl.mk a len cap).len:=bi;obtain⟨b,off,ha,c0,c1⟩:=al.cell i af;replace ha:a=some ⟨b,off,none⟩:=ha;subst ha;have ba:=hide (al.few i · (Nat.le_of_lt af));have ah:=(al.at af).2;obtain⟨x,hx⟩:∃x,x=L.getD i Lb.zero:=⟨_,rfl⟩;rw [← hx] at c1 ah ba;have bz:=hide hx;obtain⟨xu,⟨va,vn,vc⟩,xt,xl⟩:=x;have bl:xl.length=vn:=ah.len;have cd:vn≤1000:=ah.big;have bn:Hid (Gb D w ⟨va,vn,vc⟩ xl):=ah;(have HF:Hid ((Lb.mk xu ⟨va,vn,vc⟩ xt xl).lf=lf (lfs L) i):=by show _=_;rw [Zf1,hx]);(have bb:Hid ((lf (lfs L) i).slots=bss xl):=by show _=_;rw [← HF.out];rfl);(have bc:Hid ((bss xl).length=vn):=by show _=_;rw [Zaj];exact bl);have ao:Hid (Zbb w wr s4 s5 R (rowsH ((lfs L).take i) 0 ++ rowsS i ((bss xl).take 0) 0)):=by
      show Zbb _ _ _ _ _ _;rw [List.take_zero];unfold rowsS;rw [List.append_nil];exact hI.out
     unfold Sl.val at c1;simp only at c1;have bm:=hide c1;have am:=hide (World.block_lt_of_cell? _ _ c1);clear al ah hx hI c0 bl;go_wp2_with fail;go_loopw [4,5,7] (fun v4 v5 kv wr2=>∃(k:Nat) (s4 s5:Sl) (R:List Rx),k≤vn∧kv=.int .i64 (k:Nat)∧v4=.slice s4.a s4.len s4.cap∧v5=.slice s5.a s5.len s5.cap∧Hid (Zbb w wr2 s4 s5 R (rowsH ((lfs L).take i) 0 ++ rowsS i ((bss xl).take k) 0))) (fun _ _ kv _=>vn-(intOf kv).toNat)
     case atStart=>exact ⟨0,s4,s5,R,Nat.zero_le _,rfl,rfl,rfl,ao⟩
     case round =>
      rename World=>wr2;obtain⟨k,s4,s5,R,hk,rfl,rfl,rfl,ag⟩:=hrel;have bf:=hide ag.out.i.below;have d1:wr2.cell? ⟨b,off+i*2+1,none⟩=some (.slice va vn vc):=(bf.out.cell (am.out)).trans bm.out;rcases Nat.lt_or_ge k vn with bh | cb
      · (have j2:(k:Int)<(vn:Int):=by omega);have aw:=bn.out.below bf.out (Nat.le_refl _);have ai:k<(Sl.mk va vn vc).len:=bh;obtain⟨vb,vo,az,e0⟩:=aw.cell k ai;replace az:va=some ⟨vb,vo,none⟩:=az;subst az;have av:=(aw.at ai).1;obtain⟨⟨sa,sn,sc⟩,bj⟩:∃s,s=(xl.getD k Sb.zero).s:=⟨_,rfl⟩;rw [← bj] at e0 av;have hD:=hide (Zn2 sa sn sc (sl (bss xl) k) wr2 av.came);unfold Sl.val at e0;simp only at e0;have ae:=ba.out k;rw [HF.out,bb.out] at ae;have bk:=ZfF (i:=i) (s:=bss xl) (k:=k) (by rw [bc.out];exact bh);have aa:=hide bk;have an:=hide ae;have ak:=hide ag.out;clear aw av bj bk ae ag ao;go_wp2_with fail;refine hD.out.mono ?_;intro e w3 ht;have ad:Hid (Zbb w w3 s4 s5 R (rowsH ((lfs L).take i) 0 ++ rowsS i ((bss xl).take k) 0)):=⟨ak.out.i.keep ht.1,ak.out.r⟩;cases hd:decH (sl (bss xl) k) with
        | none =>
         have ax:=ht.2.1 hd;subst ax;rw [hd] at aa;simp only [List.append_nil] at aa;have hA:=Zaa w3 (.cells #[.float .f64 0,.bool false,.slice none 0 0,.int .i64 0,.int .i64 0,.int .i64 0] 39);have bo:Hid (Zbb w (w3.alloc (.cells #[.float .f64 0,.bool false,.slice none 0 0,.int .i64 0,.int .i64 0,.int .i64 0] 39)) s4 s5 R (rowsH ((lfs L).take i) 0 ++ rowsS i ((bss xl).take (k+1)) 0)):=by
          show Zbb _ _ _ _ _ _;rw [aa.out];exact⟨ad.out.i.keep hA,ad.out.r⟩
         clear ht hd hD ak ad hA d1 e0;unfold Zdw;go_wp2_with fail;go_roundw
         case rel=>exact ⟨k+1,s4,s5,R,by omega,by go_num,rfl,rfl,bo⟩
         case measure=>simp only [intOf];omega
        | some r =>
         obtain⟨bw,ra,rl,rc,ax,bg,aj⟩:=ht.2.2 r hd;subst ax;rw [hd] at aa;simp only at aa;have hA:=Zaa w3 (.cells #[.float .f64 r.key,.bool r.dead,.slice ra rl rc,.int .i64 r.wr,.int .i64 r.cell,.int .i64 r.no] 39);have hX:=Zai w3 r (.slice ra rl rc);have ar:=ad.out.i.keep hA;have au:ColF (w3.alloc (.cells #[.float .f64 r.key,.bool r.dead,.slice ra rl rc,.int .i64 r.wr,.int .i64 r.cell,.int .i64 r.no] 39)) ⟨r,ra,rl,rc⟩:=(ColF.owns aj bg).keep hA;unfold Rw.val;have ay:=Zcl r.key r.dead ra rl rc r.wr r.cell r.no w3;generalize bs:w3.alloc (.cells #[.float .f64 r.key,.bool r.dead,.slice ra rl rc,.int .i64 r.wr,.int .i64 r.cell,.int .i64 r.no] 39)=W4 at hX ar au ay;have br:R.length=(rowsH ((lfs L).take i) 0 ++ rowsS i ((bss xl).take k) 0).length:=by
          have:=congrArg List.length ad.out.r;rw [ZaX] at this;rw [this];simp [hrsR]
         have bv:=an.out;obtain⟨s4',W5,ab,bd⟩:=ar.row ⟨r,ra,rl,rc⟩ au bw (by omega);obtain⟨s5',W6,ac,be⟩:=bd.bt ((i:Int),(k:Int)) (by simp only [hrsB,List.length_map];omega);have ap:=hide ab;have aq:=hide ac;have x0:=hX.c0;have x1:=hX.c1;have x2:=hX.c2;have x3:=hX.c3;have x4:=hX.c4;have x5:=hX.c5;have bp:Hid (Zbb w W6 s4' s5' (R ++ [⟨r,ra,rl,rc⟩]) (rowsH ((lfs L).take i) 0 ++ rowsS i ((bss xl).take (k+1)) 0)):=by
          show Zbb _ _ _ _ _ _;rw [aa.out,← List.append_assoc];refine⟨?_,?_⟩
          · simpa [hrsB] using be
          · have:=ad.out.r;simp only [rws,hrsR,List.map_append] at this ⊢;rw [this];rfl
         have bx:=hide hX;clear ht hd hD ak ad hA d1 e0 hX ar au ab bd ac be br bv bg aj aa;unfold Sl.val at ap aq;simp only at ap aq;have bq:=hide ay;clear bs ay;go_wp2_with (first | refine Zad _ rfl rfl 39 (.tmp 8) (.tmp 38) rfl (.pointer (some ⟨w3.heap.size,0,none⟩)) (.agg #[.float .f64 r.key,.bool r.dead,.slice ra rl rc,.int .i64 r.wr,.int .i64 r.cell,.int .i64 r.no]) rfl rfl W4 bq.out ?_ | (at_builtin;first | refine Zaq _ rfl 49 (.tmp 41) (.tmp 43) rfl (.slice s4.a s4.len s4.cap) (.slice (some ⟨W4.heap.size,0,none⟩) 1 1) (.slice s4'.a s4'.len s4'.cap) rfl rfl W5 ap.out ?_ | refine Zaq _ rfl 84 (.tmp 45) (.tmp 49) rfl (.slice s5.a s5.len s5.cap) (.slice (some ⟨W5.heap.size,0,none⟩) 1 1) (.slice s5'.a s5'.len s5'.cap) rfl rfl W6 aq.out ?_));go_roundw
         case rel=>exact ⟨k+1,s4',s5',_,by omega,by go_num,rfl,rfl,bp⟩
         case measure=>simp only [intOf];omega
      · (have j2:¬(k:Int)<(vn:Int):=by omega);(have e0:k=vn:=by omega);have HN:Hid (Zbb w wr2 s4 s5 R (rowsH ((lfs L).take (i+1)) 0)):=by
         have:=ag.out;rw [e0,List.take_of_length_le (l:=bss xl) (by rw [bc.out];exact Nat.le_refl _),← bb.out] at this;show Zbb _ _ _ _ _ _;rw [ZfD (by rw [Zbe,HL.out];exact bi)];exact this
        clear ag ao e0;go_wp2_with fail;go_roundw
        case rel=>exact ⟨i+1,s4,s5,R,by omega,by go_num,rfl,rfl,HN⟩
        case measure=>simp only [intOf];omega
   · (have j1:¬(i:Int)<(len:Int):=by omega);(have e0:i=len:=by omega);have HT:Hid (Zbb w wr s4 s5 R (allH (lfs L))):=by
      have:=hI.out;rw [e0,List.take_of_length_le (by rw [Zbe,HL.out];exact Nat.le_refl _)] at this;exact this
     clear hI e0;go_wp2_with fail;go_ret2;exact⟨s4,s5,R,rfl,HT.out⟩
theorem Zl1 (p o:Nat)(w:World):(Instr.fieldAt 39 (.pointer (some ⟨p,o,none⟩)) 0).run Tryz.prog w=.ok (.pointer (some ⟨p,o,none⟩)) w:=by simp [go_sem,Instr.fieldAt]
theorem Zcd {x:Nat}(h:w.cell? ⟨b,o,none⟩=some (.float .f64 x)):(Instr.loadAt 32 (.pointer (some ⟨b,o,none⟩))).run Tryz.prog w=.ok (.float .f64 x) w:=Za4 b o x w h
theorem ZiQ {a:Nat}{m:Bool}(h:(Fl.key a == Fl.key b)=m)(ha:a<18446744073709551616)(hb:b<18446744073709551616)(w:World):Calls Tryz.prog 23 #[.float .f64 a,.float .f64 b] w fun e w'=>e=.returned (.bool m)∧Below w.heap.size w w':=by
 refine(Zea a b ha hb w).mono ?_;rintro e w' ⟨rfl,hw⟩;obtain rfl:=hw.symm;exact⟨by rw [h],Below.refl _ _⟩
theorem Zn8 (b o len cap k:Nat)(hk:k<len)(w:World):(Instr.indexAt 84 (.slice (some ⟨b,o,none⟩) len cap) (.int .i64 (k:Nat))).run Tryz.prog w=.ok (.pointer (some ⟨b,o+k*2,none⟩)) w:=by
 (have aa:Tryz.prog.underlying 84=some (.slice (Tryz.prog.elem 84)):=by kernel_rfl);(have h1:(0:Int)≤(k:Int):=by omega);simp [go_sem,Instr.indexAt,run_underlying aa,h1,Addr.add_lit];omega
theorem ZlV (c0:w.cell? ⟨b,o,none⟩=some (.int .i64 x.1))(c1:w.cell? ⟨b,o+1,none⟩=some (.int .i64 x.2)):(Instr.loadAt 67 (.pointer (some ⟨b,o,none⟩))).run Tryz.prog w=.ok (btV x) w:=by
 simp [go_sem,c0,c1,btV]
def BtBlk (w:World) (p:Nat) (x:Bt):Prop:=w.heap[p]? = some (Obj.cells #[.int .i64 x.1,.int .i64 x.2] 67 (0,0))
theorem BtBlk.lt (h:BtBlk w p x):p<w.heap.size:=(Array.getElem?_eq_some_iff.1 h).1
theorem BtBlk.keep (h:BtBlk w p x)(hb:Below w.heap.size w w'):BtBlk w' p x:=(hb.block p h.lt).trans h
theorem BtBlk.c0 (h:BtBlk w p x):w.cell? ⟨p,0,none⟩=some (.int .i64 x.1):=by unfold BtBlk at h;rw [cell_of_row _ _ _ _ _ _ h];rfl
theorem BtBlk.c1 (h:BtBlk w p x):w.cell? ⟨p,1,none⟩=some (.int .i64 x.2):=by unfold BtBlk at h;rw [cell_of_row _ _ _ _ _ _ h];rfl
theorem BtBlk.fz (h:BtBlk w p x)(o:Nat):w.frozen? ⟨p,o,none⟩=false:=frozen_of_row w p _ _ _ h
theorem Zbq (w:World)(x:Bt):BtBlk (w.alloc (.cells #[.int .i64 x.1,.int .i64 x.2] 67)) w.heap.size x:=heap_alloc_new w _
theorem Zjf:∀args w,(callFunc 23 args).run Tryz.prog w=.ok (.enter 23 args) w:=Pl.qi Tryz.func23
theorem Zqz (w0 w:World)(b off len c i k:Nat)(hi:i<len)(hk:k<len)(x y:Rx)(hx:RwAt w0 b (off+i*6) x)(hy:RwAt w0 b (off+k*6) y)(af:x.r.key<18446744073709551616)(ag:y.r.key<18446744073709551616)(h:(Fl.key x.r.key == Fl.key y.r.key)=true)(hW:Below w0.heap.size w0 w)
    {Q:Exit→Act→World→Prop}{A:Act}(ae:A.tmps.size=85)(ad:A.defers=[])(s6:A.tmps.getD 6 undef=.slice (some ⟨b,off,none⟩) len c)(s8:A.tmps.getD 8 undef=.int .i64 (i:Int))(s9:A.tmps.getD 9 undef=.int .i64 (k:Int))
    (hend:∀(u:Nat→Value) w',Below w0.heap.size w0 w'→Q .normal ((Pl.pu A u [60,61,62,63,64,65,66,67,68,69]).put (some 70) (.bool true)) w') :
    (Code.region 19 (Pl.find 19 ((Tryz.f39.body).getD .skip)) true).wp Tryz.prog Q A w:=by
  have aa:Below w0.heap.size w0 w.drew:=hW.drew;have hA:=Pl.At.same (v:=.int .i64 (k:Int)) (d:=9) (Pl.At.same (v:=.int .i64 (i:Int)) (d:=8) (Pl.At.same (v:=.slice (some ⟨b,off,none⟩) len c) (d:=6) (Pl.At.here ae ad) s6) s8) s9;refine Pl.qa (S:=fun w'=>Below w0.heap.size w0 w') hA aa ?_;rw [show (Pl.find 19 ((Tryz.f39.body).getD .skip)).size=11 by kernel_rfl];refine Pl.q0 0 60 (.slice (some ⟨b,off,none⟩) len c) (Pl.q1) (Pl.q2 (.tmp 6)) aa ?_;refine Pl.q0 1 61 (.int .i64 (i:Int)) (Pl.q1) (Pl.q2 (.tmp 8)) aa ?_;refine Pl.q0 2 62 (.pointer (some ⟨b,off+i*6,none⟩)) (Pl.q1) (Pl.qb 49 (.tmp 60) (.tmp 61) (ZaW b off len c i hi)) aa ?_;refine Pl.q0 3 63 (.pointer (some ⟨b,off+i*6,none⟩)) (Pl.q1) (Pl.q5 39 (.tmp 62) 0 (Zl1 b (off+i*6))) aa ?_;refine Pl.q0 4 64 (.float .f64 x.r.key) (Pl.q1) (Pl.q4 32 (.tmp 63) (fun w' hS=>Zcd (hx.keep hS (Nat.le_refl _)).c0)) aa ?_;refine Pl.q0 5 65 (.slice (some ⟨b,off,none⟩) len c) (Pl.q1) (Pl.q2 (.tmp 6)) aa ?_;refine Pl.q0 6 66 (.int .i64 (k:Int)) (Pl.q1) (Pl.q2 (.tmp 9)) aa ?_;refine Pl.q0 7 67 (.pointer (some ⟨b,off+k*6,none⟩)) (Pl.q1) (Pl.qb 49 (.tmp 65) (.tmp 66) (ZaW b off len c k hk)) aa ?_;refine Pl.q0 8 68 (.pointer (some ⟨b,off+k*6,none⟩)) (Pl.q1) (Pl.q5 39 (.tmp 67) 0 (Zl1 b (off+k*6))) aa ?_;refine Pl.q0 9 69 (.float .f64 y.r.key) (Pl.q1) (Pl.q4 32 (.tmp 68) (fun w' hS=>Zcd (hy.keep hS (Nat.le_refl _)).c0)) aa ?_;refine Pl.qd 10 70 23 [(.tmp 64),(.tmp 69)] #[32,32] (Pl.q1) Zjf (Calls.mono (ZiQ h af ag w.drew) ?_);rintro e w1 ⟨rfl,ac⟩;have ab:Below w0.heap.size w0 w1:=Zac aa ac;refine⟨.bool true,rfl,ab,?_⟩;refine Pl.q8 (fun A' hA'=>?_);rw [Pl.At.ext hA' (((((((((((hA.put 60 _).put 61 _).put 62 _).put 63 _).put 64 _).put 65 _).put 66 _).put 67 _).put 68 _).put 69 _).put 70 _)];exact hend hA'.fn _ ab
theorem Zqy (w0 w:World)(b off len c i k:Nat)(hi:i<len)(hk:k<len)(x y:Rx)(hx:RwAt w0 b (off+i*6) x)(hy:RwAt w0 b (off+k*6) y)(af:x.r.key<18446744073709551616)(ag:y.r.key<18446744073709551616)(h:(Fl.key x.r.key == Fl.key y.r.key)=false)(hW:Below w0.heap.size w0 w)
    {Q:Exit→Act→World→Prop}{A:Act}(ae:A.tmps.size=85)(ad:A.defers=[])(s6:A.tmps.getD 6 undef=.slice (some ⟨b,off,none⟩) len c)(s8:A.tmps.getD 8 undef=.int .i64 (i:Int))(s9:A.tmps.getD 9 undef=.int .i64 (k:Int))
    (hend:∀(u:Nat→Value) w',Below w0.heap.size w0 w'→Q .normal ((Pl.pu A u [60,61,62,63,64,65,66,67,68,69]).put (some 70) (.bool false)) w') :
    (Code.region 19 (Pl.find 19 ((Tryz.f39.body).getD .skip)) true).wp Tryz.prog Q A w:=by
  have aa:Below w0.heap.size w0 w.drew:=hW.drew;have hA:=Pl.At.same (v:=.int .i64 (k:Int)) (d:=9) (Pl.At.same (v:=.int .i64 (i:Int)) (d:=8) (Pl.At.same (v:=.slice (some ⟨b,off,none⟩) len c) (d:=6) (Pl.At.here ae ad) s6) s8) s9;refine Pl.qa (S:=fun w'=>Below w0.heap.size w0 w') hA aa ?_;rw [show (Pl.find 19 ((Tryz.f39.body).getD .skip)).size=11 by kernel_rfl];refine Pl.q0 0 60 (.slice (some ⟨b,off,none⟩) len c) (Pl.q1) (Pl.q2 (.tmp 6)) aa ?_;refine Pl.q0 1 61 (.int .i64 (i:Int)) (Pl.q1) (Pl.q2 (.tmp 8)) aa ?_;refine Pl.q0 2 62 (.pointer (some ⟨b,off+i*6,none⟩)) (Pl.q1) (Pl.qb 49 (.tmp 60) (.tmp 61) (ZaW b off len c i hi)) aa ?_;refine Pl.q0 3 63 (.pointer (some ⟨b,off+i*6,none⟩)) (Pl.q1) (Pl.q5 39 (.tmp 62) 0 (Zl1 b (off+i*6))) aa ?_;refine Pl.q0 4 64 (.float .f64 x.r.key) (Pl.q1) (Pl.q4 32 (.tmp 63) (fun w' hS=>Zcd (hx.keep hS (Nat.le_refl _)).c0)) aa ?_;refine Pl.q0 5 65 (.slice (some ⟨b,off,none⟩) len c) (Pl.q1) (Pl.q2 (.tmp 6)) aa ?_;refine Pl.q0 6 66 (.int .i64 (k:Int)) (Pl.q1) (Pl.q2 (.tmp 9)) aa ?_;refine Pl.q0 7 67 (.pointer (some ⟨b,off+k*6,none⟩)) (Pl.q1) (Pl.qb 49 (.tmp 65) (.tmp 66) (ZaW b off len c k hk)) aa ?_;refine Pl.q0 8 68 (.pointer (some ⟨b,off+k*6,none⟩)) (Pl.q1) (Pl.q5 39 (.tmp 67) 0 (Zl1 b (off+k*6))) aa ?_;refine Pl.q0 9 69 (.float .f64 y.r.key) (Pl.q1) (Pl.q4 32 (.tmp 68) (fun w' hS=>Zcd (hy.keep hS (Nat.le_refl _)).c0)) aa ?_;refine Pl.qd 10 70 23 [(.tmp 64),(.tmp 69)] #[32,32] (Pl.q1) Zjf (Calls.mono (ZiQ h af ag w.drew) ?_);rintro e w1 ⟨rfl,ac⟩;have ab:Below w0.heap.size w0 w1:=Zac aa ac;refine⟨.bool false,rfl,ab,?_⟩;refine Pl.q8 (fun A' hA'=>?_);rw [Pl.At.ext hA' (((((((((((hA.put 60 _).put 61 _).put 62 _).put 63 _).put 64 _).put 65 _).put 66 _).put 67 _).put 68 _).put 69 _).put 70 _)];exact hend hA'.fn _ ab
def rk (R:List Rx) (i:Nat):Nat:=(R.getD i Rx.zero).r.key
theorem ZfH {l:List Hr}(h:rws R=hrsR l)(hi:i<l.length):(R.getD i Rx.zero).r=l[i].r:=by
 (have hl:R.length=l.length:=by have:=congrArg List.length h;simpa [rws,hrsR] using this);(have h1:(rws R)[i]? = (hrsR l)[i]?:=by rw [h]);(have hi':i<R.length:=by omega);simp only [rws,hrsR,List.getElem?_map,List.getElem?_eq_getElem hi,List.getElem?_eq_getElem hi',Option.map_some,Option.some.injEq] at h1;simp [List.getD,hi',h1]
theorem Zev {l:List Hr}(h:rws R=hrsR l):R.length=l.length:=by have:=congrArg List.length h;simpa [rws,hrsR] using this
theorem Ziq {l:List Lf}(h:rws R=hrsR (allH l)):ZbE (allH l)↔∀i,i<R.length→∀k,k<i→(Fl.key (rk R i) == Fl.key (rk R k))=false:=by
 have hl:=Zev h;unfold ZbE;rw [List.pairwise_iff_getElem];have key:∀i,(hi:i<(allH l).length)→Fl.key (rk R i)=(allH l)[i].r.key:=by
  intro i hi;unfold rk;rw [ZfH h hi];exact(Zcp (List.getElem_mem hi)).1
 constructor
 · intro hp i hi k hk;rw [key i (by omega),key k (by omega)];rw [beq_eq_false_iff_ne];exact fun e=>hp k i (by omega) (by omega) hk e.symm
 · intro hp k i hk hi aa;have:=hp i (by omega) k aa;rw [key i hi,key k hk,beq_eq_false_iff_ne] at this;exact fun e=>this e.symm
def ZfN (l:List Lf) (e:Ending):Prop:=∃r:Bool,e=.returned (.bool r)∧(r=true↔MayH l)
theorem ZeI {l:List Lf}(h:¬MayH l):ZfN l (.returned (.bool false)):=⟨false,rfl,by simp [h]⟩
theorem Zmz {D:Nat→Prop}(w:World)(s:Sl)(L:List Lb)(h:Gl D w s L) :
    Calls Tryz.prog 39 #[s.val] w fun e w'=>ZfN (lfs L) e∧Below w.heap.size w w':=by
  have bg:=hide (fun w' (hb:Below w.heap.size w w')=>Zgy w' s L (h.below hb (Nat.le_refl _)));obtain⟨a,len,cap⟩:=s;have H:=hide h;have cp:len≤900:=h.big;(have HL:Hid ((lfs L).length=len):=by show _=_;rw [Zbe];exact h.len);clear h;unfold Sl.val at *;simp only at *;go_enter Tryz.func39,Tryz.ntmps39;go_wp2_with fail;go_loopw [3,4] (fun nv iv wr=>∃i:Nat,i≤len∧iv=.int .i64 (i:Nat)∧nv=.int .i64 ((fillH ((lfs L).take i):Nat):Int)∧fillH ((lfs L).take i)≤i*1000∧Hid (∀j,j<i→MayL (lf (lfs L) j))∧Hid (Below w.heap.size w wr)) (fun _ iv _=>len-(intOf iv).toNat)
  case atStart=>exact ⟨0,Nat.zero_le _,rfl,rfl,Nat.zero_le _,(fun j hj=>absurd hj (Nat.not_lt_zero _)),Below.refl _ _⟩
  case round =>
   obtain⟨i,hi,rfl,rfl,hn,ad,hW⟩:=hrel;rcases Nat.lt_or_ge i len with ae | ce
   · (have j1:(i:Int)<(len:Int):=by omega);have bm:=H.out.below hW.out (Nat.le_refl _);have av:i<(Sl.mk a len cap).len:=ae;obtain⟨b,off,ha,c0,c1⟩:=bm.cell i av;replace ha:a=some ⟨b,off,none⟩:=ha;subst ha;have ar:=bm.at av;obtain⟨x,hx⟩:∃x,x=L.getD i Lb.zero:=⟨_,rfl⟩;rw [← hx] at c0 c1 ar;obtain⟨⟨ua,un,uc⟩,⟨va,vn,vc⟩,xt,xl⟩:=x;(have HF:Hid (lf (lfs L) i=⟨xt,bss xl⟩):=by show _=_;rw [Zf1,← hx];rfl);have bh:=hide c0;have aw:=hide c1;have bx:=hide (ZdC c0 c1);have cr:=hide (Zda b off len cap i ae);have ac:=hide (Zm2 wr ⟨ua,un,uc⟩ ⟨va,vn,vc⟩ xt xl ar.1 ar.2);have ax:=hide ar.2;unfold lfV Sl.val at ac bx;simp only at ac bx;clear bm ar hx c0 c1;unfold Sl.val at bh aw;simp only at bh aw;have c0:=bh.out;have c1:=aw.out;go_wp2_with fail;refine ac.out.mono ?_;rintro e w1 ⟨⟨r,rfl,hr⟩,ap⟩;have ao:=hide (Zac hW.out ap);cases r with
     | false =>
      (have cg:¬MayL ⟨xt,bss xl⟩:=fun hh=>by have:=hr.2 hh;cases this);have bj:Hid (¬MayH (lfs L)):=fun hh=>cg (by rw [← HF.out];exact hh.leaf _ (Zc6 (by rw [HL.out];exact ae)));clear hr cg ap ac c0 c1 ad;go_wp2_with fail;go_ret;exact⟨ZeI bj.out,ao.out⟩
     | true =>
      have hm:=hr.1 rfl;have HM:=hide hm;have am:Hid (∀j,j<i+1→MayL (lf (lfs L) j)):=by
       intro j hj;rcases Nat.lt_or_ge j i with h1 | h1
       · exact ad.out j h1
       · rw [show j=i by omega,HF.out];exact hm
      (have ca:Hid ((bss xl).length=vn):=by show _=_;rw [Zaj];exact ax.out.len);have ct:vn≤1000:=ax.out.big;have d1:w1.cell? ⟨b,off+i*2+1,none⟩=some (.slice va vn vc):=Zag aw.out ap;have bv:=hide d1;have bw:=hide (ax.out.below ap (Nat.le_refl _));obtain⟨n0,bo⟩:∃n,n=fillH ((lfs L).take i):=⟨_,rfl⟩;rw [← bo] at hn ⊢;have co:=hide bo;clear hr hm ap ac c0 c1 ad bo ax;go_wp2_with fail;go_loopw [3,5] (fun nv kv wr2=>∃k:Nat,k≤vn∧kv=.int .i64 (k:Nat)∧wr2=w1∧nv=.int .i64 ((n0+fillS ((bss xl).take k):Nat):Int)∧fillS ((bss xl).take k)≤k) (fun _ kv _=>vn-(intOf kv).toNat)
      case atStart=>exact ⟨0,Nat.zero_le _,rfl,rfl,by simp [fillS],by simp [fillS]⟩
      case round =>
       obtain⟨k,hk,rfl,rfl,rfl,bb⟩:=hrel;rcases Nat.lt_or_ge k vn with bd | cf
       · (have j2:(k:Int)<(vn:Int):=by omega);have au:k<(Sl.mk va vn vc).len:=bd;obtain⟨vb,vo,bt,e0⟩:=bw.out.cell k au;replace bt:va=some ⟨vb,vo,none⟩:=bt;subst bt;have az:=(bw.out.at au).1;obtain⟨⟨sa,sn,sc⟩,bq⟩:∃s,s=(xl.getD k Sb.zero).s:=⟨_,rfl⟩;rw [← bq] at e0 az;have br:(sl (bss xl) k).length=sn:=az.came.bs.1;have af:=ZjY (s:=bss xl) (k:=k) (by rw [ca.out];exact bd);rw [br] at af;unfold Sl.val at e0;simp only at e0;(have cj:IntKind.i64.wrap (((n0+fillS ((bss xl).take k):Nat):Int)+1)=((n0+fillS ((bss xl).take k):Nat):Int)+1:=by rw [IntKind.wrap_i64];omega);have d1:=bv.out;by_cases hp:0<sn
         · (have j3:(0:Int)<(sn:Int):=by omega);rw [if_pos hp] at af;have aa:=hide af;obtain⟨q,hq⟩:∃q,q=fillS ((bss xl).take k):=⟨_,rfl⟩;rw [← hq] at bb aa cj ⊢;clear bq az br af hq;go_wp2_with fail;go_roundw
           case rel=>exact ⟨k+1,by omega,by go_num,trivial,by rw [aa.out];go_num,by rw [aa.out];omega⟩
           case measure=>simp only [intOf];omega
         · (have j3:¬(0:Int)<(sn:Int):=by omega);rw [if_neg hp,Nat.add_zero] at af;have aa:=hide af;obtain⟨q,hq⟩:∃q,q=fillS ((bss xl).take k):=⟨_,rfl⟩;rw [← hq] at bb aa cj ⊢;clear bq az br af hq;go_wp2_with fail;go_roundw
           case rel=>exact ⟨k+1,by omega,by go_num,trivial,by rw [aa.out];rfl,by rw [aa.out];omega⟩
           case measure=>simp only [intOf];omega
       · (have j2:¬(k:Int)<(vn:Int):=by omega);(have e0:k=vn:=by omega);(have ci:fillS ((bss xl).take k)=fillS (bss xl):=by rw [List.take_of_length_le (by rw [ca.out];exact cf)]);(have af:fillH ((lfs L).take (i+1))=n0+fillS (bss xl):=by rw [ZjX (by rw [HL.out];exact ae),HF.out,co.out]);rw [ci] at bb ⊢;have aa:=hide af;have d1:=bv.out;obtain⟨q,hq⟩:∃q,q=fillS (bss xl):=⟨_,rfl⟩;rw [← hq] at bb aa ⊢;clear ci af hq e0;go_wp2_with fail;go_roundw
         case rel=>exact ⟨i+1,by omega,by go_num,by rw [aa.out],by rw [aa.out];omega,am,ao⟩
         case measure=>simp only [intOf];omega
   · (have j1:¬(i:Int)<(len:Int):=by omega);(have e0:i=len:=by omega);(have cd:fillH ((lfs L).take i)=fillH (lfs L):=by rw [List.take_of_length_le (by rw [HL.out];exact ce)]);have al:Hid (∀f∈lfs L,MayL f):=by
      intro f hf;obtain⟨j,hj,rfl⟩:=List.getElem_of_mem hf;rw [← ZdX hj];exact ad.out j (by rw [HL.out] at hj;omega)
     have bu:=hide (bg.out wr hW.out);rw [cd] at hn ⊢;(have cq:fillH (lfs L)≤900000:=by have:i*1000≤900*1000:=Nat.mul_le_mul_right _ (by omega);omega);obtain⟨N,hN⟩:∃N,N=fillH (lfs L):=⟨_,rfl⟩;rw [← hN] at cq ⊢;have bi:=hide hN;clear hn hN cd e0 ad;go_wp2_with fail;refine bu.out.mono ?_;rintro e w1 ⟨⟨ra,rn,rc⟩,⟨ba,bn,bc⟩,R,rfl,hT⟩;have aj:=hT.i.rows.rz;have bp:R.length=rn:=aj.len;have ao:=hide (Zac hW.out hT.i.below);have bz:=hide bp;have an:=hide aj;have ak:=hide (Ziq hT.r);(have ab:Hid ((allH (lfs L)).length=rn):=by show _=_;rw [← Zev hT.r,bp]);(have cs:rn≤N:=by rw [← ab.out,bi.out];exact (ZdG (lfs L) 0).1);clear hT aj bp bu;go_wp2_with fail;go_loopw [8] (fun iv wr2=>∃i:Nat,i≤rn∧iv=.int .i64 (i:Nat)∧Hid (∀j,j<i→∀k,k<j→(Fl.key (rk R j) == Fl.key (rk R k))=false)∧Hid (Below w1.heap.size w1 wr2)) (fun iv _=>rn-(intOf iv).toNat)
     case atStart=>exact ⟨0,Nat.zero_le _,rfl,(fun j hj=>absurd hj (Nat.not_lt_zero _)),Below.refl _ _⟩
     case round =>
      rename World=>wi;obtain⟨i,hi,rfl,be,bl⟩:=hrel;rcases Nat.lt_or_ge i rn with ae | ce
      · (have j1:(i:Int)<(rn:Int):=by omega);go_wp2_with fail;go_loopw [9] (fun kv wr2=>∃k:Nat,k≤i∧kv=.int .i64 (k:Nat)∧Hid (∀m,m<k→(Fl.key (rk R i) == Fl.key (rk R m))=false)∧Hid (Below w1.heap.size w1 wr2)) (fun kv _=>i-(intOf kv).toNat)
        case atStart=>exact ⟨0,Nat.zero_le _,rfl,(fun j hj=>absurd hj (Nat.not_lt_zero _)),bl⟩
        case round =>
         rename World=>wk;obtain⟨k,hk,rfl,bf,ay⟩:=hrel;rcases Nat.lt_or_ge k i with bd | cf
         · (have j2:(k:Int)<(i:Int):=by omega);have aj:=an.out.keep ay.out (Nat.le_refl _);obtain⟨b1,o1,ch,hx⟩:=aj.at' i ae;obtain⟨b2,o2,ai,hy⟩:=aj.at' k (by omega);rw [ch] at ai;simp only [Option.some.injEq,Addr.mk.injEq,and_true] at ai;obtain⟨rfl,rfl⟩:=ai;subst ch;have ck:=(an.out.fits _ (an.out.mem ae)).key;have cl:=(an.out.fits _ (an.out.mem (show k<rn by omega))).key;have HX:=hide hx;have HY:=hide hy;have cb:=hide ck;have cc:=hide cl;clear aj hx hy ck cl;go_wp2_with fail;refine Pl.q9 (ops:=Pl.find 19 ((Tryz.f39.body).getD .skip)) ?_;cases hq:(Fl.key (rk R i) == Fl.key (rk R k)) with
           | true =>
            refine Zqz wk wk b1 o1 rn rc i k ae (by omega) _ _ HX.out HY.out cb.out cc.out hq (Below.refl _ _) (by rfl) (by rfl) (by rfl) (by rfl) (by rfl) ?_;intro u w3 aq;simp only [Pl.pu,List.foldl,Act.put,List.setIfInBounds_toArray,List.set_cons_zero,List.set_cons_succ];have bj:Hid (¬MayH (lfs L)):=by
             intro hh;have:=ak.out.1 hh.keys i (by rw [bz.out];exact ae) k bd;rw [hq] at this;cases this
            have ah:=hide (Zac ao.out (Zac ay.out aq));clear aq hq;go_wp2_with fail;go_ret;exact⟨ZeI bj.out,ah.out⟩
           | false =>
            refine Zqy wk wk b1 o1 rn rc i k ae (by omega) _ _ HX.out HY.out cb.out cc.out hq (Below.refl _ _) (by rfl) (by rfl) (by rfl) (by rfl) (by rfl) ?_;intro u w3 aq;simp only [Pl.pu,List.foldl,Act.put,List.setIfInBounds_toArray,List.set_cons_zero,List.set_cons_succ];have cn:Hid (∀m,m<k+1→(Fl.key (rk R i) == Fl.key (rk R m))=false):=by
             intro m hm;rcases Nat.lt_or_ge m k with h1 | h1
             · exact bf.out m h1
             · rw [show m=k by omega];exact hq
            have ah:=hide (Zac ay.out aq);clear aq hq bf;go_wp2_with fail;go_roundw
            case rel=>exact ⟨k+1,by omega,by go_num,cn,ah⟩
            case measure=>simp only [intOf];omega
         · (have j2:¬(k:Int)<(i:Int):=by omega);have cm:Hid (∀j,j<i+1→∀m,m<j→(Fl.key (rk R j) == Fl.key (rk R m))=false):=by
            intro j hj m hm;rcases Nat.lt_or_ge j i with h1 | h1
            · exact be.out j h1 m hm
            · (have e:j=i:=by omega);subst e;exact bf.out m (by omega)
           clear bf be;go_wp2_with fail;go_roundw
           case rel=>exact ⟨i+1,by omega,by go_num,cm,ay⟩
           case measure=>simp only [intOf];omega
      · (have j1:¬(i:Int)<(rn:Int):=by omega);have bk:Hid (ZbE (allH (lfs L))):=ak.out.2 (fun j hj k hk=>be.out j (by rw [bz.out] at hj;omega) k hk);have ah:=hide (Zac ao.out bl.out);have ag:Hid (∀r:Bool,(r=true↔(N=rn∧1≤len∧len≤62))→ZfN (lfs L) (.returned (.bool r))):=by
         intro r hr;refine⟨r,rfl,hr.trans ⟨fun hh=>⟨al.out,?_,bk.out,by rw [HL.out];exact hh.2.1,by rw [HL.out];exact hh.2.2⟩,fun hh=>⟨?_,?_,?_⟩⟩⟩
         · exact Zf2.1 (by rw [ab.out,← bi.out];exact hh.1)
         · rw [bi.out,← ab.out];exact Zf2.2 hh.rows
         · rw [← HL.out];exact hh.pos
         · rw [← HL.out];exact hh.few
        clear be bl;by_cases e1:N=rn
        · (have i1:(N:Int)=(rn:Int):=by omega);by_cases e2:1≤len
          · (have i2:(1:Int)≤(len:Int):=by omega);by_cases e3:len≤62
            · (have i3:(len:Int)≤62:=by omega);have HE:=hide (ag.out true (by simp [e1,e2,e3]));go_wp2_with fail;go_ret;exact⟨HE.out,ah.out⟩
            · (have i3:¬(len:Int)≤62:=by omega);have HE:=hide (ag.out false (by simp [e3]));go_wp2_with fail;go_ret;exact⟨HE.out,ah.out⟩
          · (have i2:¬(1:Int)≤(len:Int):=by omega);have HE:=hide (ag.out false (by simp [e2]));go_wp2_with fail;go_ret;exact⟨HE.out,ah.out⟩
        · (have i1:¬(N:Int)=(rn:Int):=by omega);have HE:=hide (ag.out false (by simp [e1]));go_wp2_with fail;go_ret;exact⟨HE.out,ah.out⟩
end Go.Proofs.YtiecfcjlhldhdaaGreat
