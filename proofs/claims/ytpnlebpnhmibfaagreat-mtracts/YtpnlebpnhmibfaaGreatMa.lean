/-
  Lemmas.
-/
import Derived.Test.YtpnlebpnhmibfaaGreatBl
import Derived.Test.YtpnlebpnhmibfaaGreatRc
import Derived.Test.YtpnlebpnhmibfaaGreatBa
namespace Go.Proofs.YtpnlebpnhmibfaaGreat
open Go.RowKit
set_option linter.unusedVariables false
set_option maxRecDepth 100000
set_option maxHeartbeats 4000000
variable {P:Po}{n m d p c:Nat}{w w1 w2 w':World}{M:PoM}{L:Dl}{A:Act}{D:Ds}
def Po.putA (P:Po) (n:Nat) (i:Im) (z:Int):Po:=if 0≤i.page∧i.page<((n:Nat):Int) then P.set i.page.toNat i.bs z else P
def Po.puts (P:Po) (n:Nat) (g:List Im) (z:Int):Po:=g.foldl (fun Q i=>Q.putA n i z) P
def Po.syncM (P:Po):Po:=({ P with D:=P.D.sync }:Po).synced
def Po.trimM (P:Po):Po:={ P with D:=P.D.trim (P.D.sb+P.D.ss.length) }
def Po.check (P:Po) (n:Nat):Po:=(P.flush n).syncM.trimM.syncM
noncomputable def Po.rep (n:Nat):Nat→Po→Int→List Nat→Po
  | 0,P,_,_=>P
  | f+1,P,z,xs=>if (dec xs).e=0 then Po.rep n f (P.puts n (dec xs).g (z+(((dec xs).n:Nat):Int))) (z+(((dec xs).n:Nat):Int)) (xs.drop (dec xs).n) else P
noncomputable def Po.opened (D:Ds) (n f:Nat):Po:=(Po.rep n (D.ss.length+1) (Po.new D f) ((D.sb:Nat):Int) D.ss).check n
theorem ZkN (P:Po)(z:Int):(P.ahead z).D.sb=P.D.sb:=by
 unfold Po.ahead;split
 · exact P.D.sync_sp.2.2
 · rfl
theorem Zij (P:Po)(k:Nat):(P.write k).D.sb=P.D.sb:=by
 unfold Po.write;cases P.m k with
 | none=>rfl
 | some s =>
  simp only;split
  · show ((P.ahead s.place).D.write k s.b).sb=_;rw [((P.ahead s.place).D.write_ss k s.b).2,ZkN]
  · rfl
theorem Zl1 (P:Po)(k:Nat):(P.letIn k).D.sb=P.D.sb:=by
 have h1:∀(Q:Po) (z:Int),(Q.left z).D.sb=Q.D.sb:=fun Q z=>by
  unfold Po.left;split
  · exact Zij Q _
  · rfl
 have h2:∀(Q:Po),(Q.fetch k).D.sb=Q.D.sb:=fun Q=>by
  unfold Po.fetch;split <;> rfl
 unfold Po.letIn;rw [h2,h1];rfl
theorem ZgC:∀(L:List Nat)(P:Po),(L.foldl Po.write P).D.sb=P.D.sb
 | [],P=>rfl
 | p :: L,P=>by rw [List.foldl_cons,ZgC L,Zij]
theorem Zls (P:Po)(n:Nat):(P.flush n).D.sb=P.D.sb:=ZgC _ _
theorem Zlt (P:Po)(n:Nat):(P.flush n).D.ss=P.D.ss:=Zdw _ _
theorem Znt (P:Po)(n:Nat)(i:Im)(z:Int):(P.putA n i z).D.sb=P.D.sb:=by
 unfold Po.putA;split
 · exact Zl1 P _
 · rfl
theorem Znu (P:Po)(n:Nat)(i:Im)(z:Int):(P.putA n i z).D.ss=P.D.ss:=by
 unfold Po.putA;split
 · exact Zf6 P _
 · rfl
theorem Zhe (n:Nat)(z:Int):∀(g:List Im)(P:Po),(P.puts n g z).D.sb=P.D.sb
 | [],P=>rfl
 | i :: g,P=>(Zhe n z g (P.putA n i z)).trans (Znt P n i z)
theorem Zhf (n:Nat)(z:Int):∀(g:List Im)(P:Po),(P.puts n g z).D.ss=P.D.ss
 | [],P=>rfl
 | i :: g,P=>(Zhf n z g (P.putA n i z)).trans (Znu P n i z)
theorem Po.Fine.putA (h:P.Fine n c)(hc:c+4≤9000){i:Im}(hb:i.bs.length=512)(hx:Bytes i.bs)(z:Int):(P.putA n i z).Fine n (c+4):=by
 unfold Po.putA;split
 · exact h.set hc (by omega) hb hx z
 · exact h.more (by omega) hc
theorem Po.Fine.puts {z:Int}:∀(g:List Im){P:Po}{c:Nat},P.Fine n c→c+4*g.length≤9000→(∀i∈g,i.bs.length=512)→ImB g→(P.puts n g z).Fine n (c+4*g.length)
 | [],P,c,h,_,_,_=>h
 | i :: g,P,c,h,hc,hl,hb=>by
  rw [List.length_cons] at hc ⊢
  have h1:=h.putA (by omega) (hl i (by simp)) (hb i (by simp)) z
  have:=Po.Fine.puts (z:=z) g h1 (by omega) (fun j hj=>hl j (by simp [hj])) (fun j hj=>hb j (by simp [hj]))
  rw [show c+4*(g.length+1)=c+4+4*g.length by omega]
  exact this
theorem Po.Ok.dev (h:P.Ok n)(hs:D.sp=P.D.sp)(y:Int):(Po.mk D P.l P.h P.m y).Ok n:=by
 (have hp:∀k,D.page k=P.D.page k:=fun k=>by unfold Ds.page;rw [hs]);exact⟨⟨by show D.sp.length=_;rw [hs];exact h.sp,h.n64,h.sh,fun k s hk hd=>by show s.b=D.page k;rw [hp];exact h.clean k s hk hd⟩,⟨h.may,h.pin,h.inn⟩⟩
theorem Po.con_dev (hs:D.sp=P.D.sp)(y:Int)(k:Nat):(Po.mk D P.l P.h P.m y).con k=P.con k:=by
 unfold Po.con Ds.page;simp only [hs]
theorem Po.Fine.syncD (h:P.Fine n c):({ P with D:=P.D.sync }:Po).Fine n c:=
 ⟨h.ok.dev P.D.sync_sp.1 _,⟨h.wet.dev.sync,h.wet.sh⟩,h.cap,by show P.D.sync.ss.length≤_;rw [P.D.sync_sp.2.1];exact h.ss⟩
theorem Po.Fine.synced (h:P.Fine n c):P.synced.Fine n c:=⟨h.ok.dev rfl _,⟨h.wet.dev,h.wet.sh⟩,h.cap,h.ss⟩
theorem Po.Fine.syncM (h:P.Fine n c):P.syncM.Fine n c:=h.syncD.synced
theorem ZkD (P:Po)(k:Nat):P.syncM.con k=P.con k:=Po.con_dev P.D.sync_sp.1 _ k
theorem Zmf (P:Po):P.syncM.D.sb=P.D.sb:=P.D.sync_sp.2.2
theorem Zmg (P:Po):P.syncM.D.ss=P.D.ss:=P.D.sync_sp.2.1
theorem Ds.trim_cases (D:Ds)(hl:D.armed=true→0≤D.left∧D.left≤9223372036854775807)(pl:Nat) :
    ∃l:Int,(D.armed=true→0≤l∧l≤9223372036854775807)∧((D.gone=false∧D.trim pl = { D with ss:=D.ss.drop (pl-D.sb),sb:=pl,tr:=D.tr ++ [⟨D.units,pl⟩],left:=l })∨D.trim pl = { D with ss:=D.ss.drop (pl-D.sb),sb:=pl,left:=l,gone:=true }):=by
  unfold Ds.trim;rcases (D.trim0 pl).spend_cases 1 with ⟨e,e2,hg⟩ | ⟨e,e2,hg,ha⟩ | ⟨e,e2,hg,ab⟩ | ⟨e,e2,hg,aa⟩
  · refine⟨D.left,hl,.inr ?_⟩;have hg':D.gone=true:=hg;rw [if_neg (by rw [e2];decide),e];unfold Ds.trim0;rw [← hg']
  · refine⟨D.left,hl,.inl ⟨hg,?_⟩⟩;rw [if_pos e2,e];rfl
  · have h0:D.spent 1=D.left.toNat∨True:=.inr trivial;refine⟨0,fun _=>by omega,.inr ?_⟩;have ha:D.armed=true:=by
     cases hh:D.armed
     · exfalso;have h1:(D.trim0 pl).spent 1=1:=by
        unfold Ds.spent;rw [if_neg (by rw [hg];decide),if_pos (show (D.trim0 pl).armed=false from hh)]
       have h2:(D.trim0 pl).spend 1=D.trim0 pl:=by
        unfold Ds.spend;rw [if_neg (by rw [hg];decide),if_pos (show (D.trim0 pl).armed=false from hh)]
       have h3:=congrArg Ds.gone (h2.symm.trans e);rw [hg] at h3;cases h3
     · rfl
    have h1:=(hl ha).1;have h2:(D.trim0 pl).left=D.left:=rfl;rw [if_neg (by rw [e2];omega),e];rfl
  · refine⟨D.left-1,fun ha=>?_,.inl ⟨hg,?_⟩⟩
    · have:=hl ha;have h2:(D.trim0 pl).left=D.left:=rfl;omega
    · rw [if_pos e2,e];rfl
structure Ds.Cut (D E:Ds) (n c:Nat):Prop where
  sane:E.Sane n
  fit:E.gone=false→E.Fit E.units E.tr.length
  easy:E.sync.Easy n c
  sp:E.sp=D.sp
  ss:E.ss=[]
  sb:E.sb=D.sb+D.ss.length
theorem Ds.Easy.cut (h:D.Easy n c)(hc:c≤100000)(hs:D.sb+D.ss.length≤900000000000):D.Cut (D.trim (D.sb+D.ss.length)) n c:=by
 obtain⟨l,hl,⟨hg,e⟩ | e⟩:=D.trim_cases h.al (D.sb+D.ss.length)
 · rw [e];obtain⟨k1,k2⟩:=h.ki hg;have ht:=h.tr;have hu:D.units=D.ap.length:=h.units_is;(have ac:D.ks.length+D.ap.length=D.ss.length:=by rw [← List.length_append,k2]);have hd:D.ss.drop (D.sb+D.ss.length-D.sb)=[]:=List.drop_eq_nil_of_le (by omega);have aa:Ds.sync { D with ss:=D.ss.drop (D.sb+D.ss.length-D.sb),sb:=D.sb+D.ss.length,tr:=D.tr ++ [(⟨D.units,D.sb+D.ss.length⟩:Tm)],left:=l } = { D with ss:=[],sb:=D.sb+D.ss.length,kp:=keepW [true] 0 D.wr D.kp,ks:=[],kb:=D.sb+D.ss.length,wr:=[],ap:=[],tr:=[],left:=l }:=by
    unfold Ds.sync;rw [if_neg (by show ¬D.gone=true;rw [hg];decide)];unfold Ds.keep Ds.keepU Ds.units;rw [if_neg (by show ¬(D.tr ++ [(⟨D.units,D.sb+D.ss.length⟩:Tm)]).length=0;simp)];simp only [ht,List.nil_append,List.length_cons,List.length_nil,hd];(have e1:D.ap.length+(0+1)-(0+1)=D.ap.length:=by omega);rw [e1,List.take_of_length_le (Nat.le_refl _),k2];have e2:(([⟨D.ap.length+0,D.sb+D.ss.length⟩]:List Tm).getD (0+1-1) tmD).place=D.sb+D.ss.length:=rfl;rw [e2,List.drop_eq_nil_of_le (by omega)]
   refine⟨⟨h.sp,h.kp,h.n1,h.n2,h.wr,Nat.le_trans h.wl hc,Nat.le_trans h.kl (by omega),by show (D.tr ++ [(⟨D.units,D.sb+D.ss.length⟩:Tm)]).length≤_;rw [ht];simp⟩,fun _=>⟨⟨Nat.le_refl _,?_,fun k=>absurd k (Nat.lt_irrefl _)⟩,?_,?_,?_⟩,?_,rfl,hd,rfl⟩
   · intro t ht';show ((D.tr ++ [(⟨D.units,D.sb+D.ss.length⟩:Tm)]).getD t tmD).ahead<D.ap.length+(D.tr ++ [(⟨D.units,D.sb+D.ss.length⟩:Tm)]).length;have ab:t<(D.tr ++ [(⟨D.units,D.sb+D.ss.length⟩:Tm)]).length:=ht';rw [ht] at ab ⊢;(obtain rfl:t=0:=by simp at ab;omega);show D.units<D.ap.length+1;omega
   · show (D.tr ++ [(⟨D.units,D.sb+D.ss.length⟩:Tm)]).length≤D.ap.length+(D.tr ++ [(⟨D.units,D.sb+D.ss.length⟩:Tm)]).length;omega
   · show D.ap.length+(D.tr ++ [(⟨D.units,D.sb+D.ss.length⟩:Tm)]).length-(D.tr ++ [(⟨D.units,D.sb+D.ss.length⟩:Tm)]).length≤D.ap.length;omega
   · intro _;show D.kb≤((D.tr ++ [(⟨D.units,D.sb+D.ss.length⟩:Tm)]).getD ((D.tr ++ [(⟨D.units,D.sb+D.ss.length⟩:Tm)]).length-1) tmD).place∧((D.tr ++ [(⟨D.units,D.sb+D.ss.length⟩:Tm)]).getD ((D.tr ++ [(⟨D.units,D.sb+D.ss.length⟩:Tm)]).length-1) tmD).place≤D.kb+(D.ks.length+(D.ap.length+(D.tr ++ [(⟨D.units,D.sb+D.ss.length⟩:Tm)]).length-(D.tr ++ [(⟨D.units,D.sb+D.ss.length⟩:Tm)]).length))∧((D.tr ++ [(⟨D.units,D.sb+D.ss.length⟩:Tm)]).getD ((D.tr ++ [(⟨D.units,D.sb+D.ss.length⟩:Tm)]).length-1) tmD).place≤_;rw [ht];show D.kb≤D.sb+D.ss.length∧D.sb+D.ss.length≤D.kb+(D.ks.length+(D.ap.length+1-1))∧D.sb+D.ss.length≤_;omega
   · rw [aa];exact⟨h.sp,ZaG _ _ _ _ _ h.wr h.kp,h.n1,h.n2,(fun x hx=>by cases hx),Nat.zero_le _,hl,rfl,hs,hs,(by show 0+0≤_;omega),(fun _=>⟨rfl,rfl⟩),h.bs,ZbT _ _ _ _ (fun x hx=>(h.wr x hx).byt) h.bk⟩
 · rw [e];have hd:D.ss.drop (D.sb+D.ss.length-D.sb)=[]:=List.drop_eq_nil_of_le (by omega);refine⟨⟨h.sp,h.kp,h.n1,h.n2,h.wr,Nat.le_trans h.wl hc,Nat.le_trans h.kl (by omega),by show D.tr.length≤_;rw [h.tr];simp⟩,(fun k=>by cases k),?_,rfl,hd,rfl⟩;rw [Ds.sync_gone rfl];exact⟨h.sp,h.kp,h.n1,h.n2,h.wr,h.wl,hl,h.tr,hs,h.kbn,h.kl,(fun k=>by cases k),h.bs,h.bk⟩
structure Po.Chk (P:Po) (n c:Nat):Prop where
  mid:(P.flush n).syncM.Fine n (c+4*n)
  cut:Ds.Cut (P.flush n).syncM.D (P.flush n).syncM.trimM.D n (c+4*n)
  fin:({ (P.flush n).syncM.trimM with D:=(P.flush n).syncM.trimM.D.sync }:Po).Fine n (c+4*n)
  fine:(P.check n).Fine n (c+4*n)
  con:∀k,k<n→(P.check n).con k=P.con k
  ss:(P.check n).D.ss=[]
  sb:(P.check n).D.sb=P.D.sb+P.D.ss.length
theorem Po.Fine.chk (h:P.Fine n c)(hc:c+4*n≤9000)(hs:P.D.sb+65536≤900000000000):P.Chk n c:=by
 have hf:=(h.flush hc).syncM;have ad:(P.flush n).syncM.D.ss=P.D.ss:=(Zmg _).trans (Zlt P n);have ab:(P.flush n).syncM.D.sb=P.D.sb:=(Zmf _).trans (Zls P n);have hcut:=hf.wet.dev.cut (by omega) (by rw [ad,ab];have:=h.ss;omega);have ac:(P.flush n).syncM.trimM.D.sync.sp=(P.flush n).syncM.D.sp:=(Ds.sync_sp _).1.trans hcut.sp;have aa:({ (P.flush n).syncM.trimM with D:=(P.flush n).syncM.trimM.D.sync }:Po).Fine n (c+4*n):=
  ⟨hf.ok.dev ac _,⟨hcut.easy,hf.wet.sh⟩,hf.cap,by show (P.flush n).syncM.trimM.D.sync.ss.length≤_;rw [(Ds.sync_sp _).2.1,show (P.flush n).syncM.trimM.D.ss=[] from hcut.ss];simp⟩
 refine⟨hf,hcut,aa,aa.synced,fun k hk=>?_,?_,?_⟩
 · show (Po.mk _ (P.flush n).syncM.l (P.flush n).syncM.h (P.flush n).syncM.m _).con k=_;rw [Po.con_dev ac,ZkD];exact h.ok.flush.1.con k hk
 · show (P.flush n).syncM.trimM.D.sync.ss=[];rw [(Ds.sync_sp _).2.1];exact hcut.ss
 · show (P.flush n).syncM.trimM.D.sync.sb=_;rw [(Ds.sync_sp _).2.2,show (P.flush n).syncM.trimM.D.sb=_ from hcut.sb,ad,ab]
theorem Zfv {b:List Nat}(h:(dec b).e=0):(dec b).n=7+513*(dec b).g.length:=by
 revert h;unfold dec;split
 · intro h;cases h
 · split
   · intro h;cases h
   · split
     · unfold grp;split
       · rename_i h1 h2 _ hc;intro _;show 2+said b=7+513*(imgs _ _).length;rw [ZbS];have h3:=hc.1;have h4:=hc.2.1;simp only [List.length_drop,List.length_take] at h3 h4;omega
       · intro h;cases h
     · intro h;cases h
theorem Zfu {xs:List Nat}(h:(dec xs).e=0):512*(dec xs).g.length≤(dec xs).n∧2≤(dec xs).n∧(dec xs).n≤xs.length∧May (dec xs).g:=by
 obtain⟨h1,h2,h3⟩:=Zec h;refine⟨?_,h1,h2,h3⟩;have:=h3.2.1;have hn:=Zfv h;omega
theorem Po.Fine.rep :∀(f:Nat){P:Po}{c:Nat}(z:Int)(xs:List Nat),P.Fine n c→Bytes xs→c+xs.length / 128≤9000→(Po.rep n f P z xs).Fine n (c+xs.length / 128)∧(Po.rep n f P z xs).D.ss=P.D.ss∧(Po.rep n f P z xs).D.sb=P.D.sb
 | 0,P,c,z,xs,h,_,hc=>⟨h.more (by omega) hc,rfl,rfl⟩
 | f+1,P,c,z,xs,h,hb,hc=>by
  unfold Po.rep
  split
  · rename_i he
    obtain⟨r1,r2,r3,r4⟩:=Zfu he
    have hl:(xs.drop (dec xs).n).length=xs.length-(dec xs).n:=List.length_drop
    have hp:=h.puts (z:=z+(((dec xs).n:Nat):Int)) (dec xs).g (by omega) r4.len (Zeb hb)
    have:=Po.Fine.rep f (z+(((dec xs).n:Nat):Int)) (xs.drop (dec xs).n) hp (hb.drop _) (by rw [hl];omega)
    refine⟨this.1.more (by rw [hl];omega) hc,this.2.1.trans (Zhf _ _ _ _),this.2.2.trans (Zhe _ _ _ _)⟩
  · exact⟨h.more (by omega) hc,rfl,rfl⟩
def MtBlk (w:World) (m d p:Nat):Prop:=w.heap[m]? = some (.cells #[.pointer (some ⟨d,0,none⟩),.pointer (some ⟨p,0,none⟩)] 83 (0,0))
theorem MtBlk.c0 (h:MtBlk w m d p):w.cell? ⟨m,0,none⟩=some (.pointer (some ⟨d,0,none⟩)):=(Addr.cell0 h).trans rfl
theorem MtBlk.c1 (h:MtBlk w m d p):w.cell? ⟨m,1,none⟩=some (.pointer (some ⟨p,0,none⟩)):=(Addr.cell0 h).trans rfl
theorem MtBlk.lt (h:MtBlk w m d p):m<w.heap.size:=(Array.getElem?_eq_some_iff.1 h).1
structure Mt (M:PoM) (w:World) (m p d:Nat) (P:Po) (L:Dl) (X:Nat→Prop):Prop where
  pool:M w p d P L X
  blk:MtBlk w m d p
  off:¬(X m∨L.F d m)
structure MSt (M:PoM) (w:World) (m p d:Nat) (L:Dl) (X:Nat→Prop) (w':World) (Q:Po) (L':Dl) (X':Nat→Prop):Prop where
  mt:Mt M w' m p d Q L' X'
  foot:∀k,X' k∨L'.F d k→(X k∨L.F d k)∨w.heap.size≤k
  frm:Frm (fun k=>X k∨L.F d k) w w'
def MDid (M:PoM) (w:World) (m p d:Nat) (L:Dl) (X:Nat→Prop) (w':World) (Q:Po):Prop:=∃L' X',MSt M w m p d L X w' Q L' X'
theorem MSt.trans {L1 L2:Dl}{X X1 X2:Nat→Prop}{Q1 Q2:Po}(h:MSt M w m p d L X w1 Q1 L1 X1)(k:MSt M w1 m p d L1 X1 w2 Q2 L2 X2):MSt M w m p d L X w2 Q2 L2 X2:=
 ⟨k.mt,fun i hi=>(k.foot i hi).elim (fun e=>h.foot i e) (fun e=>.inr (Nat.le_trans h.frm.size e)),h.frm.trans k.frm (fun i hi e=>(h.foot i e).resolve_right (by omega))⟩
theorem MSt.did {L1:Dl}{X X1:Nat→Prop}{Q1 Q2:Po}(h:MSt M w m p d L X w1 Q1 L1 X1)(k:MDid M w1 m p d L1 X1 w2 Q2):MDid M w m p d L X w2 Q2:=by
 obtain⟨L2,X2,k⟩:=k;exact⟨L2,X2,h.trans k⟩
theorem Mt.same (S:Zb5 M){X:Nat→Prop}(h:Mt M w m p d P L X)(hb:Below w.heap.size w w'):MSt M w m p d L X w' P L X:=
 ⟨⟨S.frm h.pool (Frm.ofBelow (F:=fun _=>False) hb) (fun _ _ e=>e),(hb.block m h.blk.lt).trans h.blk,h.off⟩,fun _ e=>.inl e,Frm.ofBelow hb⟩
theorem Mt.act {Q:Po}{X:Nat→Prop}(h:Mt M w m p d P L X)(a:ZgE M w p d L X w' Q):MDid M w m p d L X w' Q:=by
 obtain⟨L',X',hm,hf⟩:=a.ex;have aa:=h.blk.lt;exact⟨L',X',⟨hm,(a.frm.block m aa h.off).trans h.blk,fun e=>(hf m e).elim h.off (fun k=>by omega)⟩,hf,a.frm⟩
theorem Mt.turn (S:Zb5 M){L':Dl}{X:Nat→Prop}{D':Ds}(h:Mt M w m p d P L X)(t:Zaj w d L w' D' L'):MSt M w m p d L X w' { P with D:=D' } L' X:=by
 have ab:=h.blk.lt;have hf:∀k,X k∨L'.F d k→(X k∨L.F d k)∨w.heap.size≤k:=fun k e=>e.elim (fun e=>.inl (.inl e)) (fun e=>(t.foot k e).imp (fun e=>.inr e) id);have aa:=t.frm.mono (G:=fun k=>X k∨L.F d k) (fun k _ e=>.inr e);exact⟨⟨S.turn h.pool t,(aa.block m ab h.off).trans h.blk,fun e=>(hf m e).elim h.off (fun k=>by omega)⟩,hf,aa⟩
theorem ZmK (p:Nat)(w:World):(Instr.fieldAt 83 (.pointer (some ⟨p,0,none⟩)) 0).run Tryz.prog w=.ok (.pointer (some ⟨p,0,none⟩)) w:=by simp [go_sem,Instr.fieldAt]
theorem ZmL (p:Nat)(w:World):(Instr.fieldAt 83 (.pointer (some ⟨p,0,none⟩)) 1).run Tryz.prog w=.ok (.pointer (some ⟨p,1,none⟩)) w:=by simp [go_sem,Instr.fieldAt]
theorem Zll (p:Nat)(w:World):(Instr.fieldAt 76 (.pointer (some ⟨p,0,none⟩)) 0).run Tryz.prog w=.ok (.pointer (some ⟨p,0,none⟩)) w:=by simp [go_sem,Instr.fieldAt]
theorem Zlm (p:Nat)(w:World):(Instr.fieldAt 76 (.pointer (some ⟨p,0,none⟩)) 1).run Tryz.prog w=.ok (.pointer (some ⟨p,1,none⟩)) w:=by simp [go_sem,Instr.fieldAt]
theorem Zok (b o p:Nat)(w:World)(h:w.cell? ⟨b,o,none⟩=some (.pointer (some ⟨p,0,none⟩))):(Instr.loadAt 81 (.pointer (some ⟨b,o,none⟩))).run Tryz.prog w=.ok (.pointer (some ⟨p,0,none⟩)) w:=by simp [go_sem,h]
theorem Zj3 (b o:Nat)(w:World):(Instr.fieldAt 76 (.pointer (some ⟨b,o,none⟩)) 0).run Tryz.prog w=.ok (.pointer (some ⟨b,o,none⟩)) w:=by simp [go_sem,Instr.fieldAt]
theorem geqI (a b:Int)(x y:Operand)(w:World):(do eqGuard .geq 3 x y (.int .i64 a) (.int .i64 b);binOp .geq 3 (.int .i64 a) (.int .i64 b):Sem Value).run Tryz.prog w=.ok (.bool (decide (b≤a))) w:=by simp [go_sem,eqGuard]
theorem Zjx:∀args w,(callFunc 33 args).run Tryz.prog w=.ok (.enter 33 args) w:=Pl.ql Tryz.func33
theorem ZnL:∀args w,(callFunc 87 args).run Tryz.prog w=.ok (.enter 87 args) w:=Pl.ql Tryz.func87
theorem ZnK:∀args w,(callFunc 49 args).run Tryz.prog w=.ok (.enter 49 args) w:=Pl.ql Tryz.func49
theorem Zlh:∀args w,(callFunc 60 args).run Tryz.prog w=.ok (.enter 60 args) w:=Pl.ql Tryz.func60
theorem Zph (w:World)(m g p:Nat)(q z rr:Int)(a:Option Addr)(l c:Nat)(R:World→Prop)(h0:(fun (w':World)=>w'.cell? ⟨m,1,none⟩=some (.pointer (some ⟨p,0,none⟩))∧w'.cell? ⟨g,0,none⟩=some (.int .i64 q)∧w'.cell? ⟨g,1,none⟩=some (.slice a l c)) w)(hc:Calls Tryz.prog 87 #[.pointer (some ⟨p,0,none⟩),.int .i64 q,.slice a l c,.int .i64 z] w.drew fun e w2=>e=.returned (.int .i64 rr)∧R w2)(ac:∀w2,R w2→(fun (w':World)=>w'.cell? ⟨m,1,none⟩=some (.pointer (some ⟨p,0,none⟩))∧w'.cell? ⟨g,0,none⟩=some (.int .i64 q)∧w'.cell? ⟨g,1,none⟩=some (.slice a l c)) w2)
    {Q:Exit→Act→World→Prop}(ae:A.tmps.size=25)(ad:A.defers=[])(s0:A.tmps.getD 0 undef=.pointer (some ⟨m,0,none⟩))(s2:A.tmps.getD 2 undef=.int .i64 z)(s7:A.tmps.getD 7 undef=.pointer (some ⟨g,0,none⟩))
    (hend:∀(u:Nat→Value) w',R w'→Q .normal (((((((((((A).put (some 14) (u 14)).put (some 15) (u 15)).put (some 16) (u 16)).put (some 17) (u 17)).put (some 18) (u 18)).put (some 19) (u 19)).put (some 20) (u 20)).put (some 21) (u 21)).put (some 22) (u 22)).put (some 23) (u 23)) w') :
    (Code.region 3 (Pl.find 3 ((Tryz.f48.body).getD .skip)) true).wp Tryz.prog Q A w:=by
  have aa:=(show (fun w'=>w'.cell? ⟨m,1,none⟩=some (.pointer (some ⟨p,0,none⟩))∧w'.cell? ⟨g,0,none⟩=some (.int .i64 q)∧w'.cell? ⟨g,1,none⟩=some (.slice a l c)) w.drew from h0);have hA:=Pl.At.same (v:=.pointer (some ⟨g,0,none⟩)) (d:=7) (Pl.At.same (v:=.int .i64 z) (d:=2) (Pl.At.same (v:=.pointer (some ⟨m,0,none⟩)) (d:=0) (Pl.At.here ae ad) s0) s2) s7;refine Pl.qa (S:=fun w'=>w'.cell? ⟨m,1,none⟩=some (.pointer (some ⟨p,0,none⟩))∧w'.cell? ⟨g,0,none⟩=some (.int .i64 q)∧w'.cell? ⟨g,1,none⟩=some (.slice a l c)) hA aa ?_;rw [show (Pl.find 3 ((Tryz.f48.body).getD .skip)).size=10 by kernel_rfl];refine Pl.q1 0 14 (.pointer (some ⟨m,0,none⟩)) (Pl.q0) (Pl.q2 (.tmp 0)) aa ?_;refine Pl.q1 1 15 (.pointer (some ⟨m,0,none⟩)) (Pl.q0) (Pl.qg (.tmp 14)) aa ?_;refine Pl.q1 2 16 (.pointer (some ⟨m,1,none⟩)) (Pl.q0) (Pl.q4 83 (.tmp 15) 1 (ZmL m)) aa ?_;refine Pl.q1 3 17 (.pointer (some ⟨p,0,none⟩)) (Pl.q0) (Pl.q6 81 (.tmp 16) (fun w' hS=>Zok m 1 p w' hS.1)) aa ?_;refine Pl.q1 4 18 (.pointer (some ⟨g,0,none⟩)) (Pl.q0) (Pl.q4 76 (.tmp 7) 0 (Zll g)) aa ?_;refine Pl.q1 5 19 (.int .i64 q) (Pl.q0) (Pl.q6 3 (.tmp 18) (fun w' hS=>ldInt g 0 _ w' hS.2.1)) aa ?_;refine Pl.q1 6 20 (.pointer (some ⟨g,1,none⟩)) (Pl.q0) (Pl.q4 76 (.tmp 7) 1 (Zlm g)) aa ?_;refine Pl.q1 7 21 (.slice a l c) (Pl.q0) (Pl.q6 32 (.tmp 20) (fun w' hS=>ldBs g 1 _ _ _ w' hS.2.2)) aa ?_;refine Pl.q1 8 22 (.int .i64 z) (Pl.q0) (Pl.q2 (.tmp 2)) aa ?_;refine Pl.qc 9 23 87 [(.tmp 17),(.tmp 19),(.tmp 21),(.tmp 22)] #[81,3,32,3] (Pl.q0) ZnL (Calls.mono (hc) ?_);rintro e w2 ⟨rfl,ab⟩;refine⟨.int .i64 rr,rfl,(ac w2 ab),?_⟩;refine Pl.q7 (fun A' hA'=>?_);rw [Pl.At.ext hA' ((((((((((hA.put 14 _).put 15 _).put 16 _).put 17 _).put 18 _).put 19 _).put 20 _).put 21 _).put 22 _).put 23 _)];exact hend hA'.fn _ ab
theorem Zpg (w:World)(m dv:Nat)(y:Int)(R R3:World→Prop)(h0:(fun (w':World)=>w'.cell? ⟨m,0,none⟩=some (.pointer (some ⟨dv,0,none⟩))) w)(hc:Calls Tryz.prog 49 #[.pointer (some ⟨m,0,none⟩)] w.drew fun e w2=>e=.returned (.int .i64 y)∧R w2)(ae:∀w2,R w2→(fun (w':World)=>w'.cell? ⟨m,0,none⟩=some (.pointer (some ⟨dv,0,none⟩))) w2)(af:∀w2,R w2→Calls Tryz.prog 60 #[.pointer (some ⟨dv,0,none⟩),.int .i64 y] w2 fun e w3=>e=.returned (.int .i64 0)∧R3 w3)(ab:∀w3,R3 w3→(fun (w':World)=>w'.cell? ⟨m,0,none⟩=some (.pointer (some ⟨dv,0,none⟩))) w3)
    {Q:Exit→Act→World→Prop}(ah:A.tmps.size=21)(ag:A.defers=[])(s0:A.tmps.getD 0 undef=.pointer (some ⟨m,0,none⟩))
    (hend:∀(u:Nat→Value) w',R3 w'→Q .normal ((((((((A).put (some 12) (u 12)).put (some 13) (u 13)).put (some 14) (u 14)).put (some 15) (u 15)).put (some 16) (u 16)).put (some 17) (u 17)).put (some 18) (u 18)) w') :
    (Code.region 3 (Pl.find 3 ((Tryz.f18.body).getD .skip)) true).wp Tryz.prog Q A w:=by
  have aa:=(show (fun w'=>w'.cell? ⟨m,0,none⟩=some (.pointer (some ⟨dv,0,none⟩))) w.drew from h0);have hA:=Pl.At.same (v:=.pointer (some ⟨m,0,none⟩)) (d:=0) (Pl.At.here ah ag) s0;refine Pl.qa (S:=fun w'=>w'.cell? ⟨m,0,none⟩=some (.pointer (some ⟨dv,0,none⟩))) hA aa ?_;rw [show (Pl.find 3 ((Tryz.f18.body).getD .skip)).size=7 by kernel_rfl];refine Pl.q1 0 12 (.pointer (some ⟨m,0,none⟩)) (Pl.q0) (Pl.q2 (.tmp 0)) aa ?_;refine Pl.q1 1 13 (.pointer (some ⟨m,0,none⟩)) (Pl.q0) (Pl.qg (.tmp 12)) aa ?_;refine Pl.q1 2 14 (.pointer (some ⟨m,0,none⟩)) (Pl.q0) (Pl.q4 83 (.tmp 13) 0 (ZmK m)) aa ?_;refine Pl.q1 3 15 (.pointer (some ⟨dv,0,none⟩)) (Pl.q0) (Pl.q6 23 (.tmp 14) (fun w' hS=>Zoh m 0 dv w' hS)) aa ?_;refine Pl.q1 4 16 (.pointer (some ⟨m,0,none⟩)) (Pl.q0) (Pl.q2 (.tmp 0)) aa ?_;refine Pl.qc 5 17 49 [(.tmp 16)] #[27] (Pl.q0) ZnK (Calls.mono (hc) ?_);rintro e w2 ⟨rfl,ac⟩;refine⟨.int .i64 y,rfl,(ae w2 ac),?_⟩;refine Pl.qc 6 18 60 [(.tmp 15),(.tmp 17)] #[23,3] (Pl.q0) Zlh (Calls.mono (af w2 ac) ?_);rintro e w3 ⟨rfl,ad⟩;refine⟨.int .i64 0,rfl,(ab w3 ad),?_⟩;refine Pl.q7 (fun A' hA'=>?_);rw [Pl.At.ext hA' (((((((hA.put 12 _).put 13 _).put 14 _).put 15 _).put 16 _).put 17 _).put 18 _)];exact hend hA'.fn _ ad
theorem Zpi (w:World)(z:Int)(a:Option Addr)(l c k:Nat)(aa:∀w:World,(do eqGuard .add 3 (.tmp 23) (.tmp 24) (.int .i64 z) (.int .i64 (k:Int));binOp .add 3 (.int .i64 z) (.int .i64 (k:Int)):Sem Value).run Tryz.prog w=.ok (.int .i64 (z+(k:Int))) w)(ac:∀w:World,(Instr.sliceAt 32 (.slice a l c) (some (.int .i64 (k:Int))) none none).run Tryz.prog w=.ok (.slice (fromA a c k) (l-k) (c-k)) w)
    {Q:Exit→Act→World→Prop}(ad:A.tmps.size=33)(ab:A.defers=[])(s2:A.tmps.getD 2 undef=.int .i64 z)(s3:A.tmps.getD 3 undef=.slice a l c)(s5:A.tmps.getD 5 undef=.int .i64 (k:Int))
    (hend:∀(u:Nat→Value) w',w'=w.drew→Q .normal (((((((((A).put (some 23) (u 23)).put (some 24) (u 24)).put (some 25) (u 25)).put (some 26) (u 26)).put (some 27) (u 27)).put (some 28) (u 28)).put (some 2) (.int .i64 (z+(k:Int)))).put (some 3) (.slice (fromA a c k) (l-k) (c-k))) w') :
    (Code.region 3 (Pl.find 3 ((Tryz.f39.body).getD .skip)) true).wp Tryz.prog Q A w:=by
  have hA:=Pl.At.same (v:=.int .i64 (k:Int)) (d:=5) (Pl.At.same (v:=.slice a l c) (d:=3) (Pl.At.same (v:=.int .i64 z) (d:=2) (Pl.At.here ad ab) s2) s3) s5;refine Pl.qa (S:=fun w'=>True) hA trivial ?_;rw [show (Pl.find 3 ((Tryz.f39.body).getD .skip)).size=8 by kernel_rfl];refine Pl.q1 0 23 (.int .i64 z) (Pl.q0) (Pl.q2 (.tmp 2)) trivial ?_;refine Pl.q1 1 24 (.int .i64 (k:Int)) (Pl.q0) (Pl.q2 (.tmp 5)) trivial ?_;refine Pl.q1 2 25 (.int .i64 (z+(k:Int))) (Pl.q0) (Pl.q9 .add 3 3 (.tmp 23) (.tmp 24) (.int .i64 z) (.int .i64 (k:Int)) (aa)) trivial ?_;refine Pl.q1 3 26 (.slice a l c) (Pl.q0) (Pl.q2 (.tmp 3)) trivial ?_;refine Pl.q1 4 27 (.int .i64 (k:Int)) (Pl.q0) (Pl.q2 (.tmp 5)) trivial ?_;refine Pl.q1 5 28 (.slice (fromA a c k) (l-k) (c-k)) (Pl.q0) (Pl.qo 32 (.tmp 26) (some (.tmp 27)) none (ac)) trivial ?_;refine Pl.q1 6 2 (.int .i64 (z+(k:Int))) (Pl.q0) (Pl.qm (.tmp 25)) trivial ?_;refine Pl.q1 7 3 (.slice (fromA a c k) (l-k) (c-k)) (Pl.q0) (Pl.qm (.tmp 28)) trivial ?_;refine Pl.q7 (fun A' hA'=>?_);rw [Pl.At.ext hA' ((((((((hA.put 23 _).put 24 _).put 25 _).put 26 _).put 27 _).put 28 _).put 2 _).put 3 _)];exact hend hA'.fn _ rfl
theorem Znf (w:World)(m b off len cap k n:Nat)(q:Int)(hk:k<len)(h0:(fun (w':World)=>w'.cell? ⟨b,off+k*2,none⟩=some (.int .i64 q)) w)(ab:∀w:World,(do eqGuard .sub 3 (.tmp 19) (.const (.int .i64 1)) (.int .i64 (len:Int)) (.int .i64 1);binOp .sub 3 (.int .i64 (len:Int)) (.int .i64 1):Sem Value).run Tryz.prog w=.ok (.int .i64 (k:Int)) w)(hc:Calls Tryz.prog 33 #[.pointer (some ⟨m,0,none⟩)] w.drew fun e w2=>e=.returned (.int .i64 (n:Int))∧w2=w.drew)
    {Q:Exit→Act→World→Prop}(ad:A.tmps.size=39)(ac:A.defers=[])(s0:A.tmps.getD 0 undef=.pointer (some ⟨m,0,none⟩))(s1:A.tmps.getD 1 undef=.slice (some ⟨b,off,none⟩) len cap)
    (hend:∀(u:Nat→Value) w',w'=w.drew→Q .normal (((((((((((A).put (some 17) (u 17)).put (some 18) (u 18)).put (some 19) (u 19)).put (some 20) (u 20)).put (some 21) (u 21)).put (some 22) (u 22)).put (some 23) (u 23)).put (some 24) (u 24)).put (some 25) (u 25)).put (some 26) (.bool (decide ((n:Int)≤q)))) w') :
    (Code.region 6 (Pl.find 6 ((Tryz.f13.body).getD .skip)) true).wp Tryz.prog Q A w:=by
  have aa:=(show (fun w'=>w'.cell? ⟨b,off+k*2,none⟩=some (.int .i64 q)) w.drew from h0);have hA:=Pl.At.same (v:=.slice (some ⟨b,off,none⟩) len cap) (d:=1) (Pl.At.same (v:=.pointer (some ⟨m,0,none⟩)) (d:=0) (Pl.At.here ad ac) s0) s1;refine Pl.qa (S:=fun w'=>w'.cell? ⟨b,off+k*2,none⟩=some (.int .i64 q)) hA aa ?_;rw [show (Pl.find 6 ((Tryz.f13.body).getD .skip)).size=10 by kernel_rfl];refine Pl.q1 0 17 (.slice (some ⟨b,off,none⟩) len cap) (Pl.q0) (Pl.q2 (.tmp 1)) aa ?_;refine Pl.q1 1 18 (.slice (some ⟨b,off,none⟩) len cap) (Pl.q0) (Pl.q2 (.tmp 1)) aa ?_;refine Pl.q1 2 19 (.int .i64 (len:Int)) (Pl.q0) (Pl.qx 52 (.tmp 18) (fun _ _=>rfl)) aa ?_;refine Pl.q1 3 20 (.int .i64 (k:Int)) (Pl.q0) (Pl.q9 .sub 3 3 (.tmp 19) (.const (.int .i64 1)) (.int .i64 (len:Int)) (.int .i64 1) (ab)) aa ?_;refine Pl.q1 4 21 (.pointer (some ⟨b,off+k*2,none⟩)) (Pl.q0) (Pl.qj 52 (.tmp 17) (.tmp 20) (ixIm b off len cap k hk)) aa ?_;refine Pl.q1 5 22 (.pointer (some ⟨b,off+k*2,none⟩)) (Pl.q0) (Pl.q4 76 (.tmp 21) 0 (Zj3 b (off+k*2))) aa ?_;refine Pl.q1 6 23 (.int .i64 q) (Pl.q0) (Pl.q6 3 (.tmp 22) (fun w' hS=>ldInt b (off+k*2) _ w' hS)) aa ?_;refine Pl.q1 7 24 (.pointer (some ⟨m,0,none⟩)) (Pl.q0) (Pl.q2 (.tmp 0)) aa ?_;refine Pl.qc 8 25 33 [(.tmp 24)] #[27] (Pl.q0) Zjx (Calls.mono (hc) ?_);rintro e w2 ⟨rfl,ae⟩;obtain rfl:=ae.symm;refine⟨.int .i64 (n:Int),rfl,aa,?_⟩;refine Pl.q1 9 26 (.bool (decide ((n:Int)≤q))) (Pl.q0) (Pl.q9 .geq 3 3 (.tmp 23) (.tmp 25) (.int .i64 q) (.int .i64 (n:Int)) (geqI q (n:Int) _ _)) aa ?_;refine Pl.q7 (fun A' hA'=>?_);rw [Pl.At.ext hA' ((((((((((hA.put 17 _).put 18 _).put 19 _).put 20 _).put 21 _).put 22 _).put 23 _).put 24 _).put 25 _).put 26 _)];exact hend hA'.fn _ rfl
theorem ZaX (h:MtBlk w m d p):Calls Tryz.prog 45 #[at0 m] w fun e w'=>e=.returned (.bool true)∧w'=w:=by
 have c0:=h.c0;clear h;unfold at0 at *;go_enter Tryz.func45,Tryz.ntmps45;go_wp2_with fail;go_ret;exact⟨rfl,rfl⟩
theorem Zh5 (S:Zb5 M){X:Nat→Prop}(h:Mt M w m p d P L X)(hF:P.Fine n c):Calls Tryz.prog 49 #[at0 m] w fun e w'=>e=.returned (.int .i64 P.D.fin)∧Below w.heap.size w w':=by
 have hE:=hF.wet.dev;have HS:=hide (ZbM w d P.D L (S.dev h.pool) n hE.sp hE.n2 hE.n1 (Nat.le_trans hF.ss (by omega)));have c0:=h.blk.c0;have ab:=hide hE.sbn;have ae:=hide hF.ss;(have aa:Hid (P.D.fin=(P.D.sb:Int)+(P.D.ss.length:Int)):=by show P.D.fin=_;unfold Ds.fin;omega);obtain⟨sb,ad⟩:∃sb,sb=P.D.sb:=⟨_,rfl⟩;rw [← ad] at HS ab aa;clear h hF hE ad;unfold at0 at *;go_enter Tryz.func49,Tryz.ntmps49;go_wp2_with fail;refine HS.out.mono ?_;rintro e w1 ⟨ac,⟨sa,sl,sc⟩,rfl,_,hl,_⟩;simp only [Sl.val] at hl ⊢;(have ag:sl≤65536:=by rw [hl];exact ae.out);have af:sb≤900000000000:=ab.out;(have HF:Hid (P.D.fin=(sb:Int)+(sl:Int)):=by rw [hl];exact aa);have HB:=hide ac;clear ac hl c0;go_wp2_with fail;go_ret;exact⟨by rw [HF.out];rfl,HB.out⟩
theorem Zg6 (S:Zb5 M){X:Nat→Prop}(h:Mt M w m p d P L X)(hs:P.D.Sane n)(hf:P.D.gone=false→P.D.Fit P.D.units P.D.tr.length)(hF:({ P with D:=P.D.sync }:Po).Fine n c) :
    Calls Tryz.prog 16 #[at0 m] w fun e w'=>e=.returned (.tuple #[])∧MDid M w m p d L X w' P.syncM:=by
  have HG:=hide (ZaX h.blk);have HS:=hide (Zib w d P.D L (S.dev h.pool) n hs hf);have c0:=h.blk.c0;have HM:=hide h;have aa:=hide hF;clear h hs hf hF;unfold at0 at *;go_enter Tryz.func16,Tryz.ntmps16;go_wp2_with fail;refine HG.out.mono ?_;rintro e w' ⟨rfl,hw⟩;obtain rfl:=hw.symm;clear hw;go_wp2_with fail;refine HS.out.mono ?_;rintro e w1 ⟨rfl,L1,hT⟩;have h1:=HM.out.turn S hT;have H1:=hide h1;have c1:=h1.mt.blk.c1;have HY:=hide (S.synced w1 p d _ L1 X n c h1.mt.pool aa.out);clear h1 hT c0;unfold at0 at *;go_wp2_with fail;refine HY.out.mono ?_;rintro e w2 ⟨ha,rfl⟩;have HE:=hide (H1.out.did (H1.out.mt.act ha));clear ha c1;go_wp2_with fail;go_end0;exact⟨rfl,HE.out⟩
theorem ZjR (S:Zb5 M){X:Nat→Prop}(h:Mt M w m p d P L X)(hF:P.Fine n c):Calls Tryz.prog 32 #[at0 m] w fun e w'=>e=.returned (.int .i64 (65536-(P.D.ss.length:Int)))∧Below w.heap.size w w':=by
 have hE:=hF.wet.dev;have HG:=hide (ZaX h.blk);have HS:=hide (ZbM w d P.D L (S.dev h.pool) n hE.sp hE.n2 hE.n1 (Nat.le_trans hF.ss (by omega)));have c0:=h.blk.c0;have ab:=hide hF.ss;clear h hF hE;unfold at0 at *;go_enter Tryz.func32,Tryz.ntmps32;go_wp2_with fail;refine HG.out.mono ?_;rintro e w' ⟨rfl,hw⟩;obtain rfl:=hw.symm;clear hw;go_wp2_with fail;refine HS.out.mono ?_;rintro e w1 ⟨aa,⟨sa,sl,sc⟩,rfl,_,hl,_⟩;simp only [Sl.val] at hl ⊢;(have ac:sl≤65536:=by rw [hl];exact ab.out);have HL:=hide hl;have HB:=hide aa;clear aa hl c0;go_wp2_with fail;go_ret;exact⟨by rw [← HL.out];rfl,HB.out⟩
theorem Zd2 (S:Zb5 M){X:Nat→Prop}(h:Mt M w m p d P L X)(hn:P.D.sp.length=512*n)(aa:n≤64):Calls Tryz.prog 33 #[at0 m] w fun e w'=>e=.returned (.int .i64 (n:Int))∧w'=w:=by
 have HG:=hide (ZaX h.blk);have HS:=hide (Zci w d P.D L (S.dev h.pool) n hn aa);have c0:=h.blk.c0;clear h;unfold at0 at *;go_enter Tryz.func33,Tryz.ntmps33;go_wp2_with fail;refine HG.out.mono ?_;rintro e w' ⟨rfl,hw⟩;obtain rfl:=hw.symm;clear hw;go_wp2_with fail;refine HS.out.mono ?_;rintro e w' ⟨rfl,hw⟩;obtain rfl:=hw.symm;clear hw;go_wp2_with fail;go_ret;exact⟨rfl,rfl⟩
theorem ZhO (S:Zb5 M){X:Nat→Prop}(h:Mt M w m p d P L X)(hF:P.Fine n c)(k:Nat)(hk:k<n):Calls Tryz.prog 22 #[at0 m,.int .i64 (k:Int)] w fun e w'=>MDid M w m p d L X w' (P.letIn k)∧∃s:Sl,e=.returned (.tuple #[s.val,.int .i64 0])∧Own 5 1 w' s (vals ((P.letIn k).con k))∧s.len=512:=by
 have HG:=hide (ZaX h.blk);have HS:=hide (S.read w p d P L X n c k h.pool hF hk);have c1:=h.blk.c1;have HM:=hide h;clear h hF;unfold at0 at *;go_enter Tryz.func22,Tryz.ntmps22;go_wp2_with fail;refine HG.out.mono ?_;rintro e w' ⟨rfl,hw⟩;obtain rfl:=hw.symm;clear hw;go_wp2_with fail;refine HS.out.mono ?_;rintro e w1 ⟨ha,⟨sa,sl,sc⟩,rfl,ho,hl⟩;have HE:Hid (MDid M w m p d L X w1 (P.letIn k)∧Own 5 1 w1 ⟨sa,sl,sc⟩ (vals ((P.letIn k).con k))∧(Sl.mk sa sl sc).len=512):=⟨HM.out.act ha,ho,hl⟩;clear ha ho hl c1;simp only [Sl.val];go_wp2_with fail;go_ret2;exact⟨HE.out.1,⟨sa,sl,sc⟩,rfl,HE.out.2⟩
theorem Ziu (S:Zb5 M){X:Nat→Prop}(h:Mt M w m p d P L X)(hF:P.Fine n c)(k:Int)(hw:(Lit.int .i64 k).wf=true):Calls Tryz.prog 20 #[at0 m,.int .i64 k] w fun e w'=>MDid M w m p d L X w' (P.evictAny k)∧e=.returned (.int .i64 (if 0≤k∧(P.m k.toNat).isSome=true then 0 else 3)):=by
 have HG:=hide (ZaX h.blk);have HS:Hid (Calls Tryz.prog 63 #[at0 p,.int .i64 k] w fun e w'=>MDid M w m p d L X w' (P.evictAny k)∧e=.returned (.int .i64 (if 0≤k∧(P.m k.toNat).isSome=true then 0 else 3))):=by
  show Calls _ _ _ _ _;unfold Po.evictAny;by_cases hk:0≤k∧(P.m k.toNat).isSome=true
  · rw [if_pos hk,if_pos hk];obtain⟨x,rfl⟩:∃x:Nat,k=(x:Int):=⟨k.toNat,by omega⟩;rw [Int.toNat_natCast] at hk ⊢;refine(S.evict w p d P L X n c x h.pool hF hk.2).mono ?_;rintro e w' ⟨ha,r⟩;exact⟨h.act ha,r⟩
  · rw [if_neg hk,if_neg hk];refine(S.evictNone w p d P L X n c k h.pool hF hk hw).mono ?_;rintro e w' ⟨hb,r⟩;exact⟨⟨L,X,h.same S hb⟩,r⟩
 have c1:=h.blk.c1;generalize (if 0≤k∧(P.m k.toNat).isSome=true then (0:Int) else 3)=rr at *;clear h hF;unfold at0 at *;go_enter Tryz.func20,Tryz.ntmps20;go_wp2_with fail;refine HG.out.mono ?_;rintro e w' ⟨rfl,hw'⟩;obtain rfl:=hw'.symm;clear hw';go_wp2_with fail;refine HS.out.mono ?_;rintro e w1 ⟨ha,rfl⟩;have HE:=hide ha;clear ha c1;go_wp2_with fail;go_ret;exact⟨HE.out,rfl⟩
theorem ZbY (h:Below w.heap.size w w1)(k:Below w1.heap.size w1 w2):Below w.heap.size w w2:=h.trans (k.mono h.size)
theorem Zgv (P:Po)(n:Nat)(l:List Ix)(z:Int)(k:Nat)(hk:k<l.length):P.puts n (ims (l.take (k+1))) z=(P.puts n (ims (l.take k)) z).putA n (l.getD k Ix.zero).im z:=by
 rw [List.take_succ_eq_append_getElem hk,Zcg];unfold Po.puts;rw [List.foldl_append,show l.getD k Ix.zero=l[k] by simp [List.getD,hk]];rfl
theorem Zow (S:Zb5 M){X:Nat→Prop}(h:Mt M w m p d P L X)(hF:P.Fine n c)(q:Int)(a:Option Addr)(cap:Nat)(ys:List Nat)(hy:Came w a 512 cap ys)(aa:Off (fun i=>X i∨L.F d i) a 512)(z:Int)(hz:(Lit.int .i64 z).wf=true) :
    Calls Tryz.prog 87 #[at0 p,.int .i64 q,.slice a 512 cap,.int .i64 z] w fun e w'=>e=.returned (.int .i64 (if 0≤q∧q<(n:Int) then 0 else 3))∧MDid M w m p d L X w' (P.putA n ⟨q,ys⟩ z):=by
  unfold Po.putA;by_cases hq:0≤q∧q<(n:Int)
  · rw [if_pos hq,if_pos (show 0≤(Im.mk q ys).page∧(Im.mk q ys).page<(n:Int) from hq)];obtain⟨x,rfl⟩:∃x:Nat,q=(x:Int):=⟨q.toNat,by omega⟩;refine(S.put w p d P L X n c x a cap ys z h.pool hF (by omega) hy aa hz).mono ?_;rintro e w' ⟨ha,r⟩;exact⟨r,h.act ha⟩
  · rw [if_neg hq,if_neg (show ¬(0≤(Im.mk q ys).page∧(Im.mk q ys).page<(n:Int)) from hq)];refine(S.putNone w p d P L X n c q a 512 cap z h.pool hF hq).mono ?_;rintro e w' ⟨hb,r⟩;exact⟨r,⟨L,X,h.same S hb⟩⟩
theorem ZhN (S:Zb5 M){X:Nat→Prop}(h:Mt M w m p d P L X)(hF:P.Fine n c)(v:Sl)(l:List Ix)(hg:Gr (fun k=>¬(X k∨L.F d k)∧k<w.heap.size) w v l)(hl:∀x∈l,x.bs.length=512)(hc:c+4*l.length≤9000)(z:Int)(hz:(Lit.int .i64 z).wf=true) :
    Calls Tryz.prog 48 #[at0 m,v.val,.int .i64 z] w fun e w'=>e=.returned (.tuple #[])∧MDid M w m p d L X w' (P.puts n (ims l) z):=by
  obtain⟨va,len,vc⟩:=v;have af:l.length=len:=hg.len;have az:len≤1000000:=hg.big;have ay:Hid (MDid M w m p d L X w (P.puts n (ims (l.take 0)) z)):=⟨L,X,h.same S (Below.refl _ _)⟩;have HG:=hide hg;have HF:=hide hF;have HL:=hide hl;have HC:=hide hc;have HZ:=hide hz;have ac:=hide af;clear h hF hg hl hc hz af;unfold at0 Sl.val;simp only;go_enter Tryz.func48,Tryz.ntmps48;go_wp2_with fail;go_loopw [10] (fun i wr=>∃k:Nat,k≤len∧i=.int .i64 k∧Hid (MDid M w m p d L X wr (P.puts n (ims (l.take k)) z))) (fun i _=>len-(intOf i).toNat)
  case atStart=>exact ⟨0,by omega,rfl,ay⟩
  case round =>
   obtain⟨k,hk,rfl,hD⟩:=hrel;rcases Nat.lt_or_ge k len with aj | bb
   · obtain⟨L1,X1,h1⟩:=hD.out;have am:=HG.out.keep (ZaD.frm h1.frm (fun i hi=>hi.1));obtain⟨b,off,ha,c0,c1⟩:=am.cell k aj;simp only at ha;subst ha;have ae:=am.at (i:=k) aj;have ah:l.getD k Ix.zero∈l:=ZcC _ (by rw [ac.out];exact aj);have al:=HL.out _ ah;have an:=Zgv P n l z k (by rw [ac.out];exact aj);have ap:(P.puts n (ims (l.take k)) z).Fine n (c+4*k):=by
      (have au:(ims (l.take k)).length=k:=by rw [Zal,List.length_take,ac.out];omega);have:=HF.out.puts (z:=z) (ims (l.take k)) (by rw [au];have:=HC.out;rw [ac.out] at this;omega) (fun i hi=>by
       obtain⟨x,hx,rfl⟩:=List.mem_map.1 hi;exact HL.out x (List.mem_of_mem_take hx)) (fun i hi=>by
       obtain⟨x,hx,rfl⟩:=List.mem_map.1 hi;exact(HG.out.bs x (List.mem_of_mem_take hx)).came.bs.2.1)
      rw [au] at this;exact this
     obtain⟨x,hx⟩:∃x,x=l.getD k Ix.zero:=⟨_,rfl⟩;rw [← hx] at c0 c1 ae al an;obtain⟨q,⟨sa,sl,sc⟩,bs⟩:=x;(have ba:sl=512:=by have h5:bs.length=512:=al;have h6:bs.length=sl:=ae.len;omega);subst ba;replace c0:wr.cell? ⟨b,off+k*2,none⟩=some (.int .i64 q):=c0;replace c1:wr.cell? ⟨b,off+k*2+1,none⟩=some (.slice sa 512 sc):=c1;obtain⟨wa,ao⟩:∃wa,wa=wr.alloc (.cells #[.int .i64 q,.slice sa 512 sc] 76):=⟨_,rfl⟩;have hA:=Zaa wr (.cells #[.int .i64 q,.slice sa 512 sc] 76);have aa:=Zdj wr q (.slice sa 512 sc);rw [← ao] at hA aa;have ak:Below wr.heap.size wr wa.drew:=ZbY hA (Zad wa);have h2:=h1.mt.same S ak;have ar:=(ae.below ak (Nat.le_refl _)).came;have ai:Off (fun i=>X1 i∨L1.F d i) sa 512:=by
      intro ad e h0 hk';have hn:=ae.home ad e h0;exact(h1.foot _ hk').elim hn.1 (fun e=>by have:=hn.2;omega)
     have aw:=Zow S h2.mt ap q sa sc bs ar ai z HZ.out;have av:¬(X1 wr.heap.size∨L1.F d wr.heap.size):=fun e=>by
      rcases e with e | e
      · have:=S.lt h1.mt.pool _ e;omega
      · have:=(S.dev h1.mt.pool).lt e;omega
     have ag:wr.heap.size<wa.drew.heap.size:=(Array.getElem?_eq_some_iff.1 (show wa.drew.heap[wr.heap.size]? = _ from aa)).1;have HR:Hid (∀{Q:Exit→Act→World→Prop} {A:Act},_):=fun {Q A}=>Zph wa m wr.heap.size p q z _ sa 512 sc (fun w2=>MDid M wa.drew m p d L1 X1 w2 ((P.puts n (ims (l.take k)) z).putA n ⟨q,bs⟩ z)) ⟨h2.mt.blk.c1,(Addr.cell0 aa).trans rfl,(Addr.cell0 aa).trans rfl⟩ aw (fun w2 ab=>by
      obtain⟨L3,X3,h3⟩:=ab;have aq:w2.heap[wr.heap.size]? = _:=(h3.frm.block _ ag av).trans aa;exact⟨h3.mt.blk.c1,(Addr.cell0 aq).trans rfl,(Addr.cell0 aq).trans rfl⟩) (Q:=Q) (A:=A)
     have HN:Hid (∀w2,MDid M wa.drew m p d L1 X1 w2 ((P.puts n (ims (l.take k)) z).putA n ⟨q,bs⟩ z)→MDid M w m p d L X w2 (P.puts n (ims (l.take (k+1))) z)):=fun w2 ab=>by
      rw [an];exact(h1.trans h2).did ab
     (have i3:(k:Int)<(len:Int):=by omega);clear hx an ap ae al ah am h1 h2 ar ai aw av ag ak hA aa;go_wp2_with fail;rw [← ao];refine Pl.q8 (ops:=Pl.find 3 ((Tryz.f48.body).getD .skip)) ?_;refine HR.out (by rfl) (by rfl) (by rfl) (by rfl) (by rfl) (fun u w2 ab=>?_);have ax:=hide (HN.out w2 ab);clear ab ao HR HN c0 c1 hD;simp only [Act.put,List.setIfInBounds_toArray,List.set_cons_zero,List.set_cons_succ];go_wp2_with fail;go_roundw
     case rel=>exact ⟨k+1,by omega,by go_num,ax⟩
     case measure=>simp only [intOf];omega
   · (obtain rfl:k=len:=by omega);(have i3:¬(k:Int)<(k:Int):=by omega);have HE:Hid (MDid M w m p d L X wr (P.puts n (ims l) z)):=by
      have:=hD.out;rw [List.take_of_length_le (by rw [ac.out];exact Nat.le_refl _)] at this;exact this
     clear hD;go_wp2_with fail;go_end0;exact⟨rfl,HE.out⟩
def Po.apply (P:Po) (n:Nat) (g:List Im):Po:=({ P with D:=P.D.append (recd g) }:Po).puts n g (P.D.append (recd g)).fin
open Classical in
noncomputable def Po.applyE (P:Po) (n:Nat) (g:List Im):Int:=if ¬May g then 1 else if ((n:Nat):Int)≤(g.getD (g.length-1) Im.zero).page then 3 else if 65536<P.D.ss.length+(recd g).length then 10 else 0
theorem Zcy (D:Ds)(b:List Nat):(D.append b).ss=D.ss ++ b∧(D.append b).sb=D.sb∧(D.append b).sp=D.sp:=⟨rfl,(D.spend_same b.length).2.1,(D.spend_same b.length).1⟩
theorem Po.Fine.append (h:P.Fine n c)(b:List Nat)(hb:P.D.ss.length+b.length≤65536):({ P with D:=P.D.append b }:Po).Fine n c:=
 ⟨h.ok.dev (Zcy P.D b).2.2 _,⟨h.wet.dev.append b hb,h.wet.sh⟩,h.cap,by show (P.D.append b).ss.length≤_;rw [(Zcy P.D b).1,List.length_append];exact hb⟩
theorem ZnQ (h:P.Fine n c):(Lit.int .i64 P.D.fin).wf=true:=by
 have h1:=h.wet.dev.sbn;have h2:=h.ss;unfold Ds.fin;simp only [Lit.wf,show IntKind.i64.min = -9223372036854775808 by decide,show IntKind.i64.max=9223372036854775807 by decide,Bool.and_eq_true,decide_eq_true_eq];omega
theorem ZiY (S:Zb5 M){X:Nat→Prop}(h:Mt M w m p d P L X){D:Nat→Prop}(v:Sl)(l:List Ix)(hg:Gr D w v l)(hm:¬May (ims l)) :
    Calls Tryz.prog 13 #[at0 m,v.val] w fun e w'=>e=.returned (.int .i64 1)∧Below w.heap.size w w':=by
  have HG:=hide (ZaX h.blk);have HE:=hide (Zjr w v l hg hm);clear h hg hm;obtain⟨va,len,vc⟩:=v;unfold at0 at *;unfold Sl.val at *;simp only at *;go_enter Tryz.func13,Tryz.ntmps13;go_wp2_with fail;refine HG.out.mono ?_;rintro e w' ⟨rfl,hw⟩;obtain rfl:=hw.symm;clear hw;go_wp2_with fail;refine HE.out.mono ?_;rintro e w1 ⟨rfl,hb⟩;have HB:=hide hb;clear hb;go_wp2_with fail;go_ret;exact⟨rfl,HB.out⟩
theorem ZeQ (S:Zb5 M){X:Nat→Prop}(h:Mt M w m p d P L X)(hF:P.Fine n c)(hc:c+24≤9000)(v:Sl)(l:List Ix)(hg:Gr (fun k=>¬(X k∨L.F d k)∧k<w.heap.size) w v l) :
    Calls Tryz.prog 13 #[at0 m,v.val] w fun e w'=>e=.returned (.int .i64 (P.applyE n (ims l)))∧MDid M w m p d L X w' (if P.applyE n (ims l)=0 then P.apply n (ims l) else P):=by
  unfold Po.applyE;by_cases hm:May (ims l)
  case neg =>
   rw [if_pos hm,if_neg (by decide)];refine(ZiY S h v l hg hm).mono ?_;rintro e w' ⟨rfl,hb⟩;exact⟨rfl,L,X,h.same S hb⟩
  rw [if_neg (not_not_intro hm)];have HG:=hide (ZaX h.blk);have HE:=hide (Zjs w v l hg hm);have hlen:=hg.len;have hml:(ims l).length=l.length:=Zal l;have h1:=hm.1;have h6:=hm.2.1;have HM:=hide h;have HF:=hide hF;have HGR:=hide hg;have HMY:=hide hm;have HP:=hide (fun (w':World) (Q:Po) (L':Dl) (X':Nat→Prop) (hh:Mt M w' m p d Q L' X') (hs:Q.D.sp.length=512*n)=>Zd2 S hh hs hF.wet.dev.n2);(have hlast:(ims l).getD ((ims l).length-1) Im.zero=(l.getD (v.len-1) Ix.zero).im:=by rw [Zdk,hml,hlen]);obtain⟨va,len,vc⟩:=v;replace hlen:l.length=len:=hlen;replace hlast:(ims l).getD ((ims l).length-1) Im.zero=(l.getD (len-1) Ix.zero).im:=hlast;(have hl1:1≤len:=by omega);(have hl6:len≤6:=by omega);obtain⟨b,off,ha,c0,c1⟩:=hg.cell (len-1) (by show len-1<len;omega);simp only at ha;subst ha;(have hrl:(recd (ims l)).length=7+513*len:=by rw [ZaO hm.len,hml,hlen]);have HRB:=hide (Zcj hg.imB hm);rw [hlast,hrl];obtain⟨q,hq⟩:∃q,q=(l.getD (len-1) Ix.zero).page:=⟨_,rfl⟩;rw [show (l.getD (len-1) Ix.zero).im.page=q from hq.symm];rw [← hq] at c0;have HCC:Hid (∀w',Below w.heap.size w w'→w'.cell? ⟨b,off+(len-1)*2,none⟩=some (.int .i64 q)):=fun w' hb=>(hb.cell (World.block_lt_of_cell? w _ c0)).trans c0;have HC:=hide hc;have HRL:=hide hrl;have HLN:=hide hlen;have hss9:=hF.ss;(have hmm:(len:Int)-1=(((len-1:Nat)):Int):=by omega);clear c0 c1 hq hlast hm hF hg h hc hrl hml hlen h1 h6;have HSUB:Hid (∀w:World,(do eqGuard .sub 3 (.tmp 19) (.const (.int .i64 1)) (.int .i64 (len:Int)) (.int .i64 1);binOp .sub 3 (.int .i64 (len:Int)) (.int .i64 1):Sem Value).run Tryz.prog w=.ok (.int .i64 ((len-1:Nat):Int)) w):=fun w=>subN len 1 _ _ hl1 (by omega) w;have HPG:Hid (∀w1,Below w.heap.size w w1→Calls Tryz.prog 33 #[.pointer (some ⟨m,0,none⟩)] w1.drew fun e w2=>e=.returned (.int .i64 (n:Int))∧w2=w1.drew):=fun w1 hb=>Zd2 S (HM.out.same S (ZbY hb (Zad w1))).mt HF.out.ok.sp HF.out.wet.dev.n2;clear HP;unfold at0 at *;unfold Sl.val at *;simp only at *;by_cases hq:(n:Int)≤q
  · have hd:decide ((n:Int)≤q)=true:=decide_eq_true hq;rw [if_pos hq,if_neg (by decide)];clear hq;go_enter Tryz.func13,Tryz.ntmps13;go_wp2_with fail;refine HG.out.mono ?_;rintro e w' ⟨rfl,hw⟩;obtain rfl:=hw.symm;clear hw;go_wp2_with fail;refine HE.out.mono ?_;rintro e w1 ⟨r,rfl,ho,hb1⟩;obtain⟨⟨ra,rl,rc⟩,rfl,hown,hsl,hblk⟩:=ho.own;simp only at hsl;have HOW:=hide hown;have HSL:Hid (rl=7+513*len):=hsl.trans HRL.out;have HBK:=hide hblk;have HB1:=hide (ZbY hb1 (Zad w1));have HR:Hid (∀{Q:Exit→Act→World→Prop} {A:Act},_):=fun {Q A}=>Znf w1 m b off len vc (len-1) n q (by omega) (HCC.out w1 hb1) (HSUB.out) (HPG.out w1 hb1) (Q:=Q) (A:=A);clear ho hown hsl hblk hb1;simp only [Sl.val];go_wp2_with fail;refine Pl.q8 (ops:=Pl.find 6 ((Tryz.f13.body).getD .skip)) ?_;refine HR.out (by rfl) (by rfl) (by rfl) (by rfl) (fun u w2 hw2=>?_);clear HR;simp only [Act.put,List.setIfInBounds_toArray,List.set_cons_zero,List.set_cons_succ];rw [← hw2] at HB1;(have HOW2:Hid (Own 5 1 w2 ⟨ra,rl,rc⟩ (vals (recd (ims l)))):=by rw [hw2];exact HOW.out.frame (fun k hk=>rfl));clear hw2 HOW;rw [hd];go_wp2_with fail;go_ret;exact⟨rfl,L,X,HM.out.same S HB1.out⟩
  have hd:decide ((n:Int)≤q)=false:=decide_eq_false hq;rw [if_neg hq];clear hq;by_cases hs:65536<P.D.ss.length+(7+513*len)
  · rw [if_pos hs,if_neg (by decide)];have HAF:Hid (∀w' a cap,Below w.heap.size w w'→Calls Tryz.prog 47 #[.pointer (some ⟨d,0,none⟩),.slice a (7+513*len) cap] w' fun e w2=>e=.returned (.int .i64 10)∧w2=w'):=fun w' a cap hb=>ZgF w' d P.D L (S.dev (HM.out.same S hb).mt.pool) n HF.out.ok.sp HF.out.wet.dev.n2 HF.out.wet.dev.n1 a (7+513*len) cap HF.out.ss hs;clear hs;go_enter Tryz.func13,Tryz.ntmps13;go_wp2_with fail;refine HG.out.mono ?_;rintro e w' ⟨rfl,hw⟩;obtain rfl:=hw.symm;clear hw;go_wp2_with fail;refine HE.out.mono ?_;rintro e w1 ⟨r,rfl,ho,hb1⟩;obtain⟨⟨ra,rl,rc⟩,rfl,hown,hsl,hblk⟩:=ho.own;simp only at hsl;have HOW:=hide hown;have HSL:Hid (rl=7+513*len):=hsl.trans HRL.out;have HBK:=hide hblk;have HB1:=hide (ZbY hb1 (Zad w1));have HR:Hid (∀{Q:Exit→Act→World→Prop} {A:Act},_):=fun {Q A}=>Znf w1 m b off len vc (len-1) n q (by omega) (HCC.out w1 hb1) (HSUB.out) (HPG.out w1 hb1) (Q:=Q) (A:=A);clear ho hown hsl hblk hb1;simp only [Sl.val];go_wp2_with fail;refine Pl.q8 (ops:=Pl.find 6 ((Tryz.f13.body).getD .skip)) ?_;refine HR.out (by rfl) (by rfl) (by rfl) (by rfl) (fun u w2 hw2=>?_);clear HR;simp only [Act.put,List.setIfInBounds_toArray,List.set_cons_zero,List.set_cons_succ];rw [← hw2] at HB1;(have HOW2:Hid (Own 5 1 w2 ⟨ra,rl,rc⟩ (vals (recd (ims l)))):=by rw [hw2];exact HOW.out.frame (fun k hk=>rfl));clear hw2 HOW;rw [hd];have c0w:=(HM.out.same S HB1.out).mt.blk.c0;obtain rfl:=HSL.out;have HA:=hide (HAF.out w2 ra rc HB1.out);clear HAF;go_wp2_with fail;refine HA.out.mono ?_;rintro e w' ⟨rfl,hw⟩;obtain rfl:=hw.symm;clear hw;go_wp2_with fail;go_ret;exact⟨rfl,L,X,HM.out.same S HB1.out⟩
  rw [if_neg hs,if_pos rfl];have HS:=hide (Nat.not_lt.1 hs);clear hs;go_enter Tryz.func13,Tryz.ntmps13;go_wp2_with fail;refine HG.out.mono ?_;rintro e w' ⟨rfl,hw⟩;obtain rfl:=hw.symm;clear hw;go_wp2_with fail;refine HE.out.mono ?_;rintro e w1 ⟨r,rfl,ho,hb1⟩;obtain⟨⟨ra,rl,rc⟩,rfl,hown,hsl,hblk⟩:=ho.own;simp only at hsl;have HOW:=hide hown;have HSL:Hid (rl=7+513*len):=hsl.trans HRL.out;have HBK:=hide hblk;have HB1:=hide (ZbY hb1 (Zad w1));have HR:Hid (∀{Q:Exit→Act→World→Prop} {A:Act},_):=fun {Q A}=>Znf w1 m b off len vc (len-1) n q (by omega) (HCC.out w1 hb1) (HSUB.out) (HPG.out w1 hb1) (Q:=Q) (A:=A);clear ho hown hsl hblk hb1;simp only [Sl.val];go_wp2_with fail;refine Pl.q8 (ops:=Pl.find 6 ((Tryz.f13.body).getD .skip)) ?_;refine HR.out (by rfl) (by rfl) (by rfl) (by rfl) (fun u w2 hw2=>?_);clear HR;simp only [Act.put,List.setIfInBounds_toArray,List.set_cons_zero,List.set_cons_succ];rw [← hw2] at HB1;(have HOW2:Hid (Own 5 1 w2 ⟨ra,rl,rc⟩ (vals (recd (ims l)))):=by rw [hw2];exact HOW.out.frame (fun k hk=>rfl));clear hw2 HOW;rw [hd];obtain rfl:=HSL.out;have h2:=HM.out.same S HB1.out;have hE:=HF.out.wet.dev;have hcm:=HOW2.out.came HRB.out;have hoff:Off (L.F d) ra (7+513*len):=fun ad e _ hk=>by
   have h5:=HBK.out ad.block (by simp [Sl.blk,e]);have h6:=(S.dev HM.out.pool).lt hk;omega
  have HA:=hide (ZiX w2 d P.D L (S.dev h2.mt.pool) n hE.sp hE.n2 hE.n1 ra (7+513*len) rc _ hcm hoff hE.al (by have:=hE.kl;omega) HS.out);have c0w:=h2.mt.blk.c0;have H2:=hide h2;clear h2 hE hcm hoff HBK;unfold at0 at HA;go_wp2_with fail;refine HA.out.mono ?_;rintro e w3 ⟨rfl,L3,hT⟩;have h3:=H2.out.trans (H2.out.mt.turn S hT);have hF3:=HF.out.append (recd (ims l)) (by rw [HRL.out];exact HS.out);have HEND:=hide (Zh5 S h3.mt hF3);have H3:=hide h3;have HF3:=hide hF3;clear h3 hF3 hT HA c0w;unfold at0 at HEND;obtain⟨fz,hfz⟩:∃fz,fz=(P.D.append (recd (ims l))).fin:=⟨_,rfl⟩;have HFZ:=hide hfz;rw [show (Po.mk (P.D.append (recd (ims l))) P.l P.h P.m P.sy).D.fin=fz from hfz.symm] at HEND;clear hfz;go_wp2_with fail;refine HEND.out.mono ?_;rintro e w4 ⟨rfl,hb4⟩;have h4:=H3.out.trans (H3.out.mt.same S hb4);have hg4:Gr (fun k=>¬(X k∨L3.F d k)∧k<w4.heap.size) w4 ⟨some ⟨b,off,none⟩,len,vc⟩ l:=
   (HGR.out.keep (ZaD.frm h4.frm (fun i hi=>hi.1))).mono (fun k hk _=>⟨fun e=>(h4.foot k e).elim hk.1 (fun e=>by have:=hk.2;omega),Nat.lt_of_lt_of_le hk.2 h4.frm.size⟩)
  have hwf:=ZnQ HF3.out;have HPUT:=hide (ZhN S h4.mt HF3.out _ l hg4 (fun x hx=>HMY.out.len _ (List.mem_map.2 ⟨x,hx,rfl⟩)) (by have:=HC.out;rw [HLN.out];omega) _ hwf);have H4:=hide h4;clear h4 hg4 hwf hb4 HEND H3;rw [show (Po.mk (P.D.append (recd (ims l))) P.l P.h P.m P.sy).D.fin=fz from HFZ.out.symm] at HPUT;unfold at0 at HPUT;unfold Sl.val at HPUT;simp only at HPUT;go_wp2_with fail;refine HPUT.out.mono ?_;rintro e w5 ⟨rfl,hD⟩;have HD:Hid (MDid M w m p d L X w5 (P.apply n (ims l))):=by
   have:=H4.out.did hD;rw [HFZ.out] at this;exact this
  clear hD HPUT;go_wp2_with fail;go_ret;exact⟨rfl,HD.out⟩
end Go.Proofs.YtpnlebpnhmibfaaGreat
