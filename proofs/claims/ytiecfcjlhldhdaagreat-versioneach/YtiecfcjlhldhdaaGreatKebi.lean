/-
  Lemmas.
-/
import Derived.Test.YtiecfcjlhldhdaaGreatKebh
import Derived.Deep.Cut
import Derived.Deep.CutRange
import Derived.Test.YtiecfcjlhldhdaaGreatKebd
import Derived.Test.YtiecfcjlhldhdaaGreatKeba
import Derived.ProofKit
import Derived.OpenShut
import Derived.Lib.SmallJoins
import Derived.Test.YtiecfcjlhldhdaaGreatKeao
import Derived.Laws.Cover2
import Derived.Deep.Slices
import Derived.Test.YtiecfcjlhldhdaaGreatKebb
import Derived.Test.YtiecfcjlhldhdaaGreatKebf
import Derived.Test.YtiecfcjlhldhdaaGreatKeal
namespace Go.Proofs.YtiecfcjlhldhdaaGreat
open Go.RowKit
set_option linter.unusedVariables false
set_option linter.unusedSimpArgs false
set_option maxRecDepth 100000
set_option maxHeartbeats 4000000
variable {w w' w0:World}{s:Sl}{l:List Rx}{r:Reach}{b0:Nat}{v:Value}{p:List MemPlace}
theorem Zna {l:List Lf}(h:MayH l):(allH l).length≤62000:=by
 have h1:=Zeu l 0 (fun f hf=>by have:=(h.leaf f hf).slots.1;omega);have h2:=h.few;unfold allH;have h3:l.length*1000≤62*1000:=Nat.mul_le_mul_right _ h2;omega
structure RzS (w:World) (s:Sl) (l:List Rx):Prop where
  rz:Rz w s.a s.len l
  le:s.len≤s.cap
  nil:s.a=none→s.cap=0
theorem RzS.keep (h:RzS w s l)(hb:Below w.heap.size w w'):RzS w' s l:=⟨h.rz.keep hb (Nat.le_refl _),h.le,h.nil⟩
theorem RzS.none (w:World):RzS w Sl.nil []:=⟨⟨rfl,fun j hj=>absurd hj (Nat.not_lt_zero _),(fun x hx=>by cases hx),(fun x hx=>by cases hx)⟩,Nat.le_refl _,fun _=>rfl⟩
theorem Rq.rzs (h:Rq w0 w s l):RzS w s l:=⟨h.rz,Own.lecap h.own,Own.nilcap h.own⟩
theorem ZaA.frm {W:World}{F:Nat→Prop}(h:ZaA w s l)(hf:Frm F w W)(hn:∀b off,s.a=some ⟨b,off,none⟩→0<s.len→¬F b)(hF:∀k,F k→∀C fr,w.heap[k]? ≠ some (Obj.cells C 32 fr)):ZaA W s l:=by
 have hc:∀x∈l,ColF W x:=fun x hx=>(h.flt x hx).frm hf hF;refine⟨⟨h.rz.len,fun j hj=>?_,fun x hx=>(hc x hx).fs,h.rz.fits⟩,h.le,h.nil,hc⟩;obtain⟨b,off,ha,aa⟩:=h.rz.at' j hj;exact⟨b,off,ha,aa.frm (hf.block b (World.block_lt_of_cell? _ _ aa.c0) (hn b off ha (by omega)))⟩
theorem Sl.val_inj {t:Sl}(h:s.val=t.val):s=t:=by
 obtain⟨a,n,c⟩:=s;obtain⟨b,m,d⟩:=t;unfold Sl.val at h;simp only [Value.slice.injEq] at h;obtain⟨rfl,rfl,rfl⟩:=h;rfl
theorem Rq.oneB (h:Rq w0 w s l)(x:Rx)(hx:ColR w0 w x)(hf:x.r.fits)(hl:l.length+1≤1000000) :
    ∃s' W,(∀ty,(Builtin.append_ #[49,49] ty #[s.val,.slice (some ⟨w.heap.size,0,none⟩) 1 1]).run Tryz.prog (w.alloc (.cells #[.float .f64 x.r.key,.bool x.r.dead,.slice x.a x.n x.c,.int .i64 x.r.wr,.int .i64 x.r.cell,.int .i64 x.r.no] 39))=.ok s'.val W)∧Rq w0 W s' (l ++ [x])∧Frm (fun k=>s.blk=some k) w W∧(s'.blk=s.blk∨∀k,s'.blk=some k→w.heap.size≤k):=by
  obtain⟨s',W,aa,hq,ad⟩:=h.one x hx hf hl;have hB:=Zaa w (.cells #[.float .f64 x.r.key,.bool x.r.dead,.slice x.a x.n x.c,.int .i64 x.r.wr,.int .i64 x.r.cell,.int .i64 x.r.no] 39);obtain⟨s2,W2,ab,_,_,_,ac⟩:=Zax Tryz.underlying49 ZlJ rfl (by decide) _ s (Zau l) (h.keep hB).own (Zbo l) _ 1 (Zau [x]) (ZoB w x) (by rw [← h.len];exact hl) 0;have e:=(aa 0).symm.trans ab;injection e with e1 e2;have e3:=Sl.val_inj e1;subst e3;refine⟨s',W,aa,hq,ad,ac.imp id (fun e k hk=>?_)⟩;rw [e.1] at hk;cases hk;exact hB.size
def Zek (w:World) (o:List Rw × List Int × Int) (e:Ending) (w':World):Prop:=Below w.heap.size w w'∧∃(s q:Sl) (l:List Rx),e=.returned (.tuple #[s.val,q.val,.int .i64 o.2.2])∧RzS w' s l∧rws l=o.1∧Gi (fun _=>True) w' q o.2.1
open Go.ChangeShapes Go.WideShapes Go.ChangeAt Go.RowKit
theorem InI.keep {t:List Int}(h:InI w s t)(hb:Below w.heap.size w w'):InI w' s t:=by
 refine⟨h.len,h.nil,h.le,h.big,fun i hi=>?_⟩;obtain⟨b,off,ha,c0⟩:=h.cell i hi;exact⟨b,off,ha,(hb.cell (World.block_lt_of_cell? w _ c0)).trans c0⟩
section
variable {H : Type} {enc : TypeId × Value → H} {w : World} {base : Nat} {spare : Nat → Bool} {held : Bool}
theorem Zk7 {n:Nat}{a:Option Addr}{len cap:Nat}{y:DataW H × List MemPlace}(h:DataW.trod enc Tryz.prog w base spare held n 29 [.slice a len cap]=some y):∃t,InI w ⟨a,len,cap⟩ t:=by
 (have hC:Tryz.prog.cellsOf 3=1:=by kernel_rfl);rcases Go.Deep.open_slice1 Tryz.underlying29 hC h with ⟨aa,_⟩ | ⟨x,l,c,m,k,V,D,Pl,aa,hb,hl,hm,ac,_,hx⟩
 · simp only [List.cons.injEq,Value.slice.injEq,and_true] at aa;obtain⟨rfl,rfl,rfl⟩:=aa;exact⟨[],⟨rfl,fun _=>rfl,Nat.le_refl _,Nat.zero_le _,fun j hj=>absurd hj (Nat.not_lt_zero _)⟩⟩
 · simp only [List.cons.injEq,Value.slice.injEq,and_true] at aa;obtain⟨rfl,rfl,rfl⟩:=aa;(have ae:len≤m:=by rw [ac];split <;> omega);have ad:0<len→x.spot=none:=by
    intro h0;have:=World.cell?_spot (hx 0 (by omega)).1;simpa [Addr.add] using this
   have each:∀i,i<len→∃b:Int,V i=.int .i64 b:=by
    intro i hi;obtain⟨k3,e3,_,w3⟩:=DataW.trod_int Tryz.underlying3 (hx i (by omega)).2;exact⟨k3,by simpa using e3⟩
   obtain⟨f,hf⟩:=@Go.Deep.choose_lt Int ⟨0⟩ len _ each;refine⟨(List.range len).map f,⟨by simp,(fun e=>by cases e),hl,by show len≤_;unfold maxLen at hm;omega,?_⟩⟩;intro j hj;replace hj:j<len:=hj;have hc:=(hx j (by omega)).1;obtain⟨b,off,spot⟩:=x;have ab:spot=none:=ad (by omega);subst ab;refine⟨b,off,rfl,?_⟩;rw [Addr.add_lit] at hc;rw [hc,hf j hj];simp [List.getD,hj]
theorem ZqC {d:DataW H}(hv:Value.okWide Tryz.prog w r b0 31 v)(h:DataW.Trod enc Tryz.prog w base spare held 31 v d p):∃(x:Vw)(s:Sl),v=vwV x s∧InI w s x.act:=by
 obtain⟨v0,v1,v2,y0,y1,y2,n,rfl,_,_,h0,h1,h2⟩:=Go.Joins.open_agg3 Tryz.underlying31 (by kernel_rfl) (by kernel_rfl) hv h;obtain⟨k0,e0,_,_⟩:=DataW.trod_int Tryz.underlying3 h0;obtain⟨k1,e1,_,_⟩:=DataW.trod_int Tryz.underlying3 h1;obtain⟨a,len,cap,e2⟩:=Go.Joins.slice_form Tryz.underlying29 h2;simp only [List.cons.injEq,and_true] at e0 e1 e2;subst e0 e1 e2;obtain⟨t,ht⟩:=Zk7 h2;exact⟨⟨k0,k1,t⟩,⟨a,len,cap⟩,rfl,ht⟩
end
open Go.ChangeShapes Go.WideShapes Go.ChangeAt Go.RowKit
structure En.fits (e:En):Prop where
  tx:(Lit.int .i64 e.tx).wf=true
  st:(Lit.int .i64 e.st).wf=true
  last:(Lit.int .i64 e.last).wf=true
  com:(Lit.int .i64 e.com).wf=true
structure Tbl.fits (t:Tbl):Prop where
  nx:(Lit.int .i64 t.nx).wf=true
  no:(Lit.int .i64 t.no).wf=true
  cm:(Lit.int .i64 t.cm).wf=true
  es:∀e∈t.es,e.fits
section
variable {H : Type} {enc : TypeId × Value → H} {w : World} {base : Nat} {spare : Nat → Bool} {held : Bool}
theorem Znu {k:Nat}{c0 c1 c2 c3:Value}{y:DataW H × List MemPlace}(hf:DataW.trod enc Tryz.prog w base spare held k 127 [c0,c1,c2,c3]=some y) :
    ∃e:En,[c0,c1,c2,c3]=e.cells∧e.fits:=by
  (have h4:Tryz.prog.cellsOf 3=1:=by kernel_rfl);obtain⟨xs,n,_,_,_,ab,aa⟩:=DataW.trod_struct Tryz.underlying127 hf
  match xs,ab with
  | [y0,y1,y2,y3],_ =>
   (have t0:DataW.trod enc Tryz.prog w base spare held n 3 [c0]=some y0:=by simpa [Value.cells,h4] using aa 0 _ rfl);(have t1:DataW.trod enc Tryz.prog w base spare held n 3 [c1]=some y1:=by simpa [Value.cells,h4] using aa 1 _ rfl);(have t2:DataW.trod enc Tryz.prog w base spare held n 3 [c2]=some y2:=by simpa [Value.cells,h4] using aa 2 _ rfl);(have t3:DataW.trod enc Tryz.prog w base spare held n 3 [c3]=some y3:=by simpa [Value.cells,h4] using aa 3 _ rfl);obtain⟨k0,e0,_,w0⟩:=DataW.trod_int Tryz.underlying3 t0;obtain⟨k1,e1,_,w1⟩:=DataW.trod_int Tryz.underlying3 t1;obtain⟨k2,e2,_,w2⟩:=DataW.trod_int Tryz.underlying3 t2;obtain⟨k3,e3,_,w3⟩:=DataW.trod_int Tryz.underlying3 t3;simp only [List.cons.injEq,and_true] at e0 e1 e2 e3;subst e0 e1 e2 e3;exact⟨⟨k0,k1,k2,k3⟩,rfl,⟨w0,w1,w2,w3⟩⟩
theorem ZnP {n:Nat}{a:Option Addr}{len cap:Nat}{y:DataW H × List MemPlace}(h:DataW.trod enc Tryz.prog w base spare held n 22 [.slice a len cap]=some y) :
    ∃l,Es w ⟨a,len,cap⟩ l∧∀e∈l,e.fits:=by
  (have hC:Tryz.prog.cellsOf 127=4:=by kernel_rfl);rcases Go.Deep.open_slice Tryz.underlying22 h with ⟨ad,_⟩ | ⟨x,l,c,m,k,D,Pl,ad,hb,hl,hm,ag,_,hx⟩
  · simp only [List.cons.injEq,Value.slice.injEq,and_true] at ad;obtain⟨rfl,rfl,rfl⟩:=ad;exact⟨[],Es.none w,fun x hx=>by cases hx⟩
  · simp only [List.cons.injEq,Value.slice.injEq,and_true] at ad;obtain⟨rfl,rfl,rfl⟩:=ad;(have ai:len≤m:=by rw [ag];split <;> omega);have ah:0<len→x.spot=none:=by
     intro h0;obtain⟨cs,h1,_⟩:=hx 0 (by omega);rw [hC] at h1;obtain⟨_,ac,hc⟩:=World.cells?_some h1
     match cs,ac with
     | [c0,c1,c2,c3],_ =>
      have e0:=hc 0 (by omega);have:=World.cell?_spot (by simpa using e0);simpa [Addr.add] using this
    have each:∀i,i<len→∃t:En,∃b off,x=⟨b,off,none⟩∧EnAt w b (off+i*4) t∧t.fits:=by
     intro i hi;obtain⟨cs,g1,g2⟩:=hx i (by omega);rw [hC] at g1;obtain⟨_,ac,hc⟩:=World.cells?_some g1
     match cs,ac with
     | [c0,c1,c2,c3],_ =>
      obtain⟨t,ht,ab⟩:=Znu g2;have aa:x.spot=none:=ah (by omega);obtain⟨b,off,spot⟩:=x;simp only at aa;subst aa;refine⟨t,b,off,rfl,EnAt.of fun q hq=>?_,ab⟩;have e:=hc q (by omega);simp only [Addr.add_lit] at e;rw [← ht];simpa using e
    obtain⟨f,hf⟩:=@Go.Deep.choose_lt En ⟨En.zero⟩ len _ each;(have ae:∀j,j<len→((List.range len).map f).getD j En.zero=f j:=fun j hj=>by simp [List.getD,hj]);refine⟨(List.range len).map f,⟨by simp,(fun e=>by cases e),by show len≤cap;omega,by show len≤_;unfold maxLen at hm;omega,fun j hj=>?_⟩,fun t ht=>?_⟩
    · obtain⟨b,off,rfl,af,_⟩:=hf j hj;refine⟨b,off,rfl,?_⟩;rw [ae j hj];exact af
    · obtain⟨j,hj,rfl⟩:=List.mem_map.1 ht;obtain⟨_,_,_,_,ab⟩:=hf j (by simpa using hj);exact ab
theorem ZmO {k:Nat}{c0 c1 c2 c3:Value}{y:DataW H × List MemPlace}(hf:DataW.trod enc Tryz.prog w base spare held k 24 [c0,c1,c2,c3]=some y) :
    ∃(t:Tbl) (s:Sl),[c0,c1,c2,c3]=[.int .i64 t.nx,.int .i64 t.no,.int .i64 t.cm,.slice s.a s.len s.cap]∧Es w s t.es∧t.fits:=by
  (have hS:Tryz.prog.cellsOf 22=1:=by kernel_rfl);(have h4:Tryz.prog.cellsOf 3=1:=by kernel_rfl);obtain⟨xs,n,_,_,_,ad,ab⟩:=DataW.trod_struct Tryz.underlying24 hf
  match xs,ad with
  | [y0,y1,y2,y3],_ =>
   (have t0:DataW.trod enc Tryz.prog w base spare held n 3 [c0]=some y0:=by simpa [Value.cells,h4] using ab 0 _ rfl);(have t1:DataW.trod enc Tryz.prog w base spare held n 3 [c1]=some y1:=by simpa [Value.cells,h4] using ab 1 _ rfl);(have t2:DataW.trod enc Tryz.prog w base spare held n 3 [c2]=some y2:=by simpa [Value.cells,h4] using ab 2 _ rfl);(have t3:DataW.trod enc Tryz.prog w base spare held n 22 [c3]=some y3:=by simpa [Value.cells,hS] using ab 3 _ rfl);obtain⟨k0,e0,_,w0⟩:=DataW.trod_int Tryz.underlying3 t0;obtain⟨k1,e1,_,w1⟩:=DataW.trod_int Tryz.underlying3 t1;obtain⟨k2,e2,_,w2⟩:=DataW.trod_int Tryz.underlying3 t2;simp only [List.cons.injEq,and_true] at e0 e1 e2;subst e0 e1 e2;have ae:∃a len cap,c3=.slice a len cap:=by
    rcases Go.Deep.open_slice Tryz.underlying22 t3 with ⟨aa,_⟩ | ⟨x,l,c,m,k,D,Pl,aa,_⟩
    · simp only [List.cons.injEq,and_true] at aa;exact⟨_,_,_,aa⟩
    · simp only [List.cons.injEq,and_true] at aa;exact⟨_,_,_,aa⟩
   obtain⟨a,len,cap,rfl⟩:=ae;obtain⟨es,hE,ac⟩:=ZnP t3;exact⟨⟨k0,k1,k2,es⟩,⟨a,len,cap⟩,rfl,hE,⟨w0,w1,w2,ac⟩⟩
end
open Go.ChangeShapes Go.WideShapes Go.ChangeAt Go.RowKit
section
variable {H : Type} {enc : TypeId × Value → H} {w : World} {base : Nat} {spare : Nat → Bool} {held : Bool}
theorem ZqZ {d:DataW H}(hv:Value.okWide Tryz.prog w r b0 48 v)(h:DataW.Trod enc Tryz.prog w base spare held 48 v d p) :
    ∃x0 x1:Nat,v=.agg #[.float .f64 x0,.float .f64 x1]∧x0<18446744073709551616∧x1<18446744073709551616:=by
  (have hu:Tryz.prog.underlying 48=some (.array 2 32):=by kernel_rfl);(have hC:Tryz.prog.cellsOf 48=2:=by kernel_rfl);(have h1:Tryz.prog.cellsOf 32=1:=by kernel_rfl);simp only [Value.okWide,hu] at hv;obtain⟨cs,rfl,ac,_⟩:=hv;rw [hC] at ac;obtain⟨l⟩:=cs
  match l,ac with
  | [c0,c1],_ =>
   obtain⟨fuel,hf⟩:=h;obtain⟨xs,m,_,_,_,aa,ab⟩:=DataW.trod_array hu hf
   match xs,aa with
   | [y0,y1],_ =>
    (have t0:DataW.trod enc Tryz.prog w base spare held m 32 [c0]=some y0:=by simpa [Value.cells,h1] using ab 0 (by omega));obtain⟨k0,e0,l0⟩:=Zcr t0;(have t1:DataW.trod enc Tryz.prog w base spare held m 32 [c1]=some y1:=by simpa [Value.cells,h1] using ab 1 (by omega));obtain⟨k1,e1,l1⟩:=Zcr t1;subst e0 e1;exact⟨k0,k1,rfl,l0,l1⟩
end
section
variable {ops : Array Oper} {rest : List Oper} {o : Oper} {a : Act} {Q : Exit → Act → World → Prop}
end
def Zra (n:Nat) (w:World) (e:Ending) (w':World):Prop:=∃b,e=.returned (.bool b)∧(b=true→n≤30)∧w'=w
theorem Zkv (a:Option Addr)(n cap:Nat)(l:List Ux)(w:World)(h:Us w a n l)(ac:n≤9223372036854775807) :
    Calls Tryz.prog 25 #[.slice a n cap] w fun e w'=>Zra n w e w':=by
  have HE:=hide h;clear h;go_enter Tryz.func25,Tryz.ntmps25;go_wp2_with fail;go_loopw [3] (fun iv wr=>∃i:Nat,i≤30∧i≤n∧iv=.int .i64 (i:Nat)∧wr=w) (fun iv _=>30-(intOf iv).toNat)
  case atStart=>exact ⟨0,by omega,by omega,rfl,rfl⟩
  case round =>
   obtain⟨i,hi,ag,rfl,rfl⟩:=hrel;rcases Nat.lt_or_ge i n with ad | af
   · (have i1:(i:Int)<(n:Int):=by omega);rcases Nat.lt_or_ge i 30 with ah | ae
     · (have i2:(i:Int)<30:=by omega);obtain⟨b1,off,rfl,ab⟩:=HE.out.at' i ad;generalize l.getD i Ux.zero=y at *;have x8:=ab.c8;clear ab;by_cases hc:20<y.n
       · (have i3:(20:Int)<(y.n:Int):=by omega);go_wp2_with fail;go_ret;exact⟨_,rfl,(fun e=>by cases e),rfl⟩
       · (have i3:¬(20:Int)<(y.n:Int):=by omega);go_wp2_with fail;go_roundw
         case rel=>exact ⟨i+1,by omega,by omega,by go_num,trivial⟩
         case measure=>simp only [intOf];omega
     · (have i2:¬(i:Int)<30:=by omega);by_cases aa:n≤30
       · (have i3:(n:Int)≤30:=by omega);go_wp2_with fail;go_ret;exact⟨_,rfl,(fun _=>aa),rfl⟩
       · (have i3:¬(n:Int)≤30:=by omega);go_wp2_with fail;go_ret;exact⟨_,rfl,(fun e=>by cases e),rfl⟩
   · (have i1:¬(i:Int)<(n:Int):=by omega);(have aa:n≤30:=by omega);(have i3:(n:Int)≤30:=by omega);go_wp2_with fail;go_ret;exact⟨_,rfl,(fun _=>aa),rfl⟩
open Go.ChangeShapes Go.WideShapes Go.ChangeAt Go.RowKit
structure BIn (w:World) (z:Bz):Prop where
  es:Es w z.es z.t.es
  cs:Us w z.cs.a z.cs.len z.ux
  cb:z.cs.len≤9223372036854775807
  ls:InL w z.ls z.lb
theorem InS.keepB {l:List Sb}(h:InS w s l)(hA:Below w.heap.size w w'):InS w' s l:=
 ⟨h.len,h.nil,h.le,h.big,fun i hi=>by obtain ⟨b,off,ha,c0⟩:=h.cell i hi;exact ⟨b,off,ha,Zag c0 hA⟩,fun q hq=>(h.bs q hq).keep hA (Nat.le_refl _)⟩
theorem InL.keepB {L:List Lb}(h:InL w s L)(hA:Below w.heap.size w w'):InL w' s L:=
 ⟨h.len,h.nil,h.le,h.big,fun i hi=>by obtain ⟨b,off,ha,c0,c1⟩:=h.cell i hi;exact ⟨b,off,ha,Zag c0 hA,Zag c1 hA⟩,fun x hx=>⟨(h.it x hx).1.keep hA,(h.it x hx).2.keepB hA⟩⟩
theorem BIn.keep {z:Bz}(h:BIn w z)(hb:Below w.heap.size w w'):BIn w' z:=⟨h.es.keep hb (Nat.le_refl _),h.cs.keep hb (Nat.le_refl _),h.cb,h.ls.keepB hb⟩
section
variable {H : Type} {enc : TypeId × Value → H} {w : World} {base : Nat} {spare : Nat → Bool} {held : Bool}
theorem ZqB {d:DataW H}(hv:Value.okWide Tryz.prog w r b0 28 v)(h:DataW.Trod enc Tryz.prog w base spare held 28 v d p) :
    ∃z:Bz,v=z.val∧BIn w z:=by
  (have hC:Tryz.prog.cellsOf 28=6:=by kernel_rfl);(have hT:Tryz.prog.cellsOf 24=4:=by kernel_rfl);(have hU:Tryz.prog.cellsOf 25=1:=by kernel_rfl);(have hL:Tryz.prog.cellsOf 26=1:=by kernel_rfl);obtain⟨cs,rfl,ac⟩:=okWide_struct Tryz.underlying28 hv;rw [hC] at ac;obtain⟨l⟩:=cs
  match l,ac with
  | [c0,c1,c2,c3,c4,c5],_ =>
   obtain⟨fuel,hf⟩:=h;obtain⟨xs,n,_,_,_,ab,aa⟩:=DataW.trod_struct Tryz.underlying28 hf
   match xs,ab with
   | [y0,y1,y2],_ =>
    (have t0:DataW.trod enc Tryz.prog w base spare held n 24 [c0,c1,c2,c3]=some y0:=by simpa [Value.cells,hT] using aa 0 _ rfl);(have t1:DataW.trod enc Tryz.prog w base spare held n 25 [c4]=some y1:=by simpa [Value.cells,hU,hT] using aa 1 _ rfl);(have t2:DataW.trod enc Tryz.prog w base spare held n 26 [c5]=some y2:=by simpa [Value.cells,hL,hU,hT] using aa 2 _ rfl);obtain⟨t,s,e0,hE,ag⟩:=ZmO t0;obtain⟨ua,un,uc,e1⟩:=Go.Joins.slice_form Tryz.underlying25 t1;obtain⟨la,ln,lc,e2⟩:=Go.Joins.slice_form Tryz.underlying26 t2;simp only [List.cons.injEq,and_true] at e0 e1 e2;obtain⟨rfl,rfl,rfl,rfl⟩:=e0;subst e1 e2;obtain⟨ux,ae,af⟩:=Zk9 t1;obtain⟨L,ad⟩:=Zir t2;exact⟨⟨t,s,⟨ua,un,uc⟩,ux,⟨la,ln,lc⟩,L⟩,rfl,hE,ae,af,ad⟩
end
def ZjD (w:World) (z:Bz) (e:Ending):Prop:=e=.returned (.bool false)∨(Bin w z∧z.ls.len≤8∧e=.returned (.bool true))
theorem Zkt (w:World)(z:Bz)(h:BIn w z):Calls Tryz.prog 7 #[z.val] w fun e w'=>ZjD w z e∧Below w.heap.size w w':=by
 have hA:=Zaa w (.cells #[.int .i64 z.t.nx,.int .i64 z.t.no,.int .i64 z.t.cm,.slice z.es.a z.es.len z.es.cap,.slice z.cs.a z.cs.len z.cs.cap,.slice z.ls.a z.ls.len z.ls.cap] 28);have hb:=Zbi w z;obtain⟨W,hW⟩:∃W,w.alloc (.cells #[.int .i64 z.t.nx,.int .i64 z.t.no,.int .i64 z.t.cm,.slice z.es.a z.es.len z.es.cap,.slice z.cs.a z.cs.len z.cs.cap,.slice z.ls.a z.ls.len z.ls.cap] 28)=W:=⟨_,rfl⟩;rw [hW] at hA hb;have HW:=hide hW;have HA:=hide hA;have HB:=hide hb;have hk:=h.keep hA;have HU:=hide (Zkv z.cs.a z.cs.len z.cs.cap z.ux W hk.cs h.cb);have HL:=hide (Zku W z.ls z.lb hk.ls);have ac:Hid (z.cs.len≤30→z.ls.len≤8→(∀x∈z.lb,ZdQ x.u x.v x.l)→Bin w z):=fun h1 h2 h3=>⟨h.es,h.cs,by omega,h.ls.gl h2 h3⟩;have ai:z.es.len≤9223372036854775807:=h.es.big;have c3:=hb.c3;have c4:=hb.c4;have c5:=hb.c5;clear h hA hb hW hk;unfold Bz.val;unfold Sl.val at HL;go_enter Tryz.func7,Tryz.ntmps7;by_cases h0:z.es.len≤20
 · (have j0:(z.es.len:Int)≤20:=by omega);go_wp2_with fail;rw [HW.out];refine HU.out.mono ?_;rintro e w1 ⟨b,rfl,ah,rfl⟩;cases b with
   | false =>
    clear HL;go_wp2_with fail;go_ret;exact⟨.inl rfl,HA.out⟩
   | true =>
    have ag:=ah rfl;go_wp2_with fail;refine HL.out.mono ?_;rintro e w2 ⟨hl | ⟨ad,ae,hl⟩,aa⟩
    · subst hl;have ab:=hide (Zac HA.out aa);clear aa;go_wp2_with fail;go_ret;exact⟨.inl rfl,ab.out⟩
    · subst hl;have ab:=hide (Zac HA.out aa);have HR:=hide (ac.out ag ad ae);have af:Hid (z.ls.len≤8):=ad;clear aa ae;go_wp2_with fail;go_ret;exact⟨.inr ⟨HR.out,af.out,rfl⟩,ab.out⟩
 · (have j0:¬(z.es.len:Int)≤20:=by omega);go_wp2_with fail;rw [HW.out];go_ret;exact⟨.inl rfl,HA.out⟩
def ZhM (b:Bse) (e:Ending):Prop:=(MayBs b∧e=.returned (.int .i64 0))∨(¬MayBs b∧e=.returned (.int .i64 1))
def Zco (w0 w:World) (o:Option Rw × List Int × Int) (e:Ending) (w':World):Prop:=Below w.heap.size w w'∧∃(y:Rx) (q:Sl),e=.returned (.tuple #[y.val,.bool o.1.isSome,q.val,.int .i64 o.2.2])∧y.r=o.1.getD zeroR∧ColR w0 w' y∧Gi (fun _=>True) w' q o.2.1
def TolE (w0 w:World) (o:Option Rw × List Int × Int) (e:Ending) (w':World):Prop:=Below w.heap.size w w'∧∃(y:Rx) (q:Sl),e=.returned (.tuple #[y.val,.bool o.1.isSome,q.val,.int .i64 o.2.2])∧y.r=o.1.getD zeroR∧ColR w0 w' y
theorem Zco.tole {o:Option Rw × List Int × Int}{e:Ending}(h:Zco w0 w (Vn.cut o) e w'):TolE w0 w o e w':=by
 obtain⟨hb,y,q,he,hr,hc,_⟩:=h;exact⟨hb,y,q,he,hr,hc⟩
structure ZfP (F:Prop):Prop where
  check:∀(w:World) (z:Bz),Bin w z→Calls Tryz.prog 10 #[z.val] w fun e w'=>ZhM z.b e∧Below w.heap.size w w'
  read:∀(w0 w:World) (z:Bz) (v:Vw) (s:Sl) (key:Nat),Below w0.heap.size w0 w→Bin w0 z→Gi (fun _=>True) w s v.act→s.len≤200→key<18446744073709551616→MayBs z.b→MayV v→Calls Tryz.prog 9 #[z.val,vwV v s,.float .f64 key] w (Zco w0 w (Vn.cut (readB (uns z.ux) (lfs z.lb) v key)))
  readN:∀(w:World) (z:Bz) (v:Vw) (s:Sl) (key:Nat),Bin w z→Gi (fun _=>True) w s v.act→s.len≤200→key<18446744073709551616→¬(MayBs z.b∧MayV v)→Calls Tryz.prog 9 #[z.val,vwV v s,.float .f64 key] w fun e w'=>(∃(a:Option Addr) (c:Nat),e=.returned (.tuple #[Zdw,.bool false,.slice a 0 c,.int .i64 1]))∧Below w.heap.size w w'
  scan:F→∀(w:World) (z:Bz) (v:Vw) (s:Sl) (lo hi:Nat),Bin w z→z.ls.len≤8→Gi (fun _=>True) w s v.act→s.len≤200→lo<18446744073709551616→hi<18446744073709551616→MayBs z.b→MayV v→Calls Tryz.prog 16 #[z.val,vwV v s,.float .f64 lo,.float .f64 hi] w (Zek w (scanB (uns z.ux) (lfs z.lb) v lo hi))
  scanN:F→∀(w:World) (z:Bz) (v:Vw) (s:Sl) (lo hi:Nat),Bin w z→z.ls.len≤8→Gi (fun _=>True) w s v.act→s.len≤200→lo<18446744073709551616→hi<18446744073709551616→¬(MayBs z.b∧MayV v)→Calls Tryz.prog 16 #[z.val,vwV v s,.float .f64 lo,.float .f64 hi] w fun e w'=>(∃(a b:Option Addr) (c d:Nat),e=.returned (.tuple #[.slice a 0 c,.slice b 0 d,.int .i64 1]))∧Below w.heap.size w w'
end Go.Proofs.YtiecfcjlhldhdaaGreat
