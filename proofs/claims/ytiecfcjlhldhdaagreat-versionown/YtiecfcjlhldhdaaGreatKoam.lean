/-
  Lemmas.
-/
import Derived.Test.YtiecfcjlhldhdaaGreatKoal
import Derived.Test.YtiecfcjlhldhdaaGreatKoai
import Derived.Test.YtiecfcjlhldhdaaGreatKoae
import Derived.Test.YtiecfcjlhldhdaaGreatKoaj
import Derived.Deep.Cut
import Derived.Deep.CutRange
import Derived.Test.YtiecfcjlhldhdaaGreatKoak
import Derived.ProofKit
import Derived.OpenShut
import Derived.Lib.SmallJoins
import Derived.Laws.Cover2
import Derived.Deep.Slices
import Derived.Test.YtiecfcjlhldhdaaGreatKoad
namespace Go.Proofs.YtiecfcjlhldhdaaGreat
open Go.RowKit Go.Proofs.Tryz
set_option linter.unusedVariables false
set_option linter.unusedSimpArgs false
set_option maxRecDepth 100000
set_option maxHeartbeats 4000000
variable {w W w' w0:World}{s:Sl}{g p n:Nat}{L:List Lb}{z y:Bz}{a:Option Addr}
theorem ZrM {v:Vw}(k:VwBlk w p v s):(Instr.loadAt 31 (.pointer (some ⟨p,0,none⟩))).run prog w=.ok (vwV v s) w:=by
 have c0:=k.c0;have c1:=k.c1;have c2:=k.c2;obtain⟨a,n,c⟩:=s;unfold vwV Sl.val at *;simp [go_sem,c0,c1,c2]
theorem Gl.good {D:Nat→Prop}(h:Gl D w s L):∀g∈allH (lfs L),ZpY g.r:=by
 intro g hg;obtain⟨h1,h2,h3⟩:=ZgE.1 hg;refine⟨(Zlx ?_ h3).key,(Zdi hg).1⟩;have hm:lf (lfs L) g.i∈lfs L:=ZbG h1;obtain⟨x,hx,aa⟩:=List.mem_map.1 hm;rw [← aa] at h2 ⊢;have hk:g.k<x.v.len:=by
  (have e:(bss x.l).length=x.v.len:=by rw [Zaj,(h.it x hx).2.len]);rw [← e];exact h2
 exact((h.it x hx).2.at hk).1.came.bs.2.1
structure RzS (w:World) (s:Sl) (l:List Rx):Prop where
  rz:Rz w s.a s.len l
  le:s.len≤s.cap
  nil:s.a=none→s.cap=0
def Znk (w:World) (o:List Rw × List Int × Int) (e:Ending) (w':World):Prop:=Bl w w'∧∃(s q:Sl) (l:List Rx),e=.returned (.tuple #[s.val,q.val,.int .i64 o.2.2])∧RzS w' s l∧rws l=o.1∧Gi (fun _=>True) w' q o.2.1
open Go.ChangeShapes Go.WideShapes Go.ChangeAt Go.RowKit
theorem InI.keep {t:List Int}(h:InI w s t)(hb:Bl w w'):InI w' s t:=by
 refine⟨h.len,h.nil,h.le,h.big,fun i hi=>?_⟩;obtain⟨b,off,ha,c0⟩:=h.cell i hi;exact⟨b,off,ha,(hb.cell (World.block_lt_of_cell? w _ c0)).trans c0⟩
section
variable {H : Type} {enc : TypeId × Value → H} {w : World} {base : Nat} {spare : Nat → Bool} {held : Bool}
end
open Go.ChangeShapes Go.WideShapes Go.ChangeAt Go.RowKit
structure En.fits (e:En):Prop where
  tx:(Lit.int .i64 e.tx).wf=true
  st:(Lit.int .i64 e.st).wf=true
  last:(Lit.int .i64 e.last).wf=true
  com:(Lit.int .i64 e.com).wf=true
structure Tbl.fits (t:Tbl):Prop where
  nx:(Lit.int .i64 t.nx).wf=true
  no:(Lit.int .i64 t.no).wf=true
  cm:(Lit.int .i64 t.cm).wf=true
  es:∀e∈t.es,e.fits
section
variable {H : Type} {enc : TypeId × Value → H} {w : World} {base : Nat} {spare : Nat → Bool} {held : Bool}
theorem Zn4 {k:Nat}{c0 c1 c2 c3:Value}{y:DataW H × List MemPlace}(hf:DataW.trod enc prog w base spare held k 127 [c0,c1,c2,c3]=some y) :
    ∃e:En,[c0,c1,c2,c3]=e.cells∧e.fits:=by
  (have h4:prog.cellsOf 3=1:=by kernel_rfl);obtain⟨xs,n,_,_,_,ab,aa⟩:=DataW.trod_struct underlying127 hf
  match xs,ab with
  | [y0,y1,y2,y3],_ =>
   (have t0:DataW.trod enc prog w base spare held n 3 [c0]=some y0:=by simpa [Value.cells,h4] using aa 0 _ rfl);(have t1:DataW.trod enc prog w base spare held n 3 [c1]=some y1:=by simpa [Value.cells,h4] using aa 1 _ rfl);(have t2:DataW.trod enc prog w base spare held n 3 [c2]=some y2:=by simpa [Value.cells,h4] using aa 2 _ rfl);(have t3:DataW.trod enc prog w base spare held n 3 [c3]=some y3:=by simpa [Value.cells,h4] using aa 3 _ rfl);obtain⟨k0,e0,_,w0⟩:=DataW.trod_int underlying3 t0;obtain⟨k1,e1,_,w1⟩:=DataW.trod_int underlying3 t1;obtain⟨k2,e2,_,w2⟩:=DataW.trod_int underlying3 t2;obtain⟨k3,e3,_,w3⟩:=DataW.trod_int underlying3 t3;simp only [List.cons.injEq,and_true] at e0 e1 e2 e3;subst e0 e1 e2 e3;exact⟨⟨k0,k1,k2,k3⟩,rfl,⟨w0,w1,w2,w3⟩⟩
theorem Zoa {len cap:Nat}{y:DataW H × List MemPlace}(h:DataW.trod enc prog w base spare held n 22 [.slice a len cap]=some y) :
    ∃l,Es w ⟨a,len,cap⟩ l∧∀e∈l,e.fits:=by
  (have hC:prog.cellsOf 127=4:=by kernel_rfl);rcases Go.Deep.open_slice underlying22 h with ⟨ad,_⟩ | ⟨x,l,c,m,k,D,Pl,ad,hb,hl,hm,ag,_,hx⟩
  · simp only [List.cons.injEq,Value.slice.injEq,and_true] at ad;obtain⟨rfl,rfl,rfl⟩:=ad;exact⟨[],Es.none w,fun x hx=>by cases hx⟩
  · simp only [List.cons.injEq,Value.slice.injEq,and_true] at ad;obtain⟨rfl,rfl,rfl⟩:=ad;(have ai:len≤m:=by rw [ag];split <;> omega);have ah:0<len→x.spot=none:=by
     intro h0;obtain⟨cs,h1,_⟩:=hx 0 (by omega);rw [hC] at h1;obtain⟨_,ac,hc⟩:=World.cells?_some h1
     match cs,ac with
     | [c0,c1,c2,c3],_ =>
      have e0:=hc 0 (by omega);have:=World.cell?_spot (by simpa using e0);simpa [Addr.add] using this
    have each:∀i,i<len→∃t:En,∃b off,x=⟨b,off,none⟩∧EnAt w b (off+i*4) t∧t.fits:=by
     intro i hi;obtain⟨cs,g1,g2⟩:=hx i (by omega);rw [hC] at g1;obtain⟨_,ac,hc⟩:=World.cells?_some g1
     match cs,ac with
     | [c0,c1,c2,c3],_ =>
      obtain⟨t,ht,ab⟩:=Zn4 g2;have aa:x.spot=none:=ah (by omega);obtain⟨b,off,spot⟩:=x;simp only at aa;subst aa;refine⟨t,b,off,rfl,EnAt.of fun q hq=>?_,ab⟩;have e:=hc q (by omega);simp only [Addr.add_lit] at e;rw [← ht];simpa using e
    obtain⟨f,hf⟩:=@Go.Deep.choose_lt En ⟨En.zero⟩ len _ each;(have ae:∀j,j<len→((List.range len).map f).getD j En.zero=f j:=fun j hj=>by simp [List.getD,hj]);refine⟨(List.range len).map f,⟨by simp,(fun e=>by cases e),by show len≤cap;omega,by show len≤_;unfold maxLen at hm;omega,fun j hj=>?_⟩,fun t ht=>?_⟩
    · obtain⟨b,off,rfl,af,_⟩:=hf j hj;refine⟨b,off,rfl,?_⟩;rw [ae j hj];exact af
    · obtain⟨j,hj,rfl⟩:=List.mem_map.1 ht;obtain⟨_,_,_,_,ab⟩:=hf j (by simpa using hj);exact ab
theorem ZmY {k:Nat}{c0 c1 c2 c3:Value}{y:DataW H × List MemPlace}(hf:DataW.trod enc prog w base spare held k 24 [c0,c1,c2,c3]=some y) :
    ∃(t:Tbl) (s:Sl),[c0,c1,c2,c3]=[.int .i64 t.nx,.int .i64 t.no,.int .i64 t.cm,.slice s.a s.len s.cap]∧Es w s t.es∧t.fits:=by
  (have hS:prog.cellsOf 22=1:=by kernel_rfl);(have h4:prog.cellsOf 3=1:=by kernel_rfl);obtain⟨xs,n,_,_,_,ad,ab⟩:=DataW.trod_struct underlying24 hf
  match xs,ad with
  | [y0,y1,y2,y3],_ =>
   (have t0:DataW.trod enc prog w base spare held n 3 [c0]=some y0:=by simpa [Value.cells,h4] using ab 0 _ rfl);(have t1:DataW.trod enc prog w base spare held n 3 [c1]=some y1:=by simpa [Value.cells,h4] using ab 1 _ rfl);(have t2:DataW.trod enc prog w base spare held n 3 [c2]=some y2:=by simpa [Value.cells,h4] using ab 2 _ rfl);(have t3:DataW.trod enc prog w base spare held n 22 [c3]=some y3:=by simpa [Value.cells,hS] using ab 3 _ rfl);obtain⟨k0,e0,_,w0⟩:=DataW.trod_int underlying3 t0;obtain⟨k1,e1,_,w1⟩:=DataW.trod_int underlying3 t1;obtain⟨k2,e2,_,w2⟩:=DataW.trod_int underlying3 t2;simp only [List.cons.injEq,and_true] at e0 e1 e2;subst e0 e1 e2;have ae:∃a len cap,c3=.slice a len cap:=by
    rcases Go.Deep.open_slice underlying22 t3 with ⟨aa,_⟩ | ⟨x,l,c,m,k,D,Pl,aa,_⟩
    · simp only [List.cons.injEq,and_true] at aa;exact⟨_,_,_,aa⟩
    · simp only [List.cons.injEq,and_true] at aa;exact⟨_,_,_,aa⟩
   obtain⟨a,len,cap,rfl⟩:=ae;obtain⟨es,hE,ac⟩:=Zoa t3;exact⟨⟨k0,k1,k2,es⟩,⟨a,len,cap⟩,rfl,hE,⟨w0,w1,w2,ac⟩⟩
end
open Go.ChangeShapes Go.WideShapes Go.ChangeAt Go.RowKit
section
variable {H : Type} {enc : TypeId × Value → H} {w : World} {base : Nat} {spare : Nat → Bool} {held : Bool}
end
section
variable {ops : Array Oper} {rest : List Oper} {o : Oper} {a : Act} {Q : Exit → Act → World → Prop}
end
def Zrz (n:Nat) (w:World) (e:Ending) (w':World):Prop:=∃b,e=.returned (.bool b)∧(b=true→n≤30)∧w'=w
theorem Zk5 (a:Option Addr)(n cap:Nat)(l:List Ux)(w:World)(h:Us w a n l)(ac:n≤9223372036854775807) :
    Calls prog 25 #[.slice a n cap] w fun e w'=>Zrz n w e w':=by
  have HE:=Zh h;clear h;go_enter func25,ntmps25;go_wp2_with fail;go_loopw [3] (fun iv wr=>∃i:Nat,i≤30∧i≤n∧iv=.int .i64 (i:Nat)∧wr=w) (fun iv _=>30-(intOf iv).toNat)
  case atStart=>exact ⟨0,by omega,by omega,rfl,rfl⟩
  case round =>
   obtain⟨i,hi,ag,rfl,rfl⟩:=hrel;rcases Nat.lt_or_ge i n with ad | af
   · (have i1:(i:Int)<(n:Int):=by omega);rcases Nat.lt_or_ge i 30 with ah | ae
     · (have i2:(i:Int)<30:=by omega);obtain⟨b1,off,rfl,ab⟩:=HE.o.at' i ad;generalize l.getD i Ux.zero=y at *;have x8:=ab.c8;clear ab;by_cases hc:20<y.n
       · (have i3:(20:Int)<(y.n:Int):=by omega);go_wp2;go_ret;exact⟨_,rfl,(fun e=>by cases e),rfl⟩
       · (have i3:¬(20:Int)<(y.n:Int):=by omega);go_wp2;go_roundw;exact ⟨i+1,by omega,by omega,by go_num,trivial⟩;simp only [intOf];omega
     · (have i2:¬(i:Int)<30:=by omega);by_cases aa:n≤30
       · (have i3:(n:Int)≤30:=by omega);go_wp2;go_ret;exact⟨_,rfl,(fun _=>aa),rfl⟩
       · (have i3:¬(n:Int)≤30:=by omega);go_wp2;go_ret;exact⟨_,rfl,(fun e=>by cases e),rfl⟩
   · (have i1:¬(i:Int)<(n:Int):=by omega);(have aa:n≤30:=by omega);(have i3:(n:Int)≤30:=by omega);go_wp2;go_ret;exact⟨_,rfl,(fun _=>aa),rfl⟩
open Go.ChangeShapes Go.WideShapes Go.ChangeAt Go.RowKit
structure BIn (w:World) (z:Bz):Prop where
  es:Es w z.es z.t.es
  cs:Us w z.cs.a z.cs.len z.ux
  cb:z.cs.len≤9223372036854775807
  ls:InL w z.ls z.lb
theorem InS.keepB {l:List Sb}(h:InS w s l)(hA:Bl w w'):InS w' s l:=
 ⟨h.len,h.nil,h.le,h.big,fun i hi=>by obtain ⟨b,off,ha,c0⟩:=h.cell i hi;exact ⟨b,off,ha,Zae c0 hA⟩,fun q hq=>(h.bs q hq).keep hA (Nat.le_refl _)⟩
theorem InL.keepB (h:InL w s L)(hA:Bl w w'):InL w' s L:=
 ⟨h.len,h.nil,h.le,h.big,fun i hi=>by obtain ⟨b,off,ha,c0,c1⟩:=h.cell i hi;exact ⟨b,off,ha,Zae c0 hA,Zae c1 hA⟩,fun x hx=>⟨(h.it x hx).1.keep hA,(h.it x hx).2.keepB hA⟩⟩
theorem BIn.keep (h:BIn w z)(hb:Bl w w'):BIn w' z:=⟨h.es.keep hb (Nat.le_refl _),h.cs.keep hb (Nat.le_refl _),h.cb,h.ls.keepB hb⟩
section
variable {H : Type} {enc : TypeId × Value → H} {w : World} {base : Nat} {spare : Nat → Bool} {held : Bool}
theorem ZqX {r:Reach}{b0:Nat}{v:Value}{d:DataW H}{p:List MemPlace}(hv:Value.okWide prog w r b0 28 v)(h:DataW.Trod enc prog w base spare held 28 v d p) :
    ∃z:Bz,v=z.val∧BIn w z:=by
  (have hC:prog.cellsOf 28=6:=by kernel_rfl);(have hT:prog.cellsOf 24=4:=by kernel_rfl);(have hU:prog.cellsOf 25=1:=by kernel_rfl);(have hL:prog.cellsOf 26=1:=by kernel_rfl);obtain⟨cs,rfl,ac⟩:=okWide_struct underlying28 hv;rw [hC] at ac;obtain⟨l⟩:=cs
  match l,ac with
  | [c0,c1,c2,c3,c4,c5],_ =>
   obtain⟨fuel,hf⟩:=h;obtain⟨xs,n,_,_,_,ab,aa⟩:=DataW.trod_struct underlying28 hf
   match xs,ab with
   | [y0,y1,y2],_ =>
    (have t0:DataW.trod enc prog w base spare held n 24 [c0,c1,c2,c3]=some y0:=by simpa [Value.cells,hT] using aa 0 _ rfl);(have t1:DataW.trod enc prog w base spare held n 25 [c4]=some y1:=by simpa [Value.cells,hU,hT] using aa 1 _ rfl);(have t2:DataW.trod enc prog w base spare held n 26 [c5]=some y2:=by simpa [Value.cells,hL,hU,hT] using aa 2 _ rfl);obtain⟨t,s,e0,hE,ag⟩:=ZmY t0;obtain⟨ua,un,uc,e1⟩:=Go.Joins.slice_form underlying25 t1;obtain⟨la,ln,lc,e2⟩:=Go.Joins.slice_form underlying26 t2;simp only [List.cons.injEq,and_true] at e0 e1 e2;obtain⟨rfl,rfl,rfl,rfl⟩:=e0;subst e1 e2;obtain⟨ux,ae,af⟩:=ZkI t1;obtain⟨L,ad⟩:=Zi9 t2;exact⟨⟨t,s,⟨ua,un,uc⟩,ux,⟨la,ln,lc⟩,L⟩,rfl,hE,ae,af,ad⟩
end
def ZjQ (w:World) (z:Bz) (e:Ending):Prop:=e=.returned (.bool false)∨(Bin w z∧z.ls.len≤8∧e=.returned (.bool true))
theorem Zk3 (w:World)(z:Bz)(h:BIn w z):Calls prog 7 #[z.val] w fun e w'=>ZjQ w z e∧Bl w w':=by
 have hA:=Zab w (.cells #[.int .i64 z.t.nx,.int .i64 z.t.no,.int .i64 z.t.cm,.slice z.es.a z.es.len z.es.cap,.slice z.cs.a z.cs.len z.cs.cap,.slice z.ls.a z.ls.len z.ls.cap] 28);have hb:=ZaD w z;obtain⟨W,hW⟩:∃W,w.alloc (.cells #[.int .i64 z.t.nx,.int .i64 z.t.no,.int .i64 z.t.cm,.slice z.es.a z.es.len z.es.cap,.slice z.cs.a z.cs.len z.cs.cap,.slice z.ls.a z.ls.len z.ls.cap] 28)=W:=⟨_,rfl⟩;rw [hW] at hA hb;have HW:=Zh hW;have HA:=Zh hA;have HB:=Zh hb;have hk:=h.keep hA;have HU:=Zh (Zk5 z.cs.a z.cs.len z.cs.cap z.ux W hk.cs h.cb);have HL:=Zh (Zk4 W z.ls z.lb hk.ls);have ac:Hi (z.cs.len≤30→z.ls.len≤8→(∀x∈z.lb,Zej x.u x.v x.l)→Bin w z):=fun h1 h2 h3=>⟨h.es,h.cs,by omega,h.ls.gl h2 h3⟩;have ai:z.es.len≤9223372036854775807:=h.es.big;have c3:=hb.c3;have c4:=hb.c4;have c5:=hb.c5;clear h hA hb hW hk;unfold Bz.val;unfold Sl.val at HL;go_enter func7,ntmps7;by_cases h0:z.es.len≤20
 · (have j0:(z.es.len:Int)≤20:=by omega);go_wp2_with fail;rw [HW.o];refine HU.o.mono ?_;rintro e w1 ⟨b,rfl,ah,rfl⟩;cases b with
   | false =>
    clear HL;go_wp2;go_ret;exact⟨.inl rfl,HA.o⟩
   | true =>
    have ag:=ah rfl;go_wp2_with fail;refine HL.o.mono ?_;rintro e w2 ⟨hl | ⟨ad,ae,hl⟩,aa⟩
    · subst hl;have ab:=Zh (Zad HA.o aa);clear aa;go_wp2;go_ret;exact⟨.inl rfl,ab.o⟩
    · subst hl;have ab:=Zh (Zad HA.o aa);have HR:=Zh (ac.o ag ad ae);have af:Hi (z.ls.len≤8):=ad;clear aa ae;go_wp2;go_ret;exact⟨.inr ⟨HR.o,af.o,rfl⟩,ab.o⟩
 · (have j0:¬(z.es.len:Int)≤20:=by omega);go_wp2_with fail;rw [HW.o];go_ret;exact⟨.inl rfl,HA.o⟩
def Zib (b:Bse) (e:Ending):Prop:=(MayBs b∧e=.returned (.int .i64 0))∨(¬MayBs b∧e=.returned (.int .i64 1))
def Zew (w0 w:World) (o:Option Rw × List Int × Int) (e:Ending) (w':World):Prop:=Bl w w'∧∃(y:Rx) (q:Sl),e=.returned (.tuple #[y.val,.bool o.1.isSome,q.val,.int .i64 o.2.2])∧y.r=o.1.getD zeroR∧ColR w0 w' y∧Gi (fun _=>True) w' q o.2.1
structure Zgn (F:Prop):Prop where
  check:∀(w:World) (z:Bz),Bin w z→Calls prog 10 #[z.val] w fun e w'=>Zib z.b e∧Bl w w'
  read:∀(w0 w:World) (z:Bz) (v:Vw) (s:Sl) (key:Nat),Bl w0 w→Bin w0 z→Gi (fun _=>True) w s v.act→s.len≤200→key<18446744073709551616→MayBs z.b→MayV v→Calls prog 9 #[z.val,vwV v s,.float .f64 key] w (Zew w0 w (Vn.cut (readB (uns z.ux) (lfs z.lb) v key)))
  readN:∀(w:World) (z:Bz) (v:Vw) (s:Sl) (key:Nat),Bin w z→Gi (fun _=>True) w s v.act→s.len≤200→key<18446744073709551616→¬(MayBs z.b∧MayV v)→Calls prog 9 #[z.val,vwV v s,.float .f64 key] w fun e w'=>(∃(a:Option Addr) (c:Nat),e=.returned (.tuple #[Zc5,.bool false,.slice a 0 c,.int .i64 1]))∧Bl w w'
  scan:F→∀(w:World) (z:Bz) (v:Vw) (s:Sl) (lo hi:Nat),Bin w z→z.ls.len≤8→Gi (fun _=>True) w s v.act→s.len≤200→lo<18446744073709551616→hi<18446744073709551616→MayBs z.b→MayV v→Calls prog 16 #[z.val,vwV v s,.float .f64 lo,.float .f64 hi] w (Znk w (ZrZ (uns z.ux) (lfs z.lb) v lo hi))
  scanN:F→∀(w:World) (z:Bz) (v:Vw) (s:Sl) (lo hi:Nat),Bin w z→z.ls.len≤8→Gi (fun _=>True) w s v.act→s.len≤200→lo<18446744073709551616→hi<18446744073709551616→¬(MayBs z.b∧MayV v)→Calls prog 16 #[z.val,vwV v s,.float .f64 lo,.float .f64 hi] w fun e w'=>(∃(a b:Option Addr) (c d:Nat),e=.returned (.tuple #[.slice a 0 c,.slice b 0 d,.int .i64 1]))∧Bl w w'
theorem ZiT {fn:Func}{x:Nat}(hr:fn.results=#[.cell x 24]){t:Tbl}{v:Sl}(h:ZaB W g t v)(tmps:Array Value)(ht:tmps.getD x undef=.pointer (some ⟨g,0,none⟩)):(results fn tmps).run prog W=.ok (t.val v) W:=by
 have c0:=h.c0;have c1:=h.c1;have c2:=h.c2;have c3:=h.c3;rw [Array.getD_eq_getD_getElem?] at ht;unfold results;rw [hr];simp [go_sem,ht,c0,c1,c2,c3,Tbl.val]
theorem Zi1:madeCells (Value.agg #[.int .i64 0,.int .i64 0,.int .i64 0,.int .i64 0]).cells (12*4)=(Zcp (List.replicate 12 En.zero)).toArray:=by kernel_rfl
theorem Zi2 (w:World):(Instr.makeSlice 22 (.int .i64 12) (.int .i64 12)).run prog w=.ok (.slice (some ⟨w.heap.size,0,none⟩) 12 12) (w.alloc (.cells (Zcp (List.replicate 12 En.zero)).toArray 127)):=by
 obtain⟨i0,hi,ab,aa,ac⟩:=info_parts ZoE;have h:=run_makeSlice (P:=prog) w 22 127 i0 (.agg #[.int .i64 0,.int .i64 0,.int .i64 0,.int .i64 0]) underlying22 hi ab .i64 .i64 12 12 (by omega) (by omega) (by rw [aa];decide) (by rw [ac];decide) (by omega);rw [aa,show (12:Int).toNat=12 from rfl,Zi1] at h;exact h
theorem ZkJ (w:World):OwnE (w.alloc (.cells (Zcp (List.replicate 12 En.zero)).toArray 127)) ⟨some ⟨w.heap.size,0,none⟩,12,12⟩ (List.replicate 12 En.zero):=
 ⟨rfl,.inr ⟨w.heap.size,0,_,rfl,heap_alloc_new w _,(by show 0+12*4≤(Zcp (List.replicate 12 En.zero)).toArray.size;decide),Nat.le_refl _,(by show (12:Nat)≤maxLen;unfold maxLen;decide),rfl⟩⟩
section
variable {ops : Array Oper} {rest : List Oper} {o : Oper} {a : Act} {Q : Exit → Act → World → Prop}
theorem ZhZ (w:World)(ab:o.guard=none)(t:TypeId)(x y:Operand)(ho:o.op=.makeSlice t x y)(u u' v:Value)(hu:a.eval x=u)(hu':a.eval y=u')(w':World)(aa:(Instr.makeSlice t u u').run prog w=.ok v w')(hK:wpList prog ops Q rest (a.put o.dst v) w'):wpList prog ops Q (o :: rest) a w:=by
 refine ZcL w ab v w' ?_ hK;have e:execOp a.eval o=(do pure (.value (← Instr.makeSlice t (a.eval x) (a.eval y)))):=by
  unfold execOp;rw [ho]
 rw [e,hu,hu'];simp [aa]
end
def Zr0 (t:Tbl) (w:World) (mk:Value→Value) (e:Ending) (w':World):Prop:=∃s:Sl,e=.returned (mk (t.val s))∧OwnE w' s t.es∧(∀k,s.blk=some k→w.heap.size≤k)∧Bl w w'
theorem Zff (w:World):Calls prog 58 #[] w (Zr0 Zat w id):=by
 have hz:=ZaB.new w Tbl.zero Sl.nil
 have s1:(w.alloc (.cells #[.int .i64 0,.int .i64 0,.int .i64 0,.slice none 0 0] 24)).heap.size=w.heap.size+1:=by simp
 have hb1:=Zab w (.cells #[.int .i64 0,.int .i64 0,.int .i64 0,.slice none 0 0] 24)
 have hz':ZaB (w.alloc (.cells #[.int .i64 0,.int .i64 0,.int .i64 0,.slice none 0 0] 24)) w.heap.size Tbl.zero Sl.nil:=hz
 have hmk:=Zi2 (w.alloc (.cells #[.int .i64 0,.int .i64 0,.int .i64 0,.slice none 0 0] 24))
 have ho:=ZkJ (w.alloc (.cells #[.int .i64 0,.int .i64 0,.int .i64 0,.slice none 0 0] 24))
 have hb2:=Zab (w.alloc (.cells #[.int .i64 0,.int .i64 0,.int .i64 0,.slice none 0 0] 24)) (.cells (Zcp (List.replicate 12 En.zero)).toArray 127)
 rw [s1] at hmk ho
 generalize (w.alloc (.cells #[.int .i64 0,.int .i64 0,.int .i64 0,.slice none 0 0] 24)).alloc (.cells (Zcp (List.replicate 12 En.zero)).toArray 127)=W2 at *
 obtain⟨W3,hst,hbk,hfr,hsz⟩:=(hz'.keep hb2).store Zat ⟨some ⟨w.heap.size+1,0,none⟩,12,12⟩
 have HO:Hi (OwnE W3 ⟨some ⟨w.heap.size+1,0,none⟩,12,12⟩ Zat.es):=ho.other hfr (fun k hk=>by have e:some (w.heap.size+1)=some k:=hk;cases e;omega)
 have HN:Hi (∀k,(⟨some ⟨w.heap.size+1,0,none⟩,12,12⟩:Sl).blk=some k→w.heap.size≤k):=fun k hk=>by have e:some (w.heap.size+1)=some k:=hk;cases e;omega
 have HB:Hi (Bl w W3):=(Zad hb1 hb2).trans (hfr.below (Zad hb1 hb2).size (fun k hk=>by omega))
 have HMK:=Zh hmk
 have HST:Hi ((Instr.storeAt 24 (.pointer (some ⟨w.heap.size,0,none⟩)) (.agg #[.int .i64 1,.int .i64 1,.int .i64 0,.slice (some ⟨w.heap.size+1,0,none⟩) 12 12])).run prog W2=.ok () W3):=hst
 have HBK:=Zh hbk
 clear hz hz' s1 hb1 hb2 hmk ho hst hbk hfr hsz
 go_enter func58,ntmps58
 go_wp2_with (first | refine ZhZ _ rfl 22 (.const (.int .i64 12)) (.const (.int .i64 12)) rfl (.int .i64 12) (.int .i64 12) (.slice (some ⟨w.heap.size+1,0,none⟩) 12 12) rfl rfl W2 HMK.o ?_ | refine Zac _ rfl rfl 24 (.tmp 0) (.tmp 2) rfl (.pointer (some ⟨w.heap.size,0,none⟩)) (.agg #[.int .i64 1,.int .i64 1,.int .i64 0,.slice (some ⟨w.heap.size+1,0,none⟩) 12 12]) rfl rfl W3 HST.o ?_)
 refine bodyPost_ret (ZiT rfl HBK.o _ rfl) rfl ?_
 exact⟨_,rfl,HO.o,HN.o,HB.o⟩
def setBs (w:World) (p:Nat) (z:Bz):World:=((((((w.setCell ⟨p,0,none⟩ (.int .i64 z.t.nx)).setCell ⟨p,1,none⟩ (.int .i64 z.t.no)).setCell ⟨p,2,none⟩ (.int .i64 z.t.cm)).setCell ⟨p,3,none⟩ (.slice z.es.a z.es.len z.es.cap)).setCell ⟨p,4,none⟩ (.slice z.cs.a z.cs.len z.cs.cap)).setCell ⟨p,5,none⟩ (.slice z.ls.a z.ls.len z.ls.cap))
theorem ZbO (w:World)(p:Nat)(z:Bz):Frm (fun k=>k=p) w (setBs w p z):=(((((((Frm.refl (fun k=>k=p) w).setCell (p:=⟨p,0,none⟩) rfl _).setCell (p:=⟨p,1,none⟩) rfl _).setCell (p:=⟨p,2,none⟩) rfl _).setCell (p:=⟨p,3,none⟩) rfl _).setCell (p:=⟨p,4,none⟩) rfl _).setCell (p:=⟨p,5,none⟩) rfl _)
theorem ZbN (h:BsBlk w p y)(z:Bz):BsBlk (setBs w p z) p z:=by
 have s0:=heap_setCell_same w p 0 _ 28 (.int .i64 z.t.nx) h;have s1:=heap_setCell_same _ p 1 _ 28 (.int .i64 z.t.no) s0;have s2:=heap_setCell_same _ p 2 _ 28 (.int .i64 z.t.cm) s1;have s3:=heap_setCell_same _ p 3 _ 28 (.slice z.es.a z.es.len z.es.cap) s2;have s4:=heap_setCell_same _ p 4 _ 28 (.slice z.cs.a z.cs.len z.cs.cap) s3;have s5:=heap_setCell_same _ p 5 _ 28 (.slice z.ls.a z.ls.len z.ls.cap) s4;exact s5
theorem Zlb (h:BsBlk w p y)(z:Bz):(Instr.storeAt 28 (.pointer (some ⟨p,0,none⟩)) z.val).run prog w=.ok () (setBs w p z):=by
 have c0:=h.c0;have c1:=h.c1;have c2:=h.c2;have c3:=h.c3;have c4:=h.c4;have c5:=h.c5;have f0:=h.fz;simp [go_sem,Instr.storeAt,stored,c0,c1,c2,c3,c4,c5,f0,Bz.val,setBs]
theorem ZoN (h:BsBlk w p y)(s:Sl)(L:List Lb):∃W,(Instr.storeAt 26 (.pointer (some ⟨p,5,none⟩)) (.slice s.a s.len s.cap)).run prog w=.ok () W∧BsBlk W p ⟨y.t,y.es,y.cs,y.ux,s,L⟩∧Frm (fun k=>k=p) w W:=by
 have c5:=h.c5;have f0:=h.fz;refine⟨w.setCell ⟨p,5,none⟩ (.slice s.a s.len s.cap),by simp [go_sem,Instr.storeAt,stored,c5,f0],?_,(Frm.refl (fun k=>k=p) w).setCell (p:=⟨p,5,none⟩) rfl _⟩;have s5:=heap_setCell_same w p 5 _ 28 (.slice s.a s.len s.cap) h;exact s5
theorem Zro (h:BsBlk w p y)(s:Sl)(ux:List Ux):∃W,(Instr.storeAt 25 (.pointer (some ⟨p,4,none⟩)) (.slice s.a s.len s.cap)).run prog w=.ok () W∧BsBlk W p ⟨y.t,y.es,s,ux,y.ls,y.lb⟩∧Frm (fun k=>k=p) w W:=by
 have c4:=h.c4;have f0:=h.fz;refine⟨w.setCell ⟨p,4,none⟩ (.slice s.a s.len s.cap),by simp [go_sem,Instr.storeAt,stored,c4,f0],?_,(Frm.refl (fun k=>k=p) w).setCell (p:=⟨p,4,none⟩) rfl _⟩;have s5:=heap_setCell_same w p 4 _ 28 (.slice s.a s.len s.cap) h;exact s5
theorem Zgu (z:Bz)(w:World):(Instr.build 28 #[(0,z.t.val z.es),(1,.slice z.cs.a z.cs.len z.cs.cap),(2,.slice z.ls.a z.ls.len z.ls.cap)]).run prog w=.ok z.val w:=by
 obtain⟨⟨nx,no,cm,es⟩,⟨a,b,c⟩,⟨d,e,f⟩,ux,⟨g,h,i⟩,lb⟩:=z;simp [go_sem,Tbl.val,Bz.val]
theorem Es.box {v:Sl}{l:List En}(h:Es w v l)(hg:BsBlk w g z)(hf:Frm (fun k=>k=g) w W):Es W v l:=by
 refine⟨h.len,h.nil,h.le,h.big,fun j hj=>?_⟩;obtain⟨b,off,ha,e⟩:=h.at' j hj;have hb:b≠g:=by
  intro e2;subst e2;have c0:=e.c0;have c1:=e.c1;have c2:=e.c2;have c3:=e.c3;unfold BsBlk at hg;rw [cell_of_row _ _ _ _ _ _ hg] at c0 c1 c2 c3;generalize off+j*4=q at *;rcases q with _ | _ | _ | _ | _ | _ | q <;> simp at c0 c1 c2 c3
 have hs:W.heap[b]? = w.heap[b]?:=hf.block b (World.block_lt_of_cell? w _ e.c0) hb;refine⟨b,off,ha,⟨?_,?_,?_,?_⟩⟩
 · have:=e.c0;simp only [World.cell?] at this ⊢;rw [hs];exact this
 · have:=e.c1;simp only [World.cell?] at this ⊢;rw [hs];exact this
 · have:=e.c2;simp only [World.cell?] at this ⊢;rw [hs];exact this
 · have:=e.c3;simp only [World.cell?] at this ⊢;rw [hs];exact this
theorem Fs.box {c:Nat}{xs:List Nat}(h:Fs w a n c xs)(hg:BsBlk w g z)(hf:Frm (fun k=>k=g) w W):Fs W a n c xs:=by
 refine h.same (fun b off ha hn=>?_);obtain⟨b',off',ha',hc,_,_⟩:=h.at 0 hn;rw [ha'] at ha;cases ha;refine hf.block b (World.block_lt_of_cell? _ _ hc) (fun e=>?_);subst e;unfold BsBlk at hg;rw [cell_of_row _ _ _ _ _ _ hg] at hc;generalize off+0=q at *;rcases q with _ | _ | _ | _ | _ | _ | q <;> simp at hc
theorem Us.box {l:List Ux}(h:Us w a n l)(hg:BsBlk w g z)(hf:Frm (fun k=>k=g) w W):Us W a n l:=by
 refine⟨h.len,fun j hj=>?_,fun x hx=>(h.cols x hx).box hg hf,h.fits⟩;obtain⟨b,off,ha,e⟩:=h.at' j hj;have hb:b≠g:=by
  intro e2;subst e2;have c7:=e.c7;unfold BsBlk at hg;rw [cell_of_row _ _ _ _ _ _ hg] at c7;generalize off+j*12=q at *;rcases q with _ | _ | _ | _ | _ | _ | q <;> simp at c7
 have hs:W.heap[b]? = w.heap[b]?:=hf.block b (World.block_lt_of_cell? w _ e.c0) hb;(have k:∀{q:Nat} {u:Value},w.cell? ⟨b,q,none⟩=some u→W.cell? ⟨b,q,none⟩=some u:=fun {q u} hq=>by simp only [World.cell?] at hq ⊢;rw [hs];exact hq);exact⟨b,off,ha,⟨k e.c0,k e.c1,k e.c2,k e.c3,k e.c4,k e.c5,k e.c6,k e.c7,k e.c8,k e.c9,k e.c10,k e.c11⟩⟩
theorem Own.box {e:TypeId}{vs:List Value}(h:Own e n w s vs)(hg:BsBlk w g z)(he:e≠28)(hf:Frm (fun k=>k=g) w W):Own e n W s vs:=Own.frmT h hg he hf
structure EmB (w0 w:World) (n:Nat) (z:Bz):Prop where
  t:z.t=Zat
  es:OwnE w z.es z.t.es
  ux:z.ux=List.replicate 6 Ux.zero
  cs:Ud w0 w z.cs z.ux
  ls:EmI w0 w z.ls z.lb
  ll:z.ls.len=n
  em:lfs z.lb=ZaJ n
theorem EmI.keep (h:EmI w0 w s L)(hb:Bl w w'):EmI w0 w' s L:=
 ⟨Own.frame h.own (fun k hk=>hb.block k (Own.lt h.own hk)),h.new,Zad h.below hb,fun x hx=>by obtain ⟨a,b,c,g,e,f⟩:=h.it x hx;exact ⟨a,b,c,g,e,(hb.block g (Array.getElem?_eq_some_iff.1 f).1).trans f⟩⟩
theorem EmI.base {w1:World}(h:EmI w1 w s L)(hb:Bl w0 w1):EmI w0 w s L:=⟨h.own,fun k hk=>Nat.le_trans hb.size (h.new k hk),Zad hb h.below,h.it⟩
theorem EmI.glN (h:EmI w0 w s L)(hm:s.len≤900)(hg:BsBlk w g z):Gl (fun k=>k≠g) w s L:=by
 have h1:=h.gl hm;have hn:∀k,s.blk=some k→k≠g:=fun k hk e=>by
  obtain⟨c,hc⟩:=Own.kind h.own hk;unfold BsBlk at hg;rw [e,hg] at hc;simp only [Option.some.injEq,Obj.cells.injEq] at hc;exact absurd hc.2.1 (by decide)
 exact h.own.gl hm hn (fun x hx=>by
  obtain⟨a1,a2,a3,g2,a4,a5⟩:=h.it x hx;have aa:g2≠g:=fun e=>by
   unfold BsBlk at hg;rw [e,hg] at a5;simp only [Option.some.injEq,Obj.cells.injEq] at a5;exact absurd a5.2.1 (by decide)
  have h3:=(h1.it x hx).1;refine⟨⟨h3.len,h3.nil,h3.le,h3.big,fun ad ha hl=>?_,h3.cell⟩,?_⟩
  · rw [a4] at ha;cases ha;exact aa
  · rw [a1,a2];exact Gb.none w)
theorem EmI.frmT {cs:Array Value}{t:TypeId}(h:EmI w0 w s L)(hg:w.heap[g]? = some (Obj.cells cs t (0,0)))(h1:101≠t)(h2:3≠t)(hf:Frm (fun k=>k=g) w W)(aa:w0.heap.size≤g):EmI w0 W s L:=by
 refine⟨Own.frmT h.own hg h1 hf,h.new,h.below.trans (hf.below h.below.size (fun k e=>by rw [e];exact aa)),fun x hx=>?_⟩;obtain⟨a1,a2,a3,g2,a4,a5⟩:=h.it x hx;refine⟨a1,a2,a3,g2,a4,(hf.block g2 (Array.getElem?_eq_some_iff.1 a5).1 (fun e=>?_)).trans a5⟩;rw [e,hg] at a5;simp only [Option.some.injEq,Obj.cells.injEq] at a5;exact h2 a5.2.1.symm
theorem Zjj:∀args w,(callFunc 58 args).run prog w=.ok (.enter 58 args) w:=Pl.qj func58
theorem Zg2:∀args w,(callFunc 59 args).run prog w=.ok (.enter 59 args) w:=Pl.qj func59
theorem Zir {ts us ls:Sl}(hk:BsBlk w g y)(ht:OwnE w ts Zat.es)(hu:Ud w0 w us (List.replicate 6 Ux.zero))(hm:EmI w0 w ls L)(ab:L.length=n)(hn:n≤800)(aa:w0.heap.size≤g)(hf:Frm (fun k=>k=g) w W):EmB w0 W n ⟨Zat,ts,us,List.replicate 6 Ux.zero,ls,L⟩:=by
 refine⟨rfl,Own.box ht hk (by decide) hf,rfl,⟨Own.box hu.own hk (by decide) hf,hu.new,hu.below.trans (hf.below hu.below.size (fun k e=>by rw [e];exact aa)),fun x hx=>?_,hu.fits⟩,hm.frmT hk (by decide) (by decide) hf aa,by have h1:L.length=ls.len:=OwnL.len hm.own;show ls.len=n;omega,by rw [hm.lfs,ab]⟩;rw [(List.mem_replicate.1 hx).2];exact Col.zero _ _
theorem Zqk (w0 w:World)(hw:Bl w0 w)(g n:Nat)(hn:n≤800)(al:w0.heap.size≤g)(hK:BsBlk w g ⟨Tbl.zero,Sl.nil,Sl.nil,[],Sl.nil,[]⟩)
    {Q:Exit→Act→World→Prop}{A:Act}(bc:A.tmps.size=8)(bb:A.defers=[])(s0:A.tmps.getD 0 undef=.int .i64 (n:Int))(s2:A.tmps.getD 2 undef=.pointer (some ⟨g,0,none⟩))
    (hend:∀(u:Nat→Value)(z:Bz) w',BsBlk w' g z→EmB w0 w' n z→Bl w0 w'→Q .normal (Pl.pu A u [5,3,4,6,7]) w') :
    Pl.rg prog 1 f27 Q A w:=by
  have ap:Bl w0 w.drew:=hw.drew;have ay:BsBlk w.drew g ⟨Tbl.zero,Sl.nil,Sl.nil,[],Sl.nil,[]⟩:=hK;have hA:=Pl.At.same (v:=.pointer (some ⟨g,0,none⟩)) (d:=2) (Pl.At.same (v:=.int .i64 (n:Int)) (d:=0) (Pl.At.here bc bb) s0) s2;refine Pl.qb (S:=fun w'=>Bl w0 w') hA ap ?_;rw [show (Pl.fd 1 f27).size=6 by kernel_rfl];refine Pl.q0 2 5 (.int .i64 (n:Int)) (Pl.q1) (Pl.q2 (.tmp 0)) ap ?_;refine Pl.qt 0 1 ?_ ?_
  · refine Pl.qx 0 3 58 [] #[] Zjj (Calls.mono (Zff w.drew) ?_);rintro e w3 ⟨ts,rfl,av,bd,ak⟩;have ag:Bl w0 w3:=Zad ap ak;have au:=ay.keep ak;refine⟨Zat.val ts,rfl,ag,?_⟩;refine Pl.qt 1 3 ?_ ?_
    · have ad:=Zab w3 (.cells (Zaq (List.replicate 6 Ux.zero)).toArray 65);have aq:=Ud.six w0 w3 ag;have ac:Bl w0 (w3.alloc (.cells (Zaq (List.replicate 6 Ux.zero)).toArray 65)):=Zad ag ad;have aj:=au.keep ad;have aw:=av.keep ad;refine Pl.qi 1 4 (.slice (some ⟨w3.heap.size,0,none⟩) 6 6) (w3.alloc (.cells (Zaq (List.replicate 6 Ux.zero)).toArray 65)) (Pl.mkV 1 25 (.const (.int .i64 6)) (.const (.int .i64 6)) _ _ (by kernel_rfl) (by decide) (by decide) (ZgC w3)) ac ?_;refine Pl.qd 3 6 59 [(.tmp 5)] #[3] (Pl.q1) Zg2 (Calls.mono (ZdL ((w3.alloc (.cells (Zaq (List.replicate 6 Ux.zero)).toArray 65))) n hn) ?_);rintro e w6 ⟨ls,L,rfl,aa,ar⟩;have ab:Bl w0 w6:=Zad ac aa.below;have af:=aj.keep aa.below;have am:=aw.keep aa.below;have ax:=aq.keep aa.below;have ao:=aa.base ac;refine⟨.slice ls.a ls.len ls.cap,rfl,ab,?_⟩;refine Pl.q0 4 7 ((Bz.mk Zat ts ⟨some ⟨w3.heap.size,0,none⟩,6,6⟩ (List.replicate 6 Ux.zero) ls L).val) (Pl.q1) (Pl.q_41 28 [(0,.tmp 3),(1,.tmp 4),(2,.tmp 6)] (fun wq=>Zgu (Bz.mk Zat ts ⟨some ⟨w3.heap.size,0,none⟩,6,6⟩ (List.replicate 6 Ux.zero) ls L) wq)) ab ?_;have ai:=ZbO w6 g (Bz.mk Zat ts ⟨some ⟨w3.heap.size,0,none⟩,6,6⟩ (List.replicate 6 Ux.zero) ls L);have an:=ZbN af (Bz.mk Zat ts ⟨some ⟨w3.heap.size,0,none⟩,6,6⟩ (List.replicate 6 Ux.zero) ls L);have ah:Bl w0 (setBs w6 g (Bz.mk Zat ts ⟨some ⟨w3.heap.size,0,none⟩,6,6⟩ (List.replicate 6 Ux.zero) ls L)):=ab.trans (ai.below ab.size (fun k hk=>by rw [hk];exact al));have ae:=Zir af am ax ao ar hn al ai;refine Pl.qg 5 (setBs w6 g (Bz.mk Zat ts ⟨some ⟨w3.heap.size,0,none⟩,6,6⟩ (List.replicate 6 Ux.zero) ls L)) (Pl.q1) (Pl.qh 28 (.tmp 2) (.tmp 7) (Zlb af (Bz.mk Zat ts ⟨some ⟨w3.heap.size,0,none⟩,6,6⟩ (List.replicate 6 Ux.zero) ls L))) ah ?_;refine Pl.q7 (fun A' hA'=>?_);exact Pl.en hA' hA [5,3,4,6,7] (hend hA'.fn _ _ an ae ah)
    · refine Pl.qx 3 6 59 [(.tmp 5)] #[3] Zg2 (Calls.mono (ZdL w3 n hn) ?_);rintro e w6 ⟨ls,L,rfl,aa,ar⟩;have ab:Bl w0 w6:=Zad ag aa.below;have af:=au.keep aa.below;have am:=av.keep aa.below;have ao:=aa.base ag;refine⟨.slice ls.a ls.len ls.cap,rfl,ab,?_⟩;have ad:=Zab w6 (.cells (Zaq (List.replicate 6 Ux.zero)).toArray 65);have aq:=Ud.six w0 w6 ab;have ac:Bl w0 (w6.alloc (.cells (Zaq (List.replicate 6 Ux.zero)).toArray 65)):=Zad ab ad;have aj:=af.keep ad;have aw:=am.keep ad;have az:=ao.keep ad;refine Pl.qm 1 4 (.slice (some ⟨w6.heap.size,0,none⟩) 6 6) (w6.alloc (.cells (Zaq (List.replicate 6 Ux.zero)).toArray 65)) (Pl.q1) (Pl.mkV 1 25 (.const (.int .i64 6)) (.const (.int .i64 6)) _ _ (by kernel_rfl) (by decide) (by decide) (ZgC w6)) ac ?_;rw [Pl.qf 6 4];refine Pl.q0 4 7 ((Bz.mk Zat ts ⟨some ⟨w6.heap.size,0,none⟩,6,6⟩ (List.replicate 6 Ux.zero) ls L).val) (Pl.q1) (Pl.q_41 28 [(0,.tmp 3),(1,.tmp 4),(2,.tmp 6)] (fun wq=>Zgu (Bz.mk Zat ts ⟨some ⟨w6.heap.size,0,none⟩,6,6⟩ (List.replicate 6 Ux.zero) ls L) wq)) ac ?_;have ai:=ZbO ((w6.alloc (.cells (Zaq (List.replicate 6 Ux.zero)).toArray 65))) g (Bz.mk Zat ts ⟨some ⟨w6.heap.size,0,none⟩,6,6⟩ (List.replicate 6 Ux.zero) ls L);have an:=ZbN aj (Bz.mk Zat ts ⟨some ⟨w6.heap.size,0,none⟩,6,6⟩ (List.replicate 6 Ux.zero) ls L);have ah:Bl w0 (setBs ((w6.alloc (.cells (Zaq (List.replicate 6 Ux.zero)).toArray 65))) g (Bz.mk Zat ts ⟨some ⟨w6.heap.size,0,none⟩,6,6⟩ (List.replicate 6 Ux.zero) ls L)):=ac.trans (ai.below ac.size (fun k hk=>by rw [hk];exact al));have ae:=Zir aj aw aq az ar hn al ai;refine Pl.qg 5 (setBs ((w6.alloc (.cells (Zaq (List.replicate 6 Ux.zero)).toArray 65))) g (Bz.mk Zat ts ⟨some ⟨w6.heap.size,0,none⟩,6,6⟩ (List.replicate 6 Ux.zero) ls L)) (Pl.q1) (Pl.qh 28 (.tmp 2) (.tmp 7) (Zlb aj (Bz.mk Zat ts ⟨some ⟨w6.heap.size,0,none⟩,6,6⟩ (List.replicate 6 Ux.zero) ls L))) ah ?_;refine Pl.q7 (fun A' hA'=>?_);exact Pl.en hA' hA [5,3,4,6,7] (hend hA'.fn _ _ an ae ah)
  · have ad:=Zab w.drew (.cells (Zaq (List.replicate 6 Ux.zero)).toArray 65);have aq:=Ud.six w0 w.drew ap;have ac:Bl w0 (w.drew.alloc (.cells (Zaq (List.replicate 6 Ux.zero)).toArray 65)):=Zad ap ad;have aj:=ay.keep ad;refine Pl.qi 1 4 (.slice (some ⟨w.drew.heap.size,0,none⟩) 6 6) (w.drew.alloc (.cells (Zaq (List.replicate 6 Ux.zero)).toArray 65)) (Pl.mkV 1 25 (.const (.int .i64 6)) (.const (.int .i64 6)) _ _ (by kernel_rfl) (by decide) (by decide) (ZgC w.drew)) ac ?_;refine Pl.qd 0 3 58 [] #[] (Pl.q1) Zjj (Calls.mono (Zff ((w.drew.alloc (.cells (Zaq (List.replicate 6 Ux.zero)).toArray 65)))) ?_);rintro e w3 ⟨ts,rfl,av,bd,ak⟩;have ag:Bl w0 w3:=Zad ac ak;have au:=aj.keep ak;have ba:=aq.keep ak;refine⟨Zat.val ts,rfl,ag,?_⟩;rw [Pl.qf 4 3];refine Pl.qd 3 6 59 [(.tmp 5)] #[3] (Pl.q1) Zg2 (Calls.mono (ZdL w3 n hn) ?_);rintro e w6 ⟨ls,L,rfl,aa,ar⟩;have ab:Bl w0 w6:=Zad ag aa.below;have af:=au.keep aa.below;have am:=av.keep aa.below;have ax:=ba.keep aa.below;have ao:=aa.base ag;refine⟨.slice ls.a ls.len ls.cap,rfl,ab,?_⟩;refine Pl.q0 4 7 ((Bz.mk Zat ts ⟨some ⟨w.drew.heap.size,0,none⟩,6,6⟩ (List.replicate 6 Ux.zero) ls L).val) (Pl.q1) (Pl.q_41 28 [(0,.tmp 3),(1,.tmp 4),(2,.tmp 6)] (fun wq=>Zgu (Bz.mk Zat ts ⟨some ⟨w.drew.heap.size,0,none⟩,6,6⟩ (List.replicate 6 Ux.zero) ls L) wq)) ab ?_;have ai:=ZbO w6 g (Bz.mk Zat ts ⟨some ⟨w.drew.heap.size,0,none⟩,6,6⟩ (List.replicate 6 Ux.zero) ls L);have an:=ZbN af (Bz.mk Zat ts ⟨some ⟨w.drew.heap.size,0,none⟩,6,6⟩ (List.replicate 6 Ux.zero) ls L);have ah:Bl w0 (setBs w6 g (Bz.mk Zat ts ⟨some ⟨w.drew.heap.size,0,none⟩,6,6⟩ (List.replicate 6 Ux.zero) ls L)):=ab.trans (ai.below ab.size (fun k hk=>by rw [hk];exact al));have ae:=Zir af am ax ao ar hn al ai;refine Pl.qg 5 (setBs w6 g (Bz.mk Zat ts ⟨some ⟨w.drew.heap.size,0,none⟩,6,6⟩ (List.replicate 6 Ux.zero) ls L)) (Pl.q1) (Pl.qh 28 (.tmp 2) (.tmp 7) (Zlb af (Bz.mk Zat ts ⟨some ⟨w.drew.heap.size,0,none⟩,6,6⟩ (List.replicate 6 Ux.zero) ls L))) ah ?_;refine Pl.q7 (fun A' hA'=>?_);exact Pl.en hA' hA [5,3,4,6,7] (hend hA'.fn _ _ an ae ah)
theorem Zay {fn:Func}{x:Nat}(hr:fn.results=#[.cell x 28])(h:BsBlk W g z)(tmps:Array Value)(tx:tmps.getD x undef=.pointer (some ⟨g,0,none⟩)) :
    (results fn tmps).run prog W=.ok z.val W:=by
  have c0:=h.c0;have c1:=h.c1;have c2:=h.c2;have c3:=h.c3;have c4:=h.c4;have c5:=h.c5;(have tx2:tmps[x]?.getD undef=.pointer (some ⟨g,0,none⟩):=by simpa using tx);simp [results,hr,tx2,go_sem,c0,c1,c2,c3,c4,c5,Bz.val]
theorem Zkf (w:World)(n:Nat)(hn:n≤800):Calls prog 27 #[.int .i64 (n:Int)] w fun e w'=>(∃z:Bz,e=.returned z.val∧EmB w w' n z)∧Bl w w':=by
 have hA:=Zab w (.cells #[.int .i64 0,.int .i64 0,.int .i64 0,.slice none 0 0,.slice none 0 0,.slice none 0 0] 28);have HK:Hi (BsBlk (w.alloc (.cells #[.int .i64 0,.int .i64 0,.int .i64 0,.slice none 0 0,.slice none 0 0,.slice none 0 0] 28)) w.heap.size ⟨Tbl.zero,Sl.nil,Sl.nil,[],Sl.nil,[]⟩):=ZaD w ⟨Tbl.zero,Sl.nil,Sl.nil,[],Sl.nil,[]⟩;have HA:=Zh hA;clear hA;go_enter func27,ntmps27;go_wp2_with fail;refine Pl.q9 (ops:=Pl.fd 1 f27) ?_;refine Zqk w _ HA.o w.heap.size n hn (Nat.le_refl _) HK.o (by rfl) rfl (by rfl) (by rfl) ?_;intro u z w1 hk he hb;simp only [Pl.pu,List.foldl,Act.put,List.setIfInBounds_toArray,List.set];have ac:=Zh hk;have ab:=Zh he;have aa:=Zh hb;clear hk he hb;go_wp2;refine bodyPost_ret (Zay rfl ac.o _ rfl) rfl ?_;exact⟨⟨z,rfl,ab.o⟩,aa.o⟩
end Go.Proofs.YtiecfcjlhldhdaaGreat
